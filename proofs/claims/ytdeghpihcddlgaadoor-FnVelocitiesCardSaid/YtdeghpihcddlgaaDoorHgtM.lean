/- impl.scaleOf: the map of two kinds of heights, written out and read. -/
import Derived.Test.YtdeghpihcddlgaaDoorMapL
import Derived.Test.YtdeghpihcddlgaaDoorHgt
namespace Go.Proofs.YtdeghpihcddlgaaDoor.hgtm
open Go.RowKit Go.Proofs.YtdeghpihcddlgaaDoor.hgt Go.Proofs.YtdeghpihcddlgaaDoor.ats

def scale (f : Bool) : Value := .agg #[.int .i64 (lo f), .int .i64 (hi f), .int .i64 (st f)]
end Go.Proofs.YtdeghpihcddlgaaDoor.hgtm
