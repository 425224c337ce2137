/- impl.scaleOf: the map of two kinds of heights, written out and read. -/
import Derived.Test.YtchhjjiidfacbaaDoorMapL
import Derived.Test.YtchhjjiidfacbaaDoorHgt
namespace Go.Proofs.YtchhjjiidfacbaaDoor.hgtm
open Go.RowKit Go.Proofs.YtchhjjiidfacbaaDoor.hgt Go.Proofs.YtchhjjiidfacbaaDoor.ats

def scale (f : Bool) : Value := .agg #[.int .i64 (lo f), .int .i64 (hi f), .int .i64 (st f)]
end Go.Proofs.YtchhjjiidfacbaaDoor.hgtm
