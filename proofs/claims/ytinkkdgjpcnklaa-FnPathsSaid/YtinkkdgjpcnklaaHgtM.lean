/- impl.scaleOf: the map of two kinds of heights, written out and read. -/
import Derived.Test.YtinkkdgjpcnklaaMapL
import Derived.Test.YtinkkdgjpcnklaaHgt
namespace Go.Proofs.Ytinkkdgjpcnklaa.hgtm
open Go.RowKit Go.Proofs.Ytinkkdgjpcnklaa.hgt Go.Proofs.Ytinkkdgjpcnklaa.ats

def scale (f : Bool) : Value := .agg #[.int .i64 (lo f), .int .i64 (hi f), .int .i64 (st f)]
end Go.Proofs.Ytinkkdgjpcnklaa.hgtm
