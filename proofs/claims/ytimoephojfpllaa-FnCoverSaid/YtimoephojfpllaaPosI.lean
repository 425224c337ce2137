/- impl's functions of chapter 7 that take no struct and no list: sizeOf, isCoordinate, firstFrom, leastDifference, coordinateOf; areAll at numbers. -/
import Derived.Test.YtimoephojfpllaaPos
import Derived.WalkKit
import Derived.IntWalk
namespace Go.Proofs.Ytimoephojfpllaa.posi
open Go.RowKit Go.Proofs.Ytimoephojfpllaa.pos Go.Proofs.Ytimoephojfpllaa.in_

end Go.Proofs.Ytimoephojfpllaa.posi
