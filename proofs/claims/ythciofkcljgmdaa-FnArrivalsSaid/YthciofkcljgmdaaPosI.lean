/- impl's functions of chapter 7 that take no struct and no list: sizeOf, isCoordinate, firstFrom, leastDifference, coordinateOf; areAll at numbers. -/
import Derived.Test.YthciofkcljgmdaaPos
import Derived.WalkKit
import Derived.IntWalk
namespace Go.Proofs.Ythciofkcljgmdaa.posi
open Go.RowKit Go.Proofs.Ythciofkcljgmdaa.pos Go.Proofs.Ythciofkcljgmdaa.in_

end Go.Proofs.Ythciofkcljgmdaa.posi
