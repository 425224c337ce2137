/- impl's functions of chapter 7 that take no struct and no list: sizeOf, isCoordinate, firstFrom, leastDifference, coordinateOf; areAll at numbers. -/
import Derived.Test.YtndogafihaooiaaPos
import Derived.WalkKit
import Derived.IntWalk
namespace Go.Proofs.Ytndogafihaooiaa.posi
open Go.RowKit Go.Proofs.Ytndogafihaooiaa.pos Go.Proofs.Ytndogafihaooiaa.in_

end Go.Proofs.Ytndogafihaooiaa.posi
