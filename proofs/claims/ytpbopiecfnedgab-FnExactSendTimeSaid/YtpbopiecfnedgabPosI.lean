/- impl's functions of chapter 7 that take no struct and no list: sizeOf, isCoordinate, firstFrom, leastDifference, coordinateOf; areAll at numbers. -/
import Derived.Test.YtpbopiecfnedgabPos
import Derived.WalkKit
import Derived.IntWalk
namespace Go.Proofs.Ytpbopiecfnedgab.posi
open Go.RowKit Go.Proofs.Ytpbopiecfnedgab.pos Go.Proofs.Ytpbopiecfnedgab.in_

end Go.Proofs.Ytpbopiecfnedgab.posi
