/- impl's functions of chapter 7 that take no struct and no list: sizeOf, isCoordinate, firstFrom, leastDifference, coordinateOf; areAll at numbers. -/
import Derived.Test.YtpbopiecfnedgaaPos
import Derived.WalkKit
import Derived.IntWalk
namespace Go.Proofs.Ytpbopiecfnedgaa.posi
open Go.RowKit Go.Proofs.Ytpbopiecfnedgaa.pos Go.Proofs.Ytpbopiecfnedgaa.in_

theorem sizeOf (o : Bool) (w : World) :
    Calls Try.prog 156 #[.bool o] w fun e w' => e = .returned (.int .i64 (sz o)) ∧ w = w' := by
  cases o
  · go_enter Try.func156, Try.ntmps156
    go_wp2
    go_ret
    exact ⟨rfl, rfl⟩
  · go_enter Try.func156, Try.ntmps156
    go_wp2
    go_ret
    exact ⟨rfl, rfl⟩

end Go.Proofs.Ytpbopiecfnedgaa.posi
