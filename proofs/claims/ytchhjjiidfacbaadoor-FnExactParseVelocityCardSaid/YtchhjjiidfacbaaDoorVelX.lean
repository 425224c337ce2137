/- The laws' own helpers toVelocity, eqVelocity. -/
import Derived.Test.YtchhjjiidfacbaaDoorPosX
namespace Go.Proofs.YtchhjjiidfacbaaDoor.velx
open Go.RowKit Go.Proofs.YtchhjjiidfacbaaDoor.ats

theorem toVelocity (x y : Int) (w : World) :
    Calls Tryd.prog 23 #[.agg #[.int .i64 x, .int .i64 y]] w fun e w' => e = .returned (.agg #[.int .i64 x, .int .i64 y]) ∧ Below w.heap.size w w' := by
  go_enter Tryd.func23, Tryd.ntmps23
  go_wp2_with fail
  have h2 := ((newS 37 #[.int .i64 x, .int .i64 y] w).next 25 #[.int .i64 x, .int .i64 y]).alloc (.cells #[.int .i64 x, .int .i64 y] 25)
  rw [World.size_alloc] at h2
  have hl := h2.load Tryd.underlying25 rfl (by kernel_rfl)
  refine bodyPost_ret (v := .agg #[.int .i64 x, .int .i64 y]) ?_ rfl ⟨rfl, h2.1⟩
  rw [results_cell1 rfl]
  simp [asAddr, Result.andThen, hl]
theorem eqVelocity (x y : Int) (w : World) :
    Calls Tryd.prog 24 #[.agg #[.int .i64 x, .int .i64 y], .agg #[.int .i64 x, .int .i64 y]] w fun e w' => e = .returned (.bool true) ∧ Below w.heap.size w w' := by
  have n1 : (x != x) = false := by simp
  have n2 : (y != y) = false := by simp
  go_enter Tryd.func24, Tryd.ntmps24
  go_wp2_with fail
  go_ret
  exact ⟨rfl, ((Below.refl _ _).alloc (Nat.le_refl _) _).alloc (by rw [World.size_alloc]; omega) _⟩
end Go.Proofs.YtchhjjiidfacbaaDoor.velx
