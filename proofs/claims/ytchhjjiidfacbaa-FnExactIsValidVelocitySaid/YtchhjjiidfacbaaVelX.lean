/- The laws' own helpers toVelocity, eqVelocity. -/
import Derived.Test.YtchhjjiidfacbaaPosX
namespace Go.Proofs.Ytchhjjiidfacbaa.velx
open Go.RowKit Go.Proofs.Ytchhjjiidfacbaa.ats

theorem toVelocity (x y : Int) (w : World) :
    Calls Try.prog 38 #[.agg #[.int .i64 x, .int .i64 y]] w fun e w' => e = .returned (.agg #[.int .i64 x, .int .i64 y]) ∧ Below w.heap.size w w' := by
  go_enter Try.func38, Try.ntmps38
  go_wp2_with fail
  have h2 := ((newS 51 #[.int .i64 x, .int .i64 y] w).next 44 #[.int .i64 x, .int .i64 y]).alloc (.cells #[.int .i64 x, .int .i64 y] 44)
  rw [World.size_alloc] at h2
  have hl := h2.load Try.underlying44 rfl (by kernel_rfl)
  refine bodyPost_ret (v := .agg #[.int .i64 x, .int .i64 y]) ?_ rfl ⟨rfl, h2.1⟩
  rw [results_cell1 rfl]
  simp [asAddr, Result.andThen, hl]
theorem eqVelocity (x y : Int) (w : World) :
    Calls Try.prog 44 #[.agg #[.int .i64 x, .int .i64 y], .agg #[.int .i64 x, .int .i64 y]] w fun e w' => e = .returned (.bool true) ∧ Below w.heap.size w w' := by
  have n1 : (x != x) = false := by simp
  have n2 : (y != y) = false := by simp
  go_enter Try.func44, Try.ntmps44
  go_wp2_with fail
  go_ret
  exact ⟨rfl, ((Below.refl _ _).alloc (Nat.le_refl _) _).alloc (by rw [World.size_alloc]; omega) _⟩
end Go.Proofs.Ytchhjjiidfacbaa.velx
