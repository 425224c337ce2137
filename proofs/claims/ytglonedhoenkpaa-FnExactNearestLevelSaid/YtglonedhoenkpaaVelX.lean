/- The laws' own helpers toVelocity, eqVelocity. -/
import Derived.Test.YtglonedhoenkpaaPosX
namespace Go.Proofs.Ytglonedhoenkpaa.velx
open Go.RowKit Go.Proofs.Ytglonedhoenkpaa.ats

theorem toVelocity (x y : Int) (w : World) :
    Calls Try.prog 42 #[.agg #[.int .i64 x, .int .i64 y]] w fun e w' => e = .returned (.agg #[.int .i64 x, .int .i64 y]) ∧ Below w.heap.size w w' := by
  go_enter Try.func42, Try.ntmps42
  go_wp2_with fail
  have h2 := ((newS 60 #[.int .i64 x, .int .i64 y] w).next 50 #[.int .i64 x, .int .i64 y]).alloc (.cells #[.int .i64 x, .int .i64 y] 50)
  rw [World.size_alloc] at h2
  have hl := h2.load Try.underlying50 rfl (by kernel_rfl)
  refine bodyPost_ret (v := .agg #[.int .i64 x, .int .i64 y]) ?_ rfl ⟨rfl, h2.1⟩
  rw [results_cell1 rfl]
  simp [asAddr, Result.andThen, hl]
end Go.Proofs.Ytglonedhoenkpaa.velx
