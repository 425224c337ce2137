/- The laws' own helpers toVelocity, eqVelocity. -/
import Derived.Test.YtinkkdgjpcnklaaPosX
namespace Go.Proofs.Ytinkkdgjpcnklaa.velx
open Go.RowKit Go.Proofs.Ytinkkdgjpcnklaa.ats

theorem toVelocity (x y : Int) (w : World) :
    Calls Try.prog 75 #[.agg #[.int .i64 x, .int .i64 y]] w fun e w' => e = .returned (.agg #[.int .i64 x, .int .i64 y]) ∧ Below w.heap.size w w' := by
  go_enter Try.func75, Try.ntmps75
  go_wp2_with fail
  have h2 := ((newS 49 #[.int .i64 x, .int .i64 y] w).next 26 #[.int .i64 x, .int .i64 y]).alloc (.cells #[.int .i64 x, .int .i64 y] 26)
  rw [World.size_alloc] at h2
  have hl := h2.load Try.underlying26 rfl (by kernel_rfl)
  refine bodyPost_ret (v := .agg #[.int .i64 x, .int .i64 y]) ?_ rfl ⟨rfl, h2.1⟩
  rw [results_cell1 rfl]
  simp [asAddr, Result.andThen, hl]
end Go.Proofs.Ytinkkdgjpcnklaa.velx
