/- The laws' own helpers toFrame and eqFrame. -/
import Derived.Test.YtpjpdfannnafbaaDoorAtS
namespace Go.Proofs.YtpjpdfannnafbaaDoor.frml
open Go.RowKit Go.Proofs.YtpjpdfannnafbaaDoor.ats

theorem toFrame (K A D : Int) (w : World) :
    Calls Tryd.prog 23 #[.agg #[.int .i64 K, .int .i64 A, .int .i64 D]] w fun e w' => e = .returned (.agg #[.int .i64 K, .int .i64 A, .int .i64 D]) ∧ Below w.heap.size w w' := by
  go_enter Tryd.func23, Tryd.ntmps23
  go_wp2_with fail
  have h2 := ((newS 37 #[.int .i64 K, .int .i64 A, .int .i64 D] w).next 25 #[.int .i64 K, .int .i64 A, .int .i64 D]).alloc (.cells #[.int .i64 K, .int .i64 A, .int .i64 D] 25)
  rw [World.size_alloc] at h2
  have hl := h2.load Tryd.underlying25 rfl (by kernel_rfl)
  refine bodyPost_ret (v := .agg #[.int .i64 K, .int .i64 A, .int .i64 D]) ?_ rfl ⟨rfl, h2.1⟩
  rw [results_cell1 rfl]
  simp [asAddr, Result.andThen, hl]
theorem eqFrame (K A D : Int) (w : World) :
    Calls Tryd.prog 24 #[.agg #[.int .i64 K, .int .i64 A, .int .i64 D], .agg #[.int .i64 K, .int .i64 A, .int .i64 D]] w fun e w' => e = .returned (.bool true) ∧ Below w.heap.size w w' := by
  have n1 : (K != K) = false := by simp
  have n2 : (A != A) = false := by simp
  have n3 : (D != D) = false := by simp
  go_enter Tryd.func24, Tryd.ntmps24
  go_wp2_with fail
  go_ret
  exact ⟨rfl, ((Below.refl _ _).alloc (Nat.le_refl _) _).alloc (by rw [World.size_alloc]; omega) _⟩
end Go.Proofs.YtpjpdfannnafbaaDoor.frml
