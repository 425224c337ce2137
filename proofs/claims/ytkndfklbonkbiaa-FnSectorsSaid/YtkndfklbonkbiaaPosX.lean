/- The laws' own helpers toPlace, toReport, eqPlace, eqReport; facts for a region that calls, makes a struct's block and stores into it, in whatever order. -/
import Derived.Test.YtkndfklbonkbiaaAtS
namespace Go.Proofs.Ytkndfklbonkbiaa.posx
open Go.RowKit Go.Proofs.Ytkndfklbonkbiaa.ats

theorem bl_next {V Wc w' : World} (h : Below V.heap.size V Wc) (hb : Below Wc.heap.size Wc w') : Below V.heap.size V w' := h.trans (hb.mono h.size)
theorem at_next {V W : World} (T : TypeId) (cs : Array Value) (h : Below V.heap.size V W) : AtS T cs V (W.alloc (.cells cs T)) W.heap.size :=
  ⟨h.trans (((Below.refl W.heap.size W).alloc (Nat.le_refl _) (.cells cs T)).mono h.size), h.size, by rw [World.size_alloc]; omega, heap_alloc_new W _⟩
theorem at_cell {T : TypeId} {cs : Array Value} {w W : World} {b : Nat} (h : AtS T cs w W b) (i : Nat) (v : Value) (hv : cs[i]? = some v) : W.cell? ⟨b, i, none⟩ = some v := (h.cell i).trans hv

theorem toPlace (x y : Int) (w : World) :
    Calls Try.prog 9 #[.agg #[.int .i64 x, .int .i64 y]] w fun e w' => e = .returned (.agg #[.int .i64 x, .int .i64 y]) ∧ Below w.heap.size w w' := by
  go_enter Try.func9, Try.ntmps9
  go_wp2_with fail
  have h2 := ((newS 24 #[.int .i64 x, .int .i64 y] w).next 31 #[.int .i64 x, .int .i64 y]).alloc (.cells #[.int .i64 x, .int .i64 y] 31)
  rw [World.size_alloc] at h2
  have hl := h2.load Try.underlying31 rfl (by kernel_rfl)
  refine bodyPost_ret (v := .agg #[.int .i64 x, .int .i64 y]) ?_ rfl ⟨rfl, h2.1⟩
  rw [results_cell1 rfl]
  simp [asAddr, Result.andThen, hl]
theorem eqPlace (x y : Int) (w : World) :
    Calls Try.prog 125 #[.agg #[.int .i64 x, .int .i64 y], .agg #[.int .i64 x, .int .i64 y]] w fun e w' => e = .returned (.bool true) ∧ Below w.heap.size w w' := by
  have n1 : (x != x) = false := by simp
  have n2 : (y != y) = false := by simp
  go_enter Try.func125, Try.ntmps125
  go_wp2_with fail
  go_ret
  exact ⟨rfl, ((Below.refl _ _).alloc (Nat.le_refl _) _).alloc (by rw [World.size_alloc]; omega) _⟩
end Go.Proofs.Ytkndfklbonkbiaa.posx
