/- The laws' own helpers toPlace, toReport, eqPlace, eqReport; facts for a region that calls, makes a struct's block and stores into it, in whatever order. -/
import Derived.Test.YtdjcbfeilkepmaaAtS
namespace Go.Proofs.Ytdjcbfeilkepmaa.posx
open Go.RowKit Go.Proofs.Ytdjcbfeilkepmaa.ats

theorem bl_next {V Wc w' : World} (h : Below V.heap.size V Wc) (hb : Below Wc.heap.size Wc w') : Below V.heap.size V w' := h.trans (hb.mono h.size)
theorem at_next {V W : World} (T : TypeId) (cs : Array Value) (h : Below V.heap.size V W) : AtS T cs V (W.alloc (.cells cs T)) W.heap.size :=
  ⟨h.trans (((Below.refl W.heap.size W).alloc (Nat.le_refl _) (.cells cs T)).mono h.size), h.size, by rw [World.size_alloc]; omega, heap_alloc_new W _⟩
theorem at_cell {T : TypeId} {cs : Array Value} {w W : World} {b : Nat} (h : AtS T cs w W b) (i : Nat) (v : Value) (hv : cs[i]? = some v) : W.cell? ⟨b, i, none⟩ = some v := (h.cell i).trans hv

theorem toReport (o : Bool) (a b : Int) (w : World) :
    Calls Try.prog 168 #[.agg #[.bool o, .int .i64 a, .int .i64 b]] w fun e w' => e = .returned (.agg #[.bool o, .int .i64 a, .int .i64 b]) ∧ Below w.heap.size w w' := by
  go_enter Try.func168, Try.ntmps168
  go_wp2_with fail
  have h2 := ((newS 160 #[.bool o, .int .i64 a, .int .i64 b] w).next 135 #[.bool o, .int .i64 a, .int .i64 b]).alloc (.cells #[.bool o, .int .i64 a, .int .i64 b] 135)
  rw [World.size_alloc] at h2
  have hl := h2.load Try.underlying135 rfl (by kernel_rfl)
  refine bodyPost_ret (v := .agg #[.bool o, .int .i64 a, .int .i64 b]) ?_ rfl ⟨rfl, h2.1⟩
  rw [results_cell1 rfl]
  simp [asAddr, Result.andThen, hl]
theorem eqReport (o : Bool) (a b : Int) (w : World) :
    Calls Try.prog 175 #[.agg #[.bool o, .int .i64 a, .int .i64 b], .agg #[.bool o, .int .i64 a, .int .i64 b]] w fun e w' => e = .returned (.bool true) ∧ Below w.heap.size w w' := by
  have n1 : (o != o) = false := by simp
  have n2 : (a != a) = false := by simp
  have n3 : (b != b) = false := by simp
  go_enter Try.func175, Try.ntmps175
  go_wp2_with fail
  go_ret
  exact ⟨rfl, ((Below.refl _ _).alloc (Nat.le_refl _) _).alloc (by rw [World.size_alloc]; omega) _⟩
end Go.Proofs.Ytdjcbfeilkepmaa.posx
