/- The laws' own helpers toPlace, toReport, eqPlace, eqReport; facts for a region that calls, makes a struct's block and stores into it, in whatever order. -/
import Derived.Test.YtglonedhoenkpaaAtS
namespace Go.Proofs.Ytglonedhoenkpaa.posx
open Go.RowKit Go.Proofs.Ytglonedhoenkpaa.ats

theorem bl_next {V Wc w' : World} (h : Below V.heap.size V Wc) (hb : Below Wc.heap.size Wc w') : Below V.heap.size V w' := h.trans (hb.mono h.size)
theorem at_next {V W : World} (T : TypeId) (cs : Array Value) (h : Below V.heap.size V W) : AtS T cs V (W.alloc (.cells cs T)) W.heap.size :=
  ⟨h.trans (((Below.refl W.heap.size W).alloc (Nat.le_refl _) (.cells cs T)).mono h.size), h.size, by rw [World.size_alloc]; omega, heap_alloc_new W _⟩
theorem at_cell {T : TypeId} {cs : Array Value} {w W : World} {b : Nat} (h : AtS T cs w W b) (i : Nat) (v : Value) (hv : cs[i]? = some v) : W.cell? ⟨b, i, none⟩ = some v := (h.cell i).trans hv

end Go.Proofs.Ytglonedhoenkpaa.posx
