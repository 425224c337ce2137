/- A value of several cells (a struct) in a block of its own, above what was there: whatever its type and its cells are. -/
import Derived.Test.YtkndfklbonkbiaaAid
import Derived.BigQuiet
import Derived.Deep.QuietTactic
import Derived.Laws.ResultCell
import Derived.Deep.MidRow
import Derived.Deep.Heap
namespace Go.Proofs.Ytkndfklbonkbiaa.ats
open Go.RowKit

def AtS (T : TypeId) (cs : Array Value) (w W : World) (b : Nat) : Prop := Below w.heap.size w W ∧ w.heap.size ≤ b ∧ b < W.heap.size ∧ W.heap[b]? = some (.cells cs T (0, 0))
theorem newS (T : TypeId) (cs : Array Value) (w : World) : AtS T cs w (w.alloc (.cells cs T)) w.heap.size :=
  ⟨(Below.refl _ _).alloc (Nat.le_refl _) _, Nat.le_refl _, by rw [World.size_alloc]; omega, heap_alloc_new w _⟩
theorem AtS.cell {T : TypeId} {cs : Array Value} {w W : World} {b : Nat} (h : AtS T cs w W b) (i : Nat) : W.cell? ⟨b, i, none⟩ = cs[i]? := cell_of_row _ _ i cs T (0, 0) h.2.2.2
theorem AtS.frozen {T : TypeId} {cs : Array Value} {w W : World} {b : Nat} (h : AtS T cs w W b) (i : Nat) : W.frozen? ⟨b, i, none⟩ = false := by simp [World.frozen?, h.2.2.2]
theorem AtS.old {T : TypeId} {cs : Array Value} {w W : World} {b : Nat} (h : AtS T cs w W b) {W' : World} (hb : Below W.heap.size W W') : AtS T cs w W' b :=
  ⟨h.1.trans (hb.mono h.1.size), h.2.1, Nat.lt_of_lt_of_le h.2.2.1 hb.size, (hb.block b h.2.2.1).trans h.2.2.2⟩
theorem AtS.drewN {T : TypeId} {cs : Array Value} {w W : World} {b : Nat} (h : AtS T cs w W b) (n : Nat) : AtS T cs w (W.drewN n) b := h.old (aid.below_drewN (Below.refl _ _) n)
theorem AtS.drew {T : TypeId} {cs : Array Value} {w W : World} {b : Nat} (h : AtS T cs w W b) : AtS T cs w W.drew b := h.old (Below.refl _ _).drew
/-- Another one behind it. -/
theorem AtS.next {T : TypeId} {cs : Array Value} {w W : World} {b : Nat} (h : AtS T cs w W b) (T' : TypeId) (cs' : Array Value) : AtS T' cs' w (W.alloc (.cells cs' T')) W.heap.size :=
  ⟨h.1.trans (((Below.refl W.heap.size W).alloc (Nat.le_refl _) (.cells cs' T')).mono h.1.size), h.1.size, by rw [World.size_alloc]; omega, heap_alloc_new W _⟩
theorem AtS.alloc {T : TypeId} {cs : Array Value} {w W : World} {b : Nat} (h : AtS T cs w W b) (o : Obj) : AtS T cs w (W.alloc o) b := h.old ((Below.refl _ _).alloc (Nat.le_refl _) o)
theorem AtS.set {T : TypeId} {cs : Array Value} {w W : World} {b : Nat} (h : AtS T cs w W b) (i : Nat) (v : Value) : AtS T (cs.setIfInBounds i v) w (W.setCell ⟨b, i, none⟩ v) b := by
  have hh := heap_setCell_same _ b i _ _ v h.2.2.2
  exact ⟨h.1.setCell (p := ⟨b, i, none⟩) h.2.1 v, h.2.1, (Array.getElem?_eq_some_iff.1 hh).1, hh⟩
theorem AtS.load {T : TypeId} {d : TypeDesc} {cs : Array Value} {w W : World} {b : Nat} (h : AtS T cs w W b) (hu : Try.prog.underlying T = some d) (hd : d.isRow = true) (hi : (Try.prog.info? T).map (·.size) = some cs.size) : (loadVar T ⟨b, 0, none⟩).run Try.prog W = .ok (.agg cs) W := by
  have hr : W.rangeAt b 0 cs.toList := fun j v hv => by
    rw [Nat.zero_add, cell_of_row _ _ j _ _ (0, 0) h.2.2.2]
    simpa using hv
  have := run_loadVar_mid W b 0 T cs.toList d hr hu hd (by rw [Array.length_toList]; exact hi)
  rwa [Array.toArray_toList] at this
theorem AtS.other {T : TypeId} {cs : Array Value} {w W : World} {b b' : Nat} (h : AtS T cs w W b) (hb : w.heap.size ≤ b') (hne : b ≠ b') (i : Nat) (v : Value) : AtS T cs w (W.setCell ⟨b', i, none⟩ v) b :=
  ⟨h.1.setCell (p := ⟨b', i, none⟩) hb v, h.2.1, by have := h.2.2.1; simpa [World.setCell] using this, (Go.Deep.blk_setCell_other W ⟨b', i, none⟩ v b hne).trans h.2.2.2⟩
theorem results_cell1 {fn : Func} {p : Tmp} {ty : TypeId} (h : fn.results = #[.cell p ty]) (tmps : Array Value) (P : Program) (w : World) :
    (results fn tmps).run P w = ((asAddr (tmps.getD p undef)).run P w).andThen fun a w₁ => (loadVar ty a).run P w₁ := by
  simp only [results, h]
  simp [Sem.run_bind, Result.andThen]
end Go.Proofs.Ytkndfklbonkbiaa.ats
