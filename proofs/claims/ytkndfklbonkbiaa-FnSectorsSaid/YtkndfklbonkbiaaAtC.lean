/- A struct in a block of its own, above the reader of choices: whatever its type and cells are. -/
import Derived.Test.YtkndfklbonkbiaaCurInt
import Derived.Test.YtkndfklbonkbiaaAtS
import Derived.Deep.Heap
namespace Go.Proofs.Ytkndfklbonkbiaa.atc
open Go.RowKit Go.Proofs.Ytkndfklbonkbiaa.cur

/-- A struct in a block of its own, above the reader's. -/
def AtC (T : TypeId) (cs : Array Value) (p : Nat) (w W : World) (b : Nat) : Prop := w.grownBy W (some p) ∧ w.heap.size ≤ b ∧ p < b ∧ b < W.heap.size ∧ W.heap[b]? = some (.cells cs T (0, 0))
theorem newC (T : TypeId) (cs : Array Value) {p : Nat} {w : World} (hp : p < w.heap.size) : AtC T cs p w (w.alloc (.cells cs T)) w.heap.size :=
  ⟨grown_alloc _ _, Nat.le_refl _, hp, by rw [World.size_alloc]; omega, heap_alloc_new w _⟩
theorem AtC.old {T : TypeId} {cs : Array Value} {p : Nat} {w W : World} {b : Nat} (h : AtC T cs p w W b) {W' : World} (hg : W.grownBy W' (some p)) : AtC T cs p w W' b :=
  ⟨grown_trans h.1 hg, h.2.1, h.2.2.1, Nat.lt_of_lt_of_le h.2.2.2.1 hg.size, (hg.block b h.2.2.2.1 (fun e => by have := h.2.2.1; injection e; omega)).trans h.2.2.2.2⟩
theorem AtC.next {T : TypeId} {cs : Array Value} {p : Nat} {w W : World} {b : Nat} (h : AtC T cs p w W b) (T' : TypeId) (cs' : Array Value) : AtC T' cs' p w (W.alloc (.cells cs' T')) W.heap.size :=
  ⟨grown_trans h.1 (grown_alloc _ _), h.1.size, by have := h.2.2.1; have := h.2.2.2.1; omega, by rw [World.size_alloc]; omega, heap_alloc_new W _⟩
theorem AtC.alloc {T : TypeId} {cs : Array Value} {p : Nat} {w W : World} {b : Nat} (h : AtC T cs p w W b) (o : Obj) : AtC T cs p w (W.alloc o) b := h.old (grown_alloc _ _)
theorem AtC.cell {T : TypeId} {cs : Array Value} {p : Nat} {w W : World} {b : Nat} (h : AtC T cs p w W b) (i : Nat) : W.cell? ⟨b, i, none⟩ = cs[i]? := cell_of_row _ _ i cs T (0, 0) h.2.2.2.2
theorem AtC.frozen {T : TypeId} {cs : Array Value} {p : Nat} {w W : World} {b : Nat} (h : AtC T cs p w W b) (i : Nat) : W.frozen? ⟨b, i, none⟩ = false := by simp [World.frozen?, h.2.2.2.2]
theorem AtC.set {T : TypeId} {cs : Array Value} {p : Nat} {w W : World} {b : Nat} (h : AtC T cs p w W b) (i : Nat) (v : Value) : AtC T (cs.setIfInBounds i v) p w (W.setCell ⟨b, i, none⟩ v) b := by
  have hh := heap_setCell_same _ b i _ _ v h.2.2.2.2
  refine ⟨⟨h.1.os, h.1.tape, h.1.output, ?_, fun k hk hne => ?_⟩, h.2.1, h.2.2.1, (Array.getElem?_eq_some_iff.1 hh).1, hh⟩
  · have := h.1.size
    simpa [World.setCell] using this
  · have hkb : k ≠ b := by have := h.2.1; omega
    exact (Go.Deep.blk_setCell_other W ⟨b, i, none⟩ v k hkb).trans (h.1.block k hk hne)
theorem AtC.other {T : TypeId} {cs : Array Value} {p : Nat} {w W : World} {b b' : Nat} (h : AtC T cs p w W b) (hw : b < b') (i : Nat) (v : Value) : AtC T cs p w (W.setCell ⟨b', i, none⟩ v) b := by
  have hle := h.2.1
  refine ⟨⟨h.1.os, h.1.tape, h.1.output, ?_, fun k hk hne => ?_⟩, h.2.1, h.2.2.1, ?_, (Go.Deep.blk_setCell_other W ⟨b', i, none⟩ v b (by show b ≠ b'; omega)).trans h.2.2.2.2⟩
  · have := h.1.size
    simpa [World.setCell] using this
  · exact (Go.Deep.blk_setCell_other W ⟨b', i, none⟩ v k (by show k ≠ b'; omega)).trans (h.1.block k hk hne)
  · have := h.2.2.2.1
    simpa [World.setCell] using this
theorem AtC.load {T : TypeId} {d : TypeDesc} {cs : Array Value} {p : Nat} {w W : World} {b : Nat} (h : AtC T cs p w W b) (hu : Try.prog.underlying T = some d) (hd : d.isRow = true) (hi : (Try.prog.info? T).map (·.size) = some cs.size) : (loadVar T ⟨b, 0, none⟩).run Try.prog W = .ok (.agg cs) W := by
  have hr : W.rangeAt b 0 cs.toList := fun j v hv => by
    rw [Nat.zero_add, cell_of_row _ _ j _ _ (0, 0) h.2.2.2.2]
    simpa using hv
  have := run_loadVar_mid W b 0 T cs.toList d hr hu hd (by rw [Array.length_toList]; exact hi)
  rwa [Array.toArray_toList] at this

theorem AtC.drewN {T : TypeId} {cs : Array Value} {p : Nat} {w W : World} {b : Nat} (h : AtC T cs p w W b) (n : Nat) : AtC T cs p w (W.drewN n) b := h.old ⟨rfl, rfl, rfl, Nat.le_refl _, fun _ _ _ => rfl⟩
theorem AtC.drew {T : TypeId} {cs : Array Value} {p : Nat} {w W : World} {b : Nat} (h : AtC T cs p w W b) : AtC T cs p w W.drew b := h.old ⟨rfl, rfl, rfl, Nat.le_refl _, fun _ _ _ => rfl⟩
/-- A struct made later, above a world that the reader's has grown into. -/
theorem at_new {T : TypeId} {cs : Array Value} {p : Nat} {w W : World} (hp : p < w.heap.size) (hg : w.grownBy W (some p)) : AtC T cs p w (W.alloc (.cells cs T)) W.heap.size :=
  ⟨grown_trans hg (grown_alloc _ _), hg.size, by have := hg.size; omega, by rw [World.size_alloc]; omega, heap_alloc_new W _⟩
theorem Cur.set {w : World} {p m b i : Nat} {v : Value} (h : Cur w p m) (hb : p < b) : Cur (w.setCell ⟨b, i, none⟩ v) p m := h.keep ((Below.refl (p + 1) w).setCell (p := ⟨b, i, none⟩) hb v)
theorem Cur.alloc {w : World} {p m : Nat} (h : Cur w p m) (o : Obj) : Cur (w.alloc o) p m := h.keep ((Below.refl (p + 1) w).alloc (by have := h.lt; omega) o)
theorem Cur.below {w w' : World} {p m : Nat} (h : Cur w p m) (hb : Below w.heap.size w w') : Cur w' p m := h.keep (hb.mono (by have := h.lt; omega))
theorem grown_below {w w' : World} {r : Option Nat} (hb : Below w.heap.size w w') : w.grownBy w' r := ⟨hb.os, hb.tape, hb.output, hb.size, fun k hk _ => hb.block k hk⟩
/-- Block b holds these cells. -/
def Blk (T : TypeId) (cs : Array Value) (W : World) (b : Nat) : Prop := W.heap[b]? = some (.cells cs T (0, 0))
theorem Blk.lt {T : TypeId} {cs : Array Value} {W : World} {b : Nat} (h : Blk T cs W b) : b < W.heap.size := (Array.getElem?_eq_some_iff.1 h).1
theorem Blk.of_s {T : TypeId} {cs : Array Value} {w W : World} {b : Nat} (h : ats.AtS T cs w W b) : Blk T cs W b := h.2.2.2
theorem Blk.of_c {T : TypeId} {cs : Array Value} {p : Nat} {w W : World} {b : Nat} (h : AtC T cs p w W b) : Blk T cs W b := h.2.2.2.2
theorem Blk.grown {T : TypeId} {cs : Array Value} {W W' : World} {b p : Nat} (h : Blk T cs W b) (hg : W.grownBy W' (some p)) (hne : b ≠ p) : Blk T cs W' b := (hg.block b h.lt (fun e => hne (by injection e))).trans h
theorem Blk.below {T : TypeId} {cs : Array Value} {W W' : World} {b : Nat} (h : Blk T cs W b) (hb : Below W.heap.size W W') : Blk T cs W' b := (hb.block b h.lt).trans h
theorem Blk.drew {T : TypeId} {cs : Array Value} {W : World} {b : Nat} (h : Blk T cs W b) : Blk T cs W.drew b := h
theorem Blk.new (T : TypeId) (cs : Array Value) (W : World) : Blk T cs (W.alloc (.cells cs T)) W.heap.size := heap_alloc_new W _
theorem Blk.alloc {T : TypeId} {cs : Array Value} {W : World} {b : Nat} (h : Blk T cs W b) (o : Obj) : Blk T cs (W.alloc o) b := h.below ((Below.refl _ _).alloc (Nat.le_refl _) o)
theorem Blk.cell {T : TypeId} {cs : Array Value} {W : World} {b : Nat} (h : Blk T cs W b) (i : Nat) (v : Value) (hv : cs[i]? = some v) : W.cell? ⟨b, i, none⟩ = some v := (cell_of_row _ _ i cs T (0, 0) h).trans hv
theorem Blk.frozen {T : TypeId} {cs : Array Value} {W : World} {b : Nat} (h : Blk T cs W b) (i : Nat) : W.frozen? ⟨b, i, none⟩ = false := by
  have h' : W.heap[b]? = some (.cells cs T (0, 0)) := h
  simp [World.frozen?, h']
theorem Blk.set {T : TypeId} {cs : Array Value} {W : World} {b : Nat} (h : Blk T cs W b) (i : Nat) (v : Value) : Blk T (cs.setIfInBounds i v) (W.setCell ⟨b, i, none⟩ v) b := heap_setCell_same _ b i _ _ v h
theorem Blk.other {T : TypeId} {cs : Array Value} {W : World} {b b' : Nat} (h : Blk T cs W b) (hne : b ≠ b') (i : Nat) (v : Value) : Blk T cs (W.setCell ⟨b', i, none⟩ v) b := (Go.Deep.blk_setCell_other W ⟨b', i, none⟩ v b hne).trans h
theorem Blk.load {T : TypeId} {d : TypeDesc} {cs : Array Value} {W : World} {b : Nat} (h : Blk T cs W b) (hu : Try.prog.underlying T = some d) (hd : d.isRow = true) (hi : (Try.prog.info? T).map (·.size) = some cs.size) : (loadVar T ⟨b, 0, none⟩).run Try.prog W = .ok (.agg cs) W := by
  have hr : W.rangeAt b 0 cs.toList := fun j v hv => by
    rw [Nat.zero_add, cell_of_row _ _ j _ _ (0, 0) h]
    simpa using hv
  have := run_loadVar_mid W b 0 T cs.toList d hr hu hd (by rw [Array.length_toList]; exact hi)
  rwa [Array.toArray_toList] at this
end Go.Proofs.Ytkndfklbonkbiaa.atc
