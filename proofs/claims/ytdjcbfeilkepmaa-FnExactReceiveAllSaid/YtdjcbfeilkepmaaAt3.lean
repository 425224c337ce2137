/- A struct of three ints (impl.Frame) in a block of its own. -/
import Derived.Test.YtdjcbfeilkepmaaAid
import Derived.BigQuiet
import Derived.Deep.QuietTactic
import Derived.Laws.ResultCell
import Derived.Deep.MidRow
namespace Go.Proofs.Ytdjcbfeilkepmaa.at3
open Go.RowKit

/-- A struct of three ints in a block of its own, alone above w. -/
def At3 (w W : World) (b : Nat) (x y z : Int) : Prop := Below w.heap.size w W ∧ w.heap.size ≤ b ∧ b < W.heap.size ∧ W.heap[b]? = some (.cells #[.int .i64 x, .int .i64 y, .int .i64 z] 155 (0, 0))
theorem new3 (w : World) (x y z : Int) : At3 w (w.alloc (.cells #[.int .i64 x, .int .i64 y, .int .i64 z] 155)) w.heap.size x y z :=
  ⟨(Below.refl _ _).alloc (Nat.le_refl _) _, Nat.le_refl _, by rw [World.size_alloc]; omega, heap_alloc_new w _⟩
theorem At3.drew {w W : World} {b : Nat} {x y z : Int} (h : At3 w W b x y z) : At3 w W.drew b x y z := ⟨h.1.drew, h.2.1, h.2.2.1, h.2.2.2⟩
theorem At3.cells {w W : World} {b : Nat} {x y z : Int} (h : At3 w W b x y z) : W.cell? ⟨b, 0, none⟩ = some (.int .i64 x) ∧ W.cell? ⟨b, 1, none⟩ = some (.int .i64 y) ∧ W.cell? ⟨b, 2, none⟩ = some (.int .i64 z) := by
  refine ⟨?_, ?_, ?_⟩
  · rw [cell_of_row _ _ 0 _ _ (0, 0) h.2.2.2]; rfl
  · rw [cell_of_row _ _ 1 _ _ (0, 0) h.2.2.2]; rfl
  · rw [cell_of_row _ _ 2 _ _ (0, 0) h.2.2.2]; rfl
theorem At3.frozen {w W : World} {b : Nat} {x y z : Int} (h : At3 w W b x y z) : W.frozen? ⟨b, 0, none⟩ = false ∧ W.frozen? ⟨b, 1, none⟩ = false ∧ W.frozen? ⟨b, 2, none⟩ = false := by
  refine ⟨?_, ?_, ?_⟩ <;> simp [World.frozen?, h.2.2.2]
theorem At3.old {w W : World} {b : Nat} {x y z : Int} (h : At3 w W b x y z) {W' : World} (hb : Below W.heap.size W W') : At3 w W' b x y z :=
  ⟨h.1.trans (hb.mono h.1.size), h.2.1, Nat.lt_of_lt_of_le h.2.2.1 hb.size, (hb.block b h.2.2.1).trans h.2.2.2⟩
theorem At3.set {w W : World} {b : Nat} {x y z : Int} (h : At3 w W b x y z) (x' y' z' : Int) :
    At3 w (((W.setCell ⟨b, 0, none⟩ (.int .i64 x')).setCell ⟨b, 1, none⟩ (.int .i64 y')).setCell ⟨b, 2, none⟩ (.int .i64 z')) b x' y' z' := by
  have hbl := ((h.1.setCell (p := ⟨b, 0, none⟩) h.2.1 (.int .i64 x')).setCell (p := ⟨b, 1, none⟩) h.2.1 (.int .i64 y')).setCell (p := ⟨b, 2, none⟩) h.2.1 (.int .i64 z')
  have hh := heap_setCell_same _ b 2 _ _ (.int .i64 z') (heap_setCell_same _ b 1 _ _ (.int .i64 y') (heap_setCell_same _ b 0 _ _ (.int .i64 x') h.2.2.2))
  simp at hh
  exact ⟨hbl, h.2.1, (Array.getElem?_eq_some_iff.1 hh).1, hh⟩
theorem At3.load {w W : World} {b : Nat} {x y z : Int} (h : At3 w W b x y z) : (loadVar 155 ⟨b, 0, none⟩).run Try.prog W = .ok (.agg #[.int .i64 x, .int .i64 y, .int .i64 z]) W := by
  have hr : W.rangeAt b 0 [.int .i64 x, .int .i64 y, .int .i64 z] := fun j v hv => by
    rw [Nat.zero_add, cell_of_row _ _ j _ _ (0, 0) h.2.2.2]
    simpa using hv
  exact run_loadVar_mid W b 0 155 _ _ hr Try.underlying155 rfl (by kernel_rfl)
theorem At3.two {w W : World} {b : Nat} {x y z : Int} (h : At3 w W b x y z) (k a d : Int) :
    At3 w (W.alloc (.cells #[.int .i64 k, .int .i64 a, .int .i64 d] 155)).drew W.heap.size k a d ∧ At3 w (W.alloc (.cells #[.int .i64 k, .int .i64 a, .int .i64 d] 155)).drew b x y z := by
  have hb : Below W.heap.size W (W.alloc (.cells #[.int .i64 k, .int .i64 a, .int .i64 d] 155)).drew := ((Below.refl _ _).alloc (Nat.le_refl _) _).drew
  refine ⟨⟨h.1.trans (hb.mono h.1.size), h.1.size, ?_, ?_⟩, h.old hb⟩
  · show W.heap.size < (W.alloc _).heap.size
    rw [World.size_alloc]
    omega
  · exact heap_alloc_new W _
end Go.Proofs.Ytdjcbfeilkepmaa.at3
