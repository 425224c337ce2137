/- The laws' helpers on one plot: markPlot, heldPlot. -/
import Derived.Test.YtdjcbfeilkepmaaDoorPltV
import Derived.Test.YtdjcbfeilkepmaaDoorIntC
import Derived.Test.YtdjcbfeilkepmaaDoorPosX
namespace Go.Proofs.YtdjcbfeilkepmaaDoor.ptxl
open Go.RowKit Go.Proofs.YtdjcbfeilkepmaaDoor.ints Go.Proofs.YtdjcbfeilkepmaaDoor.lst Go.Proofs.YtdjcbfeilkepmaaDoor.ats Go.Proofs.YtdjcbfeilkepmaaDoor.intc

theorem grown_tr {a b c : World} {row : Option Nat} (h : a.grownBy b row) (k : b.grownBy c row) : a.grownBy c row :=
  ⟨k.os.trans h.os, k.tape.trans h.tape, k.output.trans h.output, Nat.le_trans h.size k.size, fun j hj hne => (k.block j (Nat.lt_of_lt_of_le hj h.size) hne).trans (h.block j hj hne)⟩
theorem own_marks {w : World} {B e n c : Nat} {A : Option Addr} {k : Nat} (h : w.ownsRow B e 1 (.slice A n c) n (cellsI (marksI k n))) : RdI w w.heap.size A n (marksI k n) :=
  RdI.of_own (xs := marksI k n) (by rw [marksI_length]; exact h) (marksI_length k n).symm
theorem own_ne {w : World} {B e s n b : Nat} {v : Value} {xs : List Value} {cs : Array Value} {T : TypeId} {fr : Nat × Nat} (h : w.ownsRow B e s v n xs) (hb : w.heap[b]? = some (.cells cs T fr)) (hT : e ≠ T) : v.ownBlock ≠ some b := by
  rcases h.2 with ⟨rfl, _⟩ | ⟨g, cap, cur, rfl, _, hh, _⟩
  · intro e; cases e
  · intro e1
    injection e1 with e1
    subst e1
    rw [hh] at hb
    injection hb with hb
    injection hb with _ hb
    exact hT hb
theorem at_kept {T : TypeId} {cs : Array Value} {w V V' : World} {b : Nat} {r : Option Nat} (h : AtS T cs w V b) (hg : V.grownBy V' r) (hr : ∀ g, r = some g → g ≠ b ∧ w.heap.size ≤ g) : AtS T cs w V' b :=
  ⟨h.1.grown hg h.1.size (fun g e => (hr g e).2), h.2.1, Nat.lt_of_lt_of_le h.2.2.1 hg.size, (hg.block b h.2.2.1 (fun e => (hr b e.symm).1 rfl)).trans h.2.2.2⟩

set_option maxRecDepth 100000 in
theorem markPlot (s a x y : Int) (B : Nat) (A : Option Addr) (k n c : Nat) (xs : List Value) (w : World) (hB : B ≤ w.heap.size) (hk : k + n ≤ 8388608) (h : w.ownsRow B 3 1 (.slice A n c) n xs) :
    Calls Tryd.prog 29 #[.agg #[.int .i64 s, .int .i64 a, .int .i64 x, .int .i64 y, .slice A n c], .int .i64 (k : Int)] w fun e w' => e = .returned (.int .i64 ((k + n : Nat) : Int)) ∧ Below B w w' ∧ w.grownBy w' (Value.slice A n c).ownBlock ∧ w'.ownsRow B 3 1 (.slice A n c) n (cellsI (marksI k n)) := by
  have E0 := newS 28 #[.int .i64 s, .int .i64 a, .int .i64 x, .int .i64 y, .slice A n c] w
  have O0 := h.alloc (.cells #[.int .i64 s, .int .i64 a, .int .i64 x, .int .i64 y, .slice A n c] 28)
  have M := Lib.hid (markI B A k n c xs _ hk O0)
  have HG := Lib.hid (show w.grownBy (w.alloc (.cells #[.int .i64 s, .int .i64 a, .int .i64 x, .int .i64 y, .slice A n c] 28)) (Value.slice A n c).ownBlock from World.grownBy_alloc w _ _)
  have HB := Lib.hid ((Below.refl B w).alloc hB (.cells #[.int .i64 s, .int .i64 a, .int .i64 x, .int .i64 y, .slice A n c] 28))
  have E1 := Lib.hid E0
  clear h E0 O0
  go_enter Tryd.func29, Tryd.ntmps29
  go_upto_region 1 with fail
  generalize w.alloc (.cells #[.int .i64 s, .int .i64 a, .int .i64 x, .int .i64 y, .slice A n c] 28) = W at *
  have c0 : W.cell? ⟨w.heap.size, 0, none⟩ = some (.int .i64 s) := E1.out.cell 0
  have c1 : W.cell? ⟨w.heap.size, 1, none⟩ = some (.int .i64 a) := E1.out.cell 1
  have c2 : W.cell? ⟨w.heap.size, 2, none⟩ = some (.int .i64 x) := E1.out.cell 2
  have c3 : W.cell? ⟨w.heap.size, 3, none⟩ = some (.int .i64 y) := E1.out.cell 3
  have c4 : W.cell? ⟨w.heap.size, 4, none⟩ = some (.slice A n c) := E1.out.cell 4
  go_wp2_with fail
  refine M.out.mono ?_
  rintro e w1 ⟨rfl, h1, h2, h3⟩
  have H1 := Lib.hid (HB.out.trans h1)
  have H2 := Lib.hid (grown_tr HG.out h2)
  have H3 := Lib.hid h3
  clear h1 h2 h3
  go_wp2_with fail
  go_ret
  exact ⟨rfl, H1.out, H2.out, H3.out⟩
set_option maxRecDepth 100000 in
theorem heldPlot (s a x y : Int) (A : Option Addr) (k n c : Nat) (w : World) (hk : k + n ≤ 2097152) (h : RdI w w.heap.size A n (marksI k n)) :
    Calls Tryd.prog 30 #[.agg #[.int .i64 s, .int .i64 a, .int .i64 x, .int .i64 y, .slice A n c], .int .i64 (k : Int)] w fun e w' => e = .returned (.int .i64 ((k + n : Nat) : Int)) ∧ Below w.heap.size w w' := by
  have E0 := Lib.hid (newS 28 #[.int .i64 s, .int .i64 a, .int .i64 x, .int .i64 y, .slice A n c] w)
  have M := Lib.hid (Go.Proofs.YtdjcbfeilkepmaaDoor.ints.held A k n c _ hk (h.next E0.out.1))
  have hd : decide (((k + n : Nat) : Int) < 0) = false := decide_eq_false (by omega)
  clear h
  generalize k + n = q at *
  go_enter Tryd.func30, Tryd.ntmps30
  go_upto_region 1 with fail
  generalize w.alloc (.cells #[.int .i64 s, .int .i64 a, .int .i64 x, .int .i64 y, .slice A n c] 28) = W at *
  have c0 : W.cell? ⟨w.heap.size, 0, none⟩ = some (.int .i64 s) := E0.out.cell 0
  have c1 : W.cell? ⟨w.heap.size, 1, none⟩ = some (.int .i64 a) := E0.out.cell 1
  have c2 : W.cell? ⟨w.heap.size, 2, none⟩ = some (.int .i64 x) := E0.out.cell 2
  have c3 : W.cell? ⟨w.heap.size, 3, none⟩ = some (.int .i64 y) := E0.out.cell 3
  have c4 : W.cell? ⟨w.heap.size, 4, none⟩ = some (.slice A n c) := E0.out.cell 4
  go_wp2_with fail
  refine M.out.mono ?_
  rintro e w1 ⟨rfl, rfl⟩
  go_wp2_with fail
  go_ret
  exact ⟨rfl, E0.out.1⟩
end Go.Proofs.YtdjcbfeilkepmaaDoor.ptxl
