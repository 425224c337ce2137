/- The laws' helpers on plots: szIntS, szPlot, toPlot, eqPlot. -/
import Derived.Test.YtdjcbfeilkepmaaDoorIntC
import Derived.Test.YtdjcbfeilkepmaaDoorPosX
import Derived.BigQuiet
import Derived.Deep.QuietTactic
import Derived.Deep.CutRange
import Derived.Laws.OwnMore
namespace Go.Proofs.YtdjcbfeilkepmaaDoor.pltv
open Go.RowKit Go.Proofs.YtdjcbfeilkepmaaDoor.ints Go.Proofs.YtdjcbfeilkepmaaDoor.lst Go.Proofs.YtdjcbfeilkepmaaDoor.ats Go.Proofs.YtdjcbfeilkepmaaDoor.intc

theorem szInts (A : Option Addr) (n c : Nat) (w : World) (hn : n ≤ maxLen) :
    Calls Tryd.prog 56 #[.slice A n c, .int .i64 1048576] w fun e w' => e = .returned (.int .i64 (if n ≤ 1048576 then 1048576 - (n : Int) else -1)) ∧ w = w' := by
  unfold maxLen at hn
  by_cases h : n ≤ 1048576
  · rw [if_pos h]
    have hn2 : (n : Int) ≤ 1048576 := by omega
    have d : decide ((1048576 : Int) - (n : Int) < 0) = false := decide_eq_false (by omega)
    go_enter Tryd.func56, Tryd.ntmps56
    go_wp2_with fail
    go_ret
    exact ⟨rfl, rfl⟩
  · rw [if_neg h]
    have hn2 : ¬ (n : Int) ≤ 1048576 := by omega
    have d : decide ((1048576 : Int) - (n : Int) < 0) = true := decide_eq_true (by omega)
    go_enter Tryd.func56, Tryd.ntmps56
    go_wp2_with fail
    go_ret
    exact ⟨rfl, rfl⟩
theorem szPlot (s a x y : Int) (A : Option Addr) (n c : Nat) (w : World) (hn : n ≤ maxLen) :
    Calls Tryd.prog 26 #[.agg #[.int .i64 s, .int .i64 a, .int .i64 x, .int .i64 y, .slice A n c], .int .i64 1048576] w fun e w' => e = .returned (.int .i64 (if n ≤ 1048576 then 1048576 - (n : Int) else -1)) ∧ Below w.heap.size w w' := by
  have H := fun w => szInts A n c w hn
  have E0 := Lib.hid (newS 50 #[.int .i64 s, .int .i64 a, .int .i64 x, .int .i64 y, .slice A n c] w)
  by_cases h : n ≤ 1048576
  · rw [if_pos h] at H ⊢
    have H := Lib.hid H
    have d : decide ((1048576 : Int) - (n : Int) < 0) = false := decide_eq_false (by omega)
    generalize (1048576 : Int) - (n : Int) = v at *
    go_enter Tryd.func26, Tryd.ntmps26
    go_wp2_with fail
    refine (H.out _).mono ?_
    rintro e w1 ⟨rfl, rfl⟩
    go_wp2_with fail
    go_ret
    exact ⟨rfl, E0.out.1⟩
  · rw [if_neg h] at H ⊢
    have H := Lib.hid H
    go_enter Tryd.func26, Tryd.ntmps26
    go_wp2_with fail
    refine (H.out _).mono ?_
    rintro e w1 ⟨rfl, rfl⟩
    go_wp2_with fail
    go_ret
    exact ⟨rfl, E0.out.1⟩

set_option maxRecDepth 100000 in
theorem toPlot (s a x y : Int) (xs : List Int) (A : Option Addr) (n c : Nat) (w : World) (hn : n ≤ 1048576) (h : RdI w w.heap.size A n xs) :
    Calls Tryd.prog 27 #[.agg #[.int .i64 s, .int .i64 a, .int .i64 x, .int .i64 y, .slice A n c]] w fun e w' => ∃ g, e = .returned (.agg #[.int .i64 s, .int .i64 a, .int .i64 x, .int .i64 y, .slice (some ⟨g, 0, none⟩) n n]) ∧ w'.ownsRow w.heap.size 3 1 (.slice (some ⟨g, 0, none⟩) n n) n (cellsI xs) ∧ Below w.heap.size w w' := by
  have B0 := Lib.hid (((newS 50 #[.int .i64 s, .int .i64 a, .int .i64 x, .int .i64 y, .slice A n c] w).alloc (.cells #[.int .i64 0, .int .i64 0, .int .i64 0, .int .i64 0, .slice none 0 0] 28)).alloc (.cells #[.int .i64 s, .int .i64 a, .int .i64 0, .int .i64 0, .slice none 0 0] 28))
  have C0 := Lib.hid (((newS 50 #[.int .i64 s, .int .i64 a, .int .i64 x, .int .i64 y, .slice A n c] w).next 28 #[.int .i64 0, .int .i64 0, .int .i64 0, .int .i64 0, .slice none 0 0]).alloc (.cells #[.int .i64 s, .int .i64 a, .int .i64 0, .int .i64 0, .slice none 0 0] 28))
  have D0 := Lib.hid (((newS 50 #[.int .i64 s, .int .i64 a, .int .i64 x, .int .i64 y, .slice A n c] w).alloc (.cells #[.int .i64 0, .int .i64 0, .int .i64 0, .int .i64 0, .slice none 0 0] 28)).next 28 #[.int .i64 s, .int .i64 a, .int .i64 0, .int .i64 0, .slice none 0 0])
  rw [World.size_alloc] at C0
  rw [World.size_alloc, World.size_alloc] at D0
  have LE := Lib.hid (show w.heap.size ≤ w.heap.size + 1 + 1 by omega)
  have NB := Lib.hid (show w.heap.size ≠ w.heap.size + 1 + 1 by omega)
  have NC := Lib.hid (show w.heap.size + 1 ≠ w.heap.size + 1 + 1 by omega)
  have X1 := Lib.hid (fun w => posx.toPlace x y w)
  have X2 := Lib.hid (fun (W : World) (hb : Below w.heap.size w W) => copyI xs A n c W hn (h.next hb))
  clear h
  go_enter Tryd.func27, Tryd.ntmps27
  go_wp2_with fail
  refine (X1.out _).mono ?_
  rintro e V2 ⟨rfl, hb2⟩
  have B2 := Lib.hid (B0.out.old hb2)
  have C2 := Lib.hid (C0.out.old hb2)
  have D2 := Lib.hid (D0.out.old hb2)
  clear B0 C0 D0 hb2 X1
  have f2 : V2.cell? ⟨w.heap.size + 1 + 1, 2, none⟩ = some (.int .i64 0) := D2.out.cell 2
  have f3 : V2.cell? ⟨w.heap.size + 1 + 1, 3, none⟩ = some (.int .i64 0) := D2.out.cell 3
  have g2 := D2.out.frozen 2
  have g3 := D2.out.frozen 3
  have b4 : V2.cell? ⟨w.heap.size, 4, none⟩ = some (.slice A n c) := B2.out.cell 4
  have B3 := Lib.hid ((B2.out.other (b' := w.heap.size + 1 + 1) LE.out NB.out 2 (.int .i64 x)).other (b' := w.heap.size + 1 + 1) LE.out NB.out 3 (.int .i64 y))
  have C3 := Lib.hid ((C2.out.other (b' := w.heap.size + 1 + 1) LE.out NC.out 2 (.int .i64 x)).other (b' := w.heap.size + 1 + 1) LE.out NC.out 3 (.int .i64 y))
  have D3 := Lib.hid ((D2.out.set 2 (.int .i64 x)).set 3 (.int .i64 y))
  clear B2 C2 D2
  go_upto_region 5 with fail
  generalize (V2.setCell ⟨w.heap.size + 1 + 1, 2, none⟩ (.int .i64 x)).setCell ⟨w.heap.size + 1 + 1, 3, none⟩ (.int .i64 y) = V3 at *
  clear f2 f3 g2 g3 b4
  have b4 : V3.cell? ⟨w.heap.size, 4, none⟩ = some (.slice A n c) := B3.out.cell 4
  go_wp2_with fail
  refine (X2.out V3 B3.out.1).mono ?_
  rintro e V4 ⟨g, rfl, ho, hb4⟩
  have C4 := Lib.hid (C3.out.old hb4)
  have D4 := Lib.hid (D3.out.old hb4)
  have HO := Lib.hid ho
  have hV := D3.out.2.2.1
  clear b4 B3 C3 D3 hb4 X2 ho
  have f4 : V4.cell? ⟨w.heap.size + 1 + 1, 4, none⟩ = some (.slice none 0 0) := D4.out.cell 4
  have g4 := D4.out.frozen 4
  have C5 := Lib.hid (C4.out.other (b' := w.heap.size + 1 + 1) LE.out NC.out 4 (.slice (some ⟨g, 0, none⟩) n n))
  have D5 := Lib.hid (D4.out.set 4 (.slice (some ⟨g, 0, none⟩) n n))
  have O5 := Lib.hid (own_kept HO.out (grown_set (grown_refl V4 (some (w.heap.size + 1 + 1))) 4 (.slice (some ⟨g, 0, none⟩) n n)) (fun q e => by injection e with e; omega))
  clear C4 D4 HO
  go_upto_region 6 with fail
  generalize V4.setCell ⟨w.heap.size + 1 + 1, 4, none⟩ (.slice (some ⟨g, 0, none⟩) n n) = V5 at *
  clear f4 g4
  have d0 : V5.cell? ⟨w.heap.size + 1 + 1, 0, none⟩ = some (.int .i64 s) := D5.out.cell 0
  have d1 : V5.cell? ⟨w.heap.size + 1 + 1, 1, none⟩ = some (.int .i64 a) := D5.out.cell 1
  have d2 : V5.cell? ⟨w.heap.size + 1 + 1, 2, none⟩ = some (.int .i64 x) := D5.out.cell 2
  have d3 : V5.cell? ⟨w.heap.size + 1 + 1, 3, none⟩ = some (.int .i64 y) := D5.out.cell 3
  have d4 : V5.cell? ⟨w.heap.size + 1 + 1, 4, none⟩ = some (.slice (some ⟨g, 0, none⟩) n n) := D5.out.cell 4
  have c0 : V5.cell? ⟨w.heap.size + 1, 0, none⟩ = some (.int .i64 0) := C5.out.cell 0
  have r0 := C5.out.frozen 0
  have c1 : V5.cell? ⟨w.heap.size + 1, 1, none⟩ = some (.int .i64 0) := C5.out.cell 1
  have r1 := C5.out.frozen 1
  have c2 : V5.cell? ⟨w.heap.size + 1, 2, none⟩ = some (.int .i64 0) := C5.out.cell 2
  have r2 := C5.out.frozen 2
  have c3 : V5.cell? ⟨w.heap.size + 1, 3, none⟩ = some (.int .i64 0) := C5.out.cell 3
  have r3 := C5.out.frozen 3
  have c4 : V5.cell? ⟨w.heap.size + 1, 4, none⟩ = some (.slice none 0 0) := C5.out.cell 4
  have r4 := C5.out.frozen 4
  have HE := Lib.hid (((((C5.out.set 0 (.int .i64 s)).set 1 (.int .i64 a)).set 2 (.int .i64 x)).set 3 (.int .i64 y)).set 4 (.slice (some ⟨g, 0, none⟩) n n))
  have HO := Lib.hid (own_kept (own_kept (own_kept (own_kept (own_kept O5.out (grown_set (grown_refl V5 (some (w.heap.size + 1))) 0 (.int .i64 s)) (fun q e => by injection e with e; omega)) (grown_set (grown_refl _ (some (w.heap.size + 1))) 1 (.int .i64 a)) (fun q e => by injection e with e; omega)) (grown_set (grown_refl _ (some (w.heap.size + 1))) 2 (.int .i64 x)) (fun q e => by injection e with e; omega)) (grown_set (grown_refl _ (some (w.heap.size + 1))) 3 (.int .i64 y)) (fun q e => by injection e with e; omega)) (grown_set (grown_refl _ (some (w.heap.size + 1))) 4 (.slice (some ⟨g, 0, none⟩) n n)) (fun q e => by injection e with e; omega))
  clear C5 D5 O5
  go_wp2_with fail
  have hl := HE.out.load Tryd.underlying28 rfl (by kernel_rfl)
  refine bodyPost_ret (v := .agg #[.int .i64 s, .int .i64 a, .int .i64 x, .int .i64 y, .slice (some ⟨g, 0, none⟩) n n]) ?_ rfl ⟨g, rfl, own_.own_base HO.out (by omega), HE.out.1⟩
  rw [results_cell1 rfl]
  simp [asAddr, Result.andThen, hl]

set_option maxRecDepth 100000 in
theorem eqPlot (s a x y : Int) (xs : List Int) (A C : Option Addr) (n c d : Nat) (w : World) (hn : n ≤ 1048577) (h1 : RdI w w.heap.size A n xs) (h2 : RdI w w.heap.size C n xs) :
    Calls Tryd.prog 28 #[.agg #[.int .i64 s, .int .i64 a, .int .i64 x, .int .i64 y, .slice A n c], .agg #[.int .i64 s, .int .i64 a, .int .i64 x, .int .i64 y, .slice C n d]] w fun e w' => e = .returned (.bool true) ∧ Below w.heap.size w w' := by
  have n0 : (s != s) = false := by simp
  have n1 : (a != a) = false := by simp
  have X1 := Lib.hid (fun w => posx.eqPlace x y w)
  have X2 := Lib.hid (fun (W : World) (hb : Below w.heap.size w W) => eq_same xs A C n c d W hn (h1.next hb) (h2.next hb))
  have B0 := Lib.hid ((newS 28 #[.int .i64 s, .int .i64 a, .int .i64 x, .int .i64 y, .slice A n c] w).alloc (.cells #[.int .i64 s, .int .i64 a, .int .i64 x, .int .i64 y, .slice C n d] 28))
  have C0 := Lib.hid ((newS 28 #[.int .i64 s, .int .i64 a, .int .i64 x, .int .i64 y, .slice A n c] w).next 28 #[.int .i64 s, .int .i64 a, .int .i64 x, .int .i64 y, .slice C n d])
  rw [World.size_alloc] at C0
  clear h1 h2
  go_enter Tryd.func28, Tryd.ntmps28
  go_wp2_with fail
  refine (X1.out _).mono ?_
  rintro e V2 ⟨rfl, hb2⟩
  have B2 := Lib.hid (B0.out.old hb2)
  have C2 := Lib.hid (C0.out.old hb2)
  clear B0 C0 hb2 X1
  have b4 : V2.cell? ⟨w.heap.size, 4, none⟩ = some (.slice A n c) := B2.out.cell 4
  have c4 : V2.cell? ⟨w.heap.size + 1, 4, none⟩ = some (.slice C n d) := C2.out.cell 4
  go_wp2_with fail
  refine (X2.out V2 B2.out.1).mono ?_
  rintro e V3 ⟨rfl, j, rfl⟩
  go_wp2_with fail
  go_ret
  exact ⟨rfl, aid.below_drewN B2.out.1 j⟩
end Go.Proofs.YtdjcbfeilkepmaaDoor.pltv
