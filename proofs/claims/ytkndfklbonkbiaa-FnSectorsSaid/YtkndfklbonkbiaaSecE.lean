/- The laws' helpers on sectors: szSector, toSector, eqSector, markSector, heldSector. -/
import Derived.Test.YtkndfklbonkbiaaPlcE
import Derived.BigQuiet
import Derived.Deep.QuietTactic
import Derived.Deep.CutRange
import Derived.Laws.OwnMore
namespace Go.Proofs.Ytkndfklbonkbiaa.sece
open Go.RowKit Go.Proofs.Ytkndfklbonkbiaa.ints Go.Proofs.Ytkndfklbonkbiaa.lst Go.Proofs.Ytkndfklbonkbiaa.ats

theorem sz (d : Int) (A : Option Addr) (n c : Nat) (L : Int) (w : World) (hn : n ≤ maxLen) (h0 : 0 ≤ L) (h1 : L ≤ 1048576) :
    Calls Try.prog 43 #[.agg #[.int .i64 d, .slice A n c], .int .i64 L] w fun e w' => e = .returned (.int .i64 (if (n : Int) ≤ L then L - (n : Int) else -1)) ∧ Below w.heap.size w w' := by
  have H := fun w => plce.szL A n c L w hn h0 h1
  have E0 := Lib.hid (newS 82 #[.int .i64 d, .slice A n c] w)
  by_cases h : (n : Int) ≤ L
  · rw [if_pos h] at H ⊢
    have H := Lib.hid H
    have dd : decide (L - (n : Int) < 0) = false := decide_eq_false (by omega)
    have d3 : ¬ L - (n : Int) < 0 := by omega
    generalize L - (n : Int) = v at *
    clear h h0 h1 hn
    go_enter Try.func43, Try.ntmps43
    go_wp2_with fail
    refine (H.out _).mono ?_
    rintro e w1 ⟨rfl, rfl⟩
    go_wp2_with fail
    go_ret
    exact ⟨rfl, E0.out.1⟩
  · rw [if_neg h] at H ⊢
    have H := Lib.hid H
    clear h h0 h1 hn
    go_enter Try.func43, Try.ntmps43
    go_wp2_with fail
    refine (H.out _).mono ?_
    rintro e w1 ⟨rfl, rfl⟩
    go_wp2_with fail
    go_ret
    exact ⟨rfl, E0.out.1⟩

set_option maxRecDepth 100000 in
theorem toSector (d : Int) (zs : List Int) (A : Option Addr) (n c : Nat) (w : World) (hn : n ≤ 1048576) (h : RdZ 2 w w.heap.size A n zs) :
    Calls Try.prog 47 #[.agg #[.int .i64 d, .slice A n c]] w fun e w' => ∃ g : Nat, e = .returned (.agg #[.int .i64 d, .slice (some ⟨g, 0, none⟩) n n]) ∧ w'.ownsRow w.heap.size 31 2 (.slice (some ⟨g, 0, none⟩) n n) n (cellsI zs) ∧ Below w.heap.size w w' := by
  have B0 := Lib.hid (((newS 82 #[.int .i64 d, .slice A n c] w).alloc (.cells #[.int .i64 0, .slice none 0 0] 42)).alloc (.cells #[.int .i64 d, .slice none 0 0] 42))
  have C0 := Lib.hid (((newS 82 #[.int .i64 d, .slice A n c] w).next 42 #[.int .i64 0, .slice none 0 0]).alloc (.cells #[.int .i64 d, .slice none 0 0] 42))
  have D0 := Lib.hid (((newS 82 #[.int .i64 d, .slice A n c] w).alloc (.cells #[.int .i64 0, .slice none 0 0] 42)).next 42 #[.int .i64 d, .slice none 0 0])
  rw [World.size_alloc] at C0
  rw [World.size_alloc, World.size_alloc] at D0
  have LE := Lib.hid (show w.heap.size ≤ w.heap.size + 1 + 1 by omega)
  have NC := Lib.hid (show w.heap.size + 1 ≠ w.heap.size + 1 + 1 by omega)
  have X2 := Lib.hid (fun (W : World) (hb : Below w.heap.size w W) => plce.copyS zs A n c W hn (h.next hb))
  clear h
  go_enter Try.func47, Try.ntmps47
  go_wp2_with fail
  refine (X2.out _ B0.out.1).mono ?_
  rintro e V4 ⟨g, rfl, ho, hb4⟩
  have C4 := Lib.hid (C0.out.old hb4)
  have D4 := Lib.hid (D0.out.old hb4)
  have HO := Lib.hid ho
  have HB4 := Lib.hid (show w.heap.size + 1 + 1 + 1 ≤ (((w.alloc (.cells #[.int .i64 d, .slice A n c] 82)).alloc (.cells #[.int .i64 0, .slice none 0 0] 42)).alloc (.cells #[.int .i64 d, .slice none 0 0] 42)).heap.size from by rw [World.size_alloc, World.size_alloc, World.size_alloc]; omega)
  clear B0 C0 D0 hb4 X2 ho
  have f4 : V4.cell? ⟨w.heap.size + 1 + 1, 1, none⟩ = some (.slice none 0 0) := D4.out.cell 1
  have g4 := D4.out.frozen 1
  have C5 := Lib.hid (C4.out.other (b' := w.heap.size + 1 + 1) LE.out NC.out 1 (.slice (some ⟨g, 0, none⟩) n n))
  have D5 := Lib.hid (D4.out.set 1 (.slice (some ⟨g, 0, none⟩) n n))
  have O5 := Lib.hid (own_kept HO.out (grown_set (grown_refl V4 (some (w.heap.size + 1 + 1))) 1 (.slice (some ⟨g, 0, none⟩) n n)) (fun q e => by injection e with e; have := HB4.out; omega))
  go_upto_region 4 with fail
  generalize V4.setCell ⟨w.heap.size + 1 + 1, 1, none⟩ (.slice (some ⟨g, 0, none⟩) n n) = V5 at *
  clear f4 g4
  have d0 : V5.cell? ⟨w.heap.size + 1 + 1, 0, none⟩ = some (.int .i64 d) := D5.out.cell 0
  have d1 : V5.cell? ⟨w.heap.size + 1 + 1, 1, none⟩ = some (.slice (some ⟨g, 0, none⟩) n n) := D5.out.cell 1
  have c0 : V5.cell? ⟨w.heap.size + 1, 0, none⟩ = some (.int .i64 0) := C5.out.cell 0
  have c1 : V5.cell? ⟨w.heap.size + 1, 1, none⟩ = some (.slice none 0 0) := C5.out.cell 1
  have r0 := C5.out.frozen 0
  have r1 := C5.out.frozen 1
  have HE := Lib.hid ((C5.out.set 0 (.int .i64 d)).set 1 (.slice (some ⟨g, 0, none⟩) n n))
  have HOX := Lib.hid (own_kept (own_kept O5.out (grown_set (grown_refl V5 (some (w.heap.size + 1))) 0 (.int .i64 d)) (fun q e => by injection e with e; have := HB4.out; omega)) (grown_set (grown_refl _ (some (w.heap.size + 1))) 1 (.slice (some ⟨g, 0, none⟩) n n)) (fun q e => by injection e with e; have := HB4.out; omega))
  have HBX := Lib.hid (Nat.le_trans (show w.heap.size ≤ w.heap.size + 1 + 1 + 1 by omega) HB4.out)
  clear C4 D4 C5 D5 O5 HO HB4
  go_wp2_with fail
  have hl := HE.out.load Try.underlying42 rfl (by kernel_rfl)
  refine bodyPost_ret (v := .agg #[.int .i64 d, .slice (some ⟨g, 0, none⟩) n n]) ?_ rfl ⟨g, rfl, own_.own_base HOX.out HBX.out, HE.out.1⟩
  rw [results_cell1 rfl]
  simp [asAddr, Result.andThen, hl]

set_option maxRecDepth 100000 in
theorem eqSector (d : Int) (zs : List Int) (A C : Option Addr) (n c q : Nat) (w : World) (hn : n ≤ 1048577) (h1 : RdZ 2 w w.heap.size A n zs) (h2 : RdZ 2 w w.heap.size C n zs) :
    Calls Try.prog 51 #[.agg #[.int .i64 d, .slice A n c], .agg #[.int .i64 d, .slice C n q]] w fun e w' => e = .returned (.bool true) ∧ Below w.heap.size w w' := by
  have n0 : (d != d) = false := by simp
  have X2 := Lib.hid (fun (W : World) (hb : Below w.heap.size w W) => plce.eqS zs A C n c q W hn (h1.next hb) (h2.next hb))
  have B0 := Lib.hid ((newS 42 #[.int .i64 d, .slice A n c] w).alloc (.cells #[.int .i64 d, .slice C n q] 42))
  clear h1 h2
  go_enter Try.func51, Try.ntmps51
  go_wp2_with fail
  refine (X2.out _ B0.out.1).mono ?_
  rintro e V3 ⟨rfl, hb3⟩
  have HB := Lib.hid (B0.out.old hb3)
  clear hb3
  go_wp2_with fail
  go_ret
  exact ⟨rfl, HB.out.1⟩

theorem grown_tr {V w w' : World} {r : Option Nat} (h : V.grownBy w r) (hg : w.grownBy w' r) : V.grownBy w' r :=
  ⟨hg.os.trans h.os, hg.tape.trans h.tape, hg.output.trans h.output, Nat.le_trans h.size hg.size, fun k hk hne => (hg.block k (Nat.lt_of_lt_of_le hk h.size) hne).trans (h.block k hk hne)⟩
end Go.Proofs.Ytkndfklbonkbiaa.sece
