/- The laws' own helpers on receivers: toHeard, toHeardS, toReceiver, szReceiver, eqHeard, eqHeardS, eqReceiver. -/
import Derived.Test.YtelkflgmjfmadaaRcvM
import Derived.Test.YtelkflgmjfmadaaPosX
import Derived.Test.YtelkflgmjfmadaaRcvC0
import Derived.BigQuiet
import Derived.Deep.QuietTactic
import Derived.Deep.CutRange
import Derived.Laws.MakeOwn
import Derived.Lib.QuietBelow
namespace Go.Proofs.Ytelkflgmjfmadaa.rcvc
open Go.RowKit Go.Proofs.Ytelkflgmjfmadaa.rcv Go.Proofs.Ytelkflgmjfmadaa.rcvm Go.Proofs.Ytelkflgmjfmadaa.ats Go.Proofs.Ytelkflgmjfmadaa.lst

set_option maxRecDepth 100000 in
set_option maxHeartbeats 4000000 in
theorem toHeardS (hs : List Hd) (A : Option Addr) (c : Nat) (w : World) (hn : hs.length ≤ 1048577) (h : RdH w w.heap.size A hs) :
    Calls Try.prog 85 #[.slice A hs.length c] w fun e w' => ∃ (g : Nat), e = .returned (.slice (some ⟨g, 0, none⟩) hs.length hs.length) ∧ w'.ownsRow w.heap.size 54 10 (.slice (some ⟨g, 0, none⟩) hs.length hs.length) hs.length (rows hs) ∧ Below w.heap.size w w' := by
  obtain ⟨i0, hi, hz0, hz1, hz2⟩ := info_parts infoH
  have HR := Lib.hid (fun (wr : World) (hb : Below w.heap.size w wr) => h.below hb (Nat.le_refl _))
  have P0 := Lib.hid (fill_zero hs)
  have PA := Lib.hid (fill_all hs)
  have PL := Lib.hid (fun k (hk : k ≤ hs.length) => fill_length hk)
  have PS := Lib.hid (fun k (hk : k < hs.length) => fill_set hk)
  generalize hN : hs.length = n at *
  have HN := Lib.hid hN
  clear h hN
  go_enter Try.func85, Try.ntmps85
  go_wp2_with (at_make; refine wpList_make_full _ rfl _ _ 44 rfl w.heap.size 54 i0 (hv zero) 10 Try.underlying44 hi hz0 hz1 _ _ _ _ n rfl rfl rfl rfl (by rw [hz2]; omega) (by unfold maxLen; omega) (Nat.le_refl _) ?_; intro w1 hown hg)
  have hown0 : w1.ownsRow w.heap.size 54 10 (.slice (some ⟨w.heap.size, 0, none⟩) n n) n (rows (fillH hs 0)) := by
    rw [P0.out, rows_replicate]; exact hown
  have hb1 : Below w.heap.size w w1 := (Below.refl _ _).grown hg (Nat.le_refl _) (fun k e => by cases e)
  clear hown hg
  go_loopw [4] (fun i wr => ∃ k : Nat, k ≤ n ∧ i = .int .i64 k ∧ Below w.heap.size w wr ∧ wr.ownsRow w.heap.size 54 10 (.slice (some ⟨w.heap.size, 0, none⟩) n n) n (rows (fillH hs k))) (fun i _ => n - (intOf i).toNat)
  case atStart => exact ⟨0, Nat.zero_le _, rfl, hb1, hown0⟩
  case round =>
    obtain ⟨k, hk, rfl, hb, hown⟩ := hrel
    have HB := Lib.hid hb
    have HO := Lib.hid hown
    clear hb1 hown0 hb hown
    by_cases hlt : k < n
    · obtain ⟨b, o, rfl, hbl, c0, c1, c2, c3, c4, c5, c6, c7, c8, c9⟩ := (HR.out wr HB.out).cells (k := k) (by rw [HN.out]; exact hlt)
      have hlt2 : (k : Int) < (n : Int) := by omega
      have TF := Lib.hid (fun w => rcvc0.toHeard (hx hs k) w)
      have HS := Lib.hid (PS.out k hlt)
      have HL := Lib.hid (PL.out k hk)
      generalize hx hs k = h at *
      go_wp2_with fail
      refine (TF.out _).mono ?_
      rintro e w2 ⟨rfl, hb2⟩
      have HO2 := Lib.hid (own_.own_below HO.out hb2)
      have HB2 := Lib.hid (HB.out.trans (hb2.mono HB.out.size))
      clear c0 c1 c2 c3 c4 c5 c6 c7 c8 c9 hb2 HO HB TF
      obtain ⟨s0, s1, s2, s3, s4, s5, s6, s7, s8, s9⟩ := own_cells HO2.out (k := k) (by rw [HL.out]; exact hlt)
      have r0 := HO2.out.frozenAt (k * 10)
      have r1 := HO2.out.frozenAt (k * 10 + 1)
      have r2 := HO2.out.frozenAt (k * 10 + 2)
      have r3 := HO2.out.frozenAt (k * 10 + 3)
      have r4 := HO2.out.frozenAt (k * 10 + 4)
      have r5 := HO2.out.frozenAt (k * 10 + 5)
      have r6 := HO2.out.frozenAt (k * 10 + 6)
      have r7 := HO2.out.frozenAt (k * 10 + 7)
      have r8 := HO2.out.frozenAt (k * 10 + 8)
      have r9 := HO2.out.frozenAt (k * 10 + 9)
      have HO3 := own_put HO2.out (k := k) (by rw [HL.out]; exact hlt) h
      rw [HS.out] at HO3
      have ST := Lib.hid HO3
      have HB3 := Lib.hid (below_put (i := k * 10) HB2.out (Nat.le_refl _) h)
      clear HO3 HO2 HB2 HS HL
      go_wp2_with fail
      go_roundw
      case rel => exact ⟨k + 1, by omega, by go_num, HB3.out, ST.out⟩
      case measure => simp [intOf]; omega
    · obtain rfl : k = n := by omega
      have HO2 := HO.out
      rw [show rows (fillH hs k) = rows hs by have := PA.out; rw [this]] at HO2
      have HO3 := Lib.hid HO2
      clear HO HO2
      go_wp2_with fail
      go_ret
      exact ⟨w.heap.size, rfl, HO3.out, HB.out⟩

set_option maxRecDepth 100000 in
theorem toReceiver (m : Int) (hs : List Hd) (A : Option Addr) (c : Nat) (w : World) (hn : hs.length ≤ 1048577) (h : RdH w w.heap.size A hs) :
    Calls Try.prog 35 #[.agg #[.int .i64 m, .slice A hs.length c]] w fun e w' => ∃ (g : Nat), e = .returned (.agg #[.int .i64 m, .slice (some ⟨g, 0, none⟩) hs.length hs.length]) ∧ w'.ownsRow w.heap.size 54 10 (.slice (some ⟨g, 0, none⟩) hs.length hs.length) hs.length (rows hs) ∧ Below w.heap.size w w' := by
  have B0 := Lib.hid (((newS 65 #[.int .i64 m, .slice A hs.length c] w).alloc (.cells #[.int .i64 0, .slice none 0 0] 46)).alloc (.cells #[.int .i64 m, .slice none 0 0] 46))
  have C0 := Lib.hid (((newS 65 #[.int .i64 m, .slice A hs.length c] w).next 46 #[.int .i64 0, .slice none 0 0]).alloc (.cells #[.int .i64 m, .slice none 0 0] 46))
  have D0 := Lib.hid (((newS 65 #[.int .i64 m, .slice A hs.length c] w).alloc (.cells #[.int .i64 0, .slice none 0 0] 46)).next 46 #[.int .i64 m, .slice none 0 0])
  rw [World.size_alloc] at C0
  rw [World.size_alloc, World.size_alloc] at D0
  have TS := Lib.hid (toHeardS hs A c _ hn (h.next B0.out.1))
  generalize hN : hs.length = n at *
  clear h hN
  go_enter Try.func35, Try.ntmps35
  go_wp2_with fail
  have HV := Lib.hid (show ((w.alloc (.cells #[.int .i64 m, .slice A n c] 65)).alloc (.cells #[.int .i64 0, .slice none 0 0] 46)).alloc (.cells #[.int .i64 m, .slice none 0 0] 46) = ((w.alloc (.cells #[.int .i64 m, .slice A n c] 65)).alloc (.cells #[.int .i64 0, .slice none 0 0] 46)).alloc (.cells #[.int .i64 m, .slice none 0 0] 46) from rfl)
  clear HV
  generalize ((w.alloc (.cells #[.int .i64 m, .slice A n c] 65)).alloc (.cells #[.int .i64 0, .slice none 0 0] 46)).alloc (.cells #[.int .i64 m, .slice none 0 0] 46) = V at *
  refine TS.out.mono ?_
  rintro e V2 ⟨g, rfl, ho, hb2⟩
  have B2 := Lib.hid (B0.out.old hb2)
  have C2 := Lib.hid (C0.out.old hb2)
  have D2 := Lib.hid (D0.out.old hb2)
  have LV := Lib.hid B0.out.1.size
  have HO := Lib.hid ho
  have LG := Lib.hid (show V.heap.size ≤ g by
    rcases ho.2 with ⟨e, _⟩ | ⟨g', _, _, e, hg, _⟩
    · cases e
    · injection e with e; injection e with e; injection e with e; omega)
  have L3 := Lib.hid (show w.heap.size + 1 + 1 < V.heap.size from D0.out.2.2.1)
  clear B0 C0 D0 hb2 TS ho
  have f0 : V2.cell? ⟨w.heap.size + 1 + 1, 0, none⟩ = some (.int .i64 m) := D2.out.cell 0
  have f1 : V2.cell? ⟨w.heap.size + 1 + 1, 1, none⟩ = some (.slice none 0 0) := D2.out.cell 1
  have g1 := D2.out.frozen 1
  have e0 : V2.cell? ⟨w.heap.size + 1, 0, none⟩ = some (.int .i64 0) := C2.out.cell 0
  have e1 : V2.cell? ⟨w.heap.size + 1, 1, none⟩ = some (.slice none 0 0) := C2.out.cell 1
  have d0 := C2.out.frozen 0
  have d1 := C2.out.frozen 1
  have C3 := Lib.hid (((C2.out.other (b' := w.heap.size + 1 + 1) (by omega) (by omega) 1 (.slice (some ⟨g, 0, none⟩) n n)).set 0 (.int .i64 m)).set 1 (.slice (some ⟨g, 0, none⟩) n n))
  have HO3 := Lib.hid (own_kept_at (own_kept_at (own_kept_at HO.out (grown_set (grown_refl _ (some (w.heap.size + 1 + 1))) 1 (.slice (some ⟨g, 0, none⟩) n n)) (fun g' e => by have := LG.out; have := L3.out; simp [Value.ownBlock] at e; intro e2; injection e2 with e2; omega)) (grown_set (grown_refl _ (some (w.heap.size + 1))) 0 (.int .i64 m)) (fun g' e => by have := LG.out; have := L3.out; simp [Value.ownBlock] at e; intro e2; injection e2 with e2; omega)) (grown_set (grown_refl _ (some (w.heap.size + 1))) 1 (.slice (some ⟨g, 0, none⟩) n n)) (fun g' e => by have := LG.out; have := L3.out; simp [Value.ownBlock] at e; intro e2; injection e2 with e2; omega))
  clear B2 C2 D2 HO
  go_wp2_with fail
  have hl := C3.out.load Try.underlying46 rfl (by kernel_rfl)
  refine bodyPost_ret (v := .agg #[.int .i64 m, .slice (some ⟨g, 0, none⟩) n n]) ?_ rfl ⟨g, rfl, own_.own_base HO3.out LV.out, C3.out.1⟩
  rw [results_cell1 rfl]
  simp [asAddr, Result.andThen, hl]

theorem sz (A : Option Addr) (n c : Nat) (w : World) (hn : n ≤ maxLen) :
    Calls Try.prog 82 #[.slice A n c, .int .i64 1048576] w fun e w' => e = .returned (.int .i64 (if n ≤ 1048576 then 1048576 - (n : Int) else -1)) ∧ w = w' := by
  unfold maxLen at hn
  by_cases h : n ≤ 1048576
  · rw [if_pos h]
    have hn2 : (n : Int) ≤ 1048576 := by omega
    have d : decide ((1048576 : Int) - (n : Int) < 0) = false := decide_eq_false (by omega)
    go_enter Try.func82, Try.ntmps82
    go_wp2_with fail
    go_ret
    exact ⟨rfl, rfl⟩
  · rw [if_neg h]
    have hn2 : ¬ (n : Int) ≤ 1048576 := by omega
    have d : decide ((1048576 : Int) - (n : Int) < 0) = true := decide_eq_true (by omega)
    go_enter Try.func82, Try.ntmps82
    go_wp2_with fail
    go_ret
    exact ⟨rfl, rfl⟩
theorem szReceiver (m : Int) (A : Option Addr) (n c : Nat) (w : World) (hn : n ≤ maxLen) :
    Calls Try.prog 33 #[.agg #[.int .i64 m, .slice A n c], .int .i64 1048576] w fun e w' => e = .returned (.int .i64 (if n ≤ 1048576 then 1048576 - (n : Int) else -1)) ∧ Below w.heap.size w w' := by
  have B0 := Lib.hid (newS 65 #[.int .i64 m, .slice A n c] w)
  have SZ := Lib.hid (fun w => sz A n c w hn)
  by_cases h : n ≤ 1048576
  · simp only [if_pos h] at SZ ⊢
    have d : decide ((1048576 : Int) - (n : Int) < 0) = false := decide_eq_false (by omega)
    generalize (1048576 : Int) - (n : Int) = l at *
    clear hn h
    go_enter Try.func33, Try.ntmps33
    go_wp2_with fail
    refine (SZ.out _).mono ?_
    rintro e w' ⟨rfl, rfl⟩
    go_wp2_with fail
    go_ret
    exact ⟨rfl, B0.out.1⟩
  · simp only [if_neg h] at SZ ⊢
    clear hn h
    go_enter Try.func33, Try.ntmps33
    go_wp2_with fail
    refine (SZ.out _).mono ?_
    rintro e w' ⟨rfl, rfl⟩
    go_wp2_with fail
    go_ret
    exact ⟨rfl, B0.out.1⟩

set_option maxRecDepth 100000 in
set_option maxHeartbeats 4000000 in
theorem eqHeard (h : Hd) (w : World) :
    Calls Try.prog 115 #[.agg #[.int .i64 h.ad, .bool h.eo, .int .i64 h.ea, .int .i64 h.eb, .int .i64 h.et, .bool h.oo, .int .i64 h.oa, .int .i64 h.ob, .int .i64 h.ot, .int .i64 h.fr], .agg #[.int .i64 h.ad, .bool h.eo, .int .i64 h.ea, .int .i64 h.eb, .int .i64 h.et, .bool h.oo, .int .i64 h.oa, .int .i64 h.ob, .int .i64 h.ot, .int .i64 h.fr]] w fun e w' => e = .returned (.bool true) ∧ Below w.heap.size w w' := by
  have B0 := Lib.hid ((newS 54 #[.int .i64 h.ad, .bool h.eo, .int .i64 h.ea, .int .i64 h.eb, .int .i64 h.et, .bool h.oo, .int .i64 h.oa, .int .i64 h.ob, .int .i64 h.ot, .int .i64 h.fr] w).alloc (.cells #[.int .i64 h.ad, .bool h.eo, .int .i64 h.ea, .int .i64 h.eb, .int .i64 h.et, .bool h.oo, .int .i64 h.oa, .int .i64 h.ob, .int .i64 h.ot, .int .i64 h.fr] 54))
  have C0 := Lib.hid ((newS 54 #[.int .i64 h.ad, .bool h.eo, .int .i64 h.ea, .int .i64 h.eb, .int .i64 h.et, .bool h.oo, .int .i64 h.oa, .int .i64 h.ob, .int .i64 h.ot, .int .i64 h.fr] w).next 54 #[.int .i64 h.ad, .bool h.eo, .int .i64 h.ea, .int .i64 h.eb, .int .i64 h.et, .bool h.oo, .int .i64 h.oa, .int .i64 h.ob, .int .i64 h.ot, .int .i64 h.fr])
  rw [World.size_alloc] at C0
  have X1 := Lib.hid (fun w => posx.eqReport h.eo h.ea h.eb w)
  have X2 := Lib.hid (fun w => posx.eqReport h.oo h.oa h.ob w)
  have n0 : (h.ad != h.ad) = false := by simp
  have n1 : (h.et != h.et) = false := by simp
  have n2 : (h.ot != h.ot) = false := by simp
  have n3 : (h.fr != h.fr) = false := by simp
  go_enter Try.func115, Try.ntmps115
  go_wp2_with fail
  refine (X1.out _).mono ?_
  rintro e V2 ⟨rfl, hb2⟩
  have B2 := Lib.hid (B0.out.old hb2)
  have C2 := Lib.hid (C0.out.old hb2)
  clear B0 C0 hb2 X1
  have c4 : V2.cell? ⟨w.heap.size, 4, none⟩ = some (.int .i64 h.et) := B2.out.cell 4
  have c5 : V2.cell? ⟨w.heap.size, 5, none⟩ = some (.bool h.oo) := B2.out.cell 5
  have c6 : V2.cell? ⟨w.heap.size, 6, none⟩ = some (.int .i64 h.oa) := B2.out.cell 6
  have c7 : V2.cell? ⟨w.heap.size, 7, none⟩ = some (.int .i64 h.ob) := B2.out.cell 7
  have d4 : V2.cell? ⟨w.heap.size + 1, 4, none⟩ = some (.int .i64 h.et) := C2.out.cell 4
  have d5 : V2.cell? ⟨w.heap.size + 1, 5, none⟩ = some (.bool h.oo) := C2.out.cell 5
  have d6 : V2.cell? ⟨w.heap.size + 1, 6, none⟩ = some (.int .i64 h.oa) := C2.out.cell 6
  have d7 : V2.cell? ⟨w.heap.size + 1, 7, none⟩ = some (.int .i64 h.ob) := C2.out.cell 7
  go_wp2_with fail
  refine (X2.out _).mono ?_
  rintro e V4 ⟨rfl, hb4⟩
  have B4 := Lib.hid (B2.out.old hb4)
  have C4 := Lib.hid (C2.out.old hb4)
  clear B2 C2 hb4 X2 c4 c5 c6 c7 d4 d5 d6 d7
  have c8 : V4.cell? ⟨w.heap.size, 8, none⟩ = some (.int .i64 h.ot) := B4.out.cell 8
  have c9 : V4.cell? ⟨w.heap.size, 9, none⟩ = some (.int .i64 h.fr) := B4.out.cell 9
  have d8 : V4.cell? ⟨w.heap.size + 1, 8, none⟩ = some (.int .i64 h.ot) := C4.out.cell 8
  have d9 : V4.cell? ⟨w.heap.size + 1, 9, none⟩ = some (.int .i64 h.fr) := C4.out.cell 9
  go_wp2_with fail
  go_ret
  exact ⟨rfl, B4.out.1⟩

set_option maxRecDepth 100000 in
set_option maxHeartbeats 2000000 in
theorem eqHeardS (hs : List Hd) (A C : Option Addr) (c d : Nat) (w : World) (hn : hs.length ≤ 1048577) (h1 : RdH w w.heap.size A hs) (h2 : RdH w w.heap.size C hs) :
    Calls Try.prog 86 #[.slice A hs.length c, .slice C hs.length d] w fun e w' => e = .returned (.bool true) ∧ Below w.heap.size w w' := by
  have H1 := Lib.hid (fun (wr : World) (hb : Below w.heap.size w wr) => h1.below hb (Nat.le_refl _))
  have H2 := Lib.hid (fun (wr : World) (hb : Below w.heap.size w wr) => h2.below hb (Nat.le_refl _))
  generalize hN : hs.length = n at *
  have HN := Lib.hid hN
  clear h1 h2 hN
  go_enter Try.func86, Try.ntmps86
  go_wp2_with fail
  go_loopw [5] (fun i wr => ∃ k : Nat, k ≤ n ∧ i = .int .i64 k ∧ Below w.heap.size w wr) (fun i _ => n - (intOf i).toNat)
  case atStart => exact ⟨0, Nat.zero_le _, rfl, Below.refl _ _⟩
  case round =>
    obtain ⟨k, hk, rfl, hb⟩ := hrel
    by_cases hlt : k < n
    · obtain ⟨b, o, rfl, hbl, p0, p1, p2, p3, p4, p5, p6, p7, p8, p9⟩ := (H1.out wr hb).cells (k := k) (by rw [HN.out]; exact hlt)
      obtain ⟨b', o', rfl, hbl', r0, r1, r2, r3, r4, r5, r6, r7, r8, r9⟩ := (H2.out wr hb).cells (k := k) (by rw [HN.out]; exact hlt)
      have hlt2 : (k : Int) < (n : Int) := by omega
      have X1 := Lib.hid (fun w d0 os => Calls.regrown_of (eqHeard (hx hs k) (Sort.grow (redrawn w d0) os)))
      generalize hx hs k = h at *
      have HB := Lib.hid hb
      clear hb hbl hbl'
      go_wp2_with fail
      have p0' := fun d0 os => cell_regrown p0 d0 os
      have p1' := fun d0 os => cell_regrown p1 d0 os
      have p2' := fun d0 os => cell_regrown p2 d0 os
      have p3' := fun d0 os => cell_regrown p3 d0 os
      have p4' := fun d0 os => cell_regrown p4 d0 os
      have p5' := fun d0 os => cell_regrown p5 d0 os
      have p6' := fun d0 os => cell_regrown p6 d0 os
      have p7' := fun d0 os => cell_regrown p7 d0 os
      have p8' := fun d0 os => cell_regrown p8 d0 os
      have p9' := fun d0 os => cell_regrown p9 d0 os
      have r0' := fun d0 os => cell_regrown r0 d0 os
      have r1' := fun d0 os => cell_regrown r1 d0 os
      have r2' := fun d0 os => cell_regrown r2 d0 os
      have r3' := fun d0 os => cell_regrown r3 d0 os
      have r4' := fun d0 os => cell_regrown r4 d0 os
      have r5' := fun d0 os => cell_regrown r5 d0 os
      have r6' := fun d0 os => cell_regrown r6 d0 os
      have r7' := fun d0 os => cell_regrown r7 d0 os
      have r8' := fun d0 os => cell_regrown r8 d0 os
      have r9' := fun d0 os => cell_regrown r9 d0 os
      clear p0 p1 p2 p3 p4 p5 p6 p7 p8 p9 r0 r1 r2 r3 r4 r5 r6 r7 r8 r9
      refine wp_region_quiet_below (by kernel_rfl) (by kernel_rfl) ?_
      repeat (quiet_step (first
        | (go_at_call 115; with_reducible exact X1.out _ _ _)))
      refine wpQuiet_nil ?_
      intro _ hw'
      obtain ⟨⟨dq, osq⟩, hw''⟩ := hw'
      subst hw''
      have hbq := Lib.hid (HB.out.trans ((below_regrown wr dq osq).mono HB.out.size))
      clear p0' p1' p2' p3' p4' p5' p6' p7' p8' p9' r0' r1' r2' r3' r4' r5' r6' r7' r8' r9'
      generalize Sort.grow (redrawn wr dq) osq = w3 at *
      go_wp2_with fail
      go_roundw
      case rel => exact ⟨k + 1, by omega, by go_num, hbq.out⟩
      case measure => simp [intOf]; omega
    · go_wp2_with fail
      go_ret
      exact ⟨rfl, hb⟩

set_option maxRecDepth 100000 in
theorem eqReceiver (m : Int) (hs : List Hd) (A C : Option Addr) (c d : Nat) (w : World) (hn : hs.length ≤ 1048577) (h1 : RdH w w.heap.size A hs) (h2 : RdH w w.heap.size C hs) :
    Calls Try.prog 36 #[.agg #[.int .i64 m, .slice A hs.length c], .agg #[.int .i64 m, .slice C hs.length d]] w fun e w' => e = .returned (.bool true) ∧ Below w.heap.size w w' := by
  have B0 := Lib.hid ((newS 46 #[.int .i64 m, .slice A hs.length c] w).alloc (.cells #[.int .i64 m, .slice C hs.length d] 46))
  have X1 := Lib.hid (eqHeardS hs A C c d _ hn (h1.next B0.out.1) (h2.next B0.out.1))
  have n0 : (m != m) = false := by simp
  generalize hs.length = n at *
  clear h1 h2
  go_enter Try.func36, Try.ntmps36
  go_wp2_with fail
  refine X1.out.mono ?_
  rintro e V2 ⟨rfl, hb2⟩
  have B2 := Lib.hid (B0.out.old hb2)
  clear B0 X1 hb2
  go_wp2_with fail
  go_ret
  exact ⟨rfl, B2.out.1⟩
end Go.Proofs.Ytelkflgmjfmadaa.rcvc
