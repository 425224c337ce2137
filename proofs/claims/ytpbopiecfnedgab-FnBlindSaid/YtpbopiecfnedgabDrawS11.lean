/- spec's draws of arrivals, and of what the laws of chapters 10 and 11 take. -/
import Derived.Test.YtpbopiecfnedgabDrawT10
import Derived.Test.YtpbopiecfnedgabSitT
import Derived.Test.YtpbopiecfnedgabTailH
namespace Go.Proofs.Ytpbopiecfnedgab.draws11
open Go.RowKit Go.Proofs.Ytpbopiecfnedgab.cur Go.Proofs.Ytpbopiecfnedgab.atc Go.Proofs.Ytpbopiecfnedgab.ats Go.Proofs.Ytpbopiecfnedgab.ints Go.Proofs.Ytpbopiecfnedgab.lst Go.Proofs.Ytpbopiecfnedgab.sit Go.Proofs.Ytpbopiecfnedgab.code_ Go.Proofs.Ytpbopiecfnedgab.draws10 Go.Proofs.Ytpbopiecfnedgab.drawt10 Go.Proofs.Ytpbopiecfnedgab.tailh

def ArrQ (p m : Nat) (w : World) (e : Ending) (w' : World) : Prop := ∃ v k xs, e = .returned v ∧ w'.ownsRow w.heap.size 3 1 v k (cellsI xs) ∧ k ≤ 7 ∧ Cur w' p m ∧ w.grownBy w' (some p)
theorem own_posI {w : World} {B e s n : Nat} {v : Value} {xs : List Value} (h : w.ownsRow B e s v n xs) (hn : 0 < n) : ∃ g c, v = .slice (some ⟨g, 0, none⟩) n c ∧ B ≤ g := by
  rcases h.2 with ⟨_, e2⟩ | ⟨g, cap, cur, e2, _⟩
  · omega
  · exact ⟨g, cap, e2, own_.row_ge h g (by rw [e2]; rfl)⟩
theorem grown_put {w W : World} {p b i : Nat} {v : Value} (h : w.grownBy W (some p)) (hb : w.heap.size ≤ b) : w.grownBy (W.setCell ⟨b, i, none⟩ v) (some p) :=
  ⟨h.os, h.tape, h.output, by have := h.size; simpa [World.setCell] using this, fun k hk hne => (Go.Deep.blk_setCell_other W ⟨b, i, none⟩ v k (by show k ≠ b; omega)).trans (h.block k hk hne)⟩
theorem grown_dr {w W : World} {p : Nat} (h : w.grownBy W (some p)) : w.grownBy W.drew (some p) := ⟨h.os, h.tape, h.output, h.size, h.block⟩
theorem ints_len {w : World} {B e n : Nat} {v : Value} {xs : List Int} (h : w.ownsRow B e 1 v n (cellsI xs)) : xs.length = n := by have := h.1; unfold cellsI at this; simpa using this
theorem cells_app (xs : List Int) (x : Int) : cellsI xs ++ [.int .i64 x] = cellsI (xs ++ [x]) := by unfold cellsI; rw [List.map_append]; rfl
theorem cells_at {xs : List Int} {j : Nat} {a : Int} (h : xs[j]? = some a) : (cellsI xs)[j]? = some (.int .i64 a) := by unfold cellsI; rw [List.getElem?_map, h]; rfl
theorem cells_set (xs : List Int) (j : Nat) (a : Int) : (cellsI xs).set j (.int .i64 a) = cellsI (xs.set j a) := by unfold cellsI; rw [List.map_set]

set_option maxRecDepth 100000 in
set_option maxHeartbeats 4000000 in
theorem arr (zs : List Int) (A : Option Addr) (n c B p m : Nat) (w : World) (h : Cur w p m) (hm : m ≤ 100000) (hn : n ≤ 6) (hok : okL zs n) (hpB : p < B) (ho : w.ownsRow B 32 2 (.slice A n c) n (cellsI zs)) :
    Calls Try.prog 101 #[.pointer (some ⟨p, 0, none⟩), .slice A n c] w (ArrQ p (m + 300) w) := by
  have hp := h.lt
  have HLZ := Lib.hid (own_len ho)
  obtain ⟨i0, hi, hz0, hz1, hz2⟩ := info_parts infoI
  have HC0 := Lib.hid h
  have HO0 := Lib.hid ho
  have HOK := Lib.hid hok
  clear h ho hok
  go_enter Try.func101, Try.ntmps101
  go_wp2_with fail
  refine (point p m w HC0.out (by omega)).mono ?_
  rintro e w1 ⟨x, y, rfl, hon, hc1, hg1⟩
  have HO1 := Lib.hid (own_kept HO0.out hg1 (fun g e => by cases e; exact hpB))
  have HC1 := Lib.hid hc1
  have HG1 := Lib.hid hg1
  have HON := Lib.hid hon
  clear hc1 hg1 HO0 HC0 hon
  go_wp2_with fail
  refine (among_new 0 100000 p _ 4 [0, 50, 1000, 100000] _ w1 HC1.out (by omega) (by omega) (by omega) rfl rfl (by decide)).mono ?_
  rintro e w2 ⟨t, rfl, t0, t1, hc2, hg2⟩
  have HO2 := Lib.hid (own_kept HO1.out hg2 (fun g e => by cases e; exact hpB))
  have HC2 := Lib.hid hc2
  have HG2 := Lib.hid (grown_trans HG1.out hg2)
  clear hc2 hg2 HO1 HC1 HG1
  go_wp2_with fail
  refine (sitt.arrivals10 zs x y t A n c w2 (by omega) HOK.out HON.out.near.ok (by omega) (by omega) (RdZ.of_own HO2.out HLZ.out)).mono ?_
  rintro e w3 ⟨v, rfl, hv, hb3⟩
  have HC := Lib.hid (Cur.below HC2.out hb3)
  have HG := Lib.hid (grown_trans HG2.out (grown_below hb3))
  have HV := Lib.hid (own_.own_base hv HG2.out.size)
  have HBD := Lib.hid (show ∀ j a, (avT zs x y t n)[j]? = some a → -10000000 ≤ a ∧ a ≤ 10000000 from fun j a hj => by
    have hjn : j < n := by
      rcases Nat.lt_or_ge j n with h | h
      · exact h
      · rw [List.getElem?_eq_none (by rw [avT_length]; exact h)] at hj; cases hj
    rw [avT_at hjn] at hj
    injection hj with hj
    have := ds_ok HOK.out hjn HON.out.near.ok
    omega)
  have HLX := Lib.hid (avT_length zs x y t n)
  generalize avT zs x y t n = xs at *
  clear hv hb3 HO2 HC2 HG2 HLZ HOK HON
  rcases Nat.eq_zero_or_pos n with hn0 | hn0
  · subst hn0
    obtain ⟨A3, c3, rfl⟩ := own_sliceZ HV.out
    have n1 : ((0 : Nat) : Int) = 0 := rfl
    go_wp2_with fail
    refine (one p _ 24 w3 HC.out (by omega) (by omega) (by omega)).mono ?_
    rintro e w5 ⟨bb, rfl, hc5, hg5⟩
    have ho5 := own_kept HV.out hg5 (fun g e => by cases e; exact hp)
    have hg6 := grown_trans HG.out hg5
    have hs6 := hg6.size
    clear hg5
    cases bb
    · have HO := Lib.hid ho5
      have HG6 := Lib.hid hg6
      clear ho5 hg6
      go_wp2_with fail
      go_ret
      exact ⟨_, 0, _, rfl, HO.out, by omega, hc5.more (by omega), HG6.out⟩
    · go_wp2_with (at_builtin; refine wpList_append_own _ rfl (.tmp 38) (.tmp 39) 23 rfl w.heap.size 3 i0 (.int .i64 0) 1 8 Try.underlying23 hi hz0 hz1 hz2 rfl (by decide) _ 0 (cellsI xs) rfl (ho5.alloc _) ⟨w5.heap.size, 0, none⟩ 1 1 [.int .i64 5] rfl rfl (cell_one_new _ _ _) (own_.one_cell _ rfl) (by unfold maxLen; omega) (by omega) (by simp; omega) ?_; intro v' w6 hown' hgrow hnil)
      have HC6 := Lib.hid (cur_append hc5 ho5 hp hs6 hgrow)
      have HG7 := Lib.hid (grown_append hg6 ho5 (Nat.le_refl _) hgrow)
      rw [cells_app] at hown'
      have HO := Lib.hid hown'
      clear hown' hgrow hnil ho5 hc5 hg6 hs6
      go_ret
      exact ⟨v', 0 + 1, _, rfl, HO.out, by omega, HC6.out.more (by omega), HG7.out⟩
  obtain ⟨g, c3, rfl, hgg⟩ := own_posI HV.out hn0
  have hn1 : (0 : Int) < (n : Int) := by omega
  go_wp2_with fail
  refine (one p _ 4 w3 HC.out (by omega) (by omega) (by omega)).mono ?_
  rintro e w4 ⟨b4, rfl, hc4, hg4⟩
  have HV4 := Lib.hid (own_kept HV.out hg4 (fun g e => by cases e; exact hp))
  have HG4 := Lib.hid (grown_trans HG.out hg4)
  have HC4 := Lib.hid hc4
  clear hc4 hg4 HV HG HC
  cases b4
  · have HV := Lib.hid HV4.out
    have HG := Lib.hid HG4.out
    have HC := Lib.hid HC4.out
    clear HV4 HG4 HC4
    go_wp2_with fail
    refine (one p _ 24 w4 HC.out (by omega) (by omega) (by omega)).mono ?_
    rintro e w5 ⟨bb, rfl, hc5, hg5⟩
    have ho5 := own_kept HV.out hg5 (fun g e => by cases e; exact hp)
    have hg6 := grown_trans HG.out hg5
    have hs6 := hg6.size
    clear hg5
    cases bb
    · have HO := Lib.hid ho5
      have HG6 := Lib.hid hg6
      clear ho5 hg6
      go_wp2_with fail
      go_ret
      exact ⟨_, n, _, rfl, HO.out, by omega, hc5.more (by omega), HG6.out⟩
    · go_wp2_with (at_builtin; refine wpList_append_own _ rfl (.tmp 38) (.tmp 39) 23 rfl w.heap.size 3 i0 (.int .i64 0) 1 8 Try.underlying23 hi hz0 hz1 hz2 rfl (by decide) _ n (cellsI xs) rfl (ho5.alloc _) ⟨w5.heap.size, 0, none⟩ 1 1 [.int .i64 5] rfl rfl (cell_one_new _ _ _) (own_.one_cell _ rfl) (by unfold maxLen; omega) (by omega) (by simp; omega) ?_; intro v' w6 hown' hgrow hnil)
      have HC6 := Lib.hid (cur_append hc5 ho5 hp hs6 hgrow)
      have HG7 := Lib.hid (grown_append hg6 ho5 (Nat.le_refl _) hgrow)
      rw [cells_app] at hown'
      have HO := Lib.hid hown'
      clear hown' hgrow hnil ho5 hc5 hg6 hs6
      go_ret
      exact ⟨v', n + 1, _, rfl, HO.out, by omega, HC6.out.more (by omega), HG7.out⟩
  · go_wp2_with fail
    refine (pick p _ (n : Int) w4 HC4.out (by omega) (by omega) (by omega)).mono ?_
    rintro e w5 ⟨r, rfl, r0, r1, hc5, hg5⟩
    obtain ⟨i, rfl⟩ := Int.eq_ofNat_of_zero_le r0
    have hin : i < n := by omega
    have hin2 : (i : Int) < (n : Int) := by omega
    have hi0 : (0 : Int) ≤ (i : Int) := r0
    obtain ⟨a, ha⟩ : ∃ a, xs[i]? = some a := ⟨_, List.getElem?_eq_getElem (by rw [HLX.out]; exact hin)⟩
    have HA := Lib.hid ha
    obtain ⟨a0, a1⟩ := HBD.out i a ha
    have ho5 := own_kept HV4.out hg5 (fun g e => by cases e; exact hp)
    have hg6 := grown_trans HG4.out hg5
    clear ha r0 r1 hg5 HV4 HG4 HC4 HBD
    go_upto_region 4 with fail
    have HO5d := Lib.hid (show w5.drew.ownsRow w.heap.size 3 1 (.slice (some ⟨g, 0, none⟩) n c3) n (cellsI xs) from own_.own_drewN ho5 1)
    have HC5d := Lib.hid (hc5.keep ((Below.refl (p + 1) w5).drew))
    have HG5d := Lib.hid (grown_dr hg6)
    have HS5 := Lib.hid ((HO5d.out.cellAt i (by omega)).trans (cells_at HA.out))
    clear ho5 hc5 hg6
    refine wp_region_tail (S := fun w' => World.cell? w' ⟨g, i, none⟩ = some (.int .i64 a)) 11 (by kernel_rfl) HS5.out (fun hHeld => ?_)
    try simp only [Act.put]
    refine wpAnyE_take (i := 0) (v := ?vq0) rfl (by decide +kernel) (fun _ _ _ h => h) (Or.inl ⟨by rfl, ?hq0⟩) (by assumption) ?rq0
    case hq0 =>
      intro wS hSw
      go_simp
      try with_reducible rfl
    try simp only [Act.put]
    refine wpAnyE_take (i := 1) (v := ?vq1) rfl (by decide +kernel) (fun _ _ _ h => h) (Or.inl ⟨by rfl, ?hq1⟩) (by assumption) ?rq1
    case hq1 =>
      intro wS hSw
      go_simp
      try with_reducible rfl
    try simp only [Act.put]
    refine wpAnyE_take (i := 2) (v := ?vq2) rfl (by decide +kernel) (fun _ _ _ h => h) (Or.inl ⟨by rfl, ?hq2⟩) (by assumption) ?rq2
    case hq2 =>
      intro wS hSw
      go_simp
      try with_reducible rfl
    try simp only [Act.put]
    refine wpAnyE_take (i := 3) (v := ?vq3) rfl (by decide +kernel) (fun _ _ _ h => h) (Or.inl ⟨by rfl, ?hq3⟩) (by assumption) ?rq3
    case hq3 =>
      intro wS hSw
      go_simp
      try with_reducible rfl
    try simp only [Act.put]
    refine wpAnyE_take (i := 4) (v := ?vq4) rfl (by decide +kernel) (fun _ _ _ h => h) (Or.inl ⟨by rfl, ?hq4⟩) (by assumption) ?rq4
    case hq4 =>
      intro wS hSw
      go_simp
      try with_reducible rfl
    try simp only [Act.put]
    refine wpAnyE_take (i := 5) (v := ?vq5) rfl (by decide +kernel) (fun _ _ _ h => h) (Or.inl ⟨by rfl, ?hq5⟩) (by assumption) ?rq5
    case hq5 =>
      intro wS hSw
      go_simp
      try with_reducible rfl
    try simp only [Act.put]
    refine wpAnyE_take (i := 6) (v := ?vq6) rfl (by decide +kernel) (fun _ _ _ h => h) (Or.inl ⟨by rfl, ?hq6⟩) (by assumption) ?rq6
    case hq6 =>
      intro wS hSw
      go_simp
      try with_reducible rfl
    try simp only [Act.put]
    refine wpAnyE_ready (rs := [7]) (by kernel_rfl) (by simp) ?_
    refine AllReadyE.cons (i := 7) rfl (by decide) (fun K hK => ?_) AllReadyE.nil
    go_simp
    refine (pick p _ 5 _ HC5d.out (by omega) (by omega) (by omega)).mono ?_
    rintro e w7 ⟨z, rfl, z0, z1, hc7, hg7⟩
    have ho7 := own_kept HO5d.out hg7 (fun g e => by cases e; exact hp)
    have HC7 := Lib.hid hc7
    have HG7 := Lib.hid (grown_trans HG5d.out hg7)
    have HS7 := Lib.hid (ho7.cellAt i (by omega) |>.trans (cells_at HA.out))
    have e1 : IntKind.i64.wrap (a + z) = a + z := IntWalk.i64_in _ (by omega)
    have e2 : IntKind.i64.wrap (a + z - 2) = a + z - 2 := IntWalk.i64_in _ (by omega)
    have fz := ho7.frozenAt i
    have st := (ho7.stored i (.int .i64 (a + z - 2))).1
    rw [cells_set] at st
    have ST := Lib.hid st
    clear hc7 hg7 ho7 st
    go_simp
    refine hK.out _ _ HS7.out (fun hHeld => ?_)
    clear hK K
    try simp only [Act.put]
    refine wpAnyE_take (i := 8) (v := ?vq8) rfl (by decide +kernel) (fun _ _ _ h => h) (Or.inl ⟨by rfl, ?hq8⟩) (by assumption) ?rq8
    case hq8 =>
      intro wS hSw
      go_simp
      try with_reducible rfl
    try simp only [Act.put]
    refine wpAnyE_take (i := 9) (v := ?vq9) rfl (by decide +kernel) (fun _ _ _ h => h) (Or.inl ⟨by rfl, ?hq9⟩) (by assumption) ?rq9
    case hq9 =>
      intro wS hSw
      go_simp
      try with_reducible rfl
    try simp only [Act.put]
    refine wpAnyE_take (i := 10) (v := ?vq10) rfl (by decide +kernel) (fun _ _ _ h => h) (Or.inl ⟨by rfl, ?hq10⟩) (by assumption) ?rq10
    case hq10 =>
      intro wS hSw
      go_simp
      try with_reducible rfl
    try simp only [Act.put]
    refine wpAnyE_ready (rs := [11]) (by kernel_rfl) (by simp) ?_
    refine AllReadyE.last (i := 11) rfl rfl (fun K hK => ?_)
    go_simp
    refine hK.out _ _ ?_
    clear hK K
    try simp only [Act.put]
    refine wpAnyE_done (by kernel_rfl) ?_ _
    try simp only [List.getElem_toArray, List.getElem_cons_succ, List.getElem_cons_zero, List.setIfInBounds_toArray, List.set_cons_succ, List.set_cons_zero]
    have HV := Lib.hid ST.out
    have HC := Lib.hid (Cur.set HC7.out (show p < g by omega) (i := i) (v := .int .i64 (a + z - 2)))
    have HG := Lib.hid (grown_put HG7.out (show w.heap.size ≤ g by omega) (i := i) (v := .int .i64 (a + z - 2)))
    generalize xs.set i (a + z - 2) = xs at *
    generalize w7.setCell ⟨g, i, none⟩ (.int .i64 (a + z - 2)) = W8 at *
    clear HO5d HC5d HG5d HS5 HC7 HG7 HS7 ST HA
    go_wp2_with fail
    refine (one p _ 24 W8 HC.out (by omega) (by omega) (by omega)).mono ?_
    rintro e w5 ⟨bb, rfl, hc5, hg5⟩
    have ho5 := own_kept HV.out hg5 (fun g e => by cases e; exact hp)
    have hg6 := grown_trans HG.out hg5
    have hs6 := hg6.size
    clear hg5
    cases bb
    · have HO := Lib.hid ho5
      have HG6 := Lib.hid hg6
      clear ho5 hg6
      go_wp2_with fail
      go_ret
      exact ⟨_, n, _, rfl, HO.out, by omega, hc5.more (by omega), HG6.out⟩
    · go_wp2_with (at_builtin; refine wpList_append_own _ rfl (.tmp 38) (.tmp 39) 23 rfl w.heap.size 3 i0 (.int .i64 0) 1 8 Try.underlying23 hi hz0 hz1 hz2 rfl (by decide) _ n (cellsI xs) rfl (ho5.alloc _) ⟨w5.heap.size, 0, none⟩ 1 1 [.int .i64 5] rfl rfl (cell_one_new _ _ _) (own_.one_cell _ rfl) (by unfold maxLen; omega) (by omega) (by simp; omega) ?_; intro v' w6 hown' hgrow hnil)
      have HC6 := Lib.hid (cur_append hc5 ho5 hp hs6 hgrow)
      have HG7 := Lib.hid (grown_append hg6 ho5 (Nat.le_refl _) hgrow)
      rw [cells_app] at hown'
      have HO := Lib.hid hown'
      clear hown' hgrow hnil ho5 hc5 hg6 hs6
      go_ret
      exact ⟨v', n + 1, _, rfl, HO.out, by omega, HC6.out.more (by omega), HG7.out⟩

theorem results_ttc {fn : Func} {p q r : Tmp} {ty : TypeId} (h : fn.results = #[.tmp p, .tmp q, .cell r ty]) (tmps : Array Value) (P : Program) (w : World) :
    (results fn tmps).run P w = ((asAddr (tmps.getD r undef)).run P w).andThen fun a w₁ => ((loadVar ty a).run P w₁).andThen fun v w₂ => .ok (.tuple #[tmps.getD p undef, tmps.getD q undef, v]) w₂ := by
  simp only [results, h]
  simp [Sem.run_bind, Result.andThen]
def ArrivalsQ (w : World) (e : Ending) (w' : World) : Prop := ∃ v k zs x y r, e = .returned (.tuple #[v, .agg #[.int .i64 x, .int .i64 y], .int .i64 r]) ∧ w'.ownsRow w.heap.size 32 2 v k (cellsI zs) ∧ k ≤ 6 ∧ okL zs k ∧ Near x y ∧ (-1 ≤ r ∧ r ≤ 100001) ∧ Below w.heap.size w w'
set_option maxRecDepth 100000 in
set_option maxHeartbeats 2000000 in
theorem arrivalsOf (A : Option Addr) (n c : Nat) (w : World) (hn : n ≤ 65536) (h : Bytes w w.heap.size A n) :
    Calls Try.prog 41 #[.slice A n c] w (ArrivalsQ w) := by
  have B0 := Lib.hid ((newS 32 #[.int .i64 0, .int .i64 0] w).alloc (.cells #[.slice A n c, .int .i64 0, .int .u64 0] 96))
  have hc := new_cur c (by omega) (bytes_al (.cells #[.int .i64 0, .int .i64 0] 32) h)
  rw [World.size_alloc] at hc
  have HC0 := Lib.hid hc
  have HZ1 := Lib.hid (show w.heap.size + 1 < ((w.alloc (.cells #[.int .i64 0, .int .i64 0] 32)).alloc (.cells #[.slice A n c, .int .i64 0, .int .u64 0] 96)).heap.size by rw [World.size_alloc, World.size_alloc]; omega)
  clear h hc
  go_enter Try.func41, Try.ntmps41
  go_wp2_with fail
  generalize (w.alloc (.cells #[.int .i64 0, .int .i64 0] 32)).alloc (.cells #[.slice A n c, .int .i64 0, .int .u64 0] 96) = W0 at *
  have ZS0 := Lib.hid (Nat.le_refl W0.heap.size)
  refine (sites _ 0 W0 HC0.out (by omega)).mono ?_
  rintro e w1 ⟨v, k, zs, rfl, ho, hk, hok, hc1, hg1⟩
  obtain ⟨A1, c1, rfl⟩ := own_sliceZ ho
  have B1 := Lib.hid (at_grown B0.out hg1 (by omega) (by omega))
  have HC1 := Lib.hid hc1
  have ZS1 := Lib.hid (Nat.le_trans ZS0.out hg1.size)
  have LO1 := Lib.hid ho
  have HOK := Lib.hid hok
  clear ho hc1 hg1 hok B0 HC0
  go_wp2_with fail
  refine (anyPoint _ _ w1 HC1.out (by omega)).mono ?_
  rintro e w2 ⟨x, y, rfl, hv, hc, hg⟩
  have B2 := Lib.hid (at_grown B1.out hg (by omega) (by omega))
  have HC2 := Lib.hid hc
  have ZS2 := Lib.hid (Nat.le_trans ZS1.out hg.size)
  have LO2 := Lib.hid (own_kept LO1.out hg (fun g e => by cases e; exact HZ1.out))
  have HP := Lib.hid hv
  clear hc hg hv B1 HC1 LO1
  go_wp2_with fail
  refine (among_new (-1) 100001 _ _ 6 [0, 7, 100000, 100001, -1, 500] _ w2 HC2.out (by omega) (by omega) (by omega) rfl rfl (by decide)).mono ?_
  rintro e w3 ⟨r, rfl, r0, r1, hc, hg⟩
  have B3 := Lib.hid (at_grown B2.out hg (by omega) (by omega))
  have HC3 := Lib.hid hc
  have ZS3 := Lib.hid (Nat.le_trans ZS2.out hg.size)
  have LO3 := Lib.hid (own_kept LO2.out hg (fun g e => by cases e; exact HZ1.out))
  clear hc hg B2 HC2 LO2
  have c_0 : w3.cell? ⟨w.heap.size, 0, none⟩ = some (.int .i64 0) := B3.out.cell 0
  have cf_0 : w3.frozen? ⟨w.heap.size, 0, none⟩ = false := B3.out.frozen 0
  have c_1 : w3.cell? ⟨w.heap.size, 1, none⟩ = some (.int .i64 0) := B3.out.cell 1
  have cf_1 : w3.frozen? ⟨w.heap.size, 1, none⟩ = false := B3.out.frozen 1
  have HE := Lib.hid ((B3.out.set 0 (.int .i64 x)).set 1 (.int .i64 y))
  have FLO := Lib.hid (own_kept (own_kept LO3.out (grown_set (grown_refl w3 (some w.heap.size)) 0 (.int .i64 x)) (fun g e => by cases e; have := HZ1.out; omega)) (grown_set (grown_refl _ (some w.heap.size)) 1 (.int .i64 y)) (fun g e => by cases e; have := HZ1.out; omega))
  have ZW := HZ1.out
  clear B3
  go_wp2_with fail
  have hl := HE.out.load Try.underlying32 rfl (by kernel_rfl)
  refine bodyPost_ret (v := .tuple #[.slice A1 k c1, .agg #[.int .i64 x, .int .i64 y], .int .i64 r]) ?_ rfl ⟨_, k, zs, x, y, r, rfl, (own_.own_base FLO.out (by omega)), hk, HOK.out, HP.out, ⟨r0, r1⟩, HE.out.1⟩
  rw [results_three rfl]
  simp [asAddr, Result.andThen, hl]

def SendsQ (w : World) (e : Ending) (w' : World) : Prop := ∃ v k zs x y u m xs, e = .returned (.tuple #[v, .agg #[.int .i64 x, .int .i64 y], u]) ∧ w'.ownsRow w.heap.size 32 2 v k (cellsI zs) ∧ k ≤ 6 ∧ okL zs k ∧ Near x y ∧ w'.ownsRow w.heap.size 3 1 u m (cellsI xs) ∧ m ≤ 7 ∧ Below w.heap.size w w'
set_option maxRecDepth 100000 in
set_option maxHeartbeats 2000000 in
theorem sendTimes (A : Option Addr) (n c : Nat) (w : World) (hn : n ≤ 65536) (h : Bytes w w.heap.size A n) :
    Calls Try.prog 53 #[.slice A n c] w (SendsQ w) := by
  have B0 := Lib.hid ((newS 32 #[.int .i64 0, .int .i64 0] w).alloc (.cells #[.slice A n c, .int .i64 0, .int .u64 0] 96))
  have hc := new_cur c (by omega) (bytes_al (.cells #[.int .i64 0, .int .i64 0] 32) h)
  rw [World.size_alloc] at hc
  have HC0 := Lib.hid hc
  have HZ1 := Lib.hid (show w.heap.size + 1 < ((w.alloc (.cells #[.int .i64 0, .int .i64 0] 32)).alloc (.cells #[.slice A n c, .int .i64 0, .int .u64 0] 96)).heap.size by rw [World.size_alloc, World.size_alloc]; omega)
  clear h hc
  go_enter Try.func53, Try.ntmps53
  go_wp2_with fail
  generalize (w.alloc (.cells #[.int .i64 0, .int .i64 0] 32)).alloc (.cells #[.slice A n c, .int .i64 0, .int .u64 0] 96) = W0 at *
  have ZS0 := Lib.hid (Nat.le_refl W0.heap.size)
  refine (sites _ 0 W0 HC0.out (by omega)).mono ?_
  rintro e w1 ⟨v, k, zs, rfl, ho, hk, hok, hc1, hg1⟩
  obtain ⟨A1, c1, rfl⟩ := own_sliceZ ho
  have B1 := Lib.hid (at_grown B0.out hg1 (by omega) (by omega))
  have HC1 := Lib.hid hc1
  have ZS1 := Lib.hid (Nat.le_trans ZS0.out hg1.size)
  have LO1 := Lib.hid ho
  have HOK := Lib.hid hok
  clear ho hc1 hg1 hok B0 HC0
  go_wp2_with fail
  refine (anyPoint _ _ w1 HC1.out (by omega)).mono ?_
  rintro e w2 ⟨x, y, rfl, hv, hc, hg⟩
  have B2 := Lib.hid (at_grown B1.out hg (by omega) (by omega))
  have HC2 := Lib.hid hc
  have ZS2 := Lib.hid (Nat.le_trans ZS1.out hg.size)
  have LO2 := Lib.hid (own_kept LO1.out hg (fun g e => by cases e; exact HZ1.out))
  have HP := Lib.hid hv
  clear hc hg hv B1 HC1 LO1
  have SZ := Lib.hid (show W0.heap.size ≤ w2.heap.size from ZS2.out)
  go_wp2_with fail
  refine (arr zs A1 k c1 _ _ _ w2 HC2.out (by omega) hk HOK.out HZ1.out LO2.out).mono ?_
  rintro e w3 ⟨av, ak, axs, rfl, hao, hak, hc, hg⟩
  obtain ⟨A2, c2, rfl⟩ := own_sliceZ hao
  have B3 := Lib.hid (at_grown B2.out hg (by omega) (by omega))
  have HC3 := Lib.hid hc
  have ZS3 := Lib.hid (Nat.le_trans ZS2.out hg.size)
  have LO3 := Lib.hid (own_kept LO2.out hg (fun g e => by cases e; exact HZ1.out))
  have AR3 := Lib.hid (own_.own_base hao SZ.out)
  clear hao hc hg B2 HC2 LO2
  have c_0 : w3.cell? ⟨w.heap.size, 0, none⟩ = some (.int .i64 0) := B3.out.cell 0
  have cf_0 : w3.frozen? ⟨w.heap.size, 0, none⟩ = false := B3.out.frozen 0
  have c_1 : w3.cell? ⟨w.heap.size, 1, none⟩ = some (.int .i64 0) := B3.out.cell 1
  have cf_1 : w3.frozen? ⟨w.heap.size, 1, none⟩ = false := B3.out.frozen 1
  have HE := Lib.hid ((B3.out.set 0 (.int .i64 x)).set 1 (.int .i64 y))
  have FLO := Lib.hid (own_kept (own_kept LO3.out (grown_set (grown_refl w3 (some w.heap.size)) 0 (.int .i64 x)) (fun g e => by cases e; have := HZ1.out; omega)) (grown_set (grown_refl _ (some w.heap.size)) 1 (.int .i64 y)) (fun g e => by cases e; have := HZ1.out; omega))
  have FAR := Lib.hid (own_kept (own_kept AR3.out (grown_set (grown_refl w3 (some w.heap.size)) 0 (.int .i64 x)) (fun g e => by cases e; have := HZ1.out; omega)) (grown_set (grown_refl _ (some w.heap.size)) 1 (.int .i64 y)) (fun g e => by cases e; have := HZ1.out; omega))
  have ZW := HZ1.out
  clear B3
  go_wp2_with fail
  have hl := HE.out.load Try.underlying32 rfl (by kernel_rfl)
  refine bodyPost_ret (v := .tuple #[.slice A1 k c1, .agg #[.int .i64 x, .int .i64 y], .slice A2 ak c2]) ?_ rfl ⟨_, k, zs, x, y, _, ak, axs, rfl, (own_.own_base FLO.out (by omega)), hk, HOK.out, HP.out, (own_.own_base FAR.out (by omega)), hak, HE.out.1⟩
  rw [results_three rfl]
  simp [asAddr, Result.andThen, hl]

def HeardQ (w : World) (e : Ending) (w' : World) : Prop := ∃ v k zs u m xs, e = .returned (.tuple #[v, u]) ∧ w'.ownsRow w.heap.size 32 2 v k (cellsI zs) ∧ k ≤ 6 ∧ okL zs k ∧ w'.ownsRow w.heap.size 3 1 u m (cellsI xs) ∧ m ≤ 7 ∧ Below w.heap.size w w'
set_option maxRecDepth 100000 in
set_option maxHeartbeats 2000000 in
theorem firstHeard (A : Option Addr) (n c : Nat) (w : World) (hn : n ≤ 65536) (h : Bytes w w.heap.size A n) :
    Calls Try.prog 98 #[.slice A n c] w (HeardQ w) := by
  have HC0 := Lib.hid (new_cur c (by omega) h)
  have B0 := Lib.hid (newS 96 #[.slice A n c, .int .i64 0, .int .u64 0] w)
  have HZ1 := Lib.hid (show w.heap.size < (w.alloc (.cells #[.slice A n c, .int .i64 0, .int .u64 0] 96)).heap.size by rw [World.size_alloc]; omega)
  clear h
  go_enter Try.func98, Try.ntmps98
  go_wp2_with fail
  generalize w.alloc (.cells #[.slice A n c, .int .i64 0, .int .u64 0] 96) = W0 at *
  have ZS0 := Lib.hid (Nat.le_refl W0.heap.size)
  refine (sites _ 0 W0 HC0.out (by omega)).mono ?_
  rintro e w1 ⟨v, k, zs, rfl, ho, hk, hok, hc1, hg1⟩
  obtain ⟨A1, c1, rfl⟩ := own_sliceZ ho
  have B1 := Lib.hid (below_of_grown (B0.out.1) hg1)
  have HC1 := Lib.hid hc1
  have ZS1 := Lib.hid (Nat.le_trans ZS0.out hg1.size)
  have LO1 := Lib.hid ho
  have HOK := Lib.hid hok
  clear ho hc1 hg1 hok B0 HC0
  have SZ := Lib.hid (show W0.heap.size ≤ w1.heap.size from ZS1.out)
  go_wp2_with fail
  refine (arr zs A1 k c1 _ _ _ w1 HC1.out (by omega) hk HOK.out HZ1.out LO1.out).mono ?_
  rintro e w2 ⟨av, ak, axs, rfl, hao, hak, hc, hg⟩
  obtain ⟨A2, c2, rfl⟩ := own_sliceZ hao
  have B2 := Lib.hid (below_of_grown B1.out hg)
  have HC2 := Lib.hid hc
  have ZS2 := Lib.hid (Nat.le_trans ZS1.out hg.size)
  have LO2 := Lib.hid (own_kept LO1.out hg (fun g e => by cases e; exact HZ1.out))
  have AR2 := Lib.hid (own_.own_base hao SZ.out)
  clear hao hc hg B1 HC1 LO1
  have ZW := HZ1.out
  go_wp2_with fail
  go_ret2
  exact ⟨_, k, zs, _, ak, axs, rfl, (own_.own_base LO2.out (by omega)), hk, HOK.out, (own_.own_base AR2.out (by omega)), hak, B2.out⟩

def FittingQ (w : World) (e : Ending) (w' : World) : Prop := ∃ v k zs u m xs t, e = .returned (.tuple #[v, u, .int .i64 t]) ∧ w'.ownsRow w.heap.size 32 2 v k (cellsI zs) ∧ k ≤ 6 ∧ okL zs k ∧ w'.ownsRow w.heap.size 3 1 u m (cellsI xs) ∧ m ≤ 7 ∧ Below w.heap.size w w'
set_option maxRecDepth 100000 in
set_option maxHeartbeats 2000000 in
theorem fittingPoints (A : Option Addr) (n c : Nat) (w : World) (hn : n ≤ 65536) (h : Bytes w w.heap.size A n) :
    Calls Try.prog 55 #[.slice A n c] w (FittingQ w) := by
  have HC0 := Lib.hid (new_cur c (by omega) h)
  have B0 := Lib.hid (newS 96 #[.slice A n c, .int .i64 0, .int .u64 0] w)
  have HZ1 := Lib.hid (show w.heap.size < (w.alloc (.cells #[.slice A n c, .int .i64 0, .int .u64 0] 96)).heap.size by rw [World.size_alloc]; omega)
  clear h
  go_enter Try.func55, Try.ntmps55
  go_wp2_with fail
  generalize w.alloc (.cells #[.slice A n c, .int .i64 0, .int .u64 0] 96) = W0 at *
  have ZS0 := Lib.hid (Nat.le_refl W0.heap.size)
  refine (sites _ 0 W0 HC0.out (by omega)).mono ?_
  rintro e w1 ⟨v, k, zs, rfl, ho, hk, hok, hc1, hg1⟩
  obtain ⟨A1, c1, rfl⟩ := own_sliceZ ho
  have B1 := Lib.hid (below_of_grown (B0.out.1) hg1)
  have HC1 := Lib.hid hc1
  have ZS1 := Lib.hid (Nat.le_trans ZS0.out hg1.size)
  have LO1 := Lib.hid ho
  have HOK := Lib.hid hok
  clear ho hc1 hg1 hok B0 HC0
  have SZ := Lib.hid (show W0.heap.size ≤ w1.heap.size from ZS1.out)
  go_wp2_with fail
  refine (arr zs A1 k c1 _ _ _ w1 HC1.out (by omega) hk HOK.out HZ1.out LO1.out).mono ?_
  rintro e w2 ⟨av, ak, axs, rfl, hao, hak, hc, hg⟩
  obtain ⟨A2, c2, rfl⟩ := own_sliceZ hao
  have B2 := Lib.hid (below_of_grown B1.out hg)
  have HC2 := Lib.hid hc
  have ZS2 := Lib.hid (Nat.le_trans ZS1.out hg.size)
  have LO2 := Lib.hid (own_kept LO1.out hg (fun g e => by cases e; exact HZ1.out))
  have AR2 := Lib.hid (own_.own_base hao SZ.out)
  clear hao hc hg B1 HC1 LO1
  go_wp2_with fail
  refine (among_new (-1) 6 _ _ 7 [0, 0, 1, 2, 5, 6, -1] _ w2 HC2.out (by omega) (by omega) (by omega) rfl rfl (by decide)).mono ?_
  rintro e w3 ⟨r, rfl, r0, r1, hc, hg⟩
  have B3 := Lib.hid (below_of_grown B2.out hg)
  have HC3 := Lib.hid hc
  have ZS3 := Lib.hid (Nat.le_trans ZS2.out hg.size)
  have LO3 := Lib.hid (own_kept LO2.out hg (fun g e => by cases e; exact HZ1.out))
  have AR3 := Lib.hid (own_kept AR2.out hg (fun g e => by cases e; exact HZ1.out))
  clear hc hg B2 HC2 LO2 AR2
  have ZW := HZ1.out
  go_wp2_with fail
  go_ret3
  exact ⟨_, k, zs, _, ak, axs, r, rfl, (own_.own_base LO3.out (by omega)), hk, HOK.out, (own_.own_base AR3.out (by omega)), hak, B3.out⟩

def SpreadQ (w : World) (e : Ending) (w' : World) : Prop := ∃ v k zs u m xs x y, e = .returned (.tuple #[v, u, .agg #[.int .i64 x, .int .i64 y]]) ∧ w'.ownsRow w.heap.size 32 2 v k (cellsI zs) ∧ k ≤ 6 ∧ okL zs k ∧ w'.ownsRow w.heap.size 3 1 u m (cellsI xs) ∧ m ≤ 7 ∧ Near x y ∧ Below w.heap.size w w'
set_option maxRecDepth 100000 in
set_option maxHeartbeats 2000000 in
theorem spreadAt (A : Option Addr) (n c : Nat) (w : World) (hn : n ≤ 65536) (h : Bytes w w.heap.size A n) :
    Calls Try.prog 61 #[.slice A n c] w (SpreadQ w) := by
  have B0 := Lib.hid ((newS 32 #[.int .i64 0, .int .i64 0] w).alloc (.cells #[.slice A n c, .int .i64 0, .int .u64 0] 96))
  have hc := new_cur c (by omega) (bytes_al (.cells #[.int .i64 0, .int .i64 0] 32) h)
  rw [World.size_alloc] at hc
  have HC0 := Lib.hid hc
  have HZ1 := Lib.hid (show w.heap.size + 1 < ((w.alloc (.cells #[.int .i64 0, .int .i64 0] 32)).alloc (.cells #[.slice A n c, .int .i64 0, .int .u64 0] 96)).heap.size by rw [World.size_alloc, World.size_alloc]; omega)
  clear h hc
  go_enter Try.func61, Try.ntmps61
  go_wp2_with fail
  generalize (w.alloc (.cells #[.int .i64 0, .int .i64 0] 32)).alloc (.cells #[.slice A n c, .int .i64 0, .int .u64 0] 96) = W0 at *
  have ZS0 := Lib.hid (Nat.le_refl W0.heap.size)
  refine (sites _ 0 W0 HC0.out (by omega)).mono ?_
  rintro e w1 ⟨v, k, zs, rfl, ho, hk, hok, hc1, hg1⟩
  obtain ⟨A1, c1, rfl⟩ := own_sliceZ ho
  have B1 := Lib.hid (at_grown B0.out hg1 (by omega) (by omega))
  have HC1 := Lib.hid hc1
  have ZS1 := Lib.hid (Nat.le_trans ZS0.out hg1.size)
  have LO1 := Lib.hid ho
  have HOK := Lib.hid hok
  clear ho hc1 hg1 hok B0 HC0
  have SZ := Lib.hid (show W0.heap.size ≤ w1.heap.size from ZS1.out)
  go_wp2_with fail
  refine (arr zs A1 k c1 _ _ _ w1 HC1.out (by omega) hk HOK.out HZ1.out LO1.out).mono ?_
  rintro e w2 ⟨av, ak, axs, rfl, hao, hak, hc, hg⟩
  obtain ⟨A2, c2, rfl⟩ := own_sliceZ hao
  have B2 := Lib.hid (at_grown B1.out hg (by omega) (by omega))
  have HC2 := Lib.hid hc
  have ZS2 := Lib.hid (Nat.le_trans ZS1.out hg.size)
  have LO2 := Lib.hid (own_kept LO1.out hg (fun g e => by cases e; exact HZ1.out))
  have AR2 := Lib.hid (own_.own_base hao SZ.out)
  clear hao hc hg B1 HC1 LO1
  go_wp2_with fail
  refine (anyPoint _ _ w2 HC2.out (by omega)).mono ?_
  rintro e w3 ⟨x, y, rfl, hv, hc, hg⟩
  have B3 := Lib.hid (at_grown B2.out hg (by omega) (by omega))
  have HC3 := Lib.hid hc
  have ZS3 := Lib.hid (Nat.le_trans ZS2.out hg.size)
  have LO3 := Lib.hid (own_kept LO2.out hg (fun g e => by cases e; exact HZ1.out))
  have AR3 := Lib.hid (own_kept AR2.out hg (fun g e => by cases e; exact HZ1.out))
  have HP := Lib.hid hv
  clear hc hg hv B2 HC2 LO2 AR2
  have c_0 : w3.cell? ⟨w.heap.size, 0, none⟩ = some (.int .i64 0) := B3.out.cell 0
  have cf_0 : w3.frozen? ⟨w.heap.size, 0, none⟩ = false := B3.out.frozen 0
  have c_1 : w3.cell? ⟨w.heap.size, 1, none⟩ = some (.int .i64 0) := B3.out.cell 1
  have cf_1 : w3.frozen? ⟨w.heap.size, 1, none⟩ = false := B3.out.frozen 1
  have HE := Lib.hid ((B3.out.set 0 (.int .i64 x)).set 1 (.int .i64 y))
  have FLO := Lib.hid (own_kept (own_kept LO3.out (grown_set (grown_refl w3 (some w.heap.size)) 0 (.int .i64 x)) (fun g e => by cases e; have := HZ1.out; omega)) (grown_set (grown_refl _ (some w.heap.size)) 1 (.int .i64 y)) (fun g e => by cases e; have := HZ1.out; omega))
  have FAR := Lib.hid (own_kept (own_kept AR3.out (grown_set (grown_refl w3 (some w.heap.size)) 0 (.int .i64 x)) (fun g e => by cases e; have := HZ1.out; omega)) (grown_set (grown_refl _ (some w.heap.size)) 1 (.int .i64 y)) (fun g e => by cases e; have := HZ1.out; omega))
  have ZW := HZ1.out
  clear B3
  go_wp2_with fail
  have hl := HE.out.load Try.underlying32 rfl (by kernel_rfl)
  refine bodyPost_ret (v := .tuple #[.slice A1 k c1, .slice A2 ak c2, .agg #[.int .i64 x, .int .i64 y]]) ?_ rfl ⟨_, k, zs, _, ak, axs, x, y, rfl, (own_.own_base FLO.out (by omega)), hk, HOK.out, (own_.own_base FAR.out (by omega)), hak, HP.out, HE.out.1⟩
  rw [results_ttc rfl]
  simp [asAddr, Result.andThen, hl]

def SitesOnlyQ (w : World) (e : Ending) (w' : World) : Prop := ∃ v k zs, e = .returned v ∧ w'.ownsRow w.heap.size 32 2 v k (cellsI zs) ∧ k ≤ 6 ∧ okL zs k ∧ Below w.heap.size w w'
set_option maxRecDepth 100000 in
set_option maxHeartbeats 2000000 in
theorem validSites (A : Option Addr) (n c : Nat) (w : World) (hn : n ≤ 65536) (h : Bytes w w.heap.size A n) :
    Calls Try.prog 102 #[.slice A n c] w (SitesOnlyQ w) := by
  have HC0 := Lib.hid (new_cur c (by omega) h)
  have B0 := Lib.hid (newS 96 #[.slice A n c, .int .i64 0, .int .u64 0] w)
  have HZ1 := Lib.hid (show w.heap.size < (w.alloc (.cells #[.slice A n c, .int .i64 0, .int .u64 0] 96)).heap.size by rw [World.size_alloc]; omega)
  clear h
  go_enter Try.func102, Try.ntmps102
  go_wp2_with fail
  generalize w.alloc (.cells #[.slice A n c, .int .i64 0, .int .u64 0] 96) = W0 at *
  have ZS0 := Lib.hid (Nat.le_refl W0.heap.size)
  refine (sites _ 0 W0 HC0.out (by omega)).mono ?_
  rintro e w1 ⟨v, k, zs, rfl, ho, hk, hok, hc1, hg1⟩
  obtain ⟨A1, c1, rfl⟩ := own_sliceZ ho
  have B1 := Lib.hid (below_of_grown (B0.out.1) hg1)
  have HC1 := Lib.hid hc1
  have ZS1 := Lib.hid (Nat.le_trans ZS0.out hg1.size)
  have LO1 := Lib.hid ho
  have HOK := Lib.hid hok
  clear ho hc1 hg1 hok B0 HC0
  have ZW := HZ1.out
  go_wp2_with fail
  go_ret
  exact ⟨_, k, zs, rfl, (own_.own_base LO1.out (by omega)), hk, HOK.out, B1.out⟩

theorem possibleArrivals (A : Option Addr) (n c : Nat) (w : World) (hn : n ≤ 65536) (h : Bytes w w.heap.size A n) :
    Calls Try.prog 51 #[.slice A n c] w (HeardQ w) := by
  have D := Lib.hid (firstHeard A n c w hn h)
  clear h
  go_enter Try.func51, Try.ntmps51
  go_wp2_with fail
  refine D.out.mono ?_
  rintro e w1 ⟨v, k, zs, u, m, xs, rfl, h1, h2, h3, h4, h5, h6⟩
  go_wp2_with fail
  go_ret2
  exact ⟨v, k, zs, u, m, xs, rfl, h1, h2, h3, h4, h5, h6⟩

theorem bestPoint (A : Option Addr) (n c : Nat) (w : World) (hn : n ≤ 65536) (h : Bytes w w.heap.size A n) :
    Calls Try.prog 57 #[.slice A n c] w (HeardQ w) := by
  have D := Lib.hid (firstHeard A n c w hn h)
  clear h
  go_enter Try.func57, Try.ntmps57
  go_wp2_with fail
  refine D.out.mono ?_
  rintro e w1 ⟨v, k, zs, u, m, xs, rfl, h1, h2, h3, h4, h5, h6⟩
  go_wp2_with fail
  go_ret2
  exact ⟨v, k, zs, u, m, xs, rfl, h1, h2, h3, h4, h5, h6⟩

theorem helpfulSite (A : Option Addr) (n c : Nat) (w : World) (hn : n ≤ 65536) (h : Bytes w w.heap.size A n) :
    Calls Try.prog 59 #[.slice A n c] w (FittingQ w) := by
  have D := Lib.hid (fittingPoints A n c w hn h)
  clear h
  go_enter Try.func59, Try.ntmps59
  go_wp2_with fail
  refine D.out.mono ?_
  rintro e w1 ⟨v, k, zs, u, m, xs, t, rfl, h1, h2, h3, h4, h5, h6⟩
  go_wp2_with fail
  go_ret3
  exact ⟨v, k, zs, u, m, xs, t, rfl, h1, h2, h3, h4, h5, h6⟩

theorem blindPoints (A : Option Addr) (n c : Nat) (w : World) (hn : n ≤ 65536) (h : Bytes w w.heap.size A n) :
    Calls Try.prog 58 #[.slice A n c] w (SitesOnlyQ w) := by
  have D := Lib.hid (validSites A n c w hn h)
  clear h
  go_enter Try.func58, Try.ntmps58
  go_wp2_with fail
  refine D.out.mono ?_
  rintro e w1 ⟨v, k, zs, rfl, h1, h2, h3, h4⟩
  go_wp2_with fail
  go_ret
  exact ⟨v, k, zs, rfl, h1, h2, h3, h4⟩

end Go.Proofs.Ytpbopiecfnedgab.draws11
