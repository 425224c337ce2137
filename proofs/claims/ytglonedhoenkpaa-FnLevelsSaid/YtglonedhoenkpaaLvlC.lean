/- impl's IsValidClearances. -/
import Derived.Test.YtglonedhoenkpaaLvlB
import Derived.Test.YtglonedhoenkpaaTailH
namespace Go.Proofs.Ytglonedhoenkpaa.lvlc
open Go.RowKit Go.Proofs.Ytglonedhoenkpaa.ints Go.Proofs.Ytglonedhoenkpaa.lst Go.Proofs.Ytglonedhoenkpaa.in_ Go.Proofs.Ytglonedhoenkpaa.ats Go.Proofs.Ytglonedhoenkpaa.putq Go.Proofs.Ytglonedhoenkpaa.vel Go.Proofs.Ytglonedhoenkpaa.lvl Go.Proofs.Ytglonedhoenkpaa.lvle Go.Proofs.Ytglonedhoenkpaa.lvla Go.Proofs.Ytglonedhoenkpaa.lvlb Go.Proofs.Ytglonedhoenkpaa.tailh

theorem fld_take {zs : List Int} {k j i : Nat} (hj : j < k) (hi : i < 5) : fld 5 (zs.take (k * 5)) j i = fld 5 zs j i := by
  unfold fld
  rw [List.getD_eq_getElem?_getD, List.getD_eq_getElem?_getD, List.getElem?_take, if_pos (by omega)]
theorem rd_take {w : World} {B n k : Nat} {A : Option Addr} {zs : List Int} (h : RdZ 5 w B A n zs) (hk : k ≤ n) : RdZ 5 w B A k (zs.take (k * 5)) :=
  ⟨by rw [List.length_take, h.1]; omega, fun h0 => by
    obtain ⟨b, o, e, hb, hc⟩ := h.2 (by omega)
    refine ⟨b, o, e, hb, fun j x hx => hc j x ?_⟩
    have hj := (List.getElem?_eq_some_iff.1 hx).1
    rw [List.length_take] at hj
    rwa [List.getElem?_take, if_pos (by omega)] at hx⟩
theorem clK_take {zs : List Int} {n k : Nat} (hk : k < n) : clK (zs.take (n * 5)) k = clK zs k := by
  unfold clK
  rw [fld_take hk (by omega), fld_take hk (by omega), fld_take hk (by omega), fld_take hk (by omega), fld_take hk (by omega)]
theorem al_take {zs : List Int} {n k : Nat} (h : alT zs n = true) (hk : k ≤ n) : alT (zs.take (k * 5)) k = true :=
  alT_of fun j hj => by rw [clK_take hj]; exact alT_all h j (by omega)
theorem cfL_take {zs : List Int} {a l u f t : Int} {n : Nat} : ∀ k, k ≤ n → cfL (zs.take (n * 5)) a l u f t k = cfL zs a l u f t k
  | 0, _ => rfl
  | k + 1, h => by
    rw [cfL, cfL, cfL_take k (by omega)]
    unfold cfK
    rw [fld_take (by omega) (by omega), fld_take (by omega) (by omega), fld_take (by omega) (by omega), fld_take (by omega) (by omega), fld_take (by omega) (by omega)]
theorem pr_zero {zs : List Int} {k : Nat} (h0 : k = 0) (hp : prT zs k = true) : prT zs (k + 1) = decide ((cfL zs (fld 5 zs k 0) (fld 5 zs k 1) (fld 5 zs k 2) (fld 5 zs k 3) (fld 5 zs k 4) k).length = 0) := by
  rw [prT, hp, Bool.true_and]
  unfold befK noK
  rw [decide_eq_true h0, Bool.true_or, Bool.true_and, cfL_no]
theorem pr_bef {zs : List Int} {k : Nat} (h : befB (fld 5 zs (k - 1) 0) (fld 5 zs (k - 1) 4) (fld 5 zs k 0) (fld 5 zs k 3) = true) (hp : prT zs k = true) : prT zs (k + 1) = decide ((cfL zs (fld 5 zs k 0) (fld 5 zs k 1) (fld 5 zs k 2) (fld 5 zs k 3) (fld 5 zs k 4) k).length = 0) := by
  rw [prT, hp, Bool.true_and]
  unfold befK noK
  rw [h, Bool.or_true, Bool.true_and, cfL_no]
theorem pr_not {zs : List Int} {k : Nat} (h0 : 0 < k) (h : befB (fld 5 zs (k - 1) 0) (fld 5 zs (k - 1) 4) (fld 5 zs k 0) (fld 5 zs k 3) = false) : prT zs (k + 1) = false := by
  rw [prT]
  unfold befK
  rw [h, decide_eq_false (by omega)]
  simp

set_option maxRecDepth 100000 in
set_option maxHeartbeats 4000000 in
theorem isValidClearances (zs : List Int) (A : Option Addr) (n c : Nat) (w : World) (hc : n ≤ c) (hn : n ≤ 1048577) (h1 : RdZ 5 w w.heap.size A n zs) :
    Calls Try.prog 23 #[.slice A n c] w fun e w' => e = .returned (.bool (cvB zs n)) ∧ Below w.heap.size w w' := by
  by_cases hn10 : n ≤ 10
  · have g10 : decide ((10 : Int) < (n : Int)) = false := decide_eq_false (by omega)
    have g10b : decide (10 < n) = false := decide_eq_false (by omega)
    have HA := Lib.hid (areAllCleared zs A n c w hn h1)
    cases hal : alT zs n
    · rw [hal] at HA
      have HE := Lib.hid (cv_al hal)
      clear h1 hal hn10
      go_enter Try.func23, Try.ntmps23
      go_wp2_with fail
      refine HA.out.mono ?_
      rintro e w1 ⟨rfl, hb1⟩
      have BX := Lib.hid hb1
      clear hb1
      go_wp2_with fail
      go_ret
      exact ⟨by rw [HE.out]; rfl, BX.out⟩
    · rw [hal] at HA
      have HR := Lib.hid h1
      have HAL := Lib.hid hal
      have HN10 := Lib.hid hn10
      clear h1 hal hn10
      go_enter Try.func23, Try.ntmps23
      go_wp2_with fail
      refine HA.out.mono ?_
      rintro e w1 ⟨rfl, hb1⟩
      have B1 := Lib.hid hb1
      clear hb1 HA
      go_wp2_with fail
      go_loopw [15] (fun i wr => ∃ k : Nat, k ≤ n ∧ i = .int .i64 k ∧ Below w.heap.size w wr ∧ prT zs k = true) (fun i _ => n - (intOf i).toNat)
      case atStart => exact ⟨0, Nat.zero_le _, rfl, B1.out, rfl⟩
      case round =>
        obtain ⟨k, hk, rfl, hb, hpr⟩ := hrel
        by_cases hlt : k < n
        · obtain ⟨b1, o1, eA, l1', p0, p1, p2, p3, p4⟩ := cellsE (HR.out.below hb (Nat.le_refl _)) hlt
          have l1 := Lib.hid l1'
          have hlt2 : (k : Int) < (n : Int) := by omega
          have hkc : (k : Int) ≤ (c : Int) := by omega
          have hk0 : (0 : Int) ≤ (k : Int) := Int.natCast_nonneg _
          have HLT := Lib.hid hlt
          have HCK := Lib.hid (show clB (fld 5 zs k 0) (fld 5 zs k 1) (fld 5 zs k 2) (fld 5 zs k 3) (fld 5 zs k 4) = true from alT_all HAL.out k hlt)
          have HAT := Lib.hid (al_take HAL.out (show k ≤ n by omega))
          have HBW := Lib.hid (hb.alloc hb.size (.cells #[.int .i64 (fld 5 zs k 0), .int .i64 (fld 5 zs k 1), .int .i64 (fld 5 zs k 2), .int .i64 (fld 5 zs k 3), .int .i64 (fld 5 zs k 4)] 26))
          have HBA := Lib.hid ((Below.refl w.heap.size wr).alloc hb.size (.cells #[.int .i64 (fld 5 zs k 0), .int .i64 (fld 5 zs k 1), .int .i64 (fld 5 zs k 2), .int .i64 (fld 5 zs k 3), .int .i64 (fld 5 zs k 4)] 26))
          have SA := Lib.hid (newS 26 #[.int .i64 (fld 5 zs k 0), .int .i64 (fld 5 zs k 1), .int .i64 (fld 5 zs k 2), .int .i64 (fld 5 zs k 3), .int .i64 (fld 5 zs k 4)] wr)
          have HP0 := Lib.hid (fun h0 => pr_zero (zs := zs) (k := k) h0 hpr)
          have HP1 := Lib.hid (fun h => pr_bef (zs := zs) (k := k) h hpr)
          have HP2 := Lib.hid (fun h0 h => pr_not (zs := zs) (k := k) h0 h)
          have HQ := Lib.hid (show 0 < k → ∃ p, p + 1 = k ∧ (p : Int) < (n : Int) ∧ wr.cell? ⟨b1, o1 + p * 5, none⟩ = some (.int .i64 (fld 5 zs p 0)) ∧ wr.cell? ⟨b1, o1 + p * 5 + 1, none⟩ = some (.int .i64 (fld 5 zs p 1)) ∧ wr.cell? ⟨b1, o1 + p * 5 + 2, none⟩ = some (.int .i64 (fld 5 zs p 2)) ∧ wr.cell? ⟨b1, o1 + p * 5 + 3, none⟩ = some (.int .i64 (fld 5 zs p 3)) ∧ wr.cell? ⟨b1, o1 + p * 5 + 4, none⟩ = some (.int .i64 (fld 5 zs p 4)) from fun h0 => by
            obtain ⟨b2, o2, eB, l2, q0, q1, q2, q3, q4⟩ := cellsE (HR.out.below hb (Nat.le_refl _)) (show k - 1 < n by omega)
            obtain ⟨rfl, rfl⟩ : b1 = b2 ∧ o1 = o2 := by rw [eA] at eB; injection eB with e; injection e with e1 e2; exact ⟨e1, e2⟩
            exact ⟨k - 1, by omega, by omega, q0, q1, q2, q3, q4⟩)
          subst eA
          clear hb hpr hlt l1'
          obtain ⟨Lc, hCF⟩ : ∃ Lc, cfL zs (fld 5 zs k 0) (fld 5 zs k 1) (fld 5 zs k 2) (fld 5 zs k 3) (fld 5 zs k 4) k = Lc := ⟨_, rfl⟩
          rw [hCF] at HP0 HP1
          generalize fld 5 zs k 0 = u0 at *
          generalize fld 5 zs k 1 = u1 at *
          generalize fld 5 zs k 2 = u2 at *
          generalize fld 5 zs k 3 = u3 at *
          generalize fld 5 zs k 4 = u4 at *
          go_upto_region 6 with fail
          clear p0 p1 p2 p3 p4
          have LBX := Lib.hid (rfl : wr.heap.size = wr.heap.size)
          generalize wr.alloc (.cells #[.int .i64 u0, .int .i64 u1, .int .i64 u2, .int .i64 u3, .int .i64 u4] 26) = WA at *
          have HBS := Lib.hid (SA.out.1)
          generalize wr.heap.size = bx at *
          rcases Nat.eq_zero_or_pos k with h0 | h0
          · have HP := Lib.hid (HP0.out h0)
            have D2 := Lib.hid (fun W (hb : Below WA.heap.size WA W) => conflictsOf (zs.take (k * 5)) u0 u1 u2 u3 u4 (some ⟨b1, o1, none⟩) k c W (by have := HLT.out; omega) HAT.out HCK.out (rd_take (HR.out.next (HBW.out.trans (hb.mono HBW.out.size))) (by have := HLT.out; omega)))
            rw [cfL_take k (Nat.le_refl _), hCF] at D2
            generalize Lc.length = N at *
            have hk1 : decide ((0 : Int) < (k : Int)) = false := decide_eq_false (by omega)
            have hk2 : decide (0 < k) = false := decide_eq_false (by omega)
            clear h0 HP0 HP1 HP2 HQ hCF
            by_cases hz : N = 0
            · have HN := Lib.hid (show prT zs (k + 1) = true by rw [HP.out, decide_eq_true hz])
              have hz1 : decide ((0 : Int) < (N : Int)) = false := decide_eq_false (by omega)
              have hz2 : decide (0 < N) = false := decide_eq_false (by omega)
              clear hz
              have CSx := Lib.hid (show ∀ WZ : World, Below WA.heap.size WA WZ → (World.cell? WZ ⟨bx, 0, none⟩ = some (.int .i64 u0) ∧ World.cell? WZ ⟨bx, 1, none⟩ = some (.int .i64 u1) ∧ World.cell? WZ ⟨bx, 2, none⟩ = some (.int .i64 u2) ∧ World.cell? WZ ⟨bx, 3, none⟩ = some (.int .i64 u3) ∧ World.cell? WZ ⟨bx, 4, none⟩ = some (.int .i64 u4)) from fun WZ hz => ⟨(SA.out.old hz).cell 0, (SA.out.old hz).cell 1, (SA.out.old hz).cell 2, (SA.out.old hz).cell 3, (SA.out.old hz).cell 4⟩)
              have HS0 := Lib.hid (CSx.out _ (Below.refl WA.heap.size WA).drew)
              have AU0 := Lib.hid ((Below.refl WA.heap.size WA).drew)
              go_upto_region 6 with fail
              refine wp_region_tail (S := fun w' => World.cell? w' ⟨bx, 0, none⟩ = some (.int .i64 u0) ∧ World.cell? w' ⟨bx, 1, none⟩ = some (.int .i64 u1) ∧ World.cell? w' ⟨bx, 2, none⟩ = some (.int .i64 u2) ∧ World.cell? w' ⟨bx, 3, none⟩ = some (.int .i64 u3) ∧ World.cell? w' ⟨bx, 4, none⟩ = some (.int .i64 u4)) 20 (by kernel_rfl) HS0.out (fun hHeld => ?_)
              try simp only [Act.put, List.getElem_toArray, List.getElem_cons_succ, List.getElem_cons_zero, List.setIfInBounds_toArray, List.set_cons_succ, List.set_cons_zero]
              refine wpAnyE_take (i := 0) (v := ?vt1_0) rfl (by decide +kernel) (fun _ _ _ h => h) (Or.inl ⟨by first | rfl | kernel_rfl, ?ht1_0⟩) (by assumption) ?rt1_0
              case ht1_0 =>
                intro wS hSw
                obtain ⟨h0, h1, h2, h3, h4⟩ := hSw
                go_simp
                try with_reducible rfl
              try simp only [Act.put, List.getElem_toArray, List.getElem_cons_zero, List.setIfInBounds_toArray, List.set_cons_succ, List.set_cons_zero]
              refine wpAnyE_take (i := 1) (v := ?vt1_1) rfl (by decide +kernel) (fun _ _ _ h => h) (Or.inl ⟨by first | rfl | kernel_rfl, ?ht1_1⟩) (by assumption) ?rt1_1
              case ht1_1 =>
                intro wS hSw
                obtain ⟨h0, h1, h2, h3, h4⟩ := hSw
                go_simp
                try with_reducible rfl
              try simp only [Act.put, List.getElem_toArray, List.getElem_cons_succ, List.getElem_cons_zero, List.setIfInBounds_toArray, List.set_cons_succ, List.set_cons_zero]
              refine wpAnyE_take (i := 2) (v := ?vt1_2) rfl (by decide +kernel) (fun _ _ _ h => h) (Or.inl ⟨by first | rfl | kernel_rfl, ?ht1_2⟩) (by assumption) ?rt1_2
              case ht1_2 =>
                intro wS hSw
                obtain ⟨h0, h1, h2, h3, h4⟩ := hSw
                go_simp
                try with_reducible rfl
              try simp only [Act.put, List.getElem_toArray, List.getElem_cons_succ, List.getElem_cons_zero, List.setIfInBounds_toArray, List.set_cons_succ, List.set_cons_zero]
              refine wpAnyE_take (i := 3) (v := undef) rfl (by decide +kernel) (fun _ _ _ h => h) (Or.inr ⟨by kernel_rfl, rfl⟩) (by assumption) ?rt1_3
              try simp only [Act.put, List.getElem_toArray, List.getElem_cons_succ, List.getElem_cons_zero, List.setIfInBounds_toArray, List.set_cons_succ, List.set_cons_zero]
              refine wpAnyE_take (i := 4) (v := undef) rfl (by decide +kernel) (fun _ _ _ h => h) (Or.inr ⟨by kernel_rfl, rfl⟩) (by assumption) ?rt1_4
              try simp only [Act.put, List.getElem_toArray, List.getElem_cons_succ, List.getElem_cons_zero, List.setIfInBounds_toArray, List.set_cons_succ, List.set_cons_zero]
              refine wpAnyE_take (i := 5) (v := undef) rfl (by decide +kernel) (fun _ _ _ h => h) (Or.inr ⟨by kernel_rfl, rfl⟩) (by assumption) ?rt1_5
              try simp only [Act.put, List.getElem_toArray, List.getElem_cons_succ, List.getElem_cons_zero, List.setIfInBounds_toArray, List.set_cons_succ, List.set_cons_zero]
              refine wpAnyE_take (i := 6) (v := undef) rfl (by decide +kernel) (fun _ _ _ h => h) (Or.inr ⟨by kernel_rfl, rfl⟩) (by assumption) ?rt1_6
              try simp only [Act.put, List.getElem_toArray, List.getElem_cons_succ, List.getElem_cons_zero, List.setIfInBounds_toArray, List.set_cons_succ, List.set_cons_zero]
              refine wpAnyE_take (i := 7) (v := undef) rfl (by decide +kernel) (fun _ _ _ h => h) (Or.inr ⟨by kernel_rfl, rfl⟩) (by assumption) ?rt1_7
              try simp only [Act.put, List.getElem_toArray, List.getElem_cons_succ, List.getElem_cons_zero, List.setIfInBounds_toArray, List.set_cons_succ, List.set_cons_zero]
              refine wpAnyE_take (i := 8) (v := undef) rfl (by decide +kernel) (fun _ _ _ h => h) (Or.inr ⟨by kernel_rfl, rfl⟩) (by assumption) ?rt1_8
              try simp only [Act.put, List.getElem_toArray, List.getElem_cons_succ, List.getElem_cons_zero, List.setIfInBounds_toArray, List.set_cons_succ, List.set_cons_zero]
              refine wpAnyE_take (i := 9) (v := undef) rfl (by decide +kernel) (fun _ _ _ h => h) (Or.inr ⟨by kernel_rfl, rfl⟩) (by assumption) ?rt1_9
              try simp only [Act.put, List.getElem_toArray, List.getElem_cons_succ, List.getElem_cons_zero, List.setIfInBounds_toArray, List.set_cons_succ, List.set_cons_zero]
              refine wpAnyE_take (i := 10) (v := undef) rfl (by decide +kernel) (fun _ _ _ h => h) (Or.inr ⟨by kernel_rfl, rfl⟩) (by assumption) ?rt1_10
              try simp only [Act.put, List.getElem_toArray, List.getElem_cons_succ, List.getElem_cons_zero, List.setIfInBounds_toArray, List.set_cons_succ, List.set_cons_zero]
              refine wpAnyE_take (i := 11) (v := ?vt1_11) rfl (by decide +kernel) (fun _ _ _ h => h) (Or.inl ⟨by first | rfl | kernel_rfl, ?ht1_11⟩) (by assumption) ?rt1_11
              case ht1_11 =>
                intro wS hSw
                obtain ⟨h0, h1, h2, h3, h4⟩ := hSw
                go_simp
                try with_reducible rfl
              try simp only [Act.put, List.getElem_toArray, List.getElem_cons_succ, List.getElem_cons_zero, List.setIfInBounds_toArray, List.set_cons_succ, List.set_cons_zero]
              refine wpAnyE_take (i := 12) (v := ?vt1_12) rfl (by decide +kernel) (fun _ _ _ h => h) (Or.inl ⟨by first | rfl | kernel_rfl, ?ht1_12⟩) (by assumption) ?rt1_12
              case ht1_12 =>
                intro wS hSw
                obtain ⟨h0, h1, h2, h3, h4⟩ := hSw
                go_simp
                try with_reducible rfl
              try simp only [Act.put, List.getElem_toArray, List.getElem_cons_succ, List.getElem_cons_zero, List.setIfInBounds_toArray, List.set_cons_succ, List.set_cons_zero]
              refine wpAnyE_take (i := 13) (v := ?vt1_13) rfl (by decide +kernel) (fun _ _ _ h => h) (Or.inl ⟨by first | rfl | kernel_rfl, ?ht1_13⟩) (by assumption) ?rt1_13
              case ht1_13 =>
                intro wS hSw
                obtain ⟨h0, h1, h2, h3, h4⟩ := hSw
                go_simp
                try with_reducible rfl
              try simp only [Act.put, List.getElem_toArray, List.getElem_cons_succ, List.getElem_cons_zero, List.setIfInBounds_toArray, List.set_cons_succ, List.set_cons_zero]
              refine wpAnyE_take (i := 14) (v := ?vt1_14) rfl (by decide +kernel) (fun _ _ _ h => h) (Or.inl ⟨by first | rfl | kernel_rfl, ?ht1_14⟩) (by assumption) ?rt1_14
              case ht1_14 =>
                intro wS hSw
                obtain ⟨h0, h1, h2, h3, h4⟩ := hSw
                go_simp
                try with_reducible rfl
              try simp only [Act.put, List.getElem_toArray, List.getElem_cons_succ, List.getElem_cons_zero, List.setIfInBounds_toArray, List.set_cons_succ, List.set_cons_zero]
              refine wpAnyE_take (i := 15) (v := ?vt1_15) rfl (by decide +kernel) (fun _ _ _ h => h) (Or.inl ⟨by first | rfl | kernel_rfl, ?ht1_15⟩) (by assumption) ?rt1_15
              case ht1_15 =>
                intro wS hSw
                obtain ⟨h0, h1, h2, h3, h4⟩ := hSw
                go_simp
                try with_reducible rfl
              try simp only [Act.put, List.getElem_toArray, List.getElem_cons_succ, List.getElem_cons_zero, List.setIfInBounds_toArray, List.set_cons_succ, List.set_cons_zero]
              refine wpAnyE_take (i := 16) (v := ?vt1_16) rfl (by decide +kernel) (fun _ _ _ h => h) (Or.inl ⟨by first | rfl | kernel_rfl, ?ht1_16⟩) (by assumption) ?rt1_16
              case ht1_16 =>
                intro wS hSw
                obtain ⟨h0, h1, h2, h3, h4⟩ := hSw
                go_simp
                try with_reducible rfl
              try simp only [Act.put, List.getElem_toArray, List.getElem_cons_succ, List.getElem_cons_zero, List.setIfInBounds_toArray, List.set_cons_succ, List.set_cons_zero]
              refine wpAnyE_ready (rs := [17]) (by kernel_rfl) (by simp) ?_
              refine AllReadyE.cons (i := 17) rfl (by decide) (fun K hK => ?_) AllReadyE.nil
              go_simp
              refine (D2.out WA.drew AU0.out).mono ?_
              rintro e U2 ⟨vq, rfl, ho, hb⟩
              obtain ⟨Aq, cq, rfl⟩ := own_sliceZ ho
              clear ho
              go_simp
              have AU2 := Lib.hid (AU0.out.trans (hb.mono AU0.out.size))
              have HSU2 := Lib.hid (CSx.out U2 AU2.out)
              clear hb
              refine hK.out _ _ HSU2.out (fun hHeld => ?_)
              clear hK K
              try simp only [Act.put, List.getElem_toArray, List.getElem_cons_succ, List.getElem_cons_zero, List.setIfInBounds_toArray, List.set_cons_succ, List.set_cons_zero]
              refine wpAnyE_take (i := 18) (v := ?vt1_18) rfl (by decide +kernel) (fun _ _ _ h => h) (Or.inl ⟨by first | rfl | kernel_rfl, ?ht1_18⟩) (by assumption) ?rt1_18
              case ht1_18 =>
                intro wS hSw
                obtain ⟨h0, h1, h2, h3, h4⟩ := hSw
                go_simp
                try with_reducible rfl
              try simp only [Act.put, List.getElem_toArray, List.getElem_cons_succ, List.getElem_cons_zero, List.setIfInBounds_toArray, List.set_cons_succ, List.set_cons_zero]
              refine wpAnyE_take (i := 19) (v := ?vt1_19) rfl (by decide +kernel) (fun _ _ _ h => h) (Or.inl ⟨by first | rfl | kernel_rfl, ?ht1_19⟩) (by assumption) ?rt1_19
              case ht1_19 =>
                intro wS hSw
                obtain ⟨h0, h1, h2, h3, h4⟩ := hSw
                go_simp
                try with_reducible rfl
              try simp only [Act.put, List.getElem_toArray, List.getElem_cons_succ, List.getElem_cons_zero, List.setIfInBounds_toArray, List.set_cons_succ, List.set_cons_zero]
              refine wpAnyE_ready (rs := [20]) (by kernel_rfl) (by simp) ?_
              refine AllReadyE.last (i := 20) rfl rfl (fun K hK => ?_)
              go_simp
              refine hK.out _ _ ?_
              clear hK K
              try simp only [Act.put, List.getElem_toArray, List.getElem_cons_succ, List.getElem_cons_zero, List.setIfInBounds_toArray, List.set_cons_succ, List.set_cons_zero]
              refine wpAnyE_done (by kernel_rfl) ?_ _
              try simp only [List.getElem_toArray, List.getElem_cons_succ, List.getElem_cons_zero, List.setIfInBounds_toArray, List.set_cons_succ, List.set_cons_zero]
              have BX := Lib.hid (HBW.out.trans (AU2.out.mono HBW.out.size))
              go_wp2_with fail
              go_roundw
              case rel => exact ⟨k + 1, by have := HLT.out; omega, by go_num, BX.out, HN.out⟩
              case measure => have := HLT.out; simp [intOf]; omega
            · have HN := Lib.hid (show prT zs (k + 1) = false by rw [HP.out, decide_eq_false hz])
              have hz1 : decide ((0 : Int) < (N : Int)) = true := decide_eq_true (by omega)
              have hz2 : decide (0 < N) = true := decide_eq_true (by omega)
              clear hz
              have CSx := Lib.hid (show ∀ WZ : World, Below WA.heap.size WA WZ → (World.cell? WZ ⟨bx, 0, none⟩ = some (.int .i64 u0) ∧ World.cell? WZ ⟨bx, 1, none⟩ = some (.int .i64 u1) ∧ World.cell? WZ ⟨bx, 2, none⟩ = some (.int .i64 u2) ∧ World.cell? WZ ⟨bx, 3, none⟩ = some (.int .i64 u3) ∧ World.cell? WZ ⟨bx, 4, none⟩ = some (.int .i64 u4)) from fun WZ hz => ⟨(SA.out.old hz).cell 0, (SA.out.old hz).cell 1, (SA.out.old hz).cell 2, (SA.out.old hz).cell 3, (SA.out.old hz).cell 4⟩)
              have HS0 := Lib.hid (CSx.out _ (Below.refl WA.heap.size WA).drew)
              have AU0 := Lib.hid ((Below.refl WA.heap.size WA).drew)
              go_upto_region 6 with fail
              refine wp_region_tail (S := fun w' => World.cell? w' ⟨bx, 0, none⟩ = some (.int .i64 u0) ∧ World.cell? w' ⟨bx, 1, none⟩ = some (.int .i64 u1) ∧ World.cell? w' ⟨bx, 2, none⟩ = some (.int .i64 u2) ∧ World.cell? w' ⟨bx, 3, none⟩ = some (.int .i64 u3) ∧ World.cell? w' ⟨bx, 4, none⟩ = some (.int .i64 u4)) 20 (by kernel_rfl) HS0.out (fun hHeld => ?_)
              try simp only [Act.put, List.getElem_toArray, List.getElem_cons_succ, List.getElem_cons_zero, List.setIfInBounds_toArray, List.set_cons_succ, List.set_cons_zero]
              refine wpAnyE_take (i := 0) (v := ?vt2_0) rfl (by decide +kernel) (fun _ _ _ h => h) (Or.inl ⟨by first | rfl | kernel_rfl, ?ht2_0⟩) (by assumption) ?rt2_0
              case ht2_0 =>
                intro wS hSw
                obtain ⟨h0, h1, h2, h3, h4⟩ := hSw
                go_simp
                try with_reducible rfl
              try simp only [Act.put, List.getElem_toArray, List.getElem_cons_zero, List.setIfInBounds_toArray, List.set_cons_succ, List.set_cons_zero]
              refine wpAnyE_take (i := 1) (v := ?vt2_1) rfl (by decide +kernel) (fun _ _ _ h => h) (Or.inl ⟨by first | rfl | kernel_rfl, ?ht2_1⟩) (by assumption) ?rt2_1
              case ht2_1 =>
                intro wS hSw
                obtain ⟨h0, h1, h2, h3, h4⟩ := hSw
                go_simp
                try with_reducible rfl
              try simp only [Act.put, List.getElem_toArray, List.getElem_cons_succ, List.getElem_cons_zero, List.setIfInBounds_toArray, List.set_cons_succ, List.set_cons_zero]
              refine wpAnyE_take (i := 2) (v := ?vt2_2) rfl (by decide +kernel) (fun _ _ _ h => h) (Or.inl ⟨by first | rfl | kernel_rfl, ?ht2_2⟩) (by assumption) ?rt2_2
              case ht2_2 =>
                intro wS hSw
                obtain ⟨h0, h1, h2, h3, h4⟩ := hSw
                go_simp
                try with_reducible rfl
              try simp only [Act.put, List.getElem_toArray, List.getElem_cons_succ, List.getElem_cons_zero, List.setIfInBounds_toArray, List.set_cons_succ, List.set_cons_zero]
              refine wpAnyE_take (i := 3) (v := undef) rfl (by decide +kernel) (fun _ _ _ h => h) (Or.inr ⟨by kernel_rfl, rfl⟩) (by assumption) ?rt2_3
              try simp only [Act.put, List.getElem_toArray, List.getElem_cons_succ, List.getElem_cons_zero, List.setIfInBounds_toArray, List.set_cons_succ, List.set_cons_zero]
              refine wpAnyE_take (i := 4) (v := undef) rfl (by decide +kernel) (fun _ _ _ h => h) (Or.inr ⟨by kernel_rfl, rfl⟩) (by assumption) ?rt2_4
              try simp only [Act.put, List.getElem_toArray, List.getElem_cons_succ, List.getElem_cons_zero, List.setIfInBounds_toArray, List.set_cons_succ, List.set_cons_zero]
              refine wpAnyE_take (i := 5) (v := undef) rfl (by decide +kernel) (fun _ _ _ h => h) (Or.inr ⟨by kernel_rfl, rfl⟩) (by assumption) ?rt2_5
              try simp only [Act.put, List.getElem_toArray, List.getElem_cons_succ, List.getElem_cons_zero, List.setIfInBounds_toArray, List.set_cons_succ, List.set_cons_zero]
              refine wpAnyE_take (i := 6) (v := undef) rfl (by decide +kernel) (fun _ _ _ h => h) (Or.inr ⟨by kernel_rfl, rfl⟩) (by assumption) ?rt2_6
              try simp only [Act.put, List.getElem_toArray, List.getElem_cons_succ, List.getElem_cons_zero, List.setIfInBounds_toArray, List.set_cons_succ, List.set_cons_zero]
              refine wpAnyE_take (i := 7) (v := undef) rfl (by decide +kernel) (fun _ _ _ h => h) (Or.inr ⟨by kernel_rfl, rfl⟩) (by assumption) ?rt2_7
              try simp only [Act.put, List.getElem_toArray, List.getElem_cons_succ, List.getElem_cons_zero, List.setIfInBounds_toArray, List.set_cons_succ, List.set_cons_zero]
              refine wpAnyE_take (i := 8) (v := undef) rfl (by decide +kernel) (fun _ _ _ h => h) (Or.inr ⟨by kernel_rfl, rfl⟩) (by assumption) ?rt2_8
              try simp only [Act.put, List.getElem_toArray, List.getElem_cons_succ, List.getElem_cons_zero, List.setIfInBounds_toArray, List.set_cons_succ, List.set_cons_zero]
              refine wpAnyE_take (i := 9) (v := undef) rfl (by decide +kernel) (fun _ _ _ h => h) (Or.inr ⟨by kernel_rfl, rfl⟩) (by assumption) ?rt2_9
              try simp only [Act.put, List.getElem_toArray, List.getElem_cons_succ, List.getElem_cons_zero, List.setIfInBounds_toArray, List.set_cons_succ, List.set_cons_zero]
              refine wpAnyE_take (i := 10) (v := undef) rfl (by decide +kernel) (fun _ _ _ h => h) (Or.inr ⟨by kernel_rfl, rfl⟩) (by assumption) ?rt2_10
              try simp only [Act.put, List.getElem_toArray, List.getElem_cons_succ, List.getElem_cons_zero, List.setIfInBounds_toArray, List.set_cons_succ, List.set_cons_zero]
              refine wpAnyE_take (i := 11) (v := ?vt2_11) rfl (by decide +kernel) (fun _ _ _ h => h) (Or.inl ⟨by first | rfl | kernel_rfl, ?ht2_11⟩) (by assumption) ?rt2_11
              case ht2_11 =>
                intro wS hSw
                obtain ⟨h0, h1, h2, h3, h4⟩ := hSw
                go_simp
                try with_reducible rfl
              try simp only [Act.put, List.getElem_toArray, List.getElem_cons_succ, List.getElem_cons_zero, List.setIfInBounds_toArray, List.set_cons_succ, List.set_cons_zero]
              refine wpAnyE_take (i := 12) (v := ?vt2_12) rfl (by decide +kernel) (fun _ _ _ h => h) (Or.inl ⟨by first | rfl | kernel_rfl, ?ht2_12⟩) (by assumption) ?rt2_12
              case ht2_12 =>
                intro wS hSw
                obtain ⟨h0, h1, h2, h3, h4⟩ := hSw
                go_simp
                try with_reducible rfl
              try simp only [Act.put, List.getElem_toArray, List.getElem_cons_succ, List.getElem_cons_zero, List.setIfInBounds_toArray, List.set_cons_succ, List.set_cons_zero]
              refine wpAnyE_take (i := 13) (v := ?vt2_13) rfl (by decide +kernel) (fun _ _ _ h => h) (Or.inl ⟨by first | rfl | kernel_rfl, ?ht2_13⟩) (by assumption) ?rt2_13
              case ht2_13 =>
                intro wS hSw
                obtain ⟨h0, h1, h2, h3, h4⟩ := hSw
                go_simp
                try with_reducible rfl
              try simp only [Act.put, List.getElem_toArray, List.getElem_cons_succ, List.getElem_cons_zero, List.setIfInBounds_toArray, List.set_cons_succ, List.set_cons_zero]
              refine wpAnyE_take (i := 14) (v := ?vt2_14) rfl (by decide +kernel) (fun _ _ _ h => h) (Or.inl ⟨by first | rfl | kernel_rfl, ?ht2_14⟩) (by assumption) ?rt2_14
              case ht2_14 =>
                intro wS hSw
                obtain ⟨h0, h1, h2, h3, h4⟩ := hSw
                go_simp
                try with_reducible rfl
              try simp only [Act.put, List.getElem_toArray, List.getElem_cons_succ, List.getElem_cons_zero, List.setIfInBounds_toArray, List.set_cons_succ, List.set_cons_zero]
              refine wpAnyE_take (i := 15) (v := ?vt2_15) rfl (by decide +kernel) (fun _ _ _ h => h) (Or.inl ⟨by first | rfl | kernel_rfl, ?ht2_15⟩) (by assumption) ?rt2_15
              case ht2_15 =>
                intro wS hSw
                obtain ⟨h0, h1, h2, h3, h4⟩ := hSw
                go_simp
                try with_reducible rfl
              try simp only [Act.put, List.getElem_toArray, List.getElem_cons_succ, List.getElem_cons_zero, List.setIfInBounds_toArray, List.set_cons_succ, List.set_cons_zero]
              refine wpAnyE_take (i := 16) (v := ?vt2_16) rfl (by decide +kernel) (fun _ _ _ h => h) (Or.inl ⟨by first | rfl | kernel_rfl, ?ht2_16⟩) (by assumption) ?rt2_16
              case ht2_16 =>
                intro wS hSw
                obtain ⟨h0, h1, h2, h3, h4⟩ := hSw
                go_simp
                try with_reducible rfl
              try simp only [Act.put, List.getElem_toArray, List.getElem_cons_succ, List.getElem_cons_zero, List.setIfInBounds_toArray, List.set_cons_succ, List.set_cons_zero]
              refine wpAnyE_ready (rs := [17]) (by kernel_rfl) (by simp) ?_
              refine AllReadyE.cons (i := 17) rfl (by decide) (fun K hK => ?_) AllReadyE.nil
              go_simp
              refine (D2.out WA.drew AU0.out).mono ?_
              rintro e U2 ⟨vq, rfl, ho, hb⟩
              obtain ⟨Aq, cq, rfl⟩ := own_sliceZ ho
              clear ho
              go_simp
              have AU2 := Lib.hid (AU0.out.trans (hb.mono AU0.out.size))
              have HSU2 := Lib.hid (CSx.out U2 AU2.out)
              clear hb
              refine hK.out _ _ HSU2.out (fun hHeld => ?_)
              clear hK K
              try simp only [Act.put, List.getElem_toArray, List.getElem_cons_succ, List.getElem_cons_zero, List.setIfInBounds_toArray, List.set_cons_succ, List.set_cons_zero]
              refine wpAnyE_take (i := 18) (v := ?vt2_18) rfl (by decide +kernel) (fun _ _ _ h => h) (Or.inl ⟨by first | rfl | kernel_rfl, ?ht2_18⟩) (by assumption) ?rt2_18
              case ht2_18 =>
                intro wS hSw
                obtain ⟨h0, h1, h2, h3, h4⟩ := hSw
                go_simp
                try with_reducible rfl
              try simp only [Act.put, List.getElem_toArray, List.getElem_cons_succ, List.getElem_cons_zero, List.setIfInBounds_toArray, List.set_cons_succ, List.set_cons_zero]
              refine wpAnyE_take (i := 19) (v := ?vt2_19) rfl (by decide +kernel) (fun _ _ _ h => h) (Or.inl ⟨by first | rfl | kernel_rfl, ?ht2_19⟩) (by assumption) ?rt2_19
              case ht2_19 =>
                intro wS hSw
                obtain ⟨h0, h1, h2, h3, h4⟩ := hSw
                go_simp
                try with_reducible rfl
              try simp only [Act.put, List.getElem_toArray, List.getElem_cons_succ, List.getElem_cons_zero, List.setIfInBounds_toArray, List.set_cons_succ, List.set_cons_zero]
              refine wpAnyE_ready (rs := [20]) (by kernel_rfl) (by simp) ?_
              refine AllReadyE.last (i := 20) rfl rfl (fun K hK => ?_)
              go_simp
              refine hK.out _ _ ?_
              clear hK K
              try simp only [Act.put, List.getElem_toArray, List.getElem_cons_succ, List.getElem_cons_zero, List.setIfInBounds_toArray, List.set_cons_succ, List.set_cons_zero]
              refine wpAnyE_done (by kernel_rfl) ?_ _
              try simp only [List.getElem_toArray, List.getElem_cons_succ, List.getElem_cons_zero, List.setIfInBounds_toArray, List.set_cons_succ, List.set_cons_zero]
              have BX := Lib.hid (HBW.out.trans (AU2.out.mono HBW.out.size))
              have HE := Lib.hid (cv_pr (prT_cut HN.out (show k + 1 ≤ n by have := HLT.out; omega)))
              go_wp2_with fail
              go_ret
              exact ⟨by rw [HE.out]; rfl, BX.out⟩
          · obtain ⟨p, hp, hpn2, q0', q1', q2', q3', q4'⟩ := HQ.out h0
            rw [show k - 1 = p by omega] at HP1 HP2
            have q0 := Lib.hid q0'
            have q1 := Lib.hid q1'
            have q2 := Lib.hid q2'
            have q3 := Lib.hid q3'
            have q4 := Lib.hid q4'
            clear q0' q1' q2' q3' q4'
            have hp0 : (0 : Int) ≤ (p : Int) := Int.natCast_nonneg _
            have e1 : IntKind.i64.wrap ((k : Int) - 1) = (p : Int) := by rw [IntWalk.i64_in _ (by have := HLT.out; omega)]; omega
            have hk1 : decide ((0 : Int) < (k : Int)) = true := decide_eq_true (by omega)
            have hk2 : decide (0 < k) = true := decide_eq_true h0
            generalize fld 5 zs p 0 = v0 at *
            generalize fld 5 zs p 1 = v1 at *
            generalize fld 5 zs p 2 = v2 at *
            generalize fld 5 zs p 3 = v3 at *
            generalize fld 5 zs p 4 = v4 at *
            have D1 := Lib.hid (fun W => comesBefore v0 v1 v2 v3 v4 u0 u1 u2 u3 u4 W)
            cases hbf : befB v0 v4 u0 u3
            · have HP := Lib.hid (HP2.out h0 hbf)
              rw [hbf] at D1
              clear h0 HP0 HP1 HP2 HQ hp hbf hCF
              have HN := Lib.hid HP.out
              have CSx := Lib.hid (show ∀ WZ : World, Below WA.heap.size WA WZ → (World.cell? WZ ⟨bx, 0, none⟩ = some (.int .i64 u0) ∧ World.cell? WZ ⟨bx, 1, none⟩ = some (.int .i64 u1) ∧ World.cell? WZ ⟨bx, 2, none⟩ = some (.int .i64 u2) ∧ World.cell? WZ ⟨bx, 3, none⟩ = some (.int .i64 u3) ∧ World.cell? WZ ⟨bx, 4, none⟩ = some (.int .i64 u4) ∧ World.cell? WZ ⟨b1, o1 + p * 5, none⟩ = some (.int .i64 v0) ∧ World.cell? WZ ⟨b1, o1 + p * 5 + 1, none⟩ = some (.int .i64 v1) ∧ World.cell? WZ ⟨b1, o1 + p * 5 + 2, none⟩ = some (.int .i64 v2) ∧ World.cell? WZ ⟨b1, o1 + p * 5 + 3, none⟩ = some (.int .i64 v3) ∧ World.cell? WZ ⟨b1, o1 + p * 5 + 4, none⟩ = some (.int .i64 v4)) from fun WZ hz => ⟨(SA.out.old hz).cell 0, (SA.out.old hz).cell 1, (SA.out.old hz).cell 2, (SA.out.old hz).cell 3, (SA.out.old hz).cell 4, ((HBA.out.trans (hz.mono HBW.out.size)).cell (p := ⟨b1, o1 + p * 5, none⟩) l1.out).trans q0.out, ((HBA.out.trans (hz.mono HBW.out.size)).cell (p := ⟨b1, o1 + p * 5 + 1, none⟩) l1.out).trans q1.out, ((HBA.out.trans (hz.mono HBW.out.size)).cell (p := ⟨b1, o1 + p * 5 + 2, none⟩) l1.out).trans q2.out, ((HBA.out.trans (hz.mono HBW.out.size)).cell (p := ⟨b1, o1 + p * 5 + 3, none⟩) l1.out).trans q3.out, ((HBA.out.trans (hz.mono HBW.out.size)).cell (p := ⟨b1, o1 + p * 5 + 4, none⟩) l1.out).trans q4.out⟩)
              have HS0 := Lib.hid (CSx.out _ (Below.refl WA.heap.size WA).drew)
              have AU0 := Lib.hid ((Below.refl WA.heap.size WA).drew)
              go_upto_region 6 with fail
              refine wp_region_tail (S := fun w' => World.cell? w' ⟨bx, 0, none⟩ = some (.int .i64 u0) ∧ World.cell? w' ⟨bx, 1, none⟩ = some (.int .i64 u1) ∧ World.cell? w' ⟨bx, 2, none⟩ = some (.int .i64 u2) ∧ World.cell? w' ⟨bx, 3, none⟩ = some (.int .i64 u3) ∧ World.cell? w' ⟨bx, 4, none⟩ = some (.int .i64 u4) ∧ World.cell? w' ⟨b1, o1 + p * 5, none⟩ = some (.int .i64 v0) ∧ World.cell? w' ⟨b1, o1 + p * 5 + 1, none⟩ = some (.int .i64 v1) ∧ World.cell? w' ⟨b1, o1 + p * 5 + 2, none⟩ = some (.int .i64 v2) ∧ World.cell? w' ⟨b1, o1 + p * 5 + 3, none⟩ = some (.int .i64 v3) ∧ World.cell? w' ⟨b1, o1 + p * 5 + 4, none⟩ = some (.int .i64 v4)) 20 (by kernel_rfl) HS0.out (fun hHeld => ?_)
              try simp only [Act.put, List.getElem_toArray, List.getElem_cons_succ, List.getElem_cons_zero, List.setIfInBounds_toArray, List.set_cons_succ, List.set_cons_zero]
              refine wpAnyE_take (i := 0) (v := ?vt3_0) rfl (by decide +kernel) (fun _ _ _ h => h) (Or.inl ⟨by first | rfl | kernel_rfl, ?ht3_0⟩) (by assumption) ?rt3_0
              case ht3_0 =>
                intro wS hSw
                obtain ⟨h0, h1, h2, h3, h4, h5, h6, h7, h8, h9⟩ := hSw
                go_simp
                try with_reducible rfl
              try simp only [Act.put, List.getElem_toArray, List.getElem_cons_zero, List.setIfInBounds_toArray, List.set_cons_succ, List.set_cons_zero]
              refine wpAnyE_take (i := 1) (v := ?vt3_1) rfl (by decide +kernel) (fun _ _ _ h => h) (Or.inl ⟨by first | rfl | kernel_rfl, ?ht3_1⟩) (by assumption) ?rt3_1
              case ht3_1 =>
                intro wS hSw
                obtain ⟨h0, h1, h2, h3, h4, h5, h6, h7, h8, h9⟩ := hSw
                go_simp
                try with_reducible rfl
              try simp only [Act.put, List.getElem_toArray, List.getElem_cons_succ, List.getElem_cons_zero, List.setIfInBounds_toArray, List.set_cons_succ, List.set_cons_zero]
              refine wpAnyE_take (i := 2) (v := ?vt3_2) rfl (by decide +kernel) (fun _ _ _ h => h) (Or.inl ⟨by first | rfl | kernel_rfl, ?ht3_2⟩) (by assumption) ?rt3_2
              case ht3_2 =>
                intro wS hSw
                obtain ⟨h0, h1, h2, h3, h4, h5, h6, h7, h8, h9⟩ := hSw
                go_simp
                try with_reducible rfl
              try simp only [Act.put, List.getElem_toArray, List.getElem_cons_succ, List.getElem_cons_zero, List.setIfInBounds_toArray, List.set_cons_succ, List.set_cons_zero]
              refine wpAnyE_take (i := 3) (v := ?vt3_3) rfl (by decide +kernel) (fun _ _ _ h => h) (Or.inl ⟨by first | rfl | kernel_rfl, ?ht3_3⟩) (by assumption) ?rt3_3
              case ht3_3 =>
                intro wS hSw
                obtain ⟨h0, h1, h2, h3, h4, h5, h6, h7, h8, h9⟩ := hSw
                go_simp
                try with_reducible rfl
              try simp only [Act.put, List.getElem_toArray, List.getElem_cons_succ, List.getElem_cons_zero, List.setIfInBounds_toArray, List.set_cons_succ, List.set_cons_zero]
              refine wpAnyE_take (i := 4) (v := ?vt3_4) rfl (by decide +kernel) (fun _ _ _ h => h) (Or.inl ⟨by first | rfl | kernel_rfl, ?ht3_4⟩) (by assumption) ?rt3_4
              case ht3_4 =>
                intro wS hSw
                obtain ⟨h0, h1, h2, h3, h4, h5, h6, h7, h8, h9⟩ := hSw
                go_simp
                try with_reducible rfl
              try simp only [Act.put, List.getElem_toArray, List.getElem_cons_succ, List.getElem_cons_zero, List.setIfInBounds_toArray, List.set_cons_succ, List.set_cons_zero]
              refine wpAnyE_take (i := 5) (v := ?vt3_5) rfl (by decide +kernel) (fun _ _ _ h => h) (Or.inl ⟨by first | rfl | kernel_rfl, ?ht3_5⟩) (by assumption) ?rt3_5
              case ht3_5 =>
                intro wS hSw
                obtain ⟨h0, h1, h2, h3, h4, h5, h6, h7, h8, h9⟩ := hSw
                go_simp
                try with_reducible rfl
              try simp only [Act.put, List.getElem_toArray, List.getElem_cons_succ, List.getElem_cons_zero, List.setIfInBounds_toArray, List.set_cons_succ, List.set_cons_zero]
              refine wpAnyE_take (i := 6) (v := ?vt3_6) rfl (by decide +kernel) (fun _ _ _ h => h) (Or.inl ⟨by first | rfl | kernel_rfl, ?ht3_6⟩) (by assumption) ?rt3_6
              case ht3_6 =>
                intro wS hSw
                obtain ⟨h0, h1, h2, h3, h4, h5, h6, h7, h8, h9⟩ := hSw
                go_simp
                try with_reducible rfl
              try simp only [Act.put, List.getElem_toArray, List.getElem_cons_succ, List.getElem_cons_zero, List.setIfInBounds_toArray, List.set_cons_succ, List.set_cons_zero]
              refine wpAnyE_take (i := 7) (v := ?vt3_7) rfl (by decide +kernel) (fun _ _ _ h => h) (Or.inl ⟨by first | rfl | kernel_rfl, ?ht3_7⟩) (by assumption) ?rt3_7
              case ht3_7 =>
                intro wS hSw
                obtain ⟨h0, h1, h2, h3, h4, h5, h6, h7, h8, h9⟩ := hSw
                go_simp
                try with_reducible rfl
              try simp only [Act.put, List.getElem_toArray, List.getElem_cons_succ, List.getElem_cons_zero, List.setIfInBounds_toArray, List.set_cons_succ, List.set_cons_zero]
              refine wpAnyE_take (i := 8) (v := ?vt3_8) rfl (by decide +kernel) (fun _ _ _ h => h) (Or.inl ⟨by first | rfl | kernel_rfl, ?ht3_8⟩) (by assumption) ?rt3_8
              case ht3_8 =>
                intro wS hSw
                obtain ⟨h0, h1, h2, h3, h4, h5, h6, h7, h8, h9⟩ := hSw
                go_simp
                try with_reducible rfl
              try simp only [Act.put, List.getElem_toArray, List.getElem_cons_succ, List.getElem_cons_zero, List.setIfInBounds_toArray, List.set_cons_succ, List.set_cons_zero]
              refine wpAnyE_ready (rs := [9]) (by kernel_rfl) (by simp) ?_
              refine AllReadyE.cons (i := 9) rfl (by decide) (fun K hK => ?_) AllReadyE.nil
              go_simp
              refine (D1.out WA.drew).mono ?_
              rintro e U1 ⟨rfl, hb⟩
              go_simp
              have AU1 := Lib.hid (AU0.out.trans (hb.mono AU0.out.size))
              have HSU1 := Lib.hid (CSx.out U1 AU1.out)
              clear hb
              refine hK.out _ _ HSU1.out (fun hHeld => ?_)
              clear hK K
              try simp only [Act.put, List.getElem_toArray, List.getElem_cons_succ, List.getElem_cons_zero, List.setIfInBounds_toArray, List.set_cons_succ, List.set_cons_zero]
              refine wpAnyE_take (i := 10) (v := ?vt3_10) rfl (by decide +kernel) (fun _ _ _ h => h) (Or.inl ⟨by first | rfl | kernel_rfl, ?ht3_10⟩) (by assumption) ?rt3_10
              case ht3_10 =>
                intro wS hSw
                obtain ⟨h0, h1, h2, h3, h4, h5, h6, h7, h8, h9⟩ := hSw
                go_simp
                try with_reducible rfl
              try simp only [Act.put, List.getElem_toArray, List.getElem_cons_succ, List.getElem_cons_zero, List.setIfInBounds_toArray, List.set_cons_succ, List.set_cons_zero]
              refine wpAnyE_take (i := 11) (v := ?vt3_11) rfl (by decide +kernel) (fun _ _ _ h => h) (Or.inl ⟨by first | rfl | kernel_rfl, ?ht3_11⟩) (by assumption) ?rt3_11
              case ht3_11 =>
                intro wS hSw
                obtain ⟨h0, h1, h2, h3, h4, h5, h6, h7, h8, h9⟩ := hSw
                go_simp
                try with_reducible rfl
              try simp only [Act.put, List.getElem_toArray, List.getElem_cons_succ, List.getElem_cons_zero, List.setIfInBounds_toArray, List.set_cons_succ, List.set_cons_zero]
              refine wpAnyE_take (i := 12) (v := ?vt3_12) rfl (by decide +kernel) (fun _ _ _ h => h) (Or.inl ⟨by first | rfl | kernel_rfl, ?ht3_12⟩) (by assumption) ?rt3_12
              case ht3_12 =>
                intro wS hSw
                obtain ⟨h0, h1, h2, h3, h4, h5, h6, h7, h8, h9⟩ := hSw
                go_simp
                try with_reducible rfl
              try simp only [Act.put, List.getElem_toArray, List.getElem_cons_succ, List.getElem_cons_zero, List.setIfInBounds_toArray, List.set_cons_succ, List.set_cons_zero]
              refine wpAnyE_take (i := 13) (v := undef) rfl (by decide +kernel) (fun _ _ _ h => h) (Or.inr ⟨by kernel_rfl, rfl⟩) (by assumption) ?rt3_13
              try simp only [Act.put, List.getElem_toArray, List.getElem_cons_succ, List.getElem_cons_zero, List.setIfInBounds_toArray, List.set_cons_succ, List.set_cons_zero]
              refine wpAnyE_take (i := 14) (v := undef) rfl (by decide +kernel) (fun _ _ _ h => h) (Or.inr ⟨by kernel_rfl, rfl⟩) (by assumption) ?rt3_14
              try simp only [Act.put, List.getElem_toArray, List.getElem_cons_succ, List.getElem_cons_zero, List.setIfInBounds_toArray, List.set_cons_succ, List.set_cons_zero]
              refine wpAnyE_take (i := 15) (v := undef) rfl (by decide +kernel) (fun _ _ _ h => h) (Or.inr ⟨by kernel_rfl, rfl⟩) (by assumption) ?rt3_15
              try simp only [Act.put, List.getElem_toArray, List.getElem_cons_succ, List.getElem_cons_zero, List.setIfInBounds_toArray, List.set_cons_succ, List.set_cons_zero]
              refine wpAnyE_take (i := 16) (v := undef) rfl (by decide +kernel) (fun _ _ _ h => h) (Or.inr ⟨by kernel_rfl, rfl⟩) (by assumption) ?rt3_16
              try simp only [Act.put, List.getElem_toArray, List.getElem_cons_succ, List.getElem_cons_zero, List.setIfInBounds_toArray, List.set_cons_succ, List.set_cons_zero]
              refine wpAnyE_take (i := 17) (v := undef) rfl (by decide +kernel) (fun _ _ _ h => h) (Or.inr ⟨by kernel_rfl, rfl⟩) (by assumption) ?rt3_17
              try simp only [Act.put, List.getElem_toArray, List.getElem_cons_succ, List.getElem_cons_zero, List.setIfInBounds_toArray, List.set_cons_succ, List.set_cons_zero]
              refine wpAnyE_take (i := 18) (v := undef) rfl (by decide +kernel) (fun _ _ _ h => h) (Or.inr ⟨by kernel_rfl, rfl⟩) (by assumption) ?rt3_18
              try simp only [Act.put, List.getElem_toArray, List.getElem_cons_succ, List.getElem_cons_zero, List.setIfInBounds_toArray, List.set_cons_succ, List.set_cons_zero]
              refine wpAnyE_take (i := 19) (v := undef) rfl (by decide +kernel) (fun _ _ _ h => h) (Or.inr ⟨by kernel_rfl, rfl⟩) (by assumption) ?rt3_19
              try simp only [Act.put, List.getElem_toArray, List.getElem_cons_succ, List.getElem_cons_zero, List.setIfInBounds_toArray, List.set_cons_succ, List.set_cons_zero]
              refine wpAnyE_ready (rs := [20]) (by kernel_rfl) (by simp) ?_
              refine AllReadyE.last (i := 20) rfl rfl (fun K hK => ?_)
              go_simp
              refine hK.out _ _ ?_
              clear hK K
              try simp only [Act.put, List.getElem_toArray, List.getElem_cons_succ, List.getElem_cons_zero, List.setIfInBounds_toArray, List.set_cons_succ, List.set_cons_zero]
              refine wpAnyE_done (by kernel_rfl) ?_ _
              try simp only [List.getElem_toArray, List.getElem_cons_succ, List.getElem_cons_zero, List.setIfInBounds_toArray, List.set_cons_succ, List.set_cons_zero]
              have BX := Lib.hid (HBW.out.trans (AU1.out.mono HBW.out.size))
              have HE := Lib.hid (cv_pr (prT_cut HN.out (show k + 1 ≤ n by have := HLT.out; omega)))
              go_wp2_with fail
              go_ret
              exact ⟨by rw [HE.out]; rfl, BX.out⟩
            · have HP := Lib.hid (HP1.out hbf)
              rw [hbf] at D1
              have D2 := Lib.hid (fun W (hb : Below WA.heap.size WA W) => conflictsOf (zs.take (k * 5)) u0 u1 u2 u3 u4 (some ⟨b1, o1, none⟩) k c W (by have := HLT.out; omega) HAT.out HCK.out (rd_take (HR.out.next (HBW.out.trans (hb.mono HBW.out.size))) (by have := HLT.out; omega)))
              rw [cfL_take k (Nat.le_refl _), hCF] at D2
              generalize Lc.length = N at *
              clear h0 HP0 HP1 HP2 HQ hp hbf hCF
              by_cases hz : N = 0
              · have HN := Lib.hid (show prT zs (k + 1) = true by rw [HP.out, decide_eq_true hz])
                have hz1 : decide ((0 : Int) < (N : Int)) = false := decide_eq_false (by omega)
                have hz2 : decide (0 < N) = false := decide_eq_false (by omega)
                clear hz
                have CSx := Lib.hid (show ∀ WZ : World, Below WA.heap.size WA WZ → (World.cell? WZ ⟨bx, 0, none⟩ = some (.int .i64 u0) ∧ World.cell? WZ ⟨bx, 1, none⟩ = some (.int .i64 u1) ∧ World.cell? WZ ⟨bx, 2, none⟩ = some (.int .i64 u2) ∧ World.cell? WZ ⟨bx, 3, none⟩ = some (.int .i64 u3) ∧ World.cell? WZ ⟨bx, 4, none⟩ = some (.int .i64 u4) ∧ World.cell? WZ ⟨b1, o1 + p * 5, none⟩ = some (.int .i64 v0) ∧ World.cell? WZ ⟨b1, o1 + p * 5 + 1, none⟩ = some (.int .i64 v1) ∧ World.cell? WZ ⟨b1, o1 + p * 5 + 2, none⟩ = some (.int .i64 v2) ∧ World.cell? WZ ⟨b1, o1 + p * 5 + 3, none⟩ = some (.int .i64 v3) ∧ World.cell? WZ ⟨b1, o1 + p * 5 + 4, none⟩ = some (.int .i64 v4)) from fun WZ hz => ⟨(SA.out.old hz).cell 0, (SA.out.old hz).cell 1, (SA.out.old hz).cell 2, (SA.out.old hz).cell 3, (SA.out.old hz).cell 4, ((HBA.out.trans (hz.mono HBW.out.size)).cell (p := ⟨b1, o1 + p * 5, none⟩) l1.out).trans q0.out, ((HBA.out.trans (hz.mono HBW.out.size)).cell (p := ⟨b1, o1 + p * 5 + 1, none⟩) l1.out).trans q1.out, ((HBA.out.trans (hz.mono HBW.out.size)).cell (p := ⟨b1, o1 + p * 5 + 2, none⟩) l1.out).trans q2.out, ((HBA.out.trans (hz.mono HBW.out.size)).cell (p := ⟨b1, o1 + p * 5 + 3, none⟩) l1.out).trans q3.out, ((HBA.out.trans (hz.mono HBW.out.size)).cell (p := ⟨b1, o1 + p * 5 + 4, none⟩) l1.out).trans q4.out⟩)
                have HS0 := Lib.hid (CSx.out _ (Below.refl WA.heap.size WA).drew)
                have AU0 := Lib.hid ((Below.refl WA.heap.size WA).drew)
                go_upto_region 6 with fail
                refine wp_region_tail (S := fun w' => World.cell? w' ⟨bx, 0, none⟩ = some (.int .i64 u0) ∧ World.cell? w' ⟨bx, 1, none⟩ = some (.int .i64 u1) ∧ World.cell? w' ⟨bx, 2, none⟩ = some (.int .i64 u2) ∧ World.cell? w' ⟨bx, 3, none⟩ = some (.int .i64 u3) ∧ World.cell? w' ⟨bx, 4, none⟩ = some (.int .i64 u4) ∧ World.cell? w' ⟨b1, o1 + p * 5, none⟩ = some (.int .i64 v0) ∧ World.cell? w' ⟨b1, o1 + p * 5 + 1, none⟩ = some (.int .i64 v1) ∧ World.cell? w' ⟨b1, o1 + p * 5 + 2, none⟩ = some (.int .i64 v2) ∧ World.cell? w' ⟨b1, o1 + p * 5 + 3, none⟩ = some (.int .i64 v3) ∧ World.cell? w' ⟨b1, o1 + p * 5 + 4, none⟩ = some (.int .i64 v4)) 20 (by kernel_rfl) HS0.out (fun hHeld => ?_)
                try simp only [Act.put, List.getElem_toArray, List.getElem_cons_succ, List.getElem_cons_zero, List.setIfInBounds_toArray, List.set_cons_succ, List.set_cons_zero]
                refine wpAnyE_take (i := 0) (v := ?vt4_0) rfl (by decide +kernel) (fun _ _ _ h => h) (Or.inl ⟨by first | rfl | kernel_rfl, ?ht4_0⟩) (by assumption) ?rt4_0
                case ht4_0 =>
                  intro wS hSw
                  obtain ⟨h0, h1, h2, h3, h4, h5, h6, h7, h8, h9⟩ := hSw
                  go_simp
                  try with_reducible rfl
                try simp only [Act.put, List.getElem_toArray, List.getElem_cons_zero, List.setIfInBounds_toArray, List.set_cons_succ, List.set_cons_zero]
                refine wpAnyE_take (i := 1) (v := ?vt4_1) rfl (by decide +kernel) (fun _ _ _ h => h) (Or.inl ⟨by first | rfl | kernel_rfl, ?ht4_1⟩) (by assumption) ?rt4_1
                case ht4_1 =>
                  intro wS hSw
                  obtain ⟨h0, h1, h2, h3, h4, h5, h6, h7, h8, h9⟩ := hSw
                  go_simp
                  try with_reducible rfl
                try simp only [Act.put, List.getElem_toArray, List.getElem_cons_succ, List.getElem_cons_zero, List.setIfInBounds_toArray, List.set_cons_succ, List.set_cons_zero]
                refine wpAnyE_take (i := 2) (v := ?vt4_2) rfl (by decide +kernel) (fun _ _ _ h => h) (Or.inl ⟨by first | rfl | kernel_rfl, ?ht4_2⟩) (by assumption) ?rt4_2
                case ht4_2 =>
                  intro wS hSw
                  obtain ⟨h0, h1, h2, h3, h4, h5, h6, h7, h8, h9⟩ := hSw
                  go_simp
                  try with_reducible rfl
                try simp only [Act.put, List.getElem_toArray, List.getElem_cons_succ, List.getElem_cons_zero, List.setIfInBounds_toArray, List.set_cons_succ, List.set_cons_zero]
                refine wpAnyE_take (i := 3) (v := ?vt4_3) rfl (by decide +kernel) (fun _ _ _ h => h) (Or.inl ⟨by first | rfl | kernel_rfl, ?ht4_3⟩) (by assumption) ?rt4_3
                case ht4_3 =>
                  intro wS hSw
                  obtain ⟨h0, h1, h2, h3, h4, h5, h6, h7, h8, h9⟩ := hSw
                  go_simp
                  try with_reducible rfl
                try simp only [Act.put, List.getElem_toArray, List.getElem_cons_succ, List.getElem_cons_zero, List.setIfInBounds_toArray, List.set_cons_succ, List.set_cons_zero]
                refine wpAnyE_take (i := 4) (v := ?vt4_4) rfl (by decide +kernel) (fun _ _ _ h => h) (Or.inl ⟨by first | rfl | kernel_rfl, ?ht4_4⟩) (by assumption) ?rt4_4
                case ht4_4 =>
                  intro wS hSw
                  obtain ⟨h0, h1, h2, h3, h4, h5, h6, h7, h8, h9⟩ := hSw
                  go_simp
                  try with_reducible rfl
                try simp only [Act.put, List.getElem_toArray, List.getElem_cons_succ, List.getElem_cons_zero, List.setIfInBounds_toArray, List.set_cons_succ, List.set_cons_zero]
                refine wpAnyE_take (i := 5) (v := ?vt4_5) rfl (by decide +kernel) (fun _ _ _ h => h) (Or.inl ⟨by first | rfl | kernel_rfl, ?ht4_5⟩) (by assumption) ?rt4_5
                case ht4_5 =>
                  intro wS hSw
                  obtain ⟨h0, h1, h2, h3, h4, h5, h6, h7, h8, h9⟩ := hSw
                  go_simp
                  try with_reducible rfl
                try simp only [Act.put, List.getElem_toArray, List.getElem_cons_succ, List.getElem_cons_zero, List.setIfInBounds_toArray, List.set_cons_succ, List.set_cons_zero]
                refine wpAnyE_take (i := 6) (v := ?vt4_6) rfl (by decide +kernel) (fun _ _ _ h => h) (Or.inl ⟨by first | rfl | kernel_rfl, ?ht4_6⟩) (by assumption) ?rt4_6
                case ht4_6 =>
                  intro wS hSw
                  obtain ⟨h0, h1, h2, h3, h4, h5, h6, h7, h8, h9⟩ := hSw
                  go_simp
                  try with_reducible rfl
                try simp only [Act.put, List.getElem_toArray, List.getElem_cons_succ, List.getElem_cons_zero, List.setIfInBounds_toArray, List.set_cons_succ, List.set_cons_zero]
                refine wpAnyE_take (i := 7) (v := ?vt4_7) rfl (by decide +kernel) (fun _ _ _ h => h) (Or.inl ⟨by first | rfl | kernel_rfl, ?ht4_7⟩) (by assumption) ?rt4_7
                case ht4_7 =>
                  intro wS hSw
                  obtain ⟨h0, h1, h2, h3, h4, h5, h6, h7, h8, h9⟩ := hSw
                  go_simp
                  try with_reducible rfl
                try simp only [Act.put, List.getElem_toArray, List.getElem_cons_succ, List.getElem_cons_zero, List.setIfInBounds_toArray, List.set_cons_succ, List.set_cons_zero]
                refine wpAnyE_take (i := 8) (v := ?vt4_8) rfl (by decide +kernel) (fun _ _ _ h => h) (Or.inl ⟨by first | rfl | kernel_rfl, ?ht4_8⟩) (by assumption) ?rt4_8
                case ht4_8 =>
                  intro wS hSw
                  obtain ⟨h0, h1, h2, h3, h4, h5, h6, h7, h8, h9⟩ := hSw
                  go_simp
                  try with_reducible rfl
                try simp only [Act.put, List.getElem_toArray, List.getElem_cons_succ, List.getElem_cons_zero, List.setIfInBounds_toArray, List.set_cons_succ, List.set_cons_zero]
                refine wpAnyE_ready (rs := [9]) (by kernel_rfl) (by simp) ?_
                refine AllReadyE.cons (i := 9) rfl (by decide) (fun K hK => ?_) AllReadyE.nil
                go_simp
                refine (D1.out WA.drew).mono ?_
                rintro e U1 ⟨rfl, hb⟩
                go_simp
                have AU1 := Lib.hid (AU0.out.trans (hb.mono AU0.out.size))
                have HSU1 := Lib.hid (CSx.out U1 AU1.out)
                clear hb
                refine hK.out _ _ HSU1.out (fun hHeld => ?_)
                clear hK K
                try simp only [Act.put, List.getElem_toArray, List.getElem_cons_succ, List.getElem_cons_zero, List.setIfInBounds_toArray, List.set_cons_succ, List.set_cons_zero]
                refine wpAnyE_take (i := 10) (v := ?vt4_10) rfl (by decide +kernel) (fun _ _ _ h => h) (Or.inl ⟨by first | rfl | kernel_rfl, ?ht4_10⟩) (by assumption) ?rt4_10
                case ht4_10 =>
                  intro wS hSw
                  obtain ⟨h0, h1, h2, h3, h4, h5, h6, h7, h8, h9⟩ := hSw
                  go_simp
                  try with_reducible rfl
                try simp only [Act.put, List.getElem_toArray, List.getElem_cons_succ, List.getElem_cons_zero, List.setIfInBounds_toArray, List.set_cons_succ, List.set_cons_zero]
                refine wpAnyE_take (i := 11) (v := ?vt4_11) rfl (by decide +kernel) (fun _ _ _ h => h) (Or.inl ⟨by first | rfl | kernel_rfl, ?ht4_11⟩) (by assumption) ?rt4_11
                case ht4_11 =>
                  intro wS hSw
                  obtain ⟨h0, h1, h2, h3, h4, h5, h6, h7, h8, h9⟩ := hSw
                  go_simp
                  try with_reducible rfl
                try simp only [Act.put, List.getElem_toArray, List.getElem_cons_succ, List.getElem_cons_zero, List.setIfInBounds_toArray, List.set_cons_succ, List.set_cons_zero]
                refine wpAnyE_take (i := 12) (v := ?vt4_12) rfl (by decide +kernel) (fun _ _ _ h => h) (Or.inl ⟨by first | rfl | kernel_rfl, ?ht4_12⟩) (by assumption) ?rt4_12
                case ht4_12 =>
                  intro wS hSw
                  obtain ⟨h0, h1, h2, h3, h4, h5, h6, h7, h8, h9⟩ := hSw
                  go_simp
                  try with_reducible rfl
                try simp only [Act.put, List.getElem_toArray, List.getElem_cons_succ, List.getElem_cons_zero, List.setIfInBounds_toArray, List.set_cons_succ, List.set_cons_zero]
                refine wpAnyE_take (i := 13) (v := ?vt4_13) rfl (by decide +kernel) (fun _ _ _ h => h) (Or.inl ⟨by first | rfl | kernel_rfl, ?ht4_13⟩) (by assumption) ?rt4_13
                case ht4_13 =>
                  intro wS hSw
                  obtain ⟨h0, h1, h2, h3, h4, h5, h6, h7, h8, h9⟩ := hSw
                  go_simp
                  try with_reducible rfl
                try simp only [Act.put, List.getElem_toArray, List.getElem_cons_succ, List.getElem_cons_zero, List.setIfInBounds_toArray, List.set_cons_succ, List.set_cons_zero]
                refine wpAnyE_take (i := 14) (v := ?vt4_14) rfl (by decide +kernel) (fun _ _ _ h => h) (Or.inl ⟨by first | rfl | kernel_rfl, ?ht4_14⟩) (by assumption) ?rt4_14
                case ht4_14 =>
                  intro wS hSw
                  obtain ⟨h0, h1, h2, h3, h4, h5, h6, h7, h8, h9⟩ := hSw
                  go_simp
                  try with_reducible rfl
                try simp only [Act.put, List.getElem_toArray, List.getElem_cons_succ, List.getElem_cons_zero, List.setIfInBounds_toArray, List.set_cons_succ, List.set_cons_zero]
                refine wpAnyE_take (i := 15) (v := ?vt4_15) rfl (by decide +kernel) (fun _ _ _ h => h) (Or.inl ⟨by first | rfl | kernel_rfl, ?ht4_15⟩) (by assumption) ?rt4_15
                case ht4_15 =>
                  intro wS hSw
                  obtain ⟨h0, h1, h2, h3, h4, h5, h6, h7, h8, h9⟩ := hSw
                  go_simp
                  try with_reducible rfl
                try simp only [Act.put, List.getElem_toArray, List.getElem_cons_succ, List.getElem_cons_zero, List.setIfInBounds_toArray, List.set_cons_succ, List.set_cons_zero]
                refine wpAnyE_take (i := 16) (v := ?vt4_16) rfl (by decide +kernel) (fun _ _ _ h => h) (Or.inl ⟨by first | rfl | kernel_rfl, ?ht4_16⟩) (by assumption) ?rt4_16
                case ht4_16 =>
                  intro wS hSw
                  obtain ⟨h0, h1, h2, h3, h4, h5, h6, h7, h8, h9⟩ := hSw
                  go_simp
                  try with_reducible rfl
                try simp only [Act.put, List.getElem_toArray, List.getElem_cons_succ, List.getElem_cons_zero, List.setIfInBounds_toArray, List.set_cons_succ, List.set_cons_zero]
                refine wpAnyE_ready (rs := [17]) (by kernel_rfl) (by simp) ?_
                refine AllReadyE.cons (i := 17) rfl (by decide) (fun K hK => ?_) AllReadyE.nil
                go_simp
                refine (D2.out U1 AU1.out).mono ?_
                rintro e U2 ⟨vq, rfl, ho, hb⟩
                obtain ⟨Aq, cq, rfl⟩ := own_sliceZ ho
                clear ho
                go_simp
                have AU2 := Lib.hid (AU1.out.trans (hb.mono AU1.out.size))
                have HSU2 := Lib.hid (CSx.out U2 AU2.out)
                clear hb
                refine hK.out _ _ HSU2.out (fun hHeld => ?_)
                clear hK K
                try simp only [Act.put, List.getElem_toArray, List.getElem_cons_succ, List.getElem_cons_zero, List.setIfInBounds_toArray, List.set_cons_succ, List.set_cons_zero]
                refine wpAnyE_take (i := 18) (v := ?vt4_18) rfl (by decide +kernel) (fun _ _ _ h => h) (Or.inl ⟨by first | rfl | kernel_rfl, ?ht4_18⟩) (by assumption) ?rt4_18
                case ht4_18 =>
                  intro wS hSw
                  obtain ⟨h0, h1, h2, h3, h4, h5, h6, h7, h8, h9⟩ := hSw
                  go_simp
                  try with_reducible rfl
                try simp only [Act.put, List.getElem_toArray, List.getElem_cons_succ, List.getElem_cons_zero, List.setIfInBounds_toArray, List.set_cons_succ, List.set_cons_zero]
                refine wpAnyE_take (i := 19) (v := ?vt4_19) rfl (by decide +kernel) (fun _ _ _ h => h) (Or.inl ⟨by first | rfl | kernel_rfl, ?ht4_19⟩) (by assumption) ?rt4_19
                case ht4_19 =>
                  intro wS hSw
                  obtain ⟨h0, h1, h2, h3, h4, h5, h6, h7, h8, h9⟩ := hSw
                  go_simp
                  try with_reducible rfl
                try simp only [Act.put, List.getElem_toArray, List.getElem_cons_succ, List.getElem_cons_zero, List.setIfInBounds_toArray, List.set_cons_succ, List.set_cons_zero]
                refine wpAnyE_ready (rs := [20]) (by kernel_rfl) (by simp) ?_
                refine AllReadyE.last (i := 20) rfl rfl (fun K hK => ?_)
                go_simp
                refine hK.out _ _ ?_
                clear hK K
                try simp only [Act.put, List.getElem_toArray, List.getElem_cons_succ, List.getElem_cons_zero, List.setIfInBounds_toArray, List.set_cons_succ, List.set_cons_zero]
                refine wpAnyE_done (by kernel_rfl) ?_ _
                try simp only [List.getElem_toArray, List.getElem_cons_succ, List.getElem_cons_zero, List.setIfInBounds_toArray, List.set_cons_succ, List.set_cons_zero]
                have BX := Lib.hid (HBW.out.trans (AU2.out.mono HBW.out.size))
                go_wp2_with fail
                go_roundw
                case rel => exact ⟨k + 1, by have := HLT.out; omega, by go_num, BX.out, HN.out⟩
                case measure => have := HLT.out; simp [intOf]; omega
              · have HN := Lib.hid (show prT zs (k + 1) = false by rw [HP.out, decide_eq_false hz])
                have hz1 : decide ((0 : Int) < (N : Int)) = true := decide_eq_true (by omega)
                have hz2 : decide (0 < N) = true := decide_eq_true (by omega)
                clear hz
                have CSx := Lib.hid (show ∀ WZ : World, Below WA.heap.size WA WZ → (World.cell? WZ ⟨bx, 0, none⟩ = some (.int .i64 u0) ∧ World.cell? WZ ⟨bx, 1, none⟩ = some (.int .i64 u1) ∧ World.cell? WZ ⟨bx, 2, none⟩ = some (.int .i64 u2) ∧ World.cell? WZ ⟨bx, 3, none⟩ = some (.int .i64 u3) ∧ World.cell? WZ ⟨bx, 4, none⟩ = some (.int .i64 u4) ∧ World.cell? WZ ⟨b1, o1 + p * 5, none⟩ = some (.int .i64 v0) ∧ World.cell? WZ ⟨b1, o1 + p * 5 + 1, none⟩ = some (.int .i64 v1) ∧ World.cell? WZ ⟨b1, o1 + p * 5 + 2, none⟩ = some (.int .i64 v2) ∧ World.cell? WZ ⟨b1, o1 + p * 5 + 3, none⟩ = some (.int .i64 v3) ∧ World.cell? WZ ⟨b1, o1 + p * 5 + 4, none⟩ = some (.int .i64 v4)) from fun WZ hz => ⟨(SA.out.old hz).cell 0, (SA.out.old hz).cell 1, (SA.out.old hz).cell 2, (SA.out.old hz).cell 3, (SA.out.old hz).cell 4, ((HBA.out.trans (hz.mono HBW.out.size)).cell (p := ⟨b1, o1 + p * 5, none⟩) l1.out).trans q0.out, ((HBA.out.trans (hz.mono HBW.out.size)).cell (p := ⟨b1, o1 + p * 5 + 1, none⟩) l1.out).trans q1.out, ((HBA.out.trans (hz.mono HBW.out.size)).cell (p := ⟨b1, o1 + p * 5 + 2, none⟩) l1.out).trans q2.out, ((HBA.out.trans (hz.mono HBW.out.size)).cell (p := ⟨b1, o1 + p * 5 + 3, none⟩) l1.out).trans q3.out, ((HBA.out.trans (hz.mono HBW.out.size)).cell (p := ⟨b1, o1 + p * 5 + 4, none⟩) l1.out).trans q4.out⟩)
                have HS0 := Lib.hid (CSx.out _ (Below.refl WA.heap.size WA).drew)
                have AU0 := Lib.hid ((Below.refl WA.heap.size WA).drew)
                go_upto_region 6 with fail
                refine wp_region_tail (S := fun w' => World.cell? w' ⟨bx, 0, none⟩ = some (.int .i64 u0) ∧ World.cell? w' ⟨bx, 1, none⟩ = some (.int .i64 u1) ∧ World.cell? w' ⟨bx, 2, none⟩ = some (.int .i64 u2) ∧ World.cell? w' ⟨bx, 3, none⟩ = some (.int .i64 u3) ∧ World.cell? w' ⟨bx, 4, none⟩ = some (.int .i64 u4) ∧ World.cell? w' ⟨b1, o1 + p * 5, none⟩ = some (.int .i64 v0) ∧ World.cell? w' ⟨b1, o1 + p * 5 + 1, none⟩ = some (.int .i64 v1) ∧ World.cell? w' ⟨b1, o1 + p * 5 + 2, none⟩ = some (.int .i64 v2) ∧ World.cell? w' ⟨b1, o1 + p * 5 + 3, none⟩ = some (.int .i64 v3) ∧ World.cell? w' ⟨b1, o1 + p * 5 + 4, none⟩ = some (.int .i64 v4)) 20 (by kernel_rfl) HS0.out (fun hHeld => ?_)
                try simp only [Act.put, List.getElem_toArray, List.getElem_cons_succ, List.getElem_cons_zero, List.setIfInBounds_toArray, List.set_cons_succ, List.set_cons_zero]
                refine wpAnyE_take (i := 0) (v := ?vt5_0) rfl (by decide +kernel) (fun _ _ _ h => h) (Or.inl ⟨by first | rfl | kernel_rfl, ?ht5_0⟩) (by assumption) ?rt5_0
                case ht5_0 =>
                  intro wS hSw
                  obtain ⟨h0, h1, h2, h3, h4, h5, h6, h7, h8, h9⟩ := hSw
                  go_simp
                  try with_reducible rfl
                try simp only [Act.put, List.getElem_toArray, List.getElem_cons_zero, List.setIfInBounds_toArray, List.set_cons_succ, List.set_cons_zero]
                refine wpAnyE_take (i := 1) (v := ?vt5_1) rfl (by decide +kernel) (fun _ _ _ h => h) (Or.inl ⟨by first | rfl | kernel_rfl, ?ht5_1⟩) (by assumption) ?rt5_1
                case ht5_1 =>
                  intro wS hSw
                  obtain ⟨h0, h1, h2, h3, h4, h5, h6, h7, h8, h9⟩ := hSw
                  go_simp
                  try with_reducible rfl
                try simp only [Act.put, List.getElem_toArray, List.getElem_cons_succ, List.getElem_cons_zero, List.setIfInBounds_toArray, List.set_cons_succ, List.set_cons_zero]
                refine wpAnyE_take (i := 2) (v := ?vt5_2) rfl (by decide +kernel) (fun _ _ _ h => h) (Or.inl ⟨by first | rfl | kernel_rfl, ?ht5_2⟩) (by assumption) ?rt5_2
                case ht5_2 =>
                  intro wS hSw
                  obtain ⟨h0, h1, h2, h3, h4, h5, h6, h7, h8, h9⟩ := hSw
                  go_simp
                  try with_reducible rfl
                try simp only [Act.put, List.getElem_toArray, List.getElem_cons_succ, List.getElem_cons_zero, List.setIfInBounds_toArray, List.set_cons_succ, List.set_cons_zero]
                refine wpAnyE_take (i := 3) (v := ?vt5_3) rfl (by decide +kernel) (fun _ _ _ h => h) (Or.inl ⟨by first | rfl | kernel_rfl, ?ht5_3⟩) (by assumption) ?rt5_3
                case ht5_3 =>
                  intro wS hSw
                  obtain ⟨h0, h1, h2, h3, h4, h5, h6, h7, h8, h9⟩ := hSw
                  go_simp
                  try with_reducible rfl
                try simp only [Act.put, List.getElem_toArray, List.getElem_cons_succ, List.getElem_cons_zero, List.setIfInBounds_toArray, List.set_cons_succ, List.set_cons_zero]
                refine wpAnyE_take (i := 4) (v := ?vt5_4) rfl (by decide +kernel) (fun _ _ _ h => h) (Or.inl ⟨by first | rfl | kernel_rfl, ?ht5_4⟩) (by assumption) ?rt5_4
                case ht5_4 =>
                  intro wS hSw
                  obtain ⟨h0, h1, h2, h3, h4, h5, h6, h7, h8, h9⟩ := hSw
                  go_simp
                  try with_reducible rfl
                try simp only [Act.put, List.getElem_toArray, List.getElem_cons_succ, List.getElem_cons_zero, List.setIfInBounds_toArray, List.set_cons_succ, List.set_cons_zero]
                refine wpAnyE_take (i := 5) (v := ?vt5_5) rfl (by decide +kernel) (fun _ _ _ h => h) (Or.inl ⟨by first | rfl | kernel_rfl, ?ht5_5⟩) (by assumption) ?rt5_5
                case ht5_5 =>
                  intro wS hSw
                  obtain ⟨h0, h1, h2, h3, h4, h5, h6, h7, h8, h9⟩ := hSw
                  go_simp
                  try with_reducible rfl
                try simp only [Act.put, List.getElem_toArray, List.getElem_cons_succ, List.getElem_cons_zero, List.setIfInBounds_toArray, List.set_cons_succ, List.set_cons_zero]
                refine wpAnyE_take (i := 6) (v := ?vt5_6) rfl (by decide +kernel) (fun _ _ _ h => h) (Or.inl ⟨by first | rfl | kernel_rfl, ?ht5_6⟩) (by assumption) ?rt5_6
                case ht5_6 =>
                  intro wS hSw
                  obtain ⟨h0, h1, h2, h3, h4, h5, h6, h7, h8, h9⟩ := hSw
                  go_simp
                  try with_reducible rfl
                try simp only [Act.put, List.getElem_toArray, List.getElem_cons_succ, List.getElem_cons_zero, List.setIfInBounds_toArray, List.set_cons_succ, List.set_cons_zero]
                refine wpAnyE_take (i := 7) (v := ?vt5_7) rfl (by decide +kernel) (fun _ _ _ h => h) (Or.inl ⟨by first | rfl | kernel_rfl, ?ht5_7⟩) (by assumption) ?rt5_7
                case ht5_7 =>
                  intro wS hSw
                  obtain ⟨h0, h1, h2, h3, h4, h5, h6, h7, h8, h9⟩ := hSw
                  go_simp
                  try with_reducible rfl
                try simp only [Act.put, List.getElem_toArray, List.getElem_cons_succ, List.getElem_cons_zero, List.setIfInBounds_toArray, List.set_cons_succ, List.set_cons_zero]
                refine wpAnyE_take (i := 8) (v := ?vt5_8) rfl (by decide +kernel) (fun _ _ _ h => h) (Or.inl ⟨by first | rfl | kernel_rfl, ?ht5_8⟩) (by assumption) ?rt5_8
                case ht5_8 =>
                  intro wS hSw
                  obtain ⟨h0, h1, h2, h3, h4, h5, h6, h7, h8, h9⟩ := hSw
                  go_simp
                  try with_reducible rfl
                try simp only [Act.put, List.getElem_toArray, List.getElem_cons_succ, List.getElem_cons_zero, List.setIfInBounds_toArray, List.set_cons_succ, List.set_cons_zero]
                refine wpAnyE_ready (rs := [9]) (by kernel_rfl) (by simp) ?_
                refine AllReadyE.cons (i := 9) rfl (by decide) (fun K hK => ?_) AllReadyE.nil
                go_simp
                refine (D1.out WA.drew).mono ?_
                rintro e U1 ⟨rfl, hb⟩
                go_simp
                have AU1 := Lib.hid (AU0.out.trans (hb.mono AU0.out.size))
                have HSU1 := Lib.hid (CSx.out U1 AU1.out)
                clear hb
                refine hK.out _ _ HSU1.out (fun hHeld => ?_)
                clear hK K
                try simp only [Act.put, List.getElem_toArray, List.getElem_cons_succ, List.getElem_cons_zero, List.setIfInBounds_toArray, List.set_cons_succ, List.set_cons_zero]
                refine wpAnyE_take (i := 10) (v := ?vt5_10) rfl (by decide +kernel) (fun _ _ _ h => h) (Or.inl ⟨by first | rfl | kernel_rfl, ?ht5_10⟩) (by assumption) ?rt5_10
                case ht5_10 =>
                  intro wS hSw
                  obtain ⟨h0, h1, h2, h3, h4, h5, h6, h7, h8, h9⟩ := hSw
                  go_simp
                  try with_reducible rfl
                try simp only [Act.put, List.getElem_toArray, List.getElem_cons_succ, List.getElem_cons_zero, List.setIfInBounds_toArray, List.set_cons_succ, List.set_cons_zero]
                refine wpAnyE_take (i := 11) (v := ?vt5_11) rfl (by decide +kernel) (fun _ _ _ h => h) (Or.inl ⟨by first | rfl | kernel_rfl, ?ht5_11⟩) (by assumption) ?rt5_11
                case ht5_11 =>
                  intro wS hSw
                  obtain ⟨h0, h1, h2, h3, h4, h5, h6, h7, h8, h9⟩ := hSw
                  go_simp
                  try with_reducible rfl
                try simp only [Act.put, List.getElem_toArray, List.getElem_cons_succ, List.getElem_cons_zero, List.setIfInBounds_toArray, List.set_cons_succ, List.set_cons_zero]
                refine wpAnyE_take (i := 12) (v := ?vt5_12) rfl (by decide +kernel) (fun _ _ _ h => h) (Or.inl ⟨by first | rfl | kernel_rfl, ?ht5_12⟩) (by assumption) ?rt5_12
                case ht5_12 =>
                  intro wS hSw
                  obtain ⟨h0, h1, h2, h3, h4, h5, h6, h7, h8, h9⟩ := hSw
                  go_simp
                  try with_reducible rfl
                try simp only [Act.put, List.getElem_toArray, List.getElem_cons_succ, List.getElem_cons_zero, List.setIfInBounds_toArray, List.set_cons_succ, List.set_cons_zero]
                refine wpAnyE_take (i := 13) (v := ?vt5_13) rfl (by decide +kernel) (fun _ _ _ h => h) (Or.inl ⟨by first | rfl | kernel_rfl, ?ht5_13⟩) (by assumption) ?rt5_13
                case ht5_13 =>
                  intro wS hSw
                  obtain ⟨h0, h1, h2, h3, h4, h5, h6, h7, h8, h9⟩ := hSw
                  go_simp
                  try with_reducible rfl
                try simp only [Act.put, List.getElem_toArray, List.getElem_cons_succ, List.getElem_cons_zero, List.setIfInBounds_toArray, List.set_cons_succ, List.set_cons_zero]
                refine wpAnyE_take (i := 14) (v := ?vt5_14) rfl (by decide +kernel) (fun _ _ _ h => h) (Or.inl ⟨by first | rfl | kernel_rfl, ?ht5_14⟩) (by assumption) ?rt5_14
                case ht5_14 =>
                  intro wS hSw
                  obtain ⟨h0, h1, h2, h3, h4, h5, h6, h7, h8, h9⟩ := hSw
                  go_simp
                  try with_reducible rfl
                try simp only [Act.put, List.getElem_toArray, List.getElem_cons_succ, List.getElem_cons_zero, List.setIfInBounds_toArray, List.set_cons_succ, List.set_cons_zero]
                refine wpAnyE_take (i := 15) (v := ?vt5_15) rfl (by decide +kernel) (fun _ _ _ h => h) (Or.inl ⟨by first | rfl | kernel_rfl, ?ht5_15⟩) (by assumption) ?rt5_15
                case ht5_15 =>
                  intro wS hSw
                  obtain ⟨h0, h1, h2, h3, h4, h5, h6, h7, h8, h9⟩ := hSw
                  go_simp
                  try with_reducible rfl
                try simp only [Act.put, List.getElem_toArray, List.getElem_cons_succ, List.getElem_cons_zero, List.setIfInBounds_toArray, List.set_cons_succ, List.set_cons_zero]
                refine wpAnyE_take (i := 16) (v := ?vt5_16) rfl (by decide +kernel) (fun _ _ _ h => h) (Or.inl ⟨by first | rfl | kernel_rfl, ?ht5_16⟩) (by assumption) ?rt5_16
                case ht5_16 =>
                  intro wS hSw
                  obtain ⟨h0, h1, h2, h3, h4, h5, h6, h7, h8, h9⟩ := hSw
                  go_simp
                  try with_reducible rfl
                try simp only [Act.put, List.getElem_toArray, List.getElem_cons_succ, List.getElem_cons_zero, List.setIfInBounds_toArray, List.set_cons_succ, List.set_cons_zero]
                refine wpAnyE_ready (rs := [17]) (by kernel_rfl) (by simp) ?_
                refine AllReadyE.cons (i := 17) rfl (by decide) (fun K hK => ?_) AllReadyE.nil
                go_simp
                refine (D2.out U1 AU1.out).mono ?_
                rintro e U2 ⟨vq, rfl, ho, hb⟩
                obtain ⟨Aq, cq, rfl⟩ := own_sliceZ ho
                clear ho
                go_simp
                have AU2 := Lib.hid (AU1.out.trans (hb.mono AU1.out.size))
                have HSU2 := Lib.hid (CSx.out U2 AU2.out)
                clear hb
                refine hK.out _ _ HSU2.out (fun hHeld => ?_)
                clear hK K
                try simp only [Act.put, List.getElem_toArray, List.getElem_cons_succ, List.getElem_cons_zero, List.setIfInBounds_toArray, List.set_cons_succ, List.set_cons_zero]
                refine wpAnyE_take (i := 18) (v := ?vt5_18) rfl (by decide +kernel) (fun _ _ _ h => h) (Or.inl ⟨by first | rfl | kernel_rfl, ?ht5_18⟩) (by assumption) ?rt5_18
                case ht5_18 =>
                  intro wS hSw
                  obtain ⟨h0, h1, h2, h3, h4, h5, h6, h7, h8, h9⟩ := hSw
                  go_simp
                  try with_reducible rfl
                try simp only [Act.put, List.getElem_toArray, List.getElem_cons_succ, List.getElem_cons_zero, List.setIfInBounds_toArray, List.set_cons_succ, List.set_cons_zero]
                refine wpAnyE_take (i := 19) (v := ?vt5_19) rfl (by decide +kernel) (fun _ _ _ h => h) (Or.inl ⟨by first | rfl | kernel_rfl, ?ht5_19⟩) (by assumption) ?rt5_19
                case ht5_19 =>
                  intro wS hSw
                  obtain ⟨h0, h1, h2, h3, h4, h5, h6, h7, h8, h9⟩ := hSw
                  go_simp
                  try with_reducible rfl
                try simp only [Act.put, List.getElem_toArray, List.getElem_cons_succ, List.getElem_cons_zero, List.setIfInBounds_toArray, List.set_cons_succ, List.set_cons_zero]
                refine wpAnyE_ready (rs := [20]) (by kernel_rfl) (by simp) ?_
                refine AllReadyE.last (i := 20) rfl rfl (fun K hK => ?_)
                go_simp
                refine hK.out _ _ ?_
                clear hK K
                try simp only [Act.put, List.getElem_toArray, List.getElem_cons_succ, List.getElem_cons_zero, List.setIfInBounds_toArray, List.set_cons_succ, List.set_cons_zero]
                refine wpAnyE_done (by kernel_rfl) ?_ _
                try simp only [List.getElem_toArray, List.getElem_cons_succ, List.getElem_cons_zero, List.setIfInBounds_toArray, List.set_cons_succ, List.set_cons_zero]
                have BX := Lib.hid (HBW.out.trans (AU2.out.mono HBW.out.size))
                have HE := Lib.hid (cv_pr (prT_cut HN.out (show k + 1 ≤ n by have := HLT.out; omega)))
                go_wp2_with fail
                go_ret
                exact ⟨by rw [HE.out]; rfl, BX.out⟩
        · obtain rfl : k = n := by omega
          have HE := Lib.hid (cv_of HAL.out hpr HN10.out)
          have BX := Lib.hid hb
          clear hb hpr HR HAL HN10
          go_wp2_with fail
          go_ret
          exact ⟨by rw [HE.out]; rfl, BX.out⟩
  · have g10 : decide ((10 : Int) < (n : Int)) = true := decide_eq_true (by omega)
    have g10b : decide (10 < n) = true := decide_eq_true (by omega)
    have HE := Lib.hid (cvB_len (zs := zs) (n := n) (by omega))
    clear h1 hn10
    go_enter Try.func23, Try.ntmps23
    go_wp2_with fail
    go_ret
    exact ⟨by rw [HE.out]; rfl, Below.refl _ _⟩
end Go.Proofs.Ytglonedhoenkpaa.lvlc
