/- spec's SharedTime. -/
import Derived.Test.YtndogafihaooiaaClkT
namespace Go.Proofs.Ytndogafihaooiaa.clku
open Go.RowKit Go.Proofs.Ytndogafihaooiaa.ints Go.Proofs.Ytndogafihaooiaa.lst Go.Proofs.Ytndogafihaooiaa.in_ Go.Proofs.Ytndogafihaooiaa.ats Go.Proofs.Ytndogafihaooiaa.clk

theorem at_both {os ts : List Int} {w : World} {A C : Option Addr} {n k : Nat} (h1 : RdI w w.heap.size A n os) (h2 : RdI w w.heap.size C n ts) (hk : k < n) :
    ∃ b o b2 o2, A = some ⟨b, o, none⟩ ∧ C = some ⟨b2, o2, none⟩ ∧ w.cell? ⟨b, o + k, none⟩ = some (.int .i64 (os.getD k 0)) ∧ w.cell? ⟨b2, o2 + k, none⟩ = some (.int .i64 (ts.getD k 0)) := by
  obtain ⟨b, o, u, e, hb, hx, hc⟩ := h1.at_ hk
  obtain ⟨b2, o2, u2, e2, hb2, hx2, hc2⟩ := h2.at_ hk
  refine ⟨b, o, b2, o2, e, e2, ?_, ?_⟩
  · rw [hc, List.getD_eq_getElem?_getD, hx]; rfl
  · rw [hc2, List.getD_eq_getElem?_getD, hx2]; rfl
theorem quo_in (s : Int) (c : Nat) : (s.tdiv c).natAbs ≤ s.natAbs ∧ (s.tdiv c * c).natAbs ≤ s.natAbs := by
  have h1 := Int.natAbs_tdiv s c
  rw [Int.natAbs_natCast] at h1
  refine ⟨by rw [h1]; exact Nat.div_le_self _ _, ?_⟩
  rw [Int.natAbs_mul, h1, Int.natAbs_natCast]
  exact Nat.div_mul_le_self _ _

set_option maxRecDepth 100000 in
set_option maxHeartbeats 8000000 in
theorem sharedTime (os ts : List Int) (A C : Option Addr) (n c m q : Nat) (w : World) (hn : n ≤ 1048577) (hm : m ≤ 1048577) (h1 : RdI w w.heap.size A n os) (h2 : RdI w w.heap.size C m ts) :
    Calls Try.prog 29 #[.slice A n c, .slice C m q] w fun e w' => e = .returned (.tuple #[.int .i64 (shV os n ts m), .bool (shB os n ts m)]) ∧ Below w.heap.size w w' := by
  have I1 := fun w => l1In (n : Int) 1 6 w
  by_cases hb : 1 ≤ n ∧ n ≤ 6
  case neg =>
    rw [show isIn (n : Int) 1 6 = false from decide_eq_false (by omega)] at I1
    have HE := Lib.hid (show shB os n ts m = false by unfold shB; rw [decide_eq_false hb]; rfl)
    have HV := Lib.hid (shV_no HE.out)
    have I1 := Lib.hid I1
    clear h1 h2 hb
    go_enter Try.func29, Try.ntmps29
    go_wp2_with fail
    refine (I1.out _).mono ?_
    rintro e w' ⟨rfl, rfl⟩
    go_wp2_with fail
    go_ret2
    exact ⟨by rw [HE.out, HV.out]; rfl, Below.refl _ _⟩
  rw [show isIn (n : Int) 1 6 = true from decide_eq_true (by omega)] at I1
  have I1 := Lib.hid I1
  by_cases hmn : m = n
  case neg =>
    have HE := Lib.hid (show shB os n ts m = false by unfold shB; rw [decide_eq_false hmn]; simp)
    have HV := Lib.hid (shV_no HE.out)
    have o1 : ((m : Int) != (n : Int)) = true := bne_iff_ne.mpr (by omega)
    clear h1 h2 hb hmn
    go_enter Try.func29, Try.ntmps29
    go_wp2_with fail
    refine (I1.out _).mono ?_
    rintro e w' ⟨rfl, rfl⟩
    go_wp2_with fail
    go_ret2
    exact ⟨by rw [HE.out, HV.out]; rfl, Below.refl _ _⟩
  subst hmn
  have n1 : ((m : Int) != (m : Int)) = false := by simp
  have HNO := Lib.hid (fun k (hk : k < m) (h : (isIn (os.getD k 0) (-1000000) 1000000 && isIn (ts.getD k 0) (-1) 1000000) = false) => show shB os m ts m = false by unfold shB; rw [shT_no hk h]; simp)
  have HZ := Lib.hid (fun (h : shC os ts m = 0) => show shB os m ts m = false by unfold shB; rw [decide_eq_false (show ¬ (shC os ts m ≠ 0) from fun h' => h' h)]; simp)
  have HYES := Lib.hid (fun (ht : shT os ts m = true) (h : shC os ts m ≠ 0) => show shB os m ts m = true by unfold shB; rw [ht, decide_eq_true h, decide_eq_true hb]; simp)
  have HIN := Lib.hid (fun k (hk : k ≤ m) (h : shT os ts k = true) => shS_in h (Nat.le_refl k))
  have HCL := Lib.hid (fun k => shC_le os ts k)
  have HSY := Lib.hid (fun k (h : 0 ≤ ts.getD k 0) => sh_yes (os := os) (ts := ts) (k := k) h)
  have HSN := Lib.hid (fun k (h : ¬ 0 ≤ ts.getD k 0) => sh_no (os := os) (ts := ts) (k := k) h)
  have HT := Lib.hid (fun k => show shT os ts (k + 1) = (shT os ts k && (isIn (os.getD k 0) (-1000000) 1000000 && isIn (ts.getD k 0) (-1) 1000000)) from rfl)
  have HVY := Lib.hid (fun (h : shB os m ts m = true) => shV_yes h)
  have HVN := Lib.hid (fun (h : shB os m ts m = false) => shV_no h)
  obtain ⟨hm1, hm6⟩ := hb
  have H1 := Lib.hid h1
  have H2 := Lib.hid h2
  clear h1 h2 hn
  go_enter Try.func29, Try.ntmps29
  go_wp2_with fail
  refine (I1.out _).mono ?_
  rintro e w' ⟨rfl, rfl⟩
  go_wp2_with fail
  go_loopw [6, 7, 8] (fun s t i wr => ∃ k : Nat, k ≤ m ∧ i = .int .i64 k ∧ s = .int .i64 (shS os ts k) ∧ t = .int .i64 (shC os ts k : Int) ∧ shT os ts k = true ∧ Below w.heap.size w wr) (fun _ _ i _ => m - (intOf i).toNat)
  case atStart => exact ⟨0, Nat.zero_le _, rfl, rfl, rfl, rfl, Below.refl _ _⟩
  case round =>
    obtain ⟨k, hk, rfl, rfl, rfl, ht, hb⟩ := hrel
    have HB := Lib.hid hb
    by_cases hlt : k < m
    · have hlt2 : (k : Int) < (m : Int) := by omega
      obtain ⟨b1, o1, b2, o2, rfl, rfl, p0, p1⟩ := at_both (H1.out.next hb) (H2.out.next hb) hlt
      have I2 := fun w => l1In (os.getD k 0) (-1000000) 1000000 w
      have I3 := fun w => l1In (ts.getD k 0) (-1) 1000000 w
      have HNk := Lib.hid (HNO.out k hlt)
      have HTk := Lib.hid (HT.out k)
      have HYk := Lib.hid (HSY.out k)
      have HXk := Lib.hid (HSN.out k)
      obtain ⟨s0, s1⟩ := HIN.out k hk ht
      have hcl := HCL.out k
      have HTT := Lib.hid ht
      clear hb ht HNO HT HSY HSN HZ HYES HIN HCL HVY
      generalize hu : os.getD k 0 = u at *
      generalize hv : ts.getD k 0 = v at *
      clear hu hv
      cases ha : isIn u (-1000000) 1000000
      · rw [ha] at I2
        have HE := Lib.hid (HNk.out (by rw [ha]; rfl))
        have HV := Lib.hid (HVN.out HE.out)
        have I2 := Lib.hid I2
        clear ha I3 HNk HTk HYk HXk
        go_wp2_with fail
        refine (I2.out _).mono ?_
        rintro e w' ⟨rfl, rfl⟩
        go_wp2_with fail
        go_ret2
        exact ⟨by rw [HE.out, HV.out]; rfl, HB.out⟩
      rw [ha] at I2
      have I2 := Lib.hid I2
      cases hb2 : isIn v (-1) 1000000
      · rw [hb2] at I3
        have HE := Lib.hid (HNk.out (by rw [ha, hb2]; rfl))
        have HV := Lib.hid (HVN.out HE.out)
        have I3 := Lib.hid I3
        clear ha hb2 HNk HTk HYk HXk
        go_wp2_with fail
        refine (I2.out _).mono ?_
        rintro e w' ⟨rfl, rfl⟩
        go_wp2_with fail
        refine (I3.out _).mono ?_
        rintro e w' ⟨rfl, rfl⟩
        go_wp2_with fail
        go_ret2
        exact ⟨by rw [HE.out, HV.out]; rfl, HB.out⟩
      rw [hb2] at I3
      have I3 := Lib.hid I3
      have HT1 := Lib.hid (show shT os ts (k + 1) = true by rw [HTk.out, HTT.out, ha, hb2]; rfl)
      obtain ⟨u0, u1⟩ : -1000000 ≤ u ∧ u ≤ 1000000 := of_decide_eq_true ha
      obtain ⟨v0, v1⟩ : -1 ≤ v ∧ v ≤ 1000000 := of_decide_eq_true hb2
      clear ha hb2 HNk HTk
      generalize shS os ts k = S at *
      generalize shC os ts k = N at *
      by_cases hv0 : 0 ≤ v
      · have HQ := Lib.hid (HYk.out hv0)
        have e1 : IntKind.i64.wrap (S + v) = S + v := IntWalk.i64_in _ (by omega)
        have e2 : IntKind.i64.wrap (S + v - u) = S + v - u := IntWalk.i64_in _ (by omega)
        clear HYk HXk
        go_wp2_with fail
        refine (I2.out _).mono ?_
        rintro e w' ⟨rfl, rfl⟩
        go_wp2_with fail
        refine (I3.out _).mono ?_
        rintro e w' ⟨rfl, rfl⟩
        go_wp2_with fail
        go_quiet (fail)
        go_wp2_with fail
        go_roundw
        case rel => exact ⟨k + 1, by omega, by go_num, by rw [HQ.out.1], by rw [HQ.out.2]; go_num, HT1.out, aid.below_drewN HB.out _⟩
        case measure => simp [intOf]; omega
      · have HQ := Lib.hid (HXk.out (by omega))
        have hv2 : v < 0 := by omega
        clear HYk HXk hv0
        go_wp2_with fail
        refine (I2.out _).mono ?_
        rintro e w' ⟨rfl, rfl⟩
        go_wp2_with fail
        refine (I3.out _).mono ?_
        rintro e w' ⟨rfl, rfl⟩
        go_wp2_with fail
        go_roundw
        case rel => exact ⟨k + 1, by omega, by go_num, by rw [HQ.out.1], by rw [HQ.out.2], HT1.out, HB.out⟩
        case measure => simp [intOf]; omega
    · obtain rfl : k = m := by omega
      obtain ⟨s0, s1⟩ := HIN.out k hk ht
      have hcl := HCL.out k
      have HY2 := Lib.hid (HYES.out ht)
      clear hb HNO HT HSY HSN HIN HCL ht HYES
      generalize shS os ts k = S at *
      generalize shC os ts k = N at *
      by_cases hz : N = 0
      · have HE := Lib.hid (HZ.out hz)
        have HV := Lib.hid (HVN.out HE.out)
        subst hz
        clear HZ HY2 HVY
        go_wp2_with fail
        go_ret2
        exact ⟨by rw [HE.out, HV.out]; rfl, HB.out⟩
      · have HE := Lib.hid (HY2.out hz)
        have HV := Lib.hid (HVY.out HE.out)
        have z1 : ((N : Int) == 0) = false := beq_eq_false_iff_ne.mpr (by omega)
        obtain ⟨q1, q2⟩ := quo_in S N
        have DY := Lib.hid (down_yes (s := S) (c := (N : Int)) (by omega))
        have DN := Lib.hid (down_no (s := S) (c := (N : Int)) (by omega))
        have e3 : IntKind.i64.wrap (S.tdiv (N : Int)) = S.tdiv (N : Int) := IntWalk.i64_in _ (by omega)
        have e4 : IntKind.i64.wrap (S.tdiv (N : Int) * (N : Int)) = S.tdiv (N : Int) * (N : Int) := IntWalk.i64_in _ (by omega)
        have e5 : IntKind.i64.wrap (S.tdiv (N : Int) - 1) = S.tdiv (N : Int) - 1 := IntWalk.i64_in _ (by omega)
        clear HZ HY2 HVY HVN q1 q2
        by_cases hs : S < S.tdiv (N : Int) * (N : Int)
        · have HD := Lib.hid (DY.out hs)
          clear DY DN
          go_wp2_with fail
          go_ret2
          exact ⟨by rw [HE.out, HV.out, HD.out]; rfl, HB.out⟩
        · have HD := Lib.hid (DN.out hs)
          have hs2 : S.tdiv (N : Int) * (N : Int) ≤ S := by omega
          clear DY DN
          go_wp2_with fail
          go_ret2
          exact ⟨by rw [HE.out, HV.out, HD.out]; rfl, HB.out⟩
end Go.Proofs.Ytndogafihaooiaa.clku
