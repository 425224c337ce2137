/- impl's SharedTime; all of impl's functions of pairs. -/
import Derived.Test.YtndogafihaooiaaClkI1
import Derived.Test.YtndogafihaooiaaClkI2
import Derived.Test.YtndogafihaooiaaClkU
namespace Go.Proofs.Ytndogafihaooiaa.clki
open Go.RowKit Go.Proofs.Ytndogafihaooiaa.ints Go.Proofs.Ytndogafihaooiaa.lst Go.Proofs.Ytndogafihaooiaa.in_ Go.Proofs.Ytndogafihaooiaa.ats Go.Proofs.Ytndogafihaooiaa.clk

theorem alI_sh {os ts : List Int} : ∀ n, shT os ts n = (alI (-1000000) 1000000 os n && alI (-1) 1000000 ts n)
  | 0 => rfl
  | n + 1 => by
    rw [shT, alI_sh n, alI, alI]
    generalize alI (-1000000) 1000000 os n = a
    generalize alI (-1) 1000000 ts n = b
    generalize isIn (os.getD n 0) (-1000000) 1000000 = c
    generalize isIn (ts.getD n 0) (-1) 1000000 = d
    cases a <;> cases b <;> cases c <;> cases d <;> rfl
theorem divideDown (s : Int) (c : Nat) (w : World) (hc : 1 ≤ c) (hs0 : -80000000 ≤ s) (hs1 : s ≤ 80000000) (hc2 : c ≤ 1000) :
    Calls Try.prog 73 #[.int .i64 s, .int .i64 (c : Int)] w fun e w' => e = .returned (.int .i64 (s / (c : Int))) ∧ w = w' := by
  have z1 : ((c : Int) == 0) = false := beq_eq_false_iff_ne.mpr (by omega)
  have h1 := Int.mul_tdiv_add_tmod s (c : Int)
  have h3 : s.tdiv c * c = c * s.tdiv c := Int.mul_comm _ _
  have DY := Lib.hid (fun (h : s.tmod (c : Int) < 0) => down_yes (s := s) (c := (c : Int)) (by omega) (by omega))
  have DN := Lib.hid (fun (h : ¬ s.tmod (c : Int) < 0) => down_no (s := s) (c := (c : Int)) (by omega) (by omega))
  obtain ⟨q1, q2⟩ := clku.quo_in s c
  have e1 : IntKind.i64.wrap (s.tdiv c) = s.tdiv c := IntWalk.i64_in _ (by omega)
  have e2 : IntKind.i64.wrap (s.tdiv c - 1) = s.tdiv c - 1 := IntWalk.i64_in _ (by omega)
  have e3 : IntKind.i64.wrap (s.tmod c) = s.tmod c := IntWalk.i64_in _ (by omega)
  clear h1 h3 q1 q2
  generalize s / (c : Int) = r at *
  generalize hQ : s.tdiv (c : Int) = Q at *
  generalize hT : s.tmod (c : Int) = T at *
  by_cases ht : T < 0
  · have HR := Lib.hid (DY.out ht)
    clear DY DN
    go_enter Try.func73, Try.ntmps73
    go_wp2_with fail
    go_ret
    exact ⟨by rw [HR.out]; rfl, rfl⟩
  · have HR := Lib.hid (DN.out ht)
    clear DY DN
    go_enter Try.func73, Try.ntmps73
    go_wp2_with fail
    go_ret
    exact ⟨by rw [HR.out]; rfl, rfl⟩

set_option maxRecDepth 100000 in
set_option maxHeartbeats 8000000 in
theorem sharedTime (os ts : List Int) (A C : Option Addr) (n c m q : Nat) (w : World) (_ : n ≤ c) (_ : m ≤ q) (hn : n ≤ 1048577) (hm : m ≤ 1048577) (h1 : RdI w w.heap.size A n os) (h2 : RdI w w.heap.size C m ts) :
    Calls Try.prog 28 #[.slice A n c, .slice C m q] w fun e w' => e = .returned (.tuple #[.int .i64 (shV os n ts m), .bool (shB os n ts m)]) ∧ Below w.heap.size w w' := by
  by_cases hb1 : n < 1
  · have g1 : (n : Int) < 1 := by omega
    have HE := Lib.hid (show shB os n ts m = false by unfold shB; rw [decide_eq_false (by omega)]; rfl)
    have HV := Lib.hid (shV_no HE.out)
    clear h1 h2 hb1
    go_enter Try.func28, Try.ntmps28
    go_wp2_with fail
    go_ret2
    exact ⟨by rw [HE.out, HV.out]; rfl, Below.refl _ _⟩
  have g1 : ¬ (n : Int) < 1 := by omega
  by_cases hb2 : 6 < n
  · have g2 : 6 < (n : Int) := by omega
    have HE := Lib.hid (show shB os n ts m = false by unfold shB; rw [decide_eq_false (by omega)]; rfl)
    have HV := Lib.hid (shV_no HE.out)
    clear h1 h2 hb1 hb2
    go_enter Try.func28, Try.ntmps28
    go_wp2_with fail
    go_ret2
    exact ⟨by rw [HE.out, HV.out]; rfl, Below.refl _ _⟩
  have g2 : ¬ 6 < (n : Int) := by omega
  by_cases hmn : m = n
  case neg =>
    have HE := Lib.hid (show shB os n ts m = false by unfold shB; rw [decide_eq_false hmn]; simp)
    have HV := Lib.hid (shV_no HE.out)
    have o1 : ((m : Int) != (n : Int)) = true := bne_iff_ne.mpr (by omega)
    clear h1 h2 hb1 hb2 hmn
    go_enter Try.func28, Try.ntmps28
    go_wp2_with fail
    go_ret2
    exact ⟨by rw [HE.out, HV.out]; rfl, Below.refl _ _⟩
  subst hmn
  have n1 : ((m : Int) != (m : Int)) = false := by simp
  have T1 := fun w' (hw : Below w.heap.size w w') => allOffset os A m c w' hn (h1.next hw)
  have T2 := fun w' (hw : Below w.heap.size w w') => allNone ts C m q w' hm (h2.next hw)
  have T1 := T1 w (Below.refl _ _)
  have T2 := T2 w (Below.refl _ _)
  cases ha : alI (-1000000) 1000000 os m
  · rw [ha] at T1
    have HE := Lib.hid (show shB os m ts m = false by unfold shB; rw [alI_sh, ha]; simp)
    have HV := Lib.hid (shV_no HE.out)
    have T1 := Lib.hid T1
    clear h1 h2 hb1 hb2 ha T2
    go_enter Try.func28, Try.ntmps28
    go_wp2_with fail
    refine T1.out.mono ?_
    rintro e w' ⟨rfl, rfl⟩
    go_wp2_with fail
    go_ret2
    exact ⟨by rw [HE.out, HV.out]; rfl, Below.refl _ _⟩
  rw [ha] at T1
  cases hb : alI (-1) 1000000 ts m
  · rw [hb] at T2
    have HE := Lib.hid (show shB os m ts m = false by unfold shB; rw [alI_sh, hb]; simp)
    have HV := Lib.hid (shV_no HE.out)
    have T1 := Lib.hid T1
    have T2 := Lib.hid T2
    clear h1 h2 hb1 hb2 ha hb
    go_enter Try.func28, Try.ntmps28
    go_wp2_with fail
    refine T1.out.mono ?_
    rintro e w' ⟨rfl, rfl⟩
    go_wp2_with fail
    refine T2.out.mono ?_
    rintro e w' ⟨rfl, rfl⟩
    go_wp2_with fail
    go_ret2
    exact ⟨by rw [HE.out, HV.out]; rfl, Below.refl _ _⟩
  rw [hb] at T2
  have T1 := Lib.hid T1
  have T2 := Lib.hid T2
  have hsh : shT os ts m = true := by rw [alI_sh, ha, hb]; rfl
  have HZ := Lib.hid (fun (h : shC os ts m = 0) => show shB os m ts m = false by unfold shB; rw [decide_eq_false (show ¬ (shC os ts m ≠ 0) from fun h' => h' h)]; simp)
  have HYES := Lib.hid (fun (h : shC os ts m ≠ 0) => show shB os m ts m = true by unfold shB; rw [hsh, decide_eq_true h, decide_eq_true (show 1 ≤ m ∧ m ≤ 6 by omega)]; simp)
  have HIN := Lib.hid (fun k (hk : k ≤ m) => shS_in hsh hk)
  have HAT := Lib.hid (fun k (hk : k < m) => shT_at hsh hk)
  have HCL := Lib.hid (fun k => shC_le os ts k)
  have HSY := Lib.hid (fun k (h : 0 ≤ ts.getD k 0) => sh_yes (os := os) (ts := ts) (k := k) h)
  have HSN := Lib.hid (fun k (h : ¬ 0 ≤ ts.getD k 0) => sh_no (os := os) (ts := ts) (k := k) h)
  have HVY := Lib.hid (fun (h : shB os m ts m = true) => shV_yes h)
  have HVN := Lib.hid (fun (h : shB os m ts m = false) => shV_no h)
  have H1 := Lib.hid h1
  have H2 := Lib.hid h2
  have HM6 := Lib.hid (show m ≤ 6 by omega)
  clear h1 h2 hn hm ha hb hsh hb1 hb2
  go_enter Try.func28, Try.ntmps28
  go_wp2_with fail
  refine T1.out.mono ?_
  rintro e w' ⟨rfl, rfl⟩
  go_wp2_with fail
  refine T2.out.mono ?_
  rintro e w' ⟨rfl, rfl⟩
  clear T1 T2
  go_wp2_with fail
  go_loop [6, 7, 37] (fun s t i => ∃ k : Nat, k ≤ m ∧ i = .int .i64 k ∧ s = .int .i64 (shS os ts k) ∧ t = .int .i64 (shC os ts k : Int)) (fun _ _ i => m - (intOf i).toNat)
  case atStart => exact ⟨0, Nat.zero_le _, rfl, rfl, rfl⟩
  case round =>
    obtain ⟨k, hk, rfl, rfl, rfl⟩ := hrel
    by_cases hlt : k < m
    · have hlt2 : (k : Int) < (m : Int) := by omega
      obtain ⟨b1, o1, b2, o2, rfl, rfl, p0, p1⟩ := clku.at_both H1.out H2.out hlt
      obtain ⟨⟨u0, u1⟩, v0, v1⟩ := HAT.out k hlt
      have HYk := Lib.hid (HSY.out k)
      have HXk := Lib.hid (HSN.out k)
      obtain ⟨s0, s1⟩ := HIN.out k hk
      have hcl := HCL.out k
      have hm6 := HM6.out
      clear HSY HSN HZ HYES HIN HCL HVY HVN HAT H1 H2
      generalize hu : os.getD k 0 = u at *
      generalize hv : ts.getD k 0 = v at *
      clear hu hv
      generalize shS os ts k = S at *
      generalize shC os ts k = N at *
      by_cases hv0 : 0 ≤ v
      · have HQ := Lib.hid (HYk.out hv0)
        have g3 : (v != -1) = true := bne_iff_ne.mpr (by omega)
        have e1 : IntKind.i64.wrap (v - u) = v - u := IntWalk.i64_in _ (by omega)
        have e2 : IntKind.i64.wrap (S + (v - u)) = S + (v - u) := IntWalk.i64_in _ (by omega)
        clear HYk HXk
        go_wp2_with fail
        go_round
        case rel => exact ⟨k + 1, by omega, by go_num, by rw [HQ.out.1]; congr 1; omega, by rw [HQ.out.2]; go_num⟩
        case measure => simp [intOf]; omega
      · have HQ := Lib.hid (HXk.out (by omega))
        obtain rfl : v = -1 := by omega
        clear HYk HXk hv0
        go_wp2_with fail
        go_round
        case rel => exact ⟨k + 1, by omega, by go_num, by rw [HQ.out.1], by rw [HQ.out.2]⟩
        case measure => simp [intOf]; omega
    · obtain rfl : k = m := by omega
      obtain ⟨s0, s1⟩ := HIN.out k hk
      have hcl := HCL.out k
      have hm6 := HM6.out
      clear HSY HSN HIN HCL HAT H1 H2
      generalize shS os ts k = S at *
      generalize shC os ts k = N at *
      by_cases hz : N = 0
      · have HE := Lib.hid (HZ.out hz)
        have HV := Lib.hid (HVN.out HE.out)
        subst hz
        clear HZ HVN HVY HYES
        go_wp2_with fail
        go_ret2
        exact ⟨by rw [HE.out, HV.out]; rfl, Below.refl _ _⟩
      · have HE := Lib.hid (HYES.out hz)
        have HV := Lib.hid (HVY.out HE.out)
        have z1 : ((N : Int) == 0) = false := beq_eq_false_iff_ne.mpr (by omega)
        have D := Lib.hid (fun w => divideDown S N w (by omega) (by omega) (by omega) (by omega))
        clear HZ HVN HVY HYES
        go_wp2_with fail
        refine (D.out _).mono ?_
        rintro e w' ⟨rfl, rfl⟩
        go_wp2_with fail
        go_ret2
        exact ⟨by rw [HE.out, HV.out]; rfl, Below.refl _ _⟩
end Go.Proofs.Ytndogafihaooiaa.clki
