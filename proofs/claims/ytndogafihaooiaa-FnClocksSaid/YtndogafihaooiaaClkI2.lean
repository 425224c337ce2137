/- impl's fractions and DriftOf. -/
import Derived.Test.YtndogafihaooiaaClkI0
import Derived.RegionTactic
import Derived.BigRegion
import Derived.BigQuiet
import Derived.Deep.QuietTactic
import Derived.Outline
import Derived.Test.YtndogafihaooiaaSitI
namespace Go.Proofs.Ytndogafihaooiaa.clki
open Go.RowKit Go.Proofs.Ytndogafihaooiaa.ints Go.Proofs.Ytndogafihaooiaa.lst Go.Proofs.Ytndogafihaooiaa.in_ Go.Proofs.Ytndogafihaooiaa.ats Go.Proofs.Ytndogafihaooiaa.clk Go.Proofs.Ytndogafihaooiaa.clks

theorem tmod_n12 (u v : Nat) : (u : Int).tmod (v : Int) = ((u % v : Nat) : Int) := rfl
theorem reduce12i (x : Int) (d : Nat) (w : World) (h0 : -8000000 ≤ x) (h1 : x ≤ 8000000) (hd : 1 ≤ d) (hd2 : d ≤ 8000000) :
    Calls Try.prog 68 #[.int .i64 x, .int .i64 (d : Int)] w fun e w' => e = .returned (.tuple #[.int .i64 (x.tdiv (Nat.gcd x.natAbs d : Nat)), .int .i64 ((d / Nat.gcd x.natAbs d : Nat) : Int)]) ∧ ∃ j, w' = w.drewN j := by
  have HG := Lib.hid (Nat.gcd_comm d x.natAbs)
  have HD := Lib.hid (Nat.gcd_le_right x.natAbs (show 0 < d from hd))
  have HP := Lib.hid (Nat.gcd_pos_of_pos_right x.natAbs (show 0 < d from hd))
  go_enter Try.func68, Try.ntmps68
  go_wp2_with fail
  all_goals
    go_loopw [6, 7] (fun a r wr => ∃ u v j : Nat, a = .int .i64 u ∧ r = .int .i64 v ∧ Nat.gcd u v = Nat.gcd x.natAbs d ∧ u ≤ 8000000 ∧ v ≤ 8000000 ∧ wr = w.drewN j) (fun _ r _ => (intOf r).toNat)
    case atStart => exact ⟨d, x.natAbs, 0, rfl, by congr 1; omega, HG.out, by omega, by omega, rfl⟩
    case round =>
      obtain ⟨u, v, j, rfl, rfl, hg, hu, hv, rfl⟩ := hrel
      have HH := Lib.hid hg
      clear hg
      by_cases h2 : v = 0
      · subst h2
        obtain rfl : u = Nat.gcd x.natAbs d := by rw [← HH.out, Nat.gcd_zero_right]
        have hp := HP.out
        have hl := HD.out
        clear HG HD HP HH
        obtain ⟨g, hgE⟩ : ∃ g, Nat.gcd x.natAbs d = g := ⟨_, rfl⟩
        have HGE := Lib.hid hgE
        rw [hgE] at hp hl hu ⊢
        clear hgE
        have hn : (x.tdiv g).natAbs = x.natAbs / (g : Int).natAbs := Int.natAbs_tdiv x g
        have hle := Nat.div_le_self x.natAbs (g : Int).natAbs
        have e5 : IntKind.i64.wrap (x.tdiv g) = x.tdiv g := IntWalk.i64_in _ (by omega)
        have hle2 := Nat.div_le_self d g
        obtain ⟨q, hq⟩ : ∃ q, d / g = q := ⟨_, rfl⟩
        have HQ := Lib.hid hq
        rw [hq] at hle2
        have E6 := Lib.hid (show wrap64 ((d : Int) / (g : Int)) = (q : Int) by
          rw [← Int.natCast_ediv, hq]
          exact IntWalk.wrap64_in _ ⟨by omega, by omega⟩)
        clear hq
        have e7 : ((g : Int) == 0) = false := by simp; omega
        clear hn hle hle2 hu hv
        go_wp2_with fail
        go_quiet (fail)
        go_wp2_with fail
        go_ret2
        exact ⟨(congrArg (fun y => Ending.returned (.tuple #[.int .i64 (x.tdiv g), .int .i64 y])) E6.out).trans (by rw [HGE.out, HQ.out]), _, World.drewN_drewN ..⟩
      · have e1 := tmod_n12 u v
        have e2 : ((v : Int) == 0) = false := by simp; omega
        have HW := Lib.hid (show Nat.gcd v (u % v) = Nat.gcd x.natAbs d by rw [Nat.gcd_comm, ← Nat.gcd_rec, Nat.gcd_comm]; exact HH.out)
        have hz := Nat.mod_lt u (show 0 < v by omega)
        clear HG HH
        generalize u % v = z at *
        have HM := Lib.hid (show (intOf (.int .i64 (z : Int))).toNat < (intOf (.int .i64 (v : Int))).toNat from hz)
        go_wp2_with fail
        go_quiet (fail)
        go_wp2_with fail
        go_roundw
        case rel => exact ⟨v, z, _, rfl, rfl, HW.out, hv, by omega, World.drewN_drewN ..⟩
        case measure => exact HM.out

set_option maxRecDepth 100000 in
set_option maxHeartbeats 4000000 in
theorem driftOf (zs : List Int) (A : Option Addr) (n c : Nat) (w : World) (hc : n ≤ c) (hn : n ≤ 1048577) (h1 : RdZ 2 w w.heap.size A n zs) :
    Calls Try.prog 25 #[.slice A n c] w fun e w' => e = .returned (.tuple #[.int .i64 (drN zs n), .int .i64 (drD zs n), .bool (drB zs n)]) ∧ Below w.heap.size w w' := by
  have T := isValidPairs zs A n c w hc hn h1
  cases hq : ckB zs n
  · rw [hq] at T
    have HV := Lib.hid (show drB zs n = false by unfold drB; rw [hq]; rfl)
    have T := Lib.hid T
    clear h1 hq
    go_enter Try.func25, Try.ntmps25
    go_wp2_with fail
    refine T.out.mono ?_
    rintro e w2 ⟨rfl, hb⟩
    have BX := Lib.hid hb
    clear hb
    go_wp2_with fail
    go_ret3
    exact ⟨by rw [HV.out, (dr_no HV.out).1, (dr_no HV.out).2]; rfl, BX.out⟩
  rw [hq] at T
  have T := Lib.hid T
  by_cases hone : n = 1
  · have HV := Lib.hid (show drB zs n = false by unfold drB; rw [decide_eq_false (fun h => h hone)]; simp)
    have o1 : ((n : Int) == 1) = true := beq_iff_eq.mpr (by omega)
    clear h1 hq hone
    go_enter Try.func25, Try.ntmps25
    go_wp2_with fail
    refine T.out.mono ?_
    rintro e w2 ⟨rfl, hb⟩
    have BX := Lib.hid hb
    clear hb
    go_wp2_with fail
    go_ret3
    exact ⟨by rw [HV.out, (dr_no HV.out).1, (dr_no HV.out).2]; rfl, BX.out⟩
  have o1 : ((n : Int) == 1) = false := beq_eq_false_iff_ne.mpr (by omega)
  have HB := Lib.hid (show drB zs n = true by unfold drB; rw [hq, decide_eq_true (show n ≠ 1 from hone)]; rfl)
  have HV := Lib.hid (dr_yes HB.out)
  have hn2 : 2 ≤ n := by have := (ckB_yes hq).2.1; omega
  have hn12 := (ckB_yes hq).2.2
  obtain ⟨⟨x0, x1⟩, y0, y1, yd⟩ := dr_in (ckB_yes hq).1 hn2
  have F0 := oneB_yes (ckT_at (ckB_yes hq).1 (show 0 < n by omega))
  have F1 := oneB_yes (ckT_at (ckB_yes hq).1 (show n - 1 < n by omega))
  obtain ⟨m, hm⟩ : ∃ m, n - 1 = m := ⟨_, rfl⟩
  have R := Lib.hid (fun w => reduce12i (drX zs n) (drY zs n) w (by omega) (by omega) y0 (by omega))
  have HX : drX zs n = fld 2 zs (n - 1) 1 - fld 2 zs 0 1 - fld 2 zs (n - 1) 0 + fld 2 zs 0 0 := rfl
  have HG : drG zs n = Nat.gcd (drX zs n).natAbs (drY zs n) := rfl
  rw [hm] at yd F1 HX
  obtain ⟨b, o, rfl, lb, p0, p1⟩ := cellsP h1 (show 0 < n by omega)
  rw [Nat.zero_mul, Nat.add_zero] at p0 p1
  obtain ⟨b2, o2, eA, l2, q0, q1⟩ := cellsP h1 (show m < n by omega)
  obtain ⟨rfl, rfl⟩ : b = b2 ∧ o = o2 := by injection eA with e; injection e with e1 e2; exact ⟨e1, e2⟩
  have C0 := Lib.hid (fun WZ (hb : Below w.heap.size w WZ) => show WZ.cell? ⟨b, o, none⟩ = some (.int .i64 (fld 2 zs 0 0)) ∧ WZ.cell? ⟨b, o + 1, none⟩ = some (.int .i64 (fld 2 zs 0 1)) ∧ WZ.cell? ⟨b, o + m * 2, none⟩ = some (.int .i64 (fld 2 zs m 0)) ∧ WZ.cell? ⟨b, o + m * 2 + 1, none⟩ = some (.int .i64 (fld 2 zs m 1)) from
    ⟨(hb.cell (p := ⟨b, o, none⟩) lb).trans p0, (hb.cell (p := ⟨b, o + 1, none⟩) lb).trans p1, (hb.cell (p := ⟨b, o + m * 2, none⟩) lb).trans q0, (hb.cell (p := ⟨b, o + m * 2 + 1, none⟩) lb).trans q1⟩)
  have e0 : IntKind.i64.wrap ((n : Int) - 1) = (m : Int) := by rw [IntWalk.i64_in _ (by omega)]; omega
  have hm0 : (0 : Int) ≤ (m : Int) := Int.natCast_nonneg _
  have hmn : (m : Int) < (n : Int) := by omega
  have h0n : 0 < n := by omega
  have e1 : IntKind.i64.wrap (fld 2 zs m 1 - fld 2 zs 0 1) = fld 2 zs m 1 - fld 2 zs 0 1 := IntWalk.i64_in _ (by omega)
  have e3 : IntKind.i64.wrap (fld 2 zs m 1 - fld 2 zs 0 1 - (drY zs n : Int)) = drX zs n := by rw [HX, IntWalk.i64_in _ (by omega)]; omega
  have e4 : IntKind.i64.wrap (fld 2 zs m 0 - fld 2 zs 0 0) = (drY zs n : Int) := by rw [yd]; exact IntWalk.i64_in _ (by omega)
  have HGG := Lib.hid HG
  clear hq h1 x0 x1 y0 y1 yd F0 F1 HX HG hm p0 p1 q0 q1 eA l2 hn12
  generalize drX zs n = x at *
  generalize drY zs n = d at *
  generalize fld 2 zs 0 0 = a0 at *
  generalize fld 2 zs 0 1 = a1 at *
  generalize fld 2 zs m 0 = z0 at *
  generalize fld 2 zs m 1 = z1 at *
  generalize Nat.gcd x.natAbs d = gg at *
  generalize drG zs n = gd at *
  go_enter Try.func25, Try.ntmps25
  go_wp2_with fail
  refine T.out.mono ?_
  rintro e w2 ⟨rfl, hb⟩
  have BX := Lib.hid hb
  clear hb
  have XA := Lib.hid ((newS 36 #[.int .i64 a0, .int .i64 a1] w2).alloc (.cells #[.int .i64 z0, .int .i64 z1] 36))
  have XB := (newS 36 #[.int .i64 a0, .int .i64 a1] w2).next 36 #[.int .i64 z0, .int .i64 z1]
  have YB := Lib.hid ((newS 36 #[.int .i64 z0, .int .i64 z1] w2).alloc (.cells #[.int .i64 a0, .int .i64 a1] 36))
  have YA := (newS 36 #[.int .i64 z0, .int .i64 z1] w2).next 36 #[.int .i64 a0, .int .i64 a1]
  rw [World.size_alloc] at XB YA
  have XB := Lib.hid XB
  have YA := Lib.hid YA
  have CC := Lib.hid (fun WZ (hb : Below w2.heap.size w2 WZ) => C0.out WZ (BX.out.trans (hb.mono BX.out.size)))
  go_upto_region 3 with fail
  go_cut [5, 6] from 18 to 26 (fun p q wz => ∃ pL pH, p = .pointer (some ⟨pL, 0, none⟩) ∧ q = .pointer (some ⟨pH, 0, none⟩) ∧ AtS 36 #[.int .i64 a0, .int .i64 a1] w2 wz pL ∧ AtS 36 #[.int .i64 z0, .int .i64 z1] w2 wz pH)
  case first =>
    go_region_held3 (fun w' => w'.cell? ⟨b, o, none⟩ = some (.int .i64 a0) ∧ w'.cell? ⟨b, o + 1, none⟩ = some (.int .i64 a1) ∧ w'.cell? ⟨b, o + m * 2, none⟩ = some (.int .i64 z0) ∧ w'.cell? ⟨b, o + m * 2 + 1, none⟩ = some (.int .i64 z1)) (first
      | exact CC.out _ (Below.refl w2.heap.size w2).drew
      | exact CC.out _ ((Below.refl w2.heap.size w2).alloc (Nat.le_refl _) _).drew
      | exact CC.out _ (((Below.refl w2.heap.size w2).alloc (Nat.le_refl _) _).alloc (by rw [World.size_alloc]; omega) _).drew
      | go_keep) (fail)
    all_goals (
      go_wp2_with fail
      go_meet
      first
      | exact ⟨_, _, rfl, rfl, XA.out.drew, XB.out.drew⟩
      | exact ⟨_, _, rfl, rfl, YA.out.drew, YB.out.drew⟩)
  case rest =>
    obtain ⟨pL, pH, rfl, rfl, hA, hB⟩ := hcut
    have a0_ := hA.cell 0
    have a1_ := hA.cell 1
    have b0_ := hB.cell 0
    have b1_ := hB.cell 1
    have BY := Lib.hid (BX.out.trans (hA.1.mono BX.out.size))
    clear hA hB XA XB YA YB CC C0
    generalize wc = W4 at *
    go_wp2_with fail
    refine (R.out _).mono ?_
    rintro e w5 ⟨rfl, j, rfl⟩
    clear a0_ a1_ b0_ b1_
    have BZ := Lib.hid (aid.below_drewN BY.out j)
    generalize W4.drewN j = W5 at *
    go_wp2_with fail
    go_ret3
    exact ⟨by rw [HB.out, HV.out.1, HV.out.2, HGG.out]; rfl, BZ.out⟩

end Go.Proofs.Ytndogafihaooiaa.clki
