/- spec's functions of pairs, on: l6Reduce, DriftOf, l12Worst, WorstPair, IsSteadyClock; SharedTime. -/
import Derived.Test.YtndogafihaooiaaClkO
namespace Go.Proofs.Ytndogafihaooiaa.clkt
open Go.RowKit Go.Proofs.Ytndogafihaooiaa.ints Go.Proofs.Ytndogafihaooiaa.lst Go.Proofs.Ytndogafihaooiaa.in_ Go.Proofs.Ytndogafihaooiaa.ats Go.Proofs.Ytndogafihaooiaa.clk Go.Proofs.Ytndogafihaooiaa.ins Go.Proofs.Ytndogafihaooiaa.clks Go.Proofs.Ytndogafihaooiaa.clko

theorem tmod_nat (u v : Nat) : (u : Int).tmod (v : Int) = ((u % v : Nat) : Int) := rfl
theorem most12 (x : Int) (w : World) (h0 : -8000000 ≤ x) (h1 : x ≤ 8000000) :
    Calls Try.prog 84 #[.int .i64 x, .int .i64 (-x)] w fun e w' => e = .returned (.int .i64 (x.natAbs : Int)) ∧ w = w' := by
  by_cases h : 0 < x
  · have e1 : (x.natAbs : Int) = x := by omega
    rw [e1]
    have g : decide (-x < x) = true := decide_eq_true (by omega)
    clear e1
    go_enter Try.func84, Try.ntmps84
    go_wp2_with fail
    go_ret
    exact ⟨rfl, rfl⟩
  · have e1 : (x.natAbs : Int) = -x := by omega
    rw [e1]
    have g : decide (-x < x) = false := decide_eq_false (by omega)
    clear e1
    go_enter Try.func84, Try.ntmps84
    go_wp2_with fail
    go_ret
    exact ⟨rfl, rfl⟩
theorem size12 (x : Int) (w : World) (h0 : -8000000 ≤ x) (h1 : x ≤ 8000000) :
    Calls Try.prog 90 #[.int .i64 x] w fun e w' => e = .returned (.int .i64 (x.natAbs : Int)) ∧ w = w' := by
  have H1 := Lib.hid (fun w => most12 x w h0 h1)
  generalize (x.natAbs : Int) = v at *
  go_enter Try.func90, Try.ntmps90
  go_wp2_with fail
  refine (H1.out _).mono ?_
  rintro e w1 ⟨rfl, rfl⟩
  go_wp2_with fail
  go_ret
  exact ⟨rfl, rfl⟩
set_option maxRecDepth 100000 in
theorem reduce12 (x : Int) (d : Nat) (w : World) (h0 : -8000000 ≤ x) (h1 : x ≤ 8000000) (hd : 1 ≤ d) (hd2 : d ≤ 8000000) :
    Calls Try.prog 69 #[.int .i64 x, .int .i64 (d : Int)] w fun e w' => e = .returned (.tuple #[.int .i64 (x.tdiv (Nat.gcd x.natAbs d : Nat)), .int .i64 ((d / Nat.gcd x.natAbs d : Nat) : Int)]) ∧ ∃ j, w' = w.drewN j := by
  have HD := Lib.hid (Nat.gcd_le_right x.natAbs (show 0 < d from hd))
  have HP := Lib.hid (Nat.gcd_pos_of_pos_right x.natAbs (show 0 < d from hd))
  have HL := Lib.hid (fun w => most12 x w h0 h1)
  obtain ⟨n, hn⟩ : ∃ n, x.natAbs = n := ⟨_, rfl⟩
  have HN := Lib.hid hn
  have hn2 : n ≤ 8000000 := by omega
  rw [hn] at HL
  clear hn
  go_enter Try.func69, Try.ntmps69
  go_wp2_with fail
  refine (HL.out _).mono ?_
  rintro e w1 ⟨rfl, rfl⟩
  go_wp2_with fail
  go_loop [6, 7] (fun a r => ∃ u v : Nat, a = .int .i64 u ∧ r = .int .i64 v ∧ Nat.gcd u v = Nat.gcd x.natAbs d ∧ u ≤ 8000000 ∧ v ≤ 8000000) (fun _ r => (intOf r).toNat)
  case atStart => exact ⟨n, d, rfl, rfl, by rw [HN.out], hn2, by omega⟩
  case round =>
    obtain ⟨u, v, rfl, rfl, hg, hu, hv⟩ := hrel
    have HH := Lib.hid hg
    clear hg
    by_cases h2 : v = 0
    · subst h2
      obtain rfl : u = Nat.gcd x.natAbs d := by rw [← HH.out, Nat.gcd_zero_right]
      have hp := HP.out
      have hl := HD.out
      clear HD HP HH
      obtain ⟨g, hgE⟩ : ∃ g, Nat.gcd x.natAbs d = g := ⟨_, rfl⟩
      have HGE := Lib.hid hgE
      rw [hgE] at hp hl hu ⊢
      clear hgE
      have hn : (x.tdiv g).natAbs = x.natAbs / (g : Int).natAbs := Int.natAbs_tdiv x g
      have hle := Nat.div_le_self x.natAbs (g : Int).natAbs
      have e5 : IntKind.i64.wrap (x.tdiv g) = x.tdiv g := IntWalk.i64_in _ (by omega)
      have hle2 := Nat.div_le_self d g
      obtain ⟨q, hq⟩ : ∃ q, d / g = q := ⟨_, rfl⟩
      have HQ := Lib.hid hq
      rw [hq] at hle2
      have E6 := Lib.hid (show wrap64 ((d : Int) / (g : Int)) = (q : Int) by
        rw [← Int.natCast_ediv, hq]
        exact IntWalk.wrap64_in _ ⟨by omega, by omega⟩)
      clear hq
      have e7 : ((g : Int) == 0) = false := by simp; omega
      clear hn hle hle2 hu hv
      go_wp2_with fail
      go_quiet (fail)
      go_wp2_with fail
      go_ret2
      exact ⟨(congrArg (fun y => Ending.returned (.tuple #[.int .i64 (x.tdiv g), .int .i64 y])) E6.out).trans (by rw [HGE.out, HQ.out]), _, rfl⟩
    · have e1 := tmod_nat u v
      have e3 : (u : Int) % (v : Int) = ((u % v : Nat) : Int) := rfl
      have e2 : ((v : Int) == 0) = false := by simp; omega
      have HW := Lib.hid (show Nat.gcd v (u % v) = Nat.gcd x.natAbs d by rw [Nat.gcd_comm, ← Nat.gcd_rec, Nat.gcd_comm]; exact HH.out)
      have hz := Nat.mod_lt u (show 0 < v by omega)
      clear HH HN
      generalize u % v = z at *
      have HM := Lib.hid (show (intOf (.int .i64 (z : Int))).toNat < (intOf (.int .i64 (v : Int))).toNat from hz)
      go_wp2_with fail
      go_round
      case rel => exact ⟨v, z, rfl, rfl, HW.out, hv, by omega⟩
      case measure => exact HM.out

set_option maxRecDepth 100000 in
set_option maxHeartbeats 8000000 in
theorem worst12 (zs : List Int) (A : Option Addr) (n c : Nat) (w : World) (h0 : 0 < n) (hn : n ≤ 12) (hck : ckT zs n = true) (h1 : RdZ 2 w w.heap.size A n zs) :
    Calls Try.prog 60 #[.slice A n c] w fun e w' => e = .returned (.tuple #[.int .i64 (wsT zs (mdT zs n) n : Int), .int .i64 (dv zs (mdT zs n) (wsT zs (mdT zs n) n) : Int)]) ∧ Below w.heap.size w w' := by
  have CO := Lib.hid (fun W (hb : Below w.heap.size w W) => offset12 zs A n c W h0 hn hck (h1.next hb))
  have HDF := Lib.hid (fun k (hk : k < n) => df_in hck hk)
  have HMI := Lib.hid (mdT_in hck h0)
  have HR := Lib.hid h1
  clear hck h1
  have HY := Lib.hid (fun k (h : wsM zs (mdT zs n) (-1) k < (dv zs (mdT zs n) k : Int)) => wsM_yes h)
  have HN := Lib.hid (fun k (h : ¬ wsM zs (mdT zs n) (-1) k < (dv zs (mdT zs n) k : Int)) => wsM_no (by omega) h)
  have HE := Lib.hid (wsM_pos (zs := zs) (o := mdT zs n) (z := -1) h0)
  have HDV := Lib.hid (fun k => show dv zs (mdT zs n) k = (df zs k - mdT zs n).natAbs from rfl)
  generalize mdT zs n = o at *
  go_enter Try.func60, Try.ntmps60
  go_wp2_with fail
  go_loopw [4, 5, 6] (fun u v i wr => ∃ k : Nat, k ≤ n ∧ i = .int .i64 k ∧ u = .int .i64 (wsT zs o k : Int) ∧ v = .int .i64 (wsM zs o (-1) k) ∧ Below w.heap.size w wr) (fun _ _ i _ => n - (intOf i).toNat)
  case atStart => exact ⟨0, Nat.zero_le _, rfl, rfl, rfl, Below.refl _ _⟩
  case round =>
    obtain ⟨k, hk, rfl, rfl, rfl, hb⟩ := hrel
    by_cases hlt : k < n
    · have hlt2 : (k : Int) < (n : Int) := by omega
      obtain ⟨b1, o1, rfl, l1, p0, p1⟩ := cellsP (HR.out.below hb (Nat.le_refl _)) hlt
      have hwl : b1 < wr.heap.size := Nat.lt_of_lt_of_le l1 hb.size
      have CS := Lib.hid (show ∀ WZ : World, Below wr.heap.size wr WZ → (WZ.cell? ⟨b1, o1 + k * 2, none⟩ = some (.int .i64 (fld 2 zs k 0)) ∧ WZ.cell? ⟨b1, o1 + k * 2 + 1, none⟩ = some (.int .i64 (fld 2 zs k 1))) from fun WZ hz =>
        And.intro ((hz.cell (p := ⟨b1, o1 + k * 2, none⟩) hwl).trans p0) ((hz.cell (p := ⟨b1, o1 + k * 2 + 1, none⟩) hwl).trans p1))
      obtain ⟨d0, d1⟩ := HDF.out k hlt
      obtain ⟨m0, m1⟩ := HMI.out
      have e1 : IntKind.i64.wrap (fld 2 zs k 1 - fld 2 zs k 0) = df zs k := by
        unfold df at d0 d1
        rw [IntWalk.i64_in _ (by omega)]; rfl
      have e2 : IntKind.i64.wrap (df zs k - o) = df zs k - o := IntWalk.i64_in _ (by omega)
      have Z := fun w => size12 (df zs k - o) w (by omega) (by omega)
      rw [← HDV.out k] at Z
      have Z := Lib.hid Z
      have HYk := Lib.hid (HY.out k)
      have HNk := Lib.hid (HN.out k)
      have HB := Lib.hid hb
      have HBd := Lib.hid hb.drew
      clear hb p0 p1 d0 d1 m0 m1 HDF HMI HY HN HE HDV
      generalize dv zs o k = d at *
      generalize df zs k = y at *
      generalize fld 2 zs k 0 = u at *
      generalize fld 2 zs k 1 = v at *
      generalize hf1 : wsT zs o k = f1 at *
      generalize hg1 : wsM zs o (-1) k = g1 at *
      have HF1 := Lib.hid hf1
      have HG1 := Lib.hid hg1
      clear hf1 hg1
      go_upto_region 5 with fail
      go_region_held3 (fun w' => w'.cell? ⟨b1, o1 + k * 2, none⟩ = some (.int .i64 u) ∧ w'.cell? ⟨b1, o1 + k * 2 + 1, none⟩ = some (.int .i64 v)) (first
        | exact CS.out _ (Below.refl wr.heap.size wr).drew
        | exact CS.out _ (by assumption)
        | go_keep) (first
        | (go_at_call 66; (with_reducible refine (CO.out _ HBd.out).mono ?_); rintro e wy ⟨rfl, hb⟩
           have hbl : Below wr.heap.size wr wy := (Below.refl wr.heap.size wr).drew.trans (hb.mono (Nat.le_refl _))
           clear hb)
        | (go_at_call 90; (with_reducible refine (Z.out _).mono ?_); rintro e wy2 ⟨rfl, rfl⟩))
      all_goals (
        have HB2 := Lib.hid (HB.out.trans (hbl.mono HB.out.size))
        clear hbl CS
        by_cases hs : g1 < (d : Int)
        · have HQ := Lib.hid (HYk.out hs)
          clear HYk HNk
          go_wp2_with fail
          go_roundw
          case rel => exact ⟨k + 1, by omega, by go_num, by rw [HQ.out.1], by rw [HQ.out.2], HB2.out⟩
          case measure => simp [intOf]; omega
        · have HQ := Lib.hid (HNk.out (by omega))
          have hs3 : (d : Int) ≤ g1 := by omega
          clear HYk HNk
          go_wp2_with fail
          go_roundw
          case rel => exact ⟨k + 1, by omega, by go_num, by rw [HQ.out.1], by rw [HQ.out.2], HB2.out⟩
          case measure => simp [intOf]; omega)
    · obtain rfl : k = n := by omega
      have HB := Lib.hid hb
      clear hb
      generalize hg1 : wsM zs o (-1) k = g1 at *
      have HG1 := Lib.hid hg1
      clear hg1
      go_wp2_with fail
      go_ret2
      exact ⟨by rw [← HE.out]; rfl, HB.out⟩

set_option maxRecDepth 100000 in
set_option maxHeartbeats 2000000 in
theorem worstPair (zs : List Int) (A : Option Addr) (n c : Nat) (w : World) (hn : n ≤ 1048577) (h1 : RdZ 2 w w.heap.size A n zs) :
    Calls Try.prog 19 #[.slice A n c] w fun e w' => e = .returned (.tuple #[.int .i64 (wpI zs n), .int .i64 (wpD zs n), .bool (ckB zs n)]) ∧ Below w.heap.size w w' := by
  have T := good12 zs A n c w hn h1
  cases hq : ckB zs n
  · rw [hq] at T
    have HV := Lib.hid (wp_no hq)
    have T := Lib.hid T
    clear h1 hq
    go_enter Try.func19, Try.ntmps19
    go_wp2_with fail
    refine T.out.mono ?_
    rintro e w2 ⟨rfl, hb⟩
    have BX := Lib.hid hb
    clear hb
    go_wp2_with fail
    go_ret3
    exact ⟨by rw [HV.out.1, HV.out.2]; rfl, BX.out⟩
  rw [hq] at T
  have T := Lib.hid T
  have HV := Lib.hid (wp_yes hq)
  have CO := Lib.hid (fun W (hb : Below w.heap.size w W) => worst12 zs A n c W (ckB_yes hq).2.1 (ckB_yes hq).2.2 (ckB_yes hq).1 (h1.next hb))
  clear h1 hq
  go_enter Try.func19, Try.ntmps19
  go_wp2_with fail
  refine T.out.mono ?_
  rintro e w2 ⟨rfl, hb⟩
  have BX := Lib.hid hb
  clear hb
  go_wp2_with fail
  refine (CO.out _ BX.out).mono ?_
  rintro e w3 ⟨rfl, hb⟩
  have BY := Lib.hid (BX.out.trans (hb.mono BX.out.size))
  clear hb
  go_wp2_with fail
  go_ret3
  exact ⟨by rw [HV.out.1, HV.out.2]; rfl, BY.out⟩

set_option maxRecDepth 100000 in
set_option maxHeartbeats 2000000 in
theorem isSteadyClock (zs : List Int) (m : Int) (A : Option Addr) (n c : Nat) (w : World) (hn : n ≤ 1048577) (h1 : RdZ 2 w w.heap.size A n zs) :
    Calls Try.prog 17 #[.slice A n c, .int .i64 m] w fun e w' => e = .returned (.tuple #[.bool (scV zs n m), .bool (scB zs n m)]) ∧ Below w.heap.size w w' := by
  have T := good12 zs A n c w hn h1
  cases hq : ckB zs n
  · rw [hq] at T
    have HV := Lib.hid (show scB zs n m = false ∧ scV zs n m = false by unfold scV scB; rw [hq]; exact ⟨rfl, rfl⟩)
    have T := Lib.hid T
    clear h1 hq
    go_enter Try.func17, Try.ntmps17
    go_wp2_with fail
    refine T.out.mono ?_
    rintro e w2 ⟨rfl, hb⟩
    have BX := Lib.hid hb
    clear hb
    go_wp2_with fail
    go_ret2
    exact ⟨by rw [HV.out.1, HV.out.2]; rfl, BX.out⟩
  rw [hq] at T
  have T := Lib.hid T
  have T1 := fun w => ticks m w
  cases hm : tkB m
  · rw [hm] at T1
    have HV := Lib.hid (show scB zs n m = false ∧ scV zs n m = false by unfold scV scB; rw [hq, hm]; exact ⟨rfl, rfl⟩)
    have T1 := Lib.hid T1
    clear h1 hq hm
    go_enter Try.func17, Try.ntmps17
    go_wp2_with fail
    refine T.out.mono ?_
    rintro e w2 ⟨rfl, hb⟩
    have BX := Lib.hid hb
    clear hb
    go_wp2_with fail
    refine (T1.out _).mono ?_
    rintro e w3 ⟨rfl, rfl⟩
    go_wp2_with fail
    go_ret2
    exact ⟨by rw [HV.out.1, HV.out.2]; rfl, BX.out⟩
  rw [hm] at T1
  have T1 := Lib.hid T1
  have HV := Lib.hid (show scB zs n m = true ∧ scV zs n m = decide ((dv zs (mdT zs n) (wsT zs (mdT zs n) n) : Int) ≤ m) by unfold scV scB; rw [hq, hm]; exact ⟨rfl, rfl⟩)
  have CO := Lib.hid (fun W (hb : Below w.heap.size w W) => worst12 zs A n c W (ckB_yes hq).2.1 (ckB_yes hq).2.2 (ckB_yes hq).1 (h1.next hb))
  clear h1 hq hm
  generalize wsT zs (mdT zs n) n = f at *
  generalize dv zs (mdT zs n) f = d at *
  go_enter Try.func17, Try.ntmps17
  go_wp2_with fail
  refine T.out.mono ?_
  rintro e w2 ⟨rfl, hb⟩
  have BX := Lib.hid hb
  clear hb
  go_wp2_with fail
  refine (T1.out _).mono ?_
  rintro e w3 ⟨rfl, rfl⟩
  go_wp2_with fail
  refine (CO.out _ BX.out).mono ?_
  rintro e w3 ⟨rfl, hb⟩
  have BY := Lib.hid (BX.out.trans (hb.mono BX.out.size))
  clear hb
  go_wp2_with fail
  go_ret2
  exact ⟨by rw [HV.out.1, HV.out.2]; rfl, BY.out⟩

set_option maxRecDepth 100000 in
set_option maxHeartbeats 2000000 in
theorem driftOf (zs : List Int) (A : Option Addr) (n c : Nat) (w : World) (hn : n ≤ 1048577) (h1 : RdZ 2 w w.heap.size A n zs) :
    Calls Try.prog 26 #[.slice A n c] w fun e w' => e = .returned (.tuple #[.int .i64 (drN zs n), .int .i64 (drD zs n), .bool (drB zs n)]) ∧ Below w.heap.size w w' := by
  have T := good12 zs A n c w hn h1
  cases hq : ckB zs n
  · rw [hq] at T
    have HV := Lib.hid (show drB zs n = false by unfold drB; rw [hq]; rfl)
    have T := Lib.hid T
    clear h1 hq
    go_enter Try.func26, Try.ntmps26
    go_wp2_with fail
    refine T.out.mono ?_
    rintro e w2 ⟨rfl, hb⟩
    have BX := Lib.hid hb
    clear hb
    go_wp2_with fail
    go_ret3
    exact ⟨by rw [HV.out, (dr_no HV.out).1, (dr_no HV.out).2]; rfl, BX.out⟩
  rw [hq] at T
  have T := Lib.hid T
  by_cases hone : n = 1
  · have HV := Lib.hid (show drB zs n = false by unfold drB; rw [decide_eq_false (fun h => h hone)]; simp)
    have o1 : ((n : Int) == 1) = true := beq_iff_eq.mpr (by omega)
    clear h1 hq hone
    go_enter Try.func26, Try.ntmps26
    go_wp2_with fail
    refine T.out.mono ?_
    rintro e w2 ⟨rfl, hb⟩
    have BX := Lib.hid hb
    clear hb
    go_wp2_with fail
    go_ret3
    exact ⟨by rw [HV.out, (dr_no HV.out).1, (dr_no HV.out).2]; rfl, BX.out⟩
  have o1 : ((n : Int) == 1) = false := beq_eq_false_iff_ne.mpr (by omega)
  have HB := Lib.hid (show drB zs n = true by unfold drB; rw [hq, decide_eq_true (show n ≠ 1 from hone)]; rfl)
  have HV := Lib.hid (dr_yes HB.out)
  have hn2 : 2 ≤ n := by have := (ckB_yes hq).2.1; omega
  have hn12 := (ckB_yes hq).2.2
  obtain ⟨⟨x0, x1⟩, y0, y1, yd⟩ := dr_in (ckB_yes hq).1 hn2
  have F0 := oneB_yes (ckT_at (ckB_yes hq).1 (show 0 < n by omega))
  have F1 := oneB_yes (ckT_at (ckB_yes hq).1 (show n - 1 < n by omega))
  obtain ⟨m, hm⟩ : ∃ m, n - 1 = m := ⟨_, rfl⟩
  have R := Lib.hid (fun w => reduce12 (drX zs n) (drY zs n) w (by omega) (by omega) y0 (by omega))
  have HX : drX zs n = fld 2 zs (n - 1) 1 - fld 2 zs 0 1 - fld 2 zs (n - 1) 0 + fld 2 zs 0 0 := rfl
  have HG : drG zs n = Nat.gcd (drX zs n).natAbs (drY zs n) := rfl
  rw [hm] at yd F1 HX
  obtain ⟨b, o, rfl, lb, p0, p1⟩ := cellsP h1 (show 0 < n by omega)
  rw [Nat.zero_mul, Nat.add_zero] at p0 p1
  obtain ⟨b2, o2, eA, l2, q0, q1⟩ := cellsP h1 (show m < n by omega)
  obtain ⟨rfl, rfl⟩ : b = b2 ∧ o = o2 := by injection eA with e; injection e with e1 e2; exact ⟨e1, e2⟩
  have C0 := Lib.hid (fun WZ (hb : Below w.heap.size w WZ) => show WZ.cell? ⟨b, o, none⟩ = some (.int .i64 (fld 2 zs 0 0)) ∧ WZ.cell? ⟨b, o + 1, none⟩ = some (.int .i64 (fld 2 zs 0 1)) ∧ WZ.cell? ⟨b, o + m * 2, none⟩ = some (.int .i64 (fld 2 zs m 0)) ∧ WZ.cell? ⟨b, o + m * 2 + 1, none⟩ = some (.int .i64 (fld 2 zs m 1)) from
    ⟨(hb.cell (p := ⟨b, o, none⟩) lb).trans p0, (hb.cell (p := ⟨b, o + 1, none⟩) lb).trans p1, (hb.cell (p := ⟨b, o + m * 2, none⟩) lb).trans q0, (hb.cell (p := ⟨b, o + m * 2 + 1, none⟩) lb).trans q1⟩)
  have e0 : IntKind.i64.wrap ((n : Int) - 1) = (m : Int) := by rw [IntWalk.i64_in _ (by omega)]; omega
  have hm0 : (0 : Int) ≤ (m : Int) := Int.natCast_nonneg _
  have hmn : (m : Int) < (n : Int) := by omega
  have h0n : 0 < n := by omega
  have e1 : IntKind.i64.wrap (fld 2 zs m 1 - fld 2 zs 0 1) = fld 2 zs m 1 - fld 2 zs 0 1 := IntWalk.i64_in _ (by omega)
  have e2 : IntKind.i64.wrap (fld 2 zs m 1 - fld 2 zs 0 1 - fld 2 zs m 0) = fld 2 zs m 1 - fld 2 zs 0 1 - fld 2 zs m 0 := IntWalk.i64_in _ (by omega)
  have e3 : IntKind.i64.wrap (fld 2 zs m 1 - fld 2 zs 0 1 - fld 2 zs m 0 + fld 2 zs 0 0) = drX zs n := by rw [HX]; exact IntWalk.i64_in _ (by omega)
  have e4 : IntKind.i64.wrap (fld 2 zs m 0 - fld 2 zs 0 0) = (drY zs n : Int) := by rw [yd]; exact IntWalk.i64_in _ (by omega)
  have HGG := Lib.hid HG
  clear hq h1 x0 x1 y0 y1 yd F0 F1 HX HG hm p0 p1 q0 q1 eA l2 hn12
  generalize drX zs n = x at *
  generalize drY zs n = d at *
  generalize fld 2 zs 0 0 = a0 at *
  generalize fld 2 zs 0 1 = a1 at *
  generalize fld 2 zs m 0 = z0 at *
  generalize fld 2 zs m 1 = z1 at *
  generalize Nat.gcd x.natAbs d = gg at *
  generalize drG zs n = gd at *
  go_enter Try.func26, Try.ntmps26
  go_wp2_with fail
  refine T.out.mono ?_
  rintro e w2 ⟨rfl, hb⟩
  have BX := Lib.hid hb
  clear hb
  have XA := Lib.hid ((newS 36 #[.int .i64 a0, .int .i64 a1] w2).alloc (.cells #[.int .i64 z0, .int .i64 z1] 36))
  have XB := (newS 36 #[.int .i64 a0, .int .i64 a1] w2).next 36 #[.int .i64 z0, .int .i64 z1]
  have YB := Lib.hid ((newS 36 #[.int .i64 z0, .int .i64 z1] w2).alloc (.cells #[.int .i64 a0, .int .i64 a1] 36))
  have YA := (newS 36 #[.int .i64 z0, .int .i64 z1] w2).next 36 #[.int .i64 a0, .int .i64 a1]
  rw [World.size_alloc] at XB YA
  have XB := Lib.hid XB
  have YA := Lib.hid YA
  have CC := Lib.hid (fun WZ (hb : Below w2.heap.size w2 WZ) => C0.out WZ (BX.out.trans (hb.mono BX.out.size)))
  go_upto_region 3 with fail
  go_cut [5, 6] from 17 to 25 (fun p q wz => ∃ pL pH, p = .pointer (some ⟨pL, 0, none⟩) ∧ q = .pointer (some ⟨pH, 0, none⟩) ∧ AtS 36 #[.int .i64 a0, .int .i64 a1] w2 wz pL ∧ AtS 36 #[.int .i64 z0, .int .i64 z1] w2 wz pH)
  case first =>
    go_region_held3 (fun w' => w'.cell? ⟨b, o, none⟩ = some (.int .i64 a0) ∧ w'.cell? ⟨b, o + 1, none⟩ = some (.int .i64 a1) ∧ w'.cell? ⟨b, o + m * 2, none⟩ = some (.int .i64 z0) ∧ w'.cell? ⟨b, o + m * 2 + 1, none⟩ = some (.int .i64 z1)) (first
      | exact CC.out _ (Below.refl w2.heap.size w2).drew
      | exact CC.out _ ((Below.refl w2.heap.size w2).alloc (Nat.le_refl _) _).drew
      | exact CC.out _ (((Below.refl w2.heap.size w2).alloc (Nat.le_refl _) _).alloc (by rw [World.size_alloc]; omega) _).drew
      | go_keep) (fail)
    all_goals (
      go_wp2_with fail
      go_meet
      first
      | exact ⟨_, _, rfl, rfl, XA.out.drew, XB.out.drew⟩
      | exact ⟨_, _, rfl, rfl, YA.out.drew, YB.out.drew⟩)
  case rest =>
    obtain ⟨pL, pH, rfl, rfl, hA, hB⟩ := hcut
    have a0_ := hA.cell 0
    have a1_ := hA.cell 1
    have b0_ := hB.cell 0
    have b1_ := hB.cell 1
    have BY := Lib.hid (BX.out.trans (hA.1.mono BX.out.size))
    clear hA hB XA XB YA YB CC C0
    generalize wc = W4 at *
    go_wp2_with fail
    refine (R.out _).mono ?_
    rintro e w5 ⟨rfl, j, rfl⟩
    clear a0_ a1_ b0_ b1_
    have BZ := Lib.hid (aid.below_drewN BY.out j)
    generalize W4.drewN j = W5 at *
    go_wp2_with fail
    go_ret3
    exact ⟨by rw [HB.out, HV.out.1, HV.out.2, HGG.out]; rfl, BZ.out⟩

end Go.Proofs.Ytndogafihaooiaa.clkt
