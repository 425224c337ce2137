/- For every code of at most 65536 bytes (and trivially for a longer one) the law FnClocks returns true: impl answers as the model about pairs, the worst pair is as far from the median as is told, a clock is steady exactly if its worst pair is near enough, no more than half of the pairs lie below or above the median, and the shared time is the model's. No condition of mine. -/
import Derived.Test.YtndogafihaooiaaRows
import Derived.Test.YtndogafihaooiaaDrawT12
import Derived.Test.YtndogafihaooiaaClkG
import Derived.Test.YtndogafihaooiaaClkU
import Derived.WalkKit
import Derived.ProofKit
import Derived.OpenShut
import Derived.ShutString
import Derived.ChangeOld
import Derived.Below
import Derived.BigQuiet
import Derived.Deep.QuietTactic
import Derived.Deep.RegionHeld3
import Derived.Deep.CutRange
import Derived.Deep.CutBlock
namespace Go.Proofs.Ytndogafihaooiaa.fnClocks
open Go.ChangeShapes Go.WideShapes Go.ChangeAt Go.RowKit
open Go.ChangeMaps (open_string shut_string)
open Go.Proofs.Ytndogafihaooiaa.code_ Go.Proofs.Ytndogafihaooiaa.cur Go.Proofs.Ytndogafihaooiaa.ats Go.Proofs.Ytndogafihaooiaa.lst Go.Proofs.Ytndogafihaooiaa.ints Go.Proofs.Ytndogafihaooiaa.in_ Go.Proofs.Ytndogafihaooiaa.clk Go.Proofs.Ytndogafihaooiaa.clks Go.Proofs.Ytndogafihaooiaa.clkg Go.Proofs.Ytndogafihaooiaa.drawt12
set_option linter.unusedVariables false

theorem bool_ne_self (b : Bool) : (b != b) = false := by simp
theorem int_ne_self (b : Int) : (b != b) = false := by simp
theorem bool_eq_self (b : Bool) : (b == b) = true := by simp
theorem int_eq_self (b : Int) : (b == b) = true := by simp
theorem own_cap2 {w : World} {B e n : Nat} {v : Value} {xs : List Value} (h : w.ownsRow B e 2 v n xs) : ∃ A c, v = .slice A n c ∧ n ≤ c := by
  rcases h.2 with ⟨rfl, h0⟩ | ⟨g, cap, cur, rfl, _, _, hle, _⟩
  · exact ⟨_, _, by rw [h0], by omega⟩
  · exact ⟨_, _, rfl, hle⟩

set_option maxRecDepth 100000 in
set_option maxHeartbeats 16000000 in
theorem walk (A : Option Addr) (n c : Nat) (z : List Int) (w : World) (w0 : IsRow .u8 w A n c z) :
    Calls Try.prog 3 #[.slice A n c] w fun e w' => e = .returned (.bool true) ∧ Below w.heap.size w w' := by
  obtain ⟨hby, hnc, -⟩ := bytes_of w0
  clear w0
  have hv := Lib.hid (fun w => rBig A n c w)
  by_cases hbig : (65536 : Int) < (n : Int)
  · clear hby
    go_enter Try.func3, Try.ntmps3
    go_wp2_with fail
    refine (hv.out _).mono ?_
    rintro e w1 ⟨rfl, rfl⟩
    go_wp2_with fail
    go_ret
    exact ⟨rfl, Below.refl _ _⟩
  have hd : decide ((65536 : Int) < (n : Int)) = false := by simpa using hbig
  have hn : n ≤ 65536 := by omega
  have H := Lib.hid hby
  clear hby hbig hnc
  go_enter Try.func3, Try.ntmps3
  go_wp2_with fail
  refine (hv.out _).mono ?_
  rintro e wx ⟨rfl, rfl⟩
  clear hd hv
  have Bw := Lib.hid (Below.refl w.heap.size w)
  go_wp2_with fail
  refine (drawt12.steadyClock A n c w hn (Bytes_below H.out Bw.out)).mono ?_
  rintro e V1 ⟨v1, k1, zs, mo, rfl, ho1, hk1, hb⟩
  obtain ⟨A1, c1, rfl, hc1⟩ := own_cap2 ho1
  have R1 := Lib.hid (RdZ.of_own ho1 (draws12.own_len ho1))
  have Nw := Lib.hid (Bw.out.trans (hb.mono Bw.out.size))
  clear Bw ho1 hb
  have Bw := Lib.hid Nw.out
  clear Nw
  have B1 := Lib.hid (Below.refl V1.heap.size V1)
  have HC1 := Lib.hid hc1
  have K1 := Lib.hid hk1
  have CI1 := Lib.hid (fun W h => clki.isSteadyClock zs mo A1 k1 c1 W hc1 (by omega) h)
  have CS1 := Lib.hid (fun W h => clkt.isSteadyClock zs mo A1 k1 c1 W (by omega) h)
  have CI2 := Lib.hid (fun W h => clki.worstPair zs A1 k1 c1 W hc1 (by omega) h)
  have CS2 := Lib.hid (fun W h => clkt.worstPair zs A1 k1 c1 W (by omega) h)
  have CI3 := Lib.hid (fun W h => clki.isValidPairs zs A1 k1 c1 W hc1 (by omega) h)
  have CI4 := Lib.hid (fun W h => clki.offsetOf zs A1 k1 c1 W hc1 (by omega) h)
  have CS4 := Lib.hid (fun W h => clko.offsetOf zs A1 k1 c1 W (by omega) h)
  have FSC := Lib.hid (fun (h : ckB zs k1 = true) (h2 : scB zs k1 mo = true) => show scV zs k1 mo = decide ((dv zs (mdT zs k1) (wsT zs (mdT zs k1) k1) : Int) ≤ mo) by unfold scV; rw [h2]; rfl)
  generalize hs1 : scV zs k1 mo = b1 at *
  generalize hs2 : scB zs k1 mo = b2 at *
  clear hs1 hs2
  have ne1 := bool_ne_self b1
  have ne2 := bool_ne_self b2
  have ne3 := int_ne_self (wpI zs k1)
  have ne4 := int_ne_self (wpD zs k1)
  have ne5 := bool_ne_self (ckB zs k1)
  have ne6 := int_ne_self (ofV zs k1)
  clear hk1 hc1
  go_wp2_with fail
  refine (CI1.out V1 (R1.out.next B1.out)).mono ?_
  rintro e V2 ⟨rfl, hb⟩
  have Nw := Lib.hid (Bw.out.trans (hb.mono Bw.out.size))
  clear Bw
  have Bw := Lib.hid Nw.out
  clear Nw
  have N1 := Lib.hid (B1.out.trans (hb.mono B1.out.size))
  clear B1
  have B1 := Lib.hid N1.out
  clear N1
  clear hb
  go_wp2_with fail
  refine (CS1.out V2 (R1.out.next B1.out)).mono ?_
  rintro e V3 ⟨rfl, hb⟩
  have Nw := Lib.hid (Bw.out.trans (hb.mono Bw.out.size))
  clear Bw
  have Bw := Lib.hid Nw.out
  clear Nw
  have N1 := Lib.hid (B1.out.trans (hb.mono B1.out.size))
  clear B1
  have B1 := Lib.hid N1.out
  clear N1
  clear hb
  go_wp2_with fail
  refine (CI2.out V3 (R1.out.next B1.out)).mono ?_
  rintro e V4 ⟨rfl, hb⟩
  have Nw := Lib.hid (Bw.out.trans (hb.mono Bw.out.size))
  clear Bw
  have Bw := Lib.hid Nw.out
  clear Nw
  have N1 := Lib.hid (B1.out.trans (hb.mono B1.out.size))
  clear B1
  have B1 := Lib.hid N1.out
  clear N1
  clear hb
  go_wp2_with fail
  refine (CS2.out V4 (R1.out.next B1.out)).mono ?_
  rintro e V5 ⟨rfl, hb⟩
  have Nw := Lib.hid (Bw.out.trans (hb.mono Bw.out.size))
  clear Bw
  have Bw := Lib.hid Nw.out
  clear Nw
  have N1 := Lib.hid (B1.out.trans (hb.mono B1.out.size))
  clear B1
  have B1 := Lib.hid N1.out
  clear N1
  clear hb
  go_wp2_with fail
  refine (CI3.out V5 (R1.out.next B1.out)).mono ?_
  rintro e V6 ⟨rfl, hb⟩
  have Nw := Lib.hid (Bw.out.trans (hb.mono Bw.out.size))
  clear Bw
  have Bw := Lib.hid Nw.out
  clear Nw
  have N1 := Lib.hid (B1.out.trans (hb.mono B1.out.size))
  clear B1
  have B1 := Lib.hid N1.out
  clear N1
  clear hb
  go_wp2_with fail
  refine (CI4.out V6 (R1.out.next B1.out)).mono ?_
  rintro e V7 ⟨rfl, hb⟩
  have Nw := Lib.hid (Bw.out.trans (hb.mono Bw.out.size))
  clear Bw
  have Bw := Lib.hid Nw.out
  clear Nw
  have N1 := Lib.hid (B1.out.trans (hb.mono B1.out.size))
  clear B1
  have B1 := Lib.hid N1.out
  clear N1
  clear hb
  go_wp2_with fail
  refine (CS4.out V7 (R1.out.next B1.out)).mono ?_
  rintro e V8 ⟨rfl, hb⟩
  have Nw := Lib.hid (Bw.out.trans (hb.mono Bw.out.size))
  clear Bw
  have Bw := Lib.hid Nw.out
  clear Nw
  have N1 := Lib.hid (B1.out.trans (hb.mono B1.out.size))
  clear B1
  have B1 := Lib.hid N1.out
  clear N1
  clear hb
  clear CI1 CS1 CI2 CS2 CI3 CI4 CS4 ne1 ne2
  go_upto_if 116 with fail
  clear ne3 ne4 ne5 ne6
  generalize hwi : wpI zs k1 = wi at *
  generalize hwd : wpD zs k1 = wd at *
  generalize hov : ofV zs k1 = ov at *
  generalize hck : ckB zs k1 = ck at *
  have HWI := Lib.hid hwi
  have HWD := Lib.hid hwd
  have HOV := Lib.hid hov
  have HCK := Lib.hid hck
  clear hwi hwd hov hck
  go_cut [19, 20, 21] from 117 to 190 (fun p19 p20 p21 wz => Below V8.heap.size V8 wz)
  case first =>
    cases ck
    · clear FSC HWI HWD HOV HCK
      go_wp2_with fail
      go_meet
      exact Below.refl _ _
    · have hq := HCK.out
      have FS := Lib.hid (FSC.out rfl)
      have FW := wp_yes hq
      have FO := of_yes hq
      obtain ⟨hck, hn1, hn12⟩ := ckB_yes hq
      obtain ⟨i, hi⟩ : ∃ i, wsT zs (mdT zs k1) k1 = i := ⟨_, rfl⟩
      have hil : i < k1 := by rw [← hi]; exact wsT_lt zs (mdT zs k1) k1 (by omega)
      rw [hi] at FS FW
      obtain ⟨d0, d1⟩ := df_in hck hil
      obtain ⟨m0, m1⟩ := mdT_in hck (show 0 < k1 by omega)
      have HDF := Lib.hid (fun k (hk : k < k1) => df_in hck hk)
      have HLW := Lib.hid (lw_half (zs := zs) (show 0 < k1 by omega))
      have HLE := Lib.hid (fun k => lw_le zs (mdT zs k1) k)
      have HLE2 := Lib.hid (fun k => lw_le zs (mdT zs k1 + 1) k)
      have HYA := Lib.hid (fun k h => lw_yes (zs := zs) (o := mdT zs k1) (k := k) h)
      have HNA := Lib.hid (fun k h => lw_no (zs := zs) (o := mdT zs k1) (k := k) h)
      have HYB := Lib.hid (fun k h => lw_yes (zs := zs) (o := mdT zs k1 + 1) (k := k) h)
      have HNB := Lib.hid (fun k h => lw_no (zs := zs) (o := mdT zs k1 + 1) (k := k) h)
      obtain ⟨b, o, rfl, lb, p0, p1⟩ := cellsP (R1.out.next B1.out) hil
      have e1 : IntKind.i64.wrap (fld 2 zs i 1 - fld 2 zs i 0) = df zs i := by
        unfold df at d0 d1
        rw [IntWalk.i64_in _ (by omega)]; rfl
      have e2 : IntKind.i64.wrap (df zs i - mdT zs k1) = df zs i - mdT zs k1 := IntWalk.i64_in _ (by omega)
      have G := fun w d => aid.quiet_left (clkg.size (df zs i - mdT zs k1) (World.drewN w d) (by omega) (by omega))
      rw [show ((df zs i - mdT zs k1).natAbs : Int) = (dv zs (mdT zs k1) i : Int) from rfl] at G
      have G := Lib.hid G
      obtain rfl : wi = (i : Int) := HWI.out.symm.trans FW.1
      obtain rfl : wd = (dv zs (mdT zs k1) i : Int) := HWD.out.symm.trans FW.2
      obtain rfl : ov = mdT zs k1 := HOV.out.symm.trans FO
      have hi0 : (0 : Int) ≤ (i : Int) := Int.natCast_nonneg _
      have hik : (i : Int) < (k1 : Int) := by omega
      have HM := Lib.hid (And.intro m0 m1)
      clear hq FSC FW FO hck hi hil d0 d1 m0 m1 HWI HWD HOV HCK
      generalize dv zs (mdT zs k1) i = d at *
      generalize mdT zs k1 = om at *
      generalize df zs i = y at *
      generalize fld 2 zs i 0 = f0 at *
      generalize fld 2 zs i 1 = f1 at *
      have nd := int_ne_self (d : Int)
      have nb := bool_ne_self (decide ((d : Int) ≤ mo))
      cases b2
      · clear FS
        go_upto_region 17 with fail
        go_quiet ((go_at_call 23; first | (with_reducible exact G.out _ _)))
        clear p0 p1 G
        go_wp2_with fail
        go_loopw [19, 20, 21] (fun u v q wr => ∃ k j : Nat, k ≤ k1 ∧ q = .int .i64 k ∧ u = .int .i64 (lwT zs om k : Int) ∧ v = .int .i64 ((k : Int) - (lwT zs (om + 1) k : Int)) ∧ wr = V8.drewN j) (fun _ _ q _ => k1 - (intOf q).toNat)
        case atStart => exact ⟨0, _, Nat.zero_le _, rfl, rfl, rfl, rfl⟩
        case round =>
          obtain ⟨k, j, hk, rfl, rfl, rfl, rfl⟩ := hrel
          by_cases hlt : k < k1
          · have hlt2 : (k : Int) < (k1 : Int) := by omega
            obtain ⟨b2_, o2, eA, lb2, p0, p1⟩ := cellsP (R1.out.next B1.out) hlt
            obtain ⟨rfl, rfl⟩ : b = b2_ ∧ o = o2 := by injection eA with e; injection e with e1 e2; exact ⟨e1, e2⟩
            obtain ⟨y0, y1⟩ := HDF.out k hlt
            have e1 : IntKind.i64.wrap (fld 2 zs k 1 - fld 2 zs k 0) = df zs k := by
              unfold df at y0 y1
              rw [IntWalk.i64_in _ (by omega)]; rfl
            have la0 := HLE.out k
            have lb0 := HLE2.out k
            have YA := Lib.hid (HYA.out k)
            have NA := Lib.hid (HNA.out k)
            have YB := Lib.hid (HYB.out k)
            have NB := Lib.hid (HNB.out k)
            clear eA lb2
            generalize lwT zs om k = la at *
            generalize lwT zs (om + 1) k = lb at *
            generalize df zs k = yy at *
            generalize fld 2 zs k 0 = f0 at *
            generalize fld 2 zs k 1 = f1 at *
            by_cases h1 : yy < om
            · have h2 : ¬ om < yy := by omega
              have QA := Lib.hid (YA.out (by omega))
              have QB := Lib.hid (YB.out (by omega))
              clear YA NA YB NB
              go_wp2_with fail
              go_quiet (fail)
              go_wp2_with fail
              go_quiet (fail)
              go_wp2_with fail
              go_roundw
              case rel => exact ⟨k + 1, _, by omega, by go_num, by rw [QA.out]; go_num, by rw [QB.out]; congr 1; omega, by first | rfl | rw [World.drewN_drewN] | rw [World.drewN_drewN, World.drewN_drewN]⟩
              case measure => simp [intOf]; omega
            · by_cases h2 : om < yy
              · have QA := Lib.hid (NA.out (by omega))
                have QB := Lib.hid (NB.out (by omega))
                clear YA NA YB NB
                go_wp2_with fail
                go_quiet (fail)
                go_wp2_with fail
                go_quiet (fail)
                have e3 : IntKind.i64.wrap ((k : Int) - (lb : Int) + 1) = (k : Int) - (lb : Int) + 1 := IntWalk.i64_in _ (by omega)
                go_wp2_with fail
                go_roundw
                case rel => exact ⟨k + 1, _, by omega, by go_num, by rw [QA.out], by rw [QB.out]; congr 1; omega, by first | rfl | rw [World.drewN_drewN] | rw [World.drewN_drewN, World.drewN_drewN]⟩
                case measure => simp [intOf]; omega
              · have QA := Lib.hid (NA.out (by omega))
                have QB := Lib.hid (YB.out (by omega))
                clear YA NA YB NB
                go_wp2_with fail
                go_quiet (fail)
                go_wp2_with fail
                go_quiet (fail)
                go_wp2_with fail
                go_roundw
                case rel => exact ⟨k + 1, _, by omega, by go_num, by rw [QA.out], by rw [QB.out]; congr 1; omega, by first | rfl | rw [World.drewN_drewN] | rw [World.drewN_drewN, World.drewN_drewN]⟩
                case measure => simp [intOf]; omega
          · obtain rfl : k = k1 := by omega
            have la0 := HLE.out k
            have lb0 := HLE2.out k
            have hh := HLW.out
            clear HLW
            generalize lwT zs om k = la at *
            generalize lwT zs (om + 1) k = lb at *
            have e3 : IntKind.i64.wrap (2 * (la : Int)) = 2 * (la : Int) := IntWalk.i64_in _ (by omega)
            have e4 : IntKind.i64.wrap (2 * ((k : Int) - (lb : Int))) = 2 * ((k : Int) - (lb : Int)) := IntWalk.i64_in _ (by omega)
            have g1 : ¬ (k : Int) < 2 * (la : Int) := by omega
            have g2 : ¬ (k : Int) < 2 * ((k : Int) - (lb : Int)) := by omega
            go_wp2_with fail
            go_meet
            exact aid.below_drewN (Below.refl _ _) _
      · obtain rfl := FS.out rfl
        clear FS
        go_upto_region 17 with fail
        go_quiet ((go_at_call 23; first | (with_reducible exact G.out _ _)))
        clear p0 p1 G
        go_wp2_with fail
        go_loopw [19, 20, 21] (fun u v q wr => ∃ k j : Nat, k ≤ k1 ∧ q = .int .i64 k ∧ u = .int .i64 (lwT zs om k : Int) ∧ v = .int .i64 ((k : Int) - (lwT zs (om + 1) k : Int)) ∧ wr = V8.drewN j) (fun _ _ q _ => k1 - (intOf q).toNat)
        case atStart => exact ⟨0, _, Nat.zero_le _, rfl, rfl, rfl, rfl⟩
        case round =>
          obtain ⟨k, j, hk, rfl, rfl, rfl, rfl⟩ := hrel
          by_cases hlt : k < k1
          · have hlt2 : (k : Int) < (k1 : Int) := by omega
            obtain ⟨b2_, o2, eA, lb2, p0, p1⟩ := cellsP (R1.out.next B1.out) hlt
            obtain ⟨rfl, rfl⟩ : b = b2_ ∧ o = o2 := by injection eA with e; injection e with e1 e2; exact ⟨e1, e2⟩
            obtain ⟨y0, y1⟩ := HDF.out k hlt
            have e1 : IntKind.i64.wrap (fld 2 zs k 1 - fld 2 zs k 0) = df zs k := by
              unfold df at y0 y1
              rw [IntWalk.i64_in _ (by omega)]; rfl
            have la0 := HLE.out k
            have lb0 := HLE2.out k
            have YA := Lib.hid (HYA.out k)
            have NA := Lib.hid (HNA.out k)
            have YB := Lib.hid (HYB.out k)
            have NB := Lib.hid (HNB.out k)
            clear eA lb2
            generalize lwT zs om k = la at *
            generalize lwT zs (om + 1) k = lb at *
            generalize df zs k = yy at *
            generalize fld 2 zs k 0 = f0 at *
            generalize fld 2 zs k 1 = f1 at *
            by_cases h1 : yy < om
            · have h2 : ¬ om < yy := by omega
              have QA := Lib.hid (YA.out (by omega))
              have QB := Lib.hid (YB.out (by omega))
              clear YA NA YB NB
              go_wp2_with fail
              go_quiet (fail)
              go_wp2_with fail
              go_quiet (fail)
              go_wp2_with fail
              go_roundw
              case rel => exact ⟨k + 1, _, by omega, by go_num, by rw [QA.out]; go_num, by rw [QB.out]; congr 1; omega, by first | rfl | rw [World.drewN_drewN] | rw [World.drewN_drewN, World.drewN_drewN]⟩
              case measure => simp [intOf]; omega
            · by_cases h2 : om < yy
              · have QA := Lib.hid (NA.out (by omega))
                have QB := Lib.hid (NB.out (by omega))
                clear YA NA YB NB
                go_wp2_with fail
                go_quiet (fail)
                go_wp2_with fail
                go_quiet (fail)
                have e3 : IntKind.i64.wrap ((k : Int) - (lb : Int) + 1) = (k : Int) - (lb : Int) + 1 := IntWalk.i64_in _ (by omega)
                go_wp2_with fail
                go_roundw
                case rel => exact ⟨k + 1, _, by omega, by go_num, by rw [QA.out], by rw [QB.out]; congr 1; omega, by first | rfl | rw [World.drewN_drewN] | rw [World.drewN_drewN, World.drewN_drewN]⟩
                case measure => simp [intOf]; omega
              · have QA := Lib.hid (NA.out (by omega))
                have QB := Lib.hid (YB.out (by omega))
                clear YA NA YB NB
                go_wp2_with fail
                go_quiet (fail)
                go_wp2_with fail
                go_quiet (fail)
                go_wp2_with fail
                go_roundw
                case rel => exact ⟨k + 1, _, by omega, by go_num, by rw [QA.out], by rw [QB.out]; congr 1; omega, by first | rfl | rw [World.drewN_drewN] | rw [World.drewN_drewN, World.drewN_drewN]⟩
                case measure => simp [intOf]; omega
          · obtain rfl : k = k1 := by omega
            have la0 := HLE.out k
            have lb0 := HLE2.out k
            have hh := HLW.out
            clear HLW
            generalize lwT zs om k = la at *
            generalize lwT zs (om + 1) k = lb at *
            have e3 : IntKind.i64.wrap (2 * (la : Int)) = 2 * (la : Int) := IntWalk.i64_in _ (by omega)
            have e4 : IntKind.i64.wrap (2 * ((k : Int) - (lb : Int))) = 2 * ((k : Int) - (lb : Int)) := IntWalk.i64_in _ (by omega)
            have g1 : ¬ (k : Int) < 2 * (la : Int) := by omega
            have g2 : ¬ (k : Int) < 2 * ((k : Int) - (lb : Int)) := by omega
            go_wp2_with fail
            go_meet
            exact aid.below_drewN (Below.refl _ _) _
  case rest =>
    have Nw := Lib.hid (Bw.out.trans (hcut.mono Bw.out.size))
    clear Bw hcut HWI HWD HOV HCK FSC R1 B1
    have Bw := Lib.hid Nw.out
    clear Nw
    go_wp2_with fail
    refine (drawt12.driftOf A n c wc hn (Bytes_below H.out Bw.out)).mono ?_
    rintro e U1 ⟨v2, k2, ys, rfl, ho2, hk2, hb⟩
    obtain ⟨A2, c2, rfl, hc2⟩ := own_cap2 ho2
    have R2 := Lib.hid (RdZ.of_own ho2 (draws12.own_len ho2))
    have Nw := Lib.hid (Bw.out.trans (hb.mono Bw.out.size))
    clear Bw ho2 hb
    have Bw := Lib.hid Nw.out
    clear Nw
    have CI := Lib.hid (fun W h => clki.driftOf ys A2 k2 c2 W hc2 (by omega) h)
    have CS := Lib.hid (fun W h => clkt.driftOf ys A2 k2 c2 W (by omega) h)
    have ne1 := int_ne_self (drN ys k2)
    have ne2 := int_ne_self (drD ys k2)
    have ne3 := bool_ne_self (drB ys k2)
    clear hk2 hc2
    go_wp2_with fail
    refine (CI.out U1 R2.out).mono ?_
    rintro e U2 ⟨rfl, hb⟩
    have Nw := Lib.hid (Bw.out.trans (hb.mono Bw.out.size))
    have B2 := Lib.hid hb
    clear Bw hb
    have Bw := Lib.hid Nw.out
    clear Nw
    go_wp2_with fail
    refine (CS.out U2 (R2.out.next B2.out)).mono ?_
    rintro e U3 ⟨rfl, hb⟩
    have Nw := Lib.hid (Bw.out.trans (hb.mono Bw.out.size))
    clear Bw hb B2 CI CS R2
    have Bw := Lib.hid Nw.out
    clear Nw
    go_upto_region 34 with fail
    clear ne1 ne2 ne3
    go_wp2_with fail
    refine (drawt12.sharedTime A n c U3 hn (Bytes_below H.out Bw.out)).mono ?_
    rintro e U4 ⟨A3, A4, k3, c3, k4, c4, os, ts, rfl, r3, r4, hc3, hc4, hk3, hk4, hb⟩
    have R3 := Lib.hid r3
    have R4 := Lib.hid r4
    have Nw := Lib.hid (Bw.out.trans (hb.mono Bw.out.size))
    clear Bw hb r3 r4
    have Bw := Lib.hid Nw.out
    clear Nw
    have CI := Lib.hid (fun W h1 h2 => clki.sharedTime os ts A3 A4 k3 c3 k4 c4 W hc3 hc4 (by omega) (by omega) h1 h2)
    have CS := Lib.hid (fun W h1 h2 => clku.sharedTime os ts A3 A4 k3 c3 k4 c4 W (by omega) (by omega) h1 h2)
    have ne1 := int_eq_self (shV os k3 ts k4)
    have ne2 := bool_eq_self (shB os k3 ts k4)
    clear hk3 hk4 hc3 hc4
    go_wp2_with fail
    refine (CI.out U4 R3.out R4.out).mono ?_
    rintro e U5 ⟨rfl, hb⟩
    have Nw := Lib.hid (Bw.out.trans (hb.mono Bw.out.size))
    have B2 := Lib.hid hb
    clear Bw hb
    have Bw := Lib.hid Nw.out
    clear Nw
    go_wp2_with fail
    refine (CS.out U5 (R3.out.next B2.out) (R4.out.next B2.out)).mono ?_
    rintro e U6 ⟨rfl, hb⟩
    have Nw := Lib.hid (Bw.out.trans (hb.mono Bw.out.size))
    clear Bw hb B2 CI CS R3 R4
    go_wp2_with fail
    go_ret
    exact ⟨by first | rfl | (congr 1), Nw.out⟩


theorem own : ownKnob Try.prog.godebug = none := by kernel_rfl
theorem laidOut : laidOutB Try.prog = true := by kernel_rfl

set_option maxRecDepth 100000 in
theorem lifted (os : Os) (started : os.Started) (H : Type) (enc : TypeId × Value → H) :
    ReturnsInHanded {} Try.checked os 3 .any (Rows.fnClocksSpec.pre6 enc Try.prog Try.f3 Rows.fnClocksRow.domain false) (Rows.fnClocksSpec.post enc Try.prog Try.f3 false true false false) := by
  refine returnsInHanded_of_change (C := Try.checked) own started (by kernel_rfl) Try.func3
    (ChangeSpec.witness6 (enc := enc) (C := Try.checked) false ⟨#[], #[.slice none 0 0], []⟩ 8 (by kernel_rfl) (by kernel_rfl) (by kernel_rfl) (by kernel_rfl)) ?_
  intro W base args ds gs before hval0 hW hcnd _
  have hval : ∀ (j : Nat) t v, Try.f3.params[j]? = some t → args[j]? = some v → Value.okWide Try.prog W .any base t v := hval0
  have hW' := hW
  obtain ⟨p, q, hA0, hV, rfl, hfz, hnd⟩ := hW
  have hA : DataW.TrodAll enc Try.prog W 0 (fun _ => true) true Try.f3.params.toList args.toList ds p := hA0
  rw [Try.params3] at hA hval
  obtain ⟨v0, vs0, d0, ds0, p0, q0, hargs, rfl, rfl, h0, r0⟩ := trodAll_cons hA
  obtain ⟨rfl, rfl, rfl⟩ := trodAll_nil r0
  obtain rfl : args = #[v0] := by cases args; simp_all
  obtain ⟨rfl, rfl⟩ := trodVars_none hV
  obtain ⟨a0, len0, cap0, rfl⟩ := okWide_slice Try.underlying22 (hval 0 22 v0 rfl rfl)
  have k0 := h0
  have lt0 : ∀ x ∈ p0, x.block < W.heap.size := by obtain ⟨m, hm⟩ := k0; exact DataW.trod_lt m _ _ _ hm
  obtain ⟨z0, w0⟩ : ∃ zs, IsRow .u8 W a0 len0 cap0 zs := by
    obtain ⟨fuel, hf⟩ := h0
    rcases open_ints Try.underlying22 Try.underlying5 (by kernel_rfl) hf with ⟨hcs, _⟩ | ⟨x, l, c, zs, hcs, _, hl, hm, hz, _, hcell, hwz⟩
    · simp [Value.cells] at hcs
      obtain ⟨rfl, rfl, rfl⟩ := hcs
      exact ⟨[], .inl ⟨rfl, rfl, rfl, rfl⟩⟩
    · simp [Value.cells] at hcs
      obtain ⟨rfl, rfl, rfl⟩ := hcs
      exact ⟨zs, .inr ⟨_, rfl, hl, hm, by simpa using hz, hcell, hwz⟩⟩
  clear hA0 hval0
  refine (walk a0 len0 cap0 z0 W w0).mono fun e W' ⟨he, bel⟩ => ?_
  subst he
  exact ⟨_, rfl, _, _, _, [], _, [], hW', trodAll_mk1 (shut_bool Try.underlying4 _), (trodAll_cons_mk (Below.trod laidOut (by kernel_rfl) (of_decide_eq_true (by kernel_rfl)) k0 bel lt0) trodAll_mk0), rfl, bel.frame _, fun h => by cases h⟩

theorem over : Rows.fnClocksRow.holds Try.pinned (OpenSpec.ofChange Rows.fnClocksSpec) :=
  OpenClaim.holds_of_wide 3 Try.f3 rfl rfl rfl rfl rfl rfl rfl ⟨rfl, rfl, rfl, rfl, rfl⟩ rfl rfl rfl rfl rfl (by kernel_rfl) Try.func3 (by kernel_rfl)
    (of_decide_eq_true (by kernel_rfl)) (by unfold Func.isWrapper; first | (rw [if_pos (by decide +kernel)]; kernel_rfl) | (rw [if_neg (by decide +kernel)]; exact ⟨rfl, rfl⟩))
    (fun os started H enc _ => lifted os started H enc)

theorem proved : Rows.FnClocksSaid :=
  over
#print axioms proved
end Go.Proofs.Ytndogafihaooiaa.fnClocks
