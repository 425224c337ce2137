/- For every code of at most 65536 bytes (and trivially for a longer one) the law FnClockOffsets returns true: impl answers as the model about links, where all clocks are connected and agree there are as many offsets as clocks, the first of them 0, as many needless links as there are more than are needed, every link agrees with the offsets, and the link that they tell between the first and the last clock can be added and changes nothing. No condition of mine. -/
import Derived.Test.YtndogafihaooiaaRows
import Derived.Test.YtndogafihaooiaaDrawV12
import Derived.Test.YtndogafihaooiaaLnkG
import Derived.Test.YtndogafihaooiaaLnkV
import Derived.Test.YtndogafihaooiaaLnkI
import Derived.WalkKit
import Derived.ProofKit
import Derived.OpenShut
import Derived.ShutString
import Derived.ChangeOld
import Derived.Below
import Derived.BigQuiet
import Derived.Deep.QuietTactic
import Derived.Deep.RegionHeld3
import Derived.Deep.CutRange
import Derived.Deep.CutBlock
namespace Go.Proofs.Ytndogafihaooiaa.fnClockOffsets
open Go.ChangeShapes Go.WideShapes Go.ChangeAt Go.RowKit
open Go.ChangeMaps (open_string shut_string)
open Go.Proofs.Ytndogafihaooiaa.code_ Go.Proofs.Ytndogafihaooiaa.cur Go.Proofs.Ytndogafihaooiaa.ats Go.Proofs.Ytndogafihaooiaa.lst Go.Proofs.Ytndogafihaooiaa.ints Go.Proofs.Ytndogafihaooiaa.in_ Go.Proofs.Ytndogafihaooiaa.lnk Go.Proofs.Ytndogafihaooiaa.lnks Go.Proofs.Ytndogafihaooiaa.lnkp Go.Proofs.Ytndogafihaooiaa.lnkg Go.Proofs.Ytndogafihaooiaa.drawv12
set_option linter.unusedVariables false

theorem bool_ne_self (b : Bool) : (b != b) = false := by simp
theorem int_ne_self (b : Int) : (b != b) = false := by simp
theorem bool_eq_self (b : Bool) : (b == b) = true := by simp
theorem int_eq_self (b : Int) : (b == b) = true := by simp
theorem own_cap3 {w : World} {B e n : Nat} {v : Value} {xs : List Value} (h : w.ownsRow B e 3 v n xs) : ∃ A c, v = .slice A n c ∧ n ≤ c := by
  rcases h.2 with ⟨rfl, h0⟩ | ⟨g, cap, cur, rfl, _, _, hle, _⟩
  · exact ⟨_, _, by rw [h0], by omega⟩
  · exact ⟨_, _, rfl, hle⟩
theorem rd_any {w : World} {n : Nat} {A : Option Addr} {xs : List Int} (h : RdI w w.heap.size A n xs) {w' : World} (hb : Below w.heap.size w w') : RdI w' w'.heap.size A n xs := h.next hb

set_option maxRecDepth 100000 in
set_option maxHeartbeats 16000000 in
theorem walk (A : Option Addr) (n c : Nat) (z : List Int) (w : World) (w0 : IsRow .u8 w A n c z) :
    Calls Try.prog 4 #[.slice A n c] w fun e w' => e = .returned (.bool true) ∧ Below w.heap.size w w' := by
  obtain ⟨hby, hnc, -⟩ := bytes_of w0
  clear w0
  have hv := Lib.hid (fun w => rBig A n c w)
  by_cases hbig : (65536 : Int) < (n : Int)
  · clear hby
    go_enter Try.func4, Try.ntmps4
    go_wp2_with fail
    refine (hv.out _).mono ?_
    rintro e w1 ⟨rfl, rfl⟩
    go_wp2_with fail
    go_ret
    exact ⟨rfl, Below.refl _ _⟩
  have hd : decide ((65536 : Int) < (n : Int)) = false := by simpa using hbig
  have hn : n ≤ 65536 := by omega
  have H := Lib.hid hby
  clear hby hbig hnc
  go_enter Try.func4, Try.ntmps4
  go_wp2_with fail
  refine (hv.out _).mono ?_
  rintro e wx ⟨rfl, rfl⟩
  clear hd hv
  have Bw := Lib.hid (Below.refl w.heap.size w)
  go_wp2_with fail
  refine (drawv12.clockOffsets A n c w hn (Bytes_below H.out Bw.out)).mono ?_
  rintro e V1 ⟨m, v1, k, zs, rfl, m0, m7, ho, hk, hb⟩
  obtain ⟨A1, c1, rfl, hc1⟩ := own_cap3 ho
  have HL := Lib.hid (drawu12.own_len3 ho)
  have R1 := Lib.hid (RdZ.of_own ho (drawu12.own_len3 ho))
  have Nw := Lib.hid (Bw.out.trans (hb.mono Bw.out.size))
  clear Bw
  have Bw := Lib.hid Nw.out
  clear Nw
  clear ho hb
  have B1 := Lib.hid (Below.refl V1.heap.size V1)
  obtain ⟨nn, rfl⟩ := Int.eq_ofNat_of_zero_le m0
  have CI := Lib.hid (fun W h => lnki.clockOffsets (nn : Int) zs A1 k c1 W hc1 (by omega) h)
  have CS := Lib.hid (fun W h => lnkx.clockOffsets (nn : Int) zs A1 k c1 W (by omega) h)
  have NI := Lib.hid (fun W h => lnki.needlessLinks (nn : Int) zs A1 k c1 W hc1 (by omega) h)
  have NS := Lib.hid (fun W h => lnkx.needlessLinks (nn : Int) zs A1 k c1 W hc1 (by omega) h)
  have AI := Lib.hid (fun (x y z : Int) W h => lnki.addClockLink (nn : Int) zs x y z A1 k c1 W hc1 (by omega) h)
  have HC6 := Lib.hid (lnkx.coV_le zs (nn : Int) k)
  have ne1 := bool_ne_self (coB zs (nn : Int) k)
  have ne2 := int_ne_self (ndV zs (nn : Int) k)
  have ne3 := bool_ne_self (lkB zs (nn : Int) k)
  have K14 := Lib.hid hk
  have C1 := Lib.hid hc1
  clear hk hc1 m0
  go_wp2_with fail
  refine (CI.out V1 R1.out).mono ?_
  rintro e V2 ⟨v2, rfl, ho, hb⟩
  obtain ⟨A2, c2, rfl⟩ := own_sliceZ ho
  have R2 := Lib.hid (intc.rd_of_own ho rfl)
  have Nw := Lib.hid (Bw.out.trans (hb.mono Bw.out.size))
  clear Bw
  have Bw := Lib.hid Nw.out
  clear Nw
  have N1 := Lib.hid (B1.out.trans (hb.mono B1.out.size))
  clear B1
  have B1 := Lib.hid N1.out
  clear N1
  clear ho hb
  have B2 := Lib.hid (Below.refl V2.heap.size V2)
  go_wp2_with fail
  refine (CS.out V2 (R1.out.next B1.out)).mono ?_
  rintro e V3 ⟨v3, rfl, ho, hb⟩
  obtain ⟨A3, c3, rfl⟩ := own_sliceZ ho
  have R3 := Lib.hid (intc.rd_of_own ho rfl)
  have Nw := Lib.hid (Bw.out.trans (hb.mono Bw.out.size))
  clear Bw
  have Bw := Lib.hid Nw.out
  clear Nw
  have N1 := Lib.hid (B1.out.trans (hb.mono B1.out.size))
  clear B1
  have B1 := Lib.hid N1.out
  clear N1
  have N2 := Lib.hid (B2.out.trans (hb.mono B2.out.size))
  clear B2
  have B2 := Lib.hid N2.out
  clear N2
  clear ho hb
  have EQ := Lib.hid (lnkv.rInts (coV zs (nn : Int) k) A2 A3 (coV zs (nn : Int) k).length c2 c3 V3 (by have := HC6.out; omega) (R2.out.next B2.out) R3.out)
  go_wp2_with fail
  refine EQ.out.mono ?_
  rintro e wx ⟨rfl, j1, rfl⟩
  have hb := aid.below_drewN (Below.refl V3.heap.size V3) j1
  have Nw := Lib.hid (Bw.out.trans (hb.mono Bw.out.size))
  clear Bw
  have Bw := Lib.hid Nw.out
  clear Nw
  have N1 := Lib.hid (B1.out.trans (hb.mono B1.out.size))
  clear B1
  have B1 := Lib.hid N1.out
  clear N1
  have N2 := Lib.hid (B2.out.trans (hb.mono B2.out.size))
  clear B2
  have B2 := Lib.hid N2.out
  clear N2
  clear hb
  clear EQ R3 CS
  generalize V3.drewN j1 = V4 at *
  go_wp2_with fail
  refine (NI.out V4 (R1.out.next B1.out)).mono ?_
  rintro e V5 ⟨rfl, hb⟩
  have Nw := Lib.hid (Bw.out.trans (hb.mono Bw.out.size))
  clear Bw
  have Bw := Lib.hid Nw.out
  clear Nw
  have N1 := Lib.hid (B1.out.trans (hb.mono B1.out.size))
  clear B1
  have B1 := Lib.hid N1.out
  clear N1
  have N2 := Lib.hid (B2.out.trans (hb.mono B2.out.size))
  clear B2
  have B2 := Lib.hid N2.out
  clear N2
  clear hb
  go_wp2_with fail
  refine (NS.out V5 (R1.out.next B1.out)).mono ?_
  rintro e V6 ⟨rfl, hb⟩
  have Nw := Lib.hid (Bw.out.trans (hb.mono Bw.out.size))
  clear Bw
  have Bw := Lib.hid Nw.out
  clear Nw
  have N1 := Lib.hid (B1.out.trans (hb.mono B1.out.size))
  clear B1
  have B1 := Lib.hid N1.out
  clear N1
  have N2 := Lib.hid (B2.out.trans (hb.mono B2.out.size))
  clear B2
  have B2 := Lib.hid N2.out
  clear N2
  clear hb
  clear NI NS
  go_upto_if 73 with fail
  clear ne1 ne2 ne3
  generalize hco : coB zs (nn : Int) k = co at *
  generalize hnd : ndV zs (nn : Int) k = nd at *
  generalize hlk : lkB zs (nn : Int) k = lk at *
  generalize hLL : (coV zs (nn : Int) k).length = LL at *
  have HCO := Lib.hid hco
  have HND := Lib.hid hnd
  have HLK := Lib.hid hlk
  have HLL := Lib.hid hLL
  clear hco hnd hlk hLL
  go_cut [13, 14, 15, 16, 17] from 73 to 173 (fun p13 p14 p15 p16 p17 wz => Below V6.heap.size V6 wz)
  case first =>
    cases co
    · clear HCO HND HLK HLL
      go_wp2_with fail
      go_meet
      exact Below.refl _ _
    · have hq := HCO.out
      obtain ⟨hk2, hg, ha⟩ := co_all hq
      obtain ⟨hv, k1, k6, k12⟩ := lkB_yes hk2
      obtain rfl : lk = true := HLK.out.symm.trans hk2
      have hndv : nd = (ndT zs k : Int) := HND.out.symm.trans (nd_yes hk2)
      have hna := nd_all hv (by omega) ha
      obtain rfl : LL = nn := HLL.out.symm.trans (lnkx.co_len hq)
      obtain rfl : nd = (k : Int) - (LL : Int) + 1 := by omega
      have hcy := coV_yes hq
      rw [Int.toNat_natCast] at hcy
      have HAT := Lib.hid (fun c (hc : c < LL) => show (coV zs (LL : Int) k)[c]? = some (shw zs k c) by rw [hcy]; simp [hc])
      have HGB := Lib.hid (shw_glob hq)
      have HLN := Lib.hid (fun i (hi : i < k) => ln_nat (lkT_at hv hi))
      have HAT2 := Lib.hid (fun h1 h2 hs => add_told HL.out hq h1 h2 hs)
      have HSM := Lib.hid (fun c (hc : c < LL) => shw_small hq hc)
      have RD := R2.out.next B2.out
      obtain ⟨b, ob, x0, eA2, hbl, hx0, hc0⟩ := RD.at_ (show 0 < LL by omega)
      obtain rfl : x0 = 0 := by
        have := HAT.out 0 (by omega)
        rw [hx0, shw_zero] at this
        injection this
      subst eA2
      rw [Nat.add_zero] at hc0
      have e1 : IntKind.i64.wrap ((k : Int) - (LL : Int)) = (k : Int) - (LL : Int) := IntWalk.i64_in _ (by omega)
      have e2 : IntKind.i64.wrap ((k : Int) - (LL : Int) + 1) = (k : Int) - (LL : Int) + 1 := IntWalk.i64_in _ (by omega)
      have n1 := int_ne_self ((LL : Nat) : Int)
      have n2 := int_ne_self ((k : Int) - (LL : Int) + 1)
      have hLL0 : (0 : Int) < (LL : Int) := by omega
      have hLL1 : 0 < LL := by omega
      have hLL6 : LL ≤ 6 := by omega
      have RC := Lib.hid (show ∀ c, c < LL → V6.cell? ⟨b, ob + c, none⟩ = some (.int .i64 (shw zs k c)) from fun c hc => by
        obtain ⟨b', o', x, e, _, hx, h2⟩ := RD.at_ hc
        obtain ⟨rfl, rfl⟩ : b = b' ∧ ob = o' := by injection e with e; injection e with e1 e2; exact ⟨e1, e2⟩
        rw [HAT.out c hc] at hx
        injection hx with hx
        rw [hx]; exact h2)
      have HLEN := Lib.hid (show (coV zs (LL : Int) k).length = LL from lnkx.co_len hq)
      clear hndv hna hcy hq hk2 hg ha hv HCO HND HLK HLL k1 k6 RD hbl hx0 HAT
      go_upto_region 15 with fail
      clear n1 n2 e1 e2 hc0
      go_wp2_with fail
      go_loopw [13] (fun q wr => ∃ i j : Nat, i ≤ k ∧ q = .int .i64 i ∧ wr = V6.drewN j) (fun q _ => k - (intOf q).toNat)
      case atStart => exact ⟨0, 0, Nat.zero_le _, rfl, rfl⟩
      case round =>
        obtain ⟨i, j, hi, rfl, rfl⟩ := hrel
        by_cases hlt : i < k
        · have hlt2 : (i : Int) < (k : Int) := by omega
          obtain ⟨b1, o1, rfl, l1, p0, p1, p2⟩ := cells3 (R1.out.next B1.out) hlt
          obtain ⟨q0, q1, f0, f1, f2, f3, f4⟩ := HLN.out i hlt
          have hlo : fld 3 zs i 2 = lO zs i := rfl
          rw [q0] at p0
          rw [q1] at p1
          rw [hlo] at p2
          have gF := RC.out _ f0
          have gT := RC.out _ f1
          have hgb := HGB.out i hlt
          have hsT := HSM.out _ f1
          have e1 : IntKind.i64.wrap (shw zs k (lF zs i) + lO zs i) = shw zs k (lT zs i) := by rw [← hgb]; exact IntWalk.i64_in _ (by omega)
          clear q0 q1 hlo hgb hsT f2
          generalize shw zs k (lF zs i) = sF at *
          generalize shw zs k (lT zs i) = sT at *
          generalize lF zs i = a at *
          generalize lT zs i = d at *
          generalize lO zs i = z at *
          have n1 := int_ne_self sT
          have f0i : (a : Int) < (LL : Int) := by omega
          have f1i : (d : Int) < (LL : Int) := by omega
          have a0i : (0 : Int) ≤ (a : Int) := Int.natCast_nonneg _
          have d0i : (0 : Int) ≤ (d : Int) := Int.natCast_nonneg _
          go_wp2_with fail
          go_quiet (fail)
          go_wp2_with fail
          go_roundw
          case rel => exact ⟨i + 1, _, by omega, by go_num, by first | rfl | rw [World.drewN_drewN]⟩
          case measure => simp [intOf]; omega
        · obtain rfl : i = k := by omega
          obtain ⟨l, hl⟩ : ∃ l, l + 1 = LL := ⟨LL - 1, by omega⟩
          have hlL : l < LL := by omega
          have gl := RC.out l hlL
          have hsl := HSM.out l hlL
          have e1 : IntKind.i64.wrap ((LL : Int) - 1) = (l : Int) := by rw [IntWalk.i64_in _ (by omega)]; omega
          have el : LL - 1 = l := by omega
          have HAD := Lib.hid (fun (h1 : 1 < LL) (h2 : i < 12) (h3 : -1000000 ≤ shw zs i l ∧ shw zs i l ≤ 1000000) => by
            have := HAT2.out h1 h2 (by rw [el]; exact h3)
            rw [el, show (LL : Int) - 1 = (l : Int) by omega] at this
            exact this)
          have SZ := Lib.hid (fun w => lnkv.size (shw zs i l) w (by omega) (by omega))
          have l0i : (0 : Int) ≤ (l : Int) := Int.natCast_nonneg _
          have lLi : (l : Int) < (LL : Int) := by omega
          clear HAT2 HGB HLN RC HSM el
          generalize shw zs i l = sl at *
          by_cases h1 : 1 < LL
          case neg =>
            have g1 : ¬ (1 : Int) < (LL : Int) := by omega
            go_wp2_with fail
            go_meet
            exact aid.below_drewN (Below.refl _ _) _
          have g1 : (1 : Int) < (LL : Int) := by omega
          by_cases h2 : i < 12
          case neg =>
            have g2 : ¬ (i : Int) < 12 := by omega
            go_wp2_with fail
            go_meet
            exact aid.below_drewN (Below.refl _ _) _
          have g2 : (i : Int) < 12 := by omega
          by_cases h3 : (sl.natAbs : Int) ≤ 1000000
          case neg =>
            go_wp2_with fail
            refine (SZ.out _).mono ?_
            rintro e w' ⟨rfl, rfl⟩
            go_wp2_with fail
            go_meet
            exact aid.below_drewN (Below.refl _ _) _
          obtain ⟨d1, d2, d3⟩ := HAD.out h1 h2 (by omega)
          have hN : adN zs (LL : Int) i 0 (l : Int) sl = i + 1 := by unfold adN; rw [d1]; rfl
          have hV : adV zs (LL : Int) i 0 (l : Int) sl = zs ++ [0, (l : Int), sl] := by unfold adV; rw [d1]; rfl
          have hb0 := aid.below_drewN (Below.refl V6.heap.size V6) j
          have AX := AI.out 0 (l : Int) sl (V6.drewN j) (R1.out.next (B1.out.trans (hb0.mono B1.out.size)))
          rw [d1, hN, hV] at AX
          have AX := Lib.hid AX
          have CX := fun D cD W (hcD : i + 1 ≤ cD) h => lnki.clockOffsets (LL : Int) (zs ++ [0, (l : Int), sl]) D (i + 1) cD W hcD (by omega) h
          rw [d2, d3, HLEN.out] at CX
          have CX := Lib.hid CX
          have HB0 := Lib.hid hb0
          clear d1 d2 d3 hN hV HAD hb0
          go_wp2_with fail
          refine (SZ.out _).mono ?_
          rintro e w' ⟨rfl, rfl⟩
          go_wp2_with fail
          refine AX.out.mono ?_
          rintro e U1 ⟨v, rfl, ho, hb⟩
          obtain ⟨D, cD, rfl, hcD⟩ := own_cap3 ho
          have R5 := Lib.hid (RdZ.of_own ho (drawu12.own_len3 ho))
          have B5 := Lib.hid (HB0.out.trans (hb.mono HB0.out.size))
          have CY := Lib.hid (CX.out D cD U1 hcD R5.out)
          clear ho hb AX CX SZ gl
          go_wp2_with fail
          refine CY.out.mono ?_
          rintro e U2 ⟨v, rfl, ho, hb⟩
          obtain ⟨D2, cD2, rfl⟩ := own_sliceZ ho
          have R6 := Lib.hid (intc.rd_of_own ho HLEN.out)
          have B6 := Lib.hid (B5.out.trans (hb.mono B5.out.size))
          have R2x := Lib.hid (R2.out.next (B2.out.trans (B6.out.mono B2.out.size)))
          have EQ := Lib.hid (lnkv.rInts (coV zs (LL : Int) i) D2 (some ⟨b, ob, none⟩) LL cD2 c2 U2 (by omega) R6.out R2x.out)
          clear ho hb CY R5 B5
          go_wp2_with fail
          refine EQ.out.mono ?_
          rintro e wx ⟨rfl, j2, rfl⟩
          go_wp2_with fail
          go_meet
          exact aid.below_drewN B6.out _
  case rest =>
    have hb := hcut
    clear HCO HND HLK HLL B1 B2 R1 R2 CI AI
    have Nw := Lib.hid (Bw.out.trans (hb.mono Bw.out.size))
    clear Bw hb hcut
    have Bw := Lib.hid Nw.out
    clear Nw
    go_wp2_with fail
    refine (drawv12.addClockLink A n c wc hn (Bytes_below H.out Bw.out)).mono ?_
    rintro e U1 ⟨m2, v, k2, ys, x, y, z, rfl, ho, hk2, hb⟩
    obtain ⟨D, cD, rfl, hcD⟩ := own_cap3 ho
    have R5 := Lib.hid (RdZ.of_own ho (drawu12.own_len3 ho))
    have HL5 := Lib.hid (drawu12.own_len3 ho)
    have Nw := Lib.hid (Bw.out.trans (hb.mono Bw.out.size))
    clear Bw ho hb
    have Bw := Lib.hid Nw.out
    clear Nw
    have BX := Lib.hid (newS 50 #[.int .i64 x, .int .i64 y, .int .i64 z] U1)
    have CI := Lib.hid (fun W h => lnki.addClockLink m2 ys x y z D k2 cD W hcD (by omega) h)
    have CS := Lib.hid (fun W h => lnka.addClockLink m2 ys x y z D k2 cD W (by omega) h)
    have HLA := Lib.hid (lnkx.ad_len ys m2 k2 x y z HL5.out)
    have HN12 := Lib.hid (lnkx.adN_le ys m2 k2 x y z)
    have ne1 := bool_eq_self (adB ys m2 k2 x y z)
    clear hk2 hcD
    go_upto_region 26 with fail
    generalize U1.alloc (.cells #[.int .i64 x, .int .i64 y, .int .i64 z] 50) = U2 at *
    have x0_ : U2.cell? ⟨U1.heap.size, 0, none⟩ = some (.int .i64 x) := BX.out.cell 0
    have x1_ : U2.cell? ⟨U1.heap.size, 1, none⟩ = some (.int .i64 y) := BX.out.cell 1
    have x2_ : U2.cell? ⟨U1.heap.size, 2, none⟩ = some (.int .i64 z) := BX.out.cell 2
    go_wp2_with fail
    refine (CI.out U2 (R5.out.next BX.out.1)).mono ?_
    rintro e U3 ⟨v, rfl, ho, hb⟩
    obtain ⟨D3, c3, rfl⟩ := own_sliceZ ho
    have R6 := Lib.hid (RdZ.of_own ho HLA.out)
    have BX3 := Lib.hid (BX.out.old hb)
    have B3 := Lib.hid (Below.refl U3.heap.size U3)
    clear ho hb x0_ x1_ x2_
    have x0_ : U3.cell? ⟨U1.heap.size, 0, none⟩ = some (.int .i64 x) := BX3.out.cell 0
    have x1_ : U3.cell? ⟨U1.heap.size, 1, none⟩ = some (.int .i64 y) := BX3.out.cell 1
    have x2_ : U3.cell? ⟨U1.heap.size, 2, none⟩ = some (.int .i64 z) := BX3.out.cell 2
    go_wp2_with fail
    refine (CS.out U3 (R5.out.next BX3.out.1)).mono ?_
    rintro e U4 ⟨v, rfl, ho, hb⟩
    obtain ⟨D4, c4, rfl⟩ := own_sliceZ ho
    have R7 := Lib.hid (RdZ.of_own ho HLA.out)
    have R6x := Lib.hid (R6.out.next hb)
    have BW4 := Lib.hid (Bw.out.trans ((BX3.out.1.trans (hb.mono BX3.out.1.size)).mono Bw.out.size))
    have EQ := Lib.hid (lnkv.rLinks (adV ys m2 k2 x y z) D3 D4 (adN ys m2 k2 x y z) c3 c4 U4 (by have := HN12.out; omega) R6x.out R7.out)
    clear ho hb x0_ x1_ x2_ CI CS
    go_wp2_with fail
    refine EQ.out.mono ?_
    rintro e wx ⟨rfl, j2, rfl⟩
    go_wp2_with fail
    go_ret
    exact ⟨by first | rfl | (congr 1), aid.below_drewN BW4.out _⟩


theorem own : ownKnob Try.prog.godebug = none := by kernel_rfl
theorem laidOut : laidOutB Try.prog = true := by kernel_rfl

set_option maxRecDepth 100000 in
theorem lifted (os : Os) (started : os.Started) (H : Type) (enc : TypeId × Value → H) :
    ReturnsInHanded {} Try.checked os 4 .any (Rows.fnClockOffsetsSpec.pre6 enc Try.prog Try.f4 Rows.fnClockOffsetsRow.domain false) (Rows.fnClockOffsetsSpec.post enc Try.prog Try.f4 false true false false) := by
  refine returnsInHanded_of_change (C := Try.checked) own started (by kernel_rfl) Try.func4
    (ChangeSpec.witness6 (enc := enc) (C := Try.checked) false ⟨#[], #[.slice none 0 0], []⟩ 8 (by kernel_rfl) (by kernel_rfl) (by kernel_rfl) (by kernel_rfl)) ?_
  intro W base args ds gs before hval0 hW hcnd _
  have hval : ∀ (j : Nat) t v, Try.f4.params[j]? = some t → args[j]? = some v → Value.okWide Try.prog W .any base t v := hval0
  have hW' := hW
  obtain ⟨p, q, hA0, hV, rfl, hfz, hnd⟩ := hW
  have hA : DataW.TrodAll enc Try.prog W 0 (fun _ => true) true Try.f4.params.toList args.toList ds p := hA0
  rw [Try.params4] at hA hval
  obtain ⟨v0, vs0, d0, ds0, p0, q0, hargs, rfl, rfl, h0, r0⟩ := trodAll_cons hA
  obtain ⟨rfl, rfl, rfl⟩ := trodAll_nil r0
  obtain rfl : args = #[v0] := by cases args; simp_all
  obtain ⟨rfl, rfl⟩ := trodVars_none hV
  obtain ⟨a0, len0, cap0, rfl⟩ := okWide_slice Try.underlying22 (hval 0 22 v0 rfl rfl)
  have k0 := h0
  have lt0 : ∀ x ∈ p0, x.block < W.heap.size := by obtain ⟨m, hm⟩ := k0; exact DataW.trod_lt m _ _ _ hm
  obtain ⟨z0, w0⟩ : ∃ zs, IsRow .u8 W a0 len0 cap0 zs := by
    obtain ⟨fuel, hf⟩ := h0
    rcases open_ints Try.underlying22 Try.underlying5 (by kernel_rfl) hf with ⟨hcs, _⟩ | ⟨x, l, c, zs, hcs, _, hl, hm, hz, _, hcell, hwz⟩
    · simp [Value.cells] at hcs
      obtain ⟨rfl, rfl, rfl⟩ := hcs
      exact ⟨[], .inl ⟨rfl, rfl, rfl, rfl⟩⟩
    · simp [Value.cells] at hcs
      obtain ⟨rfl, rfl, rfl⟩ := hcs
      exact ⟨zs, .inr ⟨_, rfl, hl, hm, by simpa using hz, hcell, hwz⟩⟩
  clear hA0 hval0
  refine (walk a0 len0 cap0 z0 W w0).mono fun e W' ⟨he, bel⟩ => ?_
  subst he
  exact ⟨_, rfl, _, _, _, [], _, [], hW', trodAll_mk1 (shut_bool Try.underlying4 _), (trodAll_cons_mk (Below.trod laidOut (by kernel_rfl) (of_decide_eq_true (by kernel_rfl)) k0 bel lt0) trodAll_mk0), rfl, bel.frame _, fun h => by cases h⟩

theorem over : Rows.fnClockOffsetsRow.holds Try.pinned (OpenSpec.ofChange Rows.fnClockOffsetsSpec) :=
  OpenClaim.holds_of_wide 4 Try.f4 rfl rfl rfl rfl rfl rfl rfl ⟨rfl, rfl, rfl, rfl, rfl⟩ rfl rfl rfl rfl rfl (by kernel_rfl) Try.func4 (by kernel_rfl)
    (of_decide_eq_true (by kernel_rfl)) (by unfold Func.isWrapper; first | (rw [if_pos (by decide +kernel)]; kernel_rfl) | (rw [if_neg (by decide +kernel)]; exact ⟨rfl, rfl⟩))
    (fun os started H enc _ => lifted os started H enc)

theorem proved : Rows.FnClockOffsetsSaid :=
  over
#print axioms proved
end Go.Proofs.Ytndogafihaooiaa.fnClockOffsets
