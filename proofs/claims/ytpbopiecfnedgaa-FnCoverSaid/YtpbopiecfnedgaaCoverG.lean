/- For every code of at most 65536 bytes (and trivially for a longer one) the law FnCover returns true: covers are those of the model and hold exactly the sites within reach, the number of covered points is the model's and not greater without the first site, and a list without a site is the model's. No condition of mine. -/
import Derived.Test.YtpbopiecfnedgaaRows
import Derived.Test.YtpbopiecfnedgaaDrawT10
import Derived.Test.YtpbopiecfnedgaaSitM
import Derived.Test.YtpbopiecfnedgaaSitJ
import Derived.Test.YtpbopiecfnedgaaSitL
import Derived.Test.YtpbopiecfnedgaaSitG
import Derived.Test.YtpbopiecfnedgaaSitU
import Derived.Test.YtpbopiecfnedgaaVInt
import Derived.WalkKit
import Derived.ProofKit
import Derived.OpenShut
import Derived.ShutString
import Derived.ChangeOld
import Derived.Below
import Derived.BigQuiet
import Derived.Deep.QuietTactic
import Derived.Deep.RegionHeld3
import Derived.Deep.CutRange
import Derived.Deep.CutBlock
namespace Go.Proofs.Ytpbopiecfnedgaa.fnCover
open Go.ChangeShapes Go.WideShapes Go.ChangeAt Go.RowKit
open Go.ChangeMaps (open_string shut_string)
open Go.Proofs.Ytpbopiecfnedgaa.code_ Go.Proofs.Ytpbopiecfnedgaa.cur Go.Proofs.Ytpbopiecfnedgaa.ats Go.Proofs.Ytpbopiecfnedgaa.lst Go.Proofs.Ytpbopiecfnedgaa.ints Go.Proofs.Ytpbopiecfnedgaa.sit Go.Proofs.Ytpbopiecfnedgaa.sits Go.Proofs.Ytpbopiecfnedgaa.sitm
set_option linter.unusedVariables false

theorem bool_ne_self (b : Bool) : (b != b) = false := by simp
theorem int_ne_self (b : Int) : (b != b) = false := by simp
theorem bool_eq_self (b : Bool) : (b == b) = true := by simp
theorem draws_cap {w : World} {B e n : Nat} {v : Value} {xs : List Value} (h : w.ownsRow B e 2 v n xs) : ∃ A c, v = .slice A n c ∧ n ≤ c := draws10.own_cap h

set_option maxRecDepth 100000 in
set_option maxHeartbeats 16000000 in
theorem walk (A : Option Addr) (n c : Nat) (z : List Int) (w : World) (w0 : IsRow .u8 w A n c z) :
    Calls Try.prog 11 #[.slice A n c] w fun e w' => e = .returned (.bool true) ∧ Below w.heap.size w w' := by
  obtain ⟨hby, hnc, -⟩ := bytes_of w0
  clear w0
  have hv := Lib.hid (fun w => vBig A n c w)
  by_cases hbig : (65536 : Int) < (n : Int)
  · clear hby
    go_enter Try.func11, Try.ntmps11
    go_wp2_with fail
    refine (hv.out _).mono ?_
    rintro e w1 ⟨rfl, rfl⟩
    go_wp2_with fail
    go_ret
    exact ⟨rfl, Below.refl _ _⟩
  have hd : decide ((65536 : Int) < (n : Int)) = false := by simpa using hbig
  have hn : n ≤ 65536 := by omega
  have H := Lib.hid hby
  clear hby hbig hnc
  go_enter Try.func11, Try.ntmps11
  go_wp2_with fail
  refine (hv.out _).mono ?_
  rintro e wx ⟨rfl, rfl⟩
  clear hd hv
  have AN1 := Lib.hid (Below.refl w.heap.size w)
  go_wp2_with fail
  refine (drawt10.coverOf A n c w hn (Bytes_below H.out AN1.out)).mono ?_
  rintro e V1 ⟨vl, n1, zs, x, y, r, rfl, ho1, hn6, hok, hnear, h1⟩
  obtain ⟨A1, c1, rfl, hc1⟩ := draws_cap ho1
  have AN2 := Lib.hid (AN1.out.trans (h1.mono AN1.out.size))
  clear AN1
  have RL := Lib.hid (RdZ.of_own ho1 (draws10.own_len ho1))
  clear ho1 h1 hnear hok
  have AN3 := Lib.hid (Below.refl V1.heap.size V1)
  have BX := Lib.hid (newS 34 #[.int .i64 x, .int .i64 y] V1)
  have AN4 := Lib.hid (AN2.out.alloc AN2.out.size (.cells #[.int .i64 x, .int .i64 y] 34))
  clear AN2
  have AN5 := Lib.hid (AN3.out.alloc AN3.out.size (.cells #[.int .i64 x, .int .i64 y] 34))
  clear AN3
  have hO := Lib.hid (rfl : cvB zs n1 x y r = cvB zs n1 x y r)
  have ne1 := bool_ne_self (cvB zs n1 x y r)
  have HLn := Lib.hid (Nat.le_trans (cvV_length zs n1 x y r) (show n1 ≤ 1048576 by omega))
  go_wp2_with fail
  generalize V1.alloc (.cells #[.int .i64 x, .int .i64 y] 34) = W1 at *
  have AN6 := Lib.hid (Below.refl W1.heap.size W1)
  have c0_ : W1.cell? ⟨V1.heap.size, 0, none⟩ = some (.int .i64 x) := (BX.out.old AN6.out).cell 0
  have c1_ : W1.cell? ⟨V1.heap.size, 1, none⟩ = some (.int .i64 y) := (BX.out.old AN6.out).cell 1
  go_wp2_with fail
  clear c0_ c1_
  refine (sitj.coverOf zs x y r A1 n1 c1 W1 hc1 (by omega) (RL.out.next AN5.out)).mono ?_
  rintro e V7 ⟨vS, rfl, ho9, h8⟩
  obtain ⟨AS, cS, rfl⟩ := own_sliceZ ho9
  have AN10 := Lib.hid (AN4.out.trans (h8.mono AN4.out.size))
  clear AN4
  have AN11 := Lib.hid (AN5.out.trans (h8.mono AN5.out.size))
  clear AN5
  have AN12 := Lib.hid (AN6.out.trans (h8.mono AN6.out.size))
  clear AN6
  have RS := Lib.hid (intc.rd_of_own ho9 rfl)
  clear ho9 h8
  have AN13 := Lib.hid (Below.refl V7.heap.size V7)
  have c0_ : V7.cell? ⟨V1.heap.size, 0, none⟩ = some (.int .i64 x) := (BX.out.old AN12.out).cell 0
  have c1_ : V7.cell? ⟨V1.heap.size, 1, none⟩ = some (.int .i64 y) := (BX.out.old AN12.out).cell 1
  go_wp2_with fail
  clear c0_ c1_
  refine (sitt.coverOf zs x y r A1 n1 c1 V7 (by omega) (RL.out.next AN11.out)).mono ?_
  rintro e V14 ⟨vT, rfl, ho16, h15⟩
  obtain ⟨AT, cT, rfl⟩ := own_sliceZ ho16
  have AN17 := Lib.hid (AN10.out.trans (h15.mono AN10.out.size))
  clear AN10
  have AN18 := Lib.hid (AN11.out.trans (h15.mono AN11.out.size))
  clear AN11
  have AN19 := Lib.hid (AN12.out.trans (h15.mono AN12.out.size))
  clear AN12
  have AN20 := Lib.hid (AN13.out.trans (h15.mono AN13.out.size))
  clear AN13
  have RT := Lib.hid (intc.rd_of_own ho16 rfl)
  clear ho16 h15
  have AN21 := Lib.hid (Below.refl V14.heap.size V14)
  have E1 := Lib.hid (vint.vInts (cvV zs n1 x y r) AS AT (cvV zs n1 x y r).length cS cT V14 (by have := HLn.out; omega) (RS.out.next AN20.out) (RT.out.next AN21.out))
  have FC := Lib.hid (fun (h : cvB zs n1 x y r = true) (k : Nat) (hk : k < n1) => (has_cover (zs := zs) (x := x) (y := y) (r := r) hk))
  have FV := Lib.hid (fun (h : cvB zs n1 x y r = true) => cvV_yes h)
  have FS := Lib.hid (fun (h : cvB zs n1 x y r = true) (k : Nat) (hk : k < n1) => (show sdB (fld 2 zs k 0) (fld 2 zs k 1) x y = true ∧ sdV (fld 2 zs k 0) (fld 2 zs k 1) x y = ds zs x y k from by
    unfold cvB at h
    rw [Bool.and_eq_true, Bool.and_eq_true] at h
    have e : sdB (fld 2 zs k 0) (fld 2 zs k 1) x y = true := by unfold sdB; rw [onT_at (siB_yes h.1).2.2.1 hk, h.2.1]; rfl
    exact ⟨e, by unfold sdV; rw [e]; rfl⟩))
  generalize cvB zs n1 x y r = O at *
  go_wp2_with fail
  refine E1.out.mono ?_
  rintro e wx ⟨rfl, j1, rfl⟩
  clear E1
  have AN23 := Lib.hid (aid.below_drewN AN17.out j1)
  clear AN17
  have AN24 := Lib.hid (aid.below_drewN AN18.out j1)
  clear AN18
  have AN25 := Lib.hid (aid.below_drewN AN19.out j1)
  clear AN19
  have AN26 := Lib.hid (aid.below_drewN AN20.out j1)
  clear AN20
  have AN27 := Lib.hid (aid.below_drewN AN21.out j1)
  clear AN21
  generalize V14.drewN j1 = V22 at *
  clear AN27
  clear RT
  go_upto_block 0 with fail
  go_cut [10] from 61 to 89 (fun i wz => Below V22.heap.size V22 wz)
  case first =>
    go_wp2_with fail
    go_loopw [10] (fun i wr => ∃ k : Nat, k ≤ n1 ∧ i = .int .i64 k ∧ Below V22.heap.size V22 wr) (fun i _ => n1 - (intOf i).toNat)
    case atStart => exact ⟨0, Nat.zero_le _, rfl, Below.refl _ _⟩
    case round =>
      obtain ⟨k, hk, rfl, hb⟩ := hrel
      have HB := Lib.hid hb
      by_cases hlt : k < n1
      · have hlt2 : (k : Int) < (n1 : Int) := by omega
        cases O
        · clear hb
          go_wp2_with fail
          go_meet
          exact HB.out
        · obtain ⟨eB, eD⟩ := FS.out rfl k hlt
          have hfc := FC.out rfl k hlt
          obtain ⟨b1, o1, rfl, l1, p0, p1⟩ := cells2 (RL.out.below (AN24.out.trans (hb.mono AN24.out.size)) (Nat.le_refl _)) hlt
          have D := fun w => siti.siteDistance (fld 2 zs k 0) (fld 2 zs k 1) x y w
          rw [eB, eD] at D
          have D := Lib.hid D
          have VH := fun W (hb2 : Below V22.heap.size V22 W) => vHas (cvV zs n1 x y r) (k : Int) AS (cvV zs n1 x y r).length cS W (by have := HLn.out; omega) (RS.out.next (AN26.out.trans (hb2.mono AN26.out.size)))
          rw [FV.out rfl, hfc] at VH
          rw [FV.out rfl]
          have VH := Lib.hid VH
          have hwl : b1 < wr.heap.size := Nat.lt_of_lt_of_le l1 (AN24.out.trans (hb.mono AN24.out.size)).size
          have CS := Lib.hid (show ∀ WZ : World, Below wr.heap.size wr WZ → (WZ.cell? ⟨b1, o1 + k * 2, none⟩ = some (.int .i64 (fld 2 zs k 0)) ∧ WZ.cell? ⟨b1, o1 + k * 2 + 1, none⟩ = some (.int .i64 (fld 2 zs k 1)) ∧ WZ.cell? ⟨V1.heap.size, 0, none⟩ = some (.int .i64 x) ∧ WZ.cell? ⟨V1.heap.size, 1, none⟩ = some (.int .i64 y)) from fun WZ hz =>
            have hq := AN25.out.trans ((HB.out.trans (hz.mono HB.out.size)).mono AN25.out.size)
            And.intro ((hz.cell (p := ⟨b1, o1 + k * 2, none⟩) hwl).trans p0) (And.intro ((hz.cell (p := ⟨b1, o1 + k * 2 + 1, none⟩) hwl).trans p1) (And.intro (site.at_cell (BX.out.old hq) 0 (.int .i64 x) rfl) (site.at_cell (BX.out.old hq) 1 (.int .i64 y) rfl))))
          clear hb p0 p1 eB eD hfc
          generalize ds zs x y k = d at *
          generalize fld 2 zs k 0 = u at *
          generalize fld 2 zs k 1 = v at *
          generalize cvT zs x y r n1 = L at *
          go_upto_region 11 with fail
          go_region_held3 (fun w' => w'.cell? ⟨b1, o1 + k * 2, none⟩ = some (.int .i64 u) ∧ w'.cell? ⟨b1, o1 + k * 2 + 1, none⟩ = some (.int .i64 v) ∧ w'.cell? ⟨V1.heap.size, 0, none⟩ = some (.int .i64 x) ∧ w'.cell? ⟨V1.heap.size, 1, none⟩ = some (.int .i64 y)) (first
            | exact CS.out _ (Below.refl wr.heap.size wr).drew
            | exact CS.out _ (by assumption)
            | go_keep) (first
            | (go_at_call 42; (with_reducible refine (D.out _).mono ?_); rintro e wy ⟨rfl, hb⟩
               have hbl : Below wr.heap.size wr wy := (Below.refl wr.heap.size wr).drew.trans (hb.mono (Nat.le_refl _))
               clear hb))
          all_goals (
            have HB2 := Lib.hid (HB.out.trans (hbl.mono HB.out.size))
            clear hbl CS
            by_cases hd : d ≤ r
            · rw [decide_eq_true hd] at VH
              go_wp2_with fail
              refine (VH.out _ HB2.out).mono ?_
              rintro e wx ⟨rfl, rfl⟩
              go_wp2_with fail
              go_roundw
              case rel => exact ⟨k + 1, by omega, by go_num, HB2.out⟩
              case measure => simp [intOf]; omega
            · rw [decide_eq_false hd] at VH
              have hd2 : r < d := by omega
              go_wp2_with fail
              refine (VH.out _ HB2.out).mono ?_
              rintro e wx ⟨rfl, rfl⟩
              go_wp2_with fail
              go_roundw
              case rel => exact ⟨k + 1, by omega, by go_num, HB2.out⟩
              case measure => simp [intOf]; omega)
      · obtain rfl : k = n1 := by omega
        clear hb
        go_wp2_with fail
        go_meet
        exact HB.out
  case rest =>
    have hbc := hcut
    have AN28 := Lib.hid (AN23.out.trans (hbc.mono AN23.out.size))
    clear AN23
    have AN29 := Lib.hid (AN24.out.trans (hbc.mono AN24.out.size))
    clear AN24
    have AN30 := Lib.hid (AN25.out.trans (hbc.mono AN25.out.size))
    clear AN25
    have AN31 := Lib.hid (AN26.out.trans (hbc.mono AN26.out.size))
    clear AN26
    clear hbc
    clear AN31
    clear AN29
    clear AN30
    clear RS RL BX FC FV FS HLn hO ne1
    generalize wc = VB at *
    go_wp2_with fail
    refine (drawt10.coveredPoints A n c VB hn (Bytes_below H.out AN28.out)).mono ?_
    rintro e VC ⟨vx, n2, ys, f, q, rfl, ho2, hn62, h2⟩
    obtain ⟨A2, c2, rfl, hc2⟩ := draws_cap ho2
    have AN32 := Lib.hid (AN28.out.trans (h2.mono AN28.out.size))
    clear AN28
    have RX := Lib.hid (RdZ.of_own ho2 (draws10.own_len ho2))
    have LX := Lib.hid (draws10.own_len ho2)
    clear ho2 h2
    have AN33 := Lib.hid (Below.refl VC.heap.size VC)
    have HDF := Lib.hid (fun (h1 : drB ys n2 0 = true) (h2 : cpB ys n2 f q = true) => drop_fit (zs := ys) h1 h2)
    have CI := Lib.hid (fun W (hb : Below VC.heap.size VC W) => sitl.coveredPoints ys f q A2 n2 c2 W hc2 (by omega) (RX.out.next hb))
    have CSp := Lib.hid (fun W (hb : Below VC.heap.size VC W) => situ.coveredPoints ys f q A2 n2 c2 W (by omega) (RX.out.next hb))
    have CD := Lib.hid (fun W (hb : Below VC.heap.size VC W) => sitg.dropSite ys 0 A2 n2 c2 W hc2 (by omega) (RX.out.next hb))
    have HC2 := Lib.hid (fun (A5 : Option Addr) (m5 c5 : Nat) (W : World) (hc : m5 ≤ c5) (hm : m5 ≤ 1048576) (hr : RdZ 2 W W.heap.size A5 m5 (drV ys n2 0)) => sitl.coveredPoints (drV ys n2 0) f q A5 m5 c5 W hc hm hr)
    have LD := Lib.hid (sit.drV_length (i := 0) LX.out)
    have DL := Lib.hid (sitg.drN_le (zs := ys) (i := 0) (show n2 ≤ 1048576 by omega))
    have ne2 := int_ne_self (cpV ys n2 f q)
    have ne3 := bool_ne_self (cpB ys n2 f q)
    generalize hcp : cpB ys n2 f q = P at *
    generalize hcv : cpV ys n2 f q = T at *
    have HCP := Lib.hid hcp
    have HCV := Lib.hid hcv
    clear hcp hcv
    go_wp2_with fail
    refine (CI.out VC AN33.out).mono ?_
    rintro e V34 ⟨rfl, h35⟩
    have AN36 := Lib.hid (AN32.out.trans (h35.mono AN32.out.size))
    clear AN32
    have AN37 := Lib.hid (AN33.out.trans (h35.mono AN33.out.size))
    clear AN33
    clear h35
    go_wp2_with fail
    refine (CSp.out V34 AN37.out).mono ?_
    rintro e V38 ⟨rfl, h39⟩
    have AN40 := Lib.hid (AN36.out.trans (h39.mono AN36.out.size))
    clear AN36
    have AN41 := Lib.hid (AN37.out.trans (h39.mono AN37.out.size))
    clear AN37
    clear h39
    generalize hdb : drB ys n2 0 = Q at *
    have HDB := Lib.hid hdb
    clear hdb
    generalize drN ys n2 0 = D0 at *
    go_wp2_with fail
    refine (CD.out V38 AN41.out).mono ?_
    rintro e V42 ⟨vD, rfl, ho44, h43⟩
    obtain ⟨AD, cD, rfl, hcD⟩ := draws_cap ho44
    have AN45 := Lib.hid (AN40.out.trans (h43.mono AN40.out.size))
    clear AN40
    have AN46 := Lib.hid (AN41.out.trans (h43.mono AN41.out.size))
    clear AN41
    have RD := Lib.hid (RdZ.of_own ho44 LD.out)
    clear ho44 h43
    have AN47 := Lib.hid (Below.refl V42.heap.size V42)
    go_upto_region 20 with fail
    go_cut [126] from 123 to 126 (fun s wz => s = .bool (P && Q) ∧ Below V42.heap.size V42 wz)
    case first =>
      cases P
      · go_wp2_with fail
        go_meet
        exact ⟨rfl, Below.refl _ _⟩
      · go_wp2_with fail
        go_meet
        exact ⟨rfl, Below.refl _ _⟩
    case rest =>
      obtain ⟨rfl, hbe⟩ := hcut
      generalize hR : (P && Q) = R at *
      have AN48 := Lib.hid (AN45.out.trans (hbe.mono AN45.out.size))
      clear AN45
      have AN49 := Lib.hid (AN46.out.trans (hbe.mono AN46.out.size))
      clear AN46
      have AN50 := Lib.hid (AN47.out.trans (hbe.mono AN47.out.size))
      clear AN47
      clear hbe
      generalize wc = VG at *
      go_upto_if 126 with fail
      go_cut [22, 23] from 127 to 148 (fun p22 p23 wz => Below VG.heap.size VG wz)
      case first =>
        have HRR := Lib.hid hR
        clear hR
        cases R
        · go_wp2_with fail
          go_meet
          exact Below.refl _ _
        · have hPQ := HRR.out
          rw [Bool.and_eq_true] at hPQ
          obtain ⟨hP, hQ⟩ := hPQ
          obtain ⟨f1, f2, f3, f4⟩ := HDF.out hQ hP
          clear HRR hP hQ
          rw [← f1] at f2 f3
          have K := HC2.out AD D0 cD VG hcD DL.out (RD.out.next AN50.out)
          rw [f2] at K
          have K := Lib.hid K
          have e5 : IntKind.i64.wrap ((n2 : Int) - 1) = (D0 : Int) := by rw [IntWalk.i64_in _ (by omega)]; omega
          have e6 : ((D0 : Int) != (D0 : Int)) = false := int_ne_self _
          have e7 : (n2 : Int) - 1 = (D0 : Int) := by omega
          generalize cpV (drV ys n2 0) D0 f q = t5 at *
          have f5 : ¬ T < t5 := by omega
          clear f1 f2 f3
          go_wp2_with fail
          refine K.out.mono ?_
          rintro e V5 ⟨rfl, hb5⟩
          have HB5 := Lib.hid hb5
          clear hb5
          go_wp2_with fail
          go_meet
          exact HB5.out
      case rest =>
        have hbd := hcut
        have AN51 := Lib.hid (AN48.out.trans (hbd.mono AN48.out.size))
        clear AN48
        have AN52 := Lib.hid (AN49.out.trans (hbd.mono AN49.out.size))
        clear AN49
        have AN53 := Lib.hid (AN50.out.trans (hbd.mono AN50.out.size))
        clear AN50
        clear hbd
        clear AN52
        clear AN53
        clear hR RX LX HDF CI CSp CD HC2 LD DL RD HCP HCV HDB ne2 ne3
        generalize wc = VD at *
        go_wp2_with fail
        refine (drawt10.dropSite A n c VD hn (Bytes_below H.out AN51.out)).mono ?_
        rintro e VE ⟨vu, n3, us, i3, rfl, ho3, hn63, h3⟩
        obtain ⟨A3, c3, rfl, hc3⟩ := draws_cap ho3
        have AN54 := Lib.hid (AN51.out.trans (h3.mono AN51.out.size))
        clear AN51
        have RU := Lib.hid (RdZ.of_own ho3 (draws10.own_len ho3))
        have LU := Lib.hid (sit.drV_length (i := i3) (draws10.own_len ho3))
        clear ho3 h3
        have AN55 := Lib.hid (Below.refl VE.heap.size VE)
        have DL3 := Lib.hid (sitg.drN_le (zs := us) (i := i3) (show n3 ≤ 1048576 by omega))
        have DI := Lib.hid (fun W (hb : Below VE.heap.size VE W) => sitg.dropSite us i3 A3 n3 c3 W hc3 (by omega) (RU.out.next hb))
        have DS := Lib.hid (fun W (hb : Below VE.heap.size VE W) => sitv.dropSite us i3 A3 n3 c3 W hc3 (by omega) (RU.out.next hb))
        have eq4 := bool_eq_self (drB us n3 i3)
        generalize drB us n3 i3 = Q3 at *
        generalize drN us n3 i3 = N3 at *
        generalize drV us n3 i3 = L3 at *
        go_wp2_with fail
        refine (DI.out VE AN55.out).mono ?_
        rintro e V56 ⟨vE, rfl, ho58, h57⟩
        obtain ⟨AE, cE, rfl, hcE⟩ := draws_cap ho58
        have AN59 := Lib.hid (AN54.out.trans (h57.mono AN54.out.size))
        clear AN54
        have AN60 := Lib.hid (AN55.out.trans (h57.mono AN55.out.size))
        clear AN55
        have RE := Lib.hid (RdZ.of_own ho58 LU.out)
        clear ho58 h57
        have AN61 := Lib.hid (Below.refl V56.heap.size V56)
        go_wp2_with fail
        refine (DS.out V56 AN60.out).mono ?_
        rintro e V62 ⟨vF, rfl, ho64, h63⟩
        obtain ⟨AF, cF, rfl, hcF⟩ := draws_cap ho64
        have AN65 := Lib.hid (AN59.out.trans (h63.mono AN59.out.size))
        clear AN59
        have AN66 := Lib.hid (AN60.out.trans (h63.mono AN60.out.size))
        clear AN60
        have AN67 := Lib.hid (AN61.out.trans (h63.mono AN61.out.size))
        clear AN61
        have RF := Lib.hid (RdZ.of_own ho64 LU.out)
        clear ho64 h63
        have AN68 := Lib.hid (Below.refl V62.heap.size V62)
        have E3 := Lib.hid (site.vSites L3 AE AF N3 cE cF V62 (by have := DL3.out; omega) (RE.out.next AN67.out) (RF.out.next AN68.out))
        go_wp2_with fail
        refine E3.out.mono ?_
        rintro e wx ⟨rfl, j3, rfl⟩
        go_wp2_with fail
        go_ret
        exact ⟨rfl, aid.below_drewN AN65.out j3⟩

theorem own : ownKnob Try.prog.godebug = none := by kernel_rfl
theorem laidOut : laidOutB Try.prog = true := by kernel_rfl

set_option maxRecDepth 100000 in
theorem lifted (os : Os) (started : os.Started) (H : Type) (enc : TypeId × Value → H) :
    ReturnsInHanded {} Try.checked os 11 .any (Rows.fnCoverSpec.pre6 enc Try.prog Try.f11 Rows.fnCoverRow.domain false) (Rows.fnCoverSpec.post enc Try.prog Try.f11 false true false false) := by
  refine returnsInHanded_of_change (C := Try.checked) own started (by kernel_rfl) Try.func11
    (ChangeSpec.witness6 (enc := enc) (C := Try.checked) false ⟨#[], #[.slice none 0 0], []⟩ 8 (by kernel_rfl) (by kernel_rfl) (by kernel_rfl) (by kernel_rfl)) ?_
  intro W base args ds gs before hval0 hW hcnd _
  have hval : ∀ (j : Nat) t v, Try.f11.params[j]? = some t → args[j]? = some v → Value.okWide Try.prog W .any base t v := hval0
  have hW' := hW
  obtain ⟨p, q, hA0, hV, rfl, hfz, hnd⟩ := hW
  have hA : DataW.TrodAll enc Try.prog W 0 (fun _ => true) true Try.f11.params.toList args.toList ds p := hA0
  rw [Try.params11] at hA hval
  obtain ⟨v0, vs0, d0, ds0, p0, q0, hargs, rfl, rfl, h0, r0⟩ := trodAll_cons hA
  obtain ⟨rfl, rfl, rfl⟩ := trodAll_nil r0
  obtain rfl : args = #[v0] := by cases args; simp_all
  obtain ⟨rfl, rfl⟩ := trodVars_none hV
  obtain ⟨a0, len0, cap0, rfl⟩ := okWide_slice Try.underlying53 (hval 0 53 v0 rfl rfl)
  have k0 := h0
  have lt0 : ∀ x ∈ p0, x.block < W.heap.size := by obtain ⟨m, hm⟩ := k0; exact DataW.trod_lt m _ _ _ hm
  obtain ⟨z0, w0⟩ : ∃ zs, IsRow .u8 W a0 len0 cap0 zs := by
    obtain ⟨fuel, hf⟩ := h0
    rcases open_ints Try.underlying53 Try.underlying5 (by kernel_rfl) hf with ⟨hcs, _⟩ | ⟨x, l, c, zs, hcs, _, hl, hm, hz, _, hcell, hwz⟩
    · simp [Value.cells] at hcs
      obtain ⟨rfl, rfl, rfl⟩ := hcs
      exact ⟨[], .inl ⟨rfl, rfl, rfl, rfl⟩⟩
    · simp [Value.cells] at hcs
      obtain ⟨rfl, rfl, rfl⟩ := hcs
      exact ⟨zs, .inr ⟨_, rfl, hl, hm, by simpa using hz, hcell, hwz⟩⟩
  clear hA0 hval0
  refine (walk a0 len0 cap0 z0 W w0).mono fun e W' ⟨he, bel⟩ => ?_
  subst he
  exact ⟨_, rfl, _, _, _, [], _, [], hW', trodAll_mk1 (shut_bool Try.underlying4 _), (trodAll_cons_mk (Below.trod laidOut (by kernel_rfl) (of_decide_eq_true (by kernel_rfl)) k0 bel lt0) trodAll_mk0), rfl, bel.frame _, fun h => by cases h⟩

theorem over : Rows.fnCoverRow.holds Try.pinned (OpenSpec.ofChange Rows.fnCoverSpec) :=
  OpenClaim.holds_of_wide 11 Try.f11 rfl rfl rfl rfl rfl rfl rfl ⟨rfl, rfl, rfl, rfl, rfl⟩ rfl rfl rfl rfl rfl (by kernel_rfl) Try.func11 (by kernel_rfl)
    (of_decide_eq_true (by kernel_rfl)) (by unfold Func.isWrapper; first | (rw [if_pos (by decide +kernel)]; kernel_rfl) | (rw [if_neg (by decide +kernel)]; exact ⟨rfl, rfl⟩))
    (fun os started H enc _ => lifted os started H enc)

theorem proved : Rows.FnCoverSaid :=
  over
#print axioms proved
end Go.Proofs.Ytpbopiecfnedgaa.fnCover
