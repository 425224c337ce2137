/- For every code of at most 65536 bytes (and trivially for a longer one) the law FnArrivals returns true: the arrivals of a point are those of the model, they are possible, their send times are all the time of sending, the first Site has the least of them, each is the time plus the distance; whether arrivals are possible, and the send times, are the model's. No condition of mine. -/
import Derived.Test.YtpbopiecfnedgabRows
import Derived.Test.YtpbopiecfnedgabDrawS11
import Derived.Test.YtpbopiecfnedgabLocG
import Derived.Test.YtpbopiecfnedgabLocQ
import Derived.Test.YtpbopiecfnedgabLocT
import Derived.Test.YtpbopiecfnedgabSitI
import Derived.Test.YtpbopiecfnedgabSitS
import Derived.Test.YtpbopiecfnedgabSitJ
import Derived.Test.YtpbopiecfnedgabSitT
import Derived.Test.YtpbopiecfnedgabSitK
import Derived.Test.YtpbopiecfnedgabSitU
import Derived.Test.YtpbopiecfnedgabVInt
import Derived.WalkKit
import Derived.ProofKit
import Derived.OpenShut
import Derived.ShutString
import Derived.ChangeOld
import Derived.Below
import Derived.BigQuiet
import Derived.Deep.QuietTactic
import Derived.Deep.RegionHeld3
import Derived.Deep.CutRange
import Derived.Deep.CutBlock
namespace Go.Proofs.Ytpbopiecfnedgab.fnArrivals
open Go.ChangeShapes Go.WideShapes Go.ChangeAt Go.RowKit
open Go.ChangeMaps (open_string shut_string)
open Go.Proofs.Ytpbopiecfnedgab.code_ Go.Proofs.Ytpbopiecfnedgab.cur Go.Proofs.Ytpbopiecfnedgab.ats Go.Proofs.Ytpbopiecfnedgab.lst Go.Proofs.Ytpbopiecfnedgab.ints Go.Proofs.Ytpbopiecfnedgab.sit Go.Proofs.Ytpbopiecfnedgab.sits Go.Proofs.Ytpbopiecfnedgab.loc Go.Proofs.Ytpbopiecfnedgab.locg Go.Proofs.Ytpbopiecfnedgab.locq
set_option linter.unusedVariables false

theorem bool_ne_self (b : Bool) : (b != b) = false := by simp
theorem int_ne_self (b : Int) : (b != b) = false := by simp
theorem bool_eq_self (b : Bool) : (b == b) = true := by simp
theorem int_eq_self (b : Int) : (b == b) = true := by simp

set_option maxRecDepth 100000 in
set_option maxHeartbeats 16000000 in
theorem walk (A : Option Addr) (n c : Nat) (z : List Int) (w : World) (w0 : IsRow .u8 w A n c z) :
    Calls Try.prog 11 #[.slice A n c] w fun e w' => e = .returned (.bool true) ∧ Below w.heap.size w w' := by
  obtain ⟨hby, hnc, -⟩ := bytes_of w0
  clear w0
  have hv := Lib.hid (fun w => vBig A n c w)
  by_cases hbig : (65536 : Int) < (n : Int)
  · clear hby
    go_enter Try.func11, Try.ntmps11
    go_wp2_with fail
    refine (hv.out _).mono ?_
    rintro e w1 ⟨rfl, rfl⟩
    go_wp2_with fail
    go_ret
    exact ⟨rfl, Below.refl _ _⟩
  have hd : decide ((65536 : Int) < (n : Int)) = false := by simpa using hbig
  have hn : n ≤ 65536 := by omega
  have H := Lib.hid hby
  clear hby hbig hnc
  go_enter Try.func11, Try.ntmps11
  go_wp2_with fail
  refine (hv.out _).mono ?_
  rintro e wx ⟨rfl, rfl⟩
  clear hd hv
  have AN1 := Lib.hid (Below.refl w.heap.size w)
  go_wp2_with fail
  refine (draws11.arrivalsOf A n c w hn (Bytes_below H.out AN1.out)).mono ?_
  rintro e V1 ⟨vl, n1, zs, x, y, t, rfl, ho1, hn6, hok, hnear, ht, h1⟩
  obtain ⟨A1, c1, rfl, hc1⟩ := draws10.own_cap ho1
  have AN2 := Lib.hid (AN1.out.trans (h1.mono AN1.out.size))
  clear AN1
  have R1 := Lib.hid (RdZ.of_own ho1 (draws10.own_len ho1))
  have AN3 := Lib.hid (Below.refl V1.heap.size V1)
  clear ho1 h1 hnear hok
  have BXp := Lib.hid (newS 32 #[.int .i64 x, .int .i64 y] V1)
  have AN4 := Lib.hid (AN2.out.alloc AN2.out.size (.cells #[.int .i64 x, .int .i64 y] 32))
  clear AN2
  have AN5 := Lib.hid (AN3.out.alloc AN3.out.size (.cells #[.int .i64 x, .int .i64 y] 32))
  clear AN3
  go_upto_region 4 with fail
  generalize V1.alloc (.cells #[.int .i64 x, .int .i64 y] 32) = W1 at *
  have AN6 := Lib.hid (Below.refl W1.heap.size W1)
  have HLn := Lib.hid (Nat.le_trans (avV_length zs n1 x y t) (show n1 ≤ 1048576 by omega))
  have ne1 := bool_ne_self (avB zs n1 x y t)
  have ne2 := bool_ne_self (siB zs n1)
  have kp0_ : W1.cell? ⟨V1.heap.size, 0, none⟩ = some (.int .i64 x) := (BXp.out.old AN6.out).cell 0
  have kp1_ : W1.cell? ⟨V1.heap.size, 1, none⟩ = some (.int .i64 y) := (BXp.out.old AN6.out).cell 1
  go_wp2_with fail
  clear kp0_ kp1_
  refine (sitj.arrivalsOf zs x y t A1 n1 c1 W1 hc1 (by omega) (R1.out.next AN5.out)).mono ?_
  rintro e V7 ⟨va, rfl, ho9, h8⟩
  obtain ⟨Aa, ca, rfl⟩ := own_sliceZ ho9
  have AN10 := Lib.hid (AN4.out.trans (h8.mono AN4.out.size))
  clear AN4
  have AN11 := Lib.hid (AN5.out.trans (h8.mono AN5.out.size))
  clear AN5
  have AN12 := Lib.hid (AN6.out.trans (h8.mono AN6.out.size))
  clear AN6
  have Ra := Lib.hid (intc.rd_of_own ho9 rfl)
  clear ho9 h8
  have AN13 := Lib.hid (Below.refl V7.heap.size V7)
  have kp0_ : V7.cell? ⟨V1.heap.size, 0, none⟩ = some (.int .i64 x) := (BXp.out.old AN12.out).cell 0
  have kp1_ : V7.cell? ⟨V1.heap.size, 1, none⟩ = some (.int .i64 y) := (BXp.out.old AN12.out).cell 1
  go_wp2_with fail
  clear kp0_ kp1_
  refine (sitt.arrivalsOf zs x y t A1 n1 c1 V7 (by omega) (R1.out.next AN11.out)).mono ?_
  rintro e V14 ⟨vb, rfl, ho16, h15⟩
  obtain ⟨Ab, cb, rfl⟩ := own_sliceZ ho16
  have AN17 := Lib.hid (AN10.out.trans (h15.mono AN10.out.size))
  clear AN10
  have AN18 := Lib.hid (AN11.out.trans (h15.mono AN11.out.size))
  clear AN11
  have AN19 := Lib.hid (AN12.out.trans (h15.mono AN12.out.size))
  clear AN12
  have AN20 := Lib.hid (AN13.out.trans (h15.mono AN13.out.size))
  clear AN13
  have Rb := Lib.hid (intc.rd_of_own ho16 rfl)
  clear ho16 h15
  have AN21 := Lib.hid (Below.refl V14.heap.size V14)
  have FB := Lib.hid (fun (h : avB zs n1 x y t = true) => And.intro (av_ar h) (And.intro (av_pa h) (And.intro (av_stB h) (And.intro (av_tm h).1 (And.intro (av_tm h).2 (And.intro (av_fh h) (av_law h)))))))
  have FO := Lib.hid (fun (h : avB zs n1 x y t = true) => avB_yes h)
  generalize avB zs n1 x y t = O at *
  generalize avV zs n1 x y t = av at *
  generalize hM : av.length = M at *
  clear hM
  have E1 := Lib.hid (vint.vInts av Aa Ab M ca cb V14 (by have := HLn.out; omega) (Ra.out.next AN20.out) (Rb.out.next AN21.out))
  go_wp2_with fail
  refine (E1.out).mono ?_
  rintro e wx ⟨rfl, j22, rfl⟩
  have AN24 := Lib.hid (aid.below_drewN AN17.out j22)
  clear AN17
  have AN25 := Lib.hid (aid.below_drewN AN18.out j22)
  clear AN18
  have AN26 := Lib.hid (aid.below_drewN AN19.out j22)
  clear AN19
  have AN27 := Lib.hid (aid.below_drewN AN20.out j22)
  clear AN20
  have AN28 := Lib.hid (aid.below_drewN AN21.out j22)
  clear AN21
  generalize V14.drewN j22 = V23 at *
  clear E1
  clear AN28
  clear Rb
  go_wp2_with fail
  refine (siti.isValidSites zs A1 n1 c1 V23 hc1 (by omega) (R1.out.next AN25.out)).mono ?_
  rintro e V29 ⟨rfl, h30⟩
  have AN31 := Lib.hid (AN24.out.trans (h30.mono AN24.out.size))
  clear AN24
  have AN32 := Lib.hid (AN25.out.trans (h30.mono AN25.out.size))
  clear AN25
  have AN33 := Lib.hid (AN26.out.trans (h30.mono AN26.out.size))
  clear AN26
  have AN34 := Lib.hid (AN27.out.trans (h30.mono AN27.out.size))
  clear AN27
  clear h30
  go_wp2_with fail
  refine (sits.isValidSites zs A1 n1 c1 V29 (by omega) (R1.out.next AN32.out)).mono ?_
  rintro e V35 ⟨rfl, h36⟩
  have AN37 := Lib.hid (AN31.out.trans (h36.mono AN31.out.size))
  clear AN31
  have AN38 := Lib.hid (AN32.out.trans (h36.mono AN32.out.size))
  clear AN32
  have AN39 := Lib.hid (AN33.out.trans (h36.mono AN33.out.size))
  clear AN33
  have AN40 := Lib.hid (AN34.out.trans (h36.mono AN34.out.size))
  clear AN34
  clear h36
  go_upto_if 72 with fail
  clear ne1 ne2
  go_cut [10, 11, 12, 13, 14, 15, 16, 17, 18, 19, 20] from 73 to 167 (fun p10 p11 p12 p13 p14 p15 p16 p17 p18 p19 p20 wz => Below V35.heap.size V35 wz)
  case first =>
    cases O
    · clear FB FO
      go_wp2_with fail
      go_meet
      exact Below.refl _ _
    · skip
      have AN41 := Lib.hid (Below.refl V35.heap.size V35)
      obtain ⟨f1, f2, f3, f4, f5, ⟨f, f6, f7, f8⟩, f9, f10⟩ := FB.out rfl
      obtain ⟨-, -, f13, f14⟩ := FO.out rfl
      have K1 := sitk.possibleArrivals zs av A1 Aa n1 c1 M ca V35 hc1 (by omega) HLn.out (R1.out.next AN38.out) (Ra.out.next AN40.out)
      have K2 := fun W h1 h2 => sitj.sendTimes zs av x y A1 Aa n1 c1 M ca W hc1 (by omega) HLn.out h1 h2
      have K3 := fun W h1 h2 => sitk.firstHeard zs av A1 Aa n1 c1 M ca W hc1 (by omega) HLn.out h1 h2
      have K4 := fun W h1 h2 => loct.sendI zs av x y A1 Aa n1 c1 M ca W hc1 (by omega) HLn.out h1 h2
      rw [f2, f1] at K1
      rw [f3, f9] at K2
      rw [f6, f1] at K3
      rw [f4, f5] at K4
      have K1 := Lib.hid K1
      have K2 := Lib.hid K2
      have K3 := Lib.hid K3
      have K4 := Lib.hid K4
      have F8 := Lib.hid f8
      have F9 := Lib.hid f9
      have F10 := Lib.hid f10
      have m0 : 0 < M := by have := (arB_yes f1).2.2; omega
      have HMn := Lib.hid (arB_yes f1).2.2
      have f7i : (f : Int) < (M : Int) := by have := HMn.out; omega
      have f0i : (0 : Int) ≤ (f : Int) := Int.natCast_nonneg _
      clear f1 f2 f3 f4 f5 f6 f8 f9 f10 FB FO
      generalize stV zs n1 av M x y = sv at *
      go_wp2_with fail
      refine (K1.out).mono ?_
      rintro e V42 ⟨rfl, h43⟩
      have AN44 := Lib.hid (AN37.out.trans (h43.mono AN37.out.size))
      clear AN37
      have AN45 := Lib.hid (AN38.out.trans (h43.mono AN38.out.size))
      clear AN38
      have AN46 := Lib.hid (AN39.out.trans (h43.mono AN39.out.size))
      clear AN39
      have AN47 := Lib.hid (AN40.out.trans (h43.mono AN40.out.size))
      clear AN40
      have AN48 := Lib.hid (AN41.out.trans (h43.mono AN41.out.size))
      clear AN41
      clear h43
      have kp0_ : V42.cell? ⟨V1.heap.size, 0, none⟩ = some (.int .i64 x) := (BXp.out.old AN46.out).cell 0
      have kp1_ : V42.cell? ⟨V1.heap.size, 1, none⟩ = some (.int .i64 y) := (BXp.out.old AN46.out).cell 1
      go_wp2_with fail
      clear kp0_ kp1_
      refine (K2.out V42 (R1.out.next AN45.out) (Ra.out.next AN47.out)).mono ?_
      rintro e V49 ⟨vs, rfl, ho51, h50⟩
      obtain ⟨As, cs, rfl⟩ := own_sliceZ ho51
      have AN52 := Lib.hid (AN44.out.trans (h50.mono AN44.out.size))
      clear AN44
      have AN53 := Lib.hid (AN45.out.trans (h50.mono AN45.out.size))
      clear AN45
      have AN54 := Lib.hid (AN46.out.trans (h50.mono AN46.out.size))
      clear AN46
      have AN55 := Lib.hid (AN47.out.trans (h50.mono AN47.out.size))
      clear AN47
      have AN56 := Lib.hid (AN48.out.trans (h50.mono AN48.out.size))
      clear AN48
      have Rs := Lib.hid (intc.rd_of_own ho51 F9.out)
      clear ho51 h50
      have AN57 := Lib.hid (Below.refl V49.heap.size V49)
      go_wp2_with fail
      refine (K3.out V49 (R1.out.next AN53.out) (Ra.out.next AN55.out)).mono ?_
      rintro e V58 ⟨rfl, h59⟩
      have AN60 := Lib.hid (AN52.out.trans (h59.mono AN52.out.size))
      clear AN52
      have AN61 := Lib.hid (AN53.out.trans (h59.mono AN53.out.size))
      clear AN53
      have AN62 := Lib.hid (AN54.out.trans (h59.mono AN54.out.size))
      clear AN54
      have AN63 := Lib.hid (AN55.out.trans (h59.mono AN55.out.size))
      clear AN55
      have AN64 := Lib.hid (AN56.out.trans (h59.mono AN56.out.size))
      clear AN56
      have AN65 := Lib.hid (AN57.out.trans (h59.mono AN57.out.size))
      clear AN57
      clear h59
      have kp0_ : V58.cell? ⟨V1.heap.size, 0, none⟩ = some (.int .i64 x) := (BXp.out.old AN62.out).cell 0
      have kp1_ : V58.cell? ⟨V1.heap.size, 1, none⟩ = some (.int .i64 y) := (BXp.out.old AN62.out).cell 1
      go_wp2_with fail
      clear kp0_ kp1_
      refine (K4.out V58 (R1.out.next AN61.out) (Ra.out.next AN63.out)).mono ?_
      rintro e V66 ⟨rfl, h67⟩
      have AN68 := Lib.hid (AN60.out.trans (h67.mono AN60.out.size))
      clear AN60
      have AN69 := Lib.hid (AN61.out.trans (h67.mono AN61.out.size))
      clear AN61
      have AN70 := Lib.hid (AN62.out.trans (h67.mono AN62.out.size))
      clear AN62
      have AN71 := Lib.hid (AN63.out.trans (h67.mono AN63.out.size))
      clear AN63
      have AN72 := Lib.hid (AN64.out.trans (h67.mono AN64.out.size))
      clear AN64
      have AN73 := Lib.hid (AN65.out.trans (h67.mono AN65.out.size))
      clear AN65
      clear h67
      clear K1 K2 K3 K4
      have AN74 := Lib.hid (Below.refl V66.heap.size V66)
      obtain ⟨ba, oa, rfl, lba, hca⟩ := (Ra.out.next AN71.out).2 m0
      obtain ⟨bs, os, rfl, lbs, hcs⟩ := (Rs.out.next AN73.out).2 (show 0 < n1 by have := HMn.out; omega)
      have HCA := Lib.hid hca
      have HCS := Lib.hid hcs
      clear hca hcs
      go_upto_block 0 with fail
      go_wp2_with fail
      go_loopw [18] (fun i wr => ∃ k : Nat, k ≤ n1 ∧ i = .int .i64 k ∧ Below V66.heap.size V66 wr) (fun i _ => n1 - (intOf i).toNat)
      case atStart => exact ⟨0, Nat.zero_le _, rfl, AN74.out⟩
      case round =>
        obtain ⟨k, hk, rfl, hb⟩ := hrel
        have HB := Lib.hid hb
        by_cases hlt : k < n1
        · have hlt2 : (k : Int) < (n1 : Int) := by omega
          have hltM : (k : Int) < (M : Int) := by have := HMn.out; omega
          obtain ⟨eB, eD, eS, eA, d0, d6⟩ := F10.out k hlt
          have e8 := F8.out k hlt
          obtain ⟨b1, o1, rfl, l1, p0, p1⟩ := cells2 (R1.out.next (AN69.out.trans (hb.mono AN69.out.size))) hlt
          have D := fun w => siti.siteDistance (fld 2 zs k 0) (fld 2 zs k 1) x y w
          rw [eB, eD] at D
          have D := Lib.hid D
          have QS := Lib.hid (fun WZ (hz : Below V66.heap.size V66 WZ) => (hz.cell (p := ⟨bs, os + k, none⟩) lbs).trans (HCS.out k _ eS))
          have QA := Lib.hid (fun WZ (hz : Below V66.heap.size V66 WZ) => (hz.cell (p := ⟨ba, oa + k, none⟩) lba).trans (HCA.out k _ eA))
          obtain ⟨-, -, -, eF, -, -⟩ := F10.out f f7
          have QF := Lib.hid (fun WZ (hz : Below V66.heap.size V66 WZ) => (hz.cell (p := ⟨ba, oa + f, none⟩) lba).trans (HCA.out f _ eF))
          have e9 : ¬ t + ds zs x y k < t + ds zs x y f := by
            rw [List.getD_eq_getElem?_getD, List.getD_eq_getElem?_getD, eF, eA] at e8
            show ¬ t + ds zs x y k < t + ds zs x y f
            have : t + ds zs x y f ≤ t + ds zs x y k := e8
            omega
          have e10 : IntKind.i64.wrap (t + ds zs x y k) = t + ds zs x y k := IntWalk.i64_in _ (by omega)
          have hwl : b1 < wr.heap.size := l1
          have CS := Lib.hid (show ∀ WZ : World, Below wr.heap.size wr WZ → (WZ.cell? ⟨b1, o1 + k * 2, none⟩ = some (.int .i64 (fld 2 zs k 0)) ∧ WZ.cell? ⟨b1, o1 + k * 2 + 1, none⟩ = some (.int .i64 (fld 2 zs k 1)) ∧ WZ.cell? ⟨V1.heap.size, 0, none⟩ = some (.int .i64 x) ∧ WZ.cell? ⟨V1.heap.size, 1, none⟩ = some (.int .i64 y)) from fun WZ hz =>
            have hq := AN70.out.trans ((HB.out.trans (hz.mono HB.out.size)).mono AN70.out.size)
            And.intro ((hz.cell (p := ⟨b1, o1 + k * 2, none⟩) hwl).trans p0) (And.intro ((hz.cell (p := ⟨b1, o1 + k * 2 + 1, none⟩) hwl).trans p1) (And.intro ((BXp.out.old hq).cell 0) ((BXp.out.old hq).cell 1))))
          clear hb p0 p1 eB eD eS eA eF e8
          generalize ds zs x y f = df at *
          generalize ds zs x y k = d at *
          generalize fld 2 zs k 0 = u at *
          generalize fld 2 zs k 1 = v at *
          go_upto_region 18 with fail
          go_region_held3 (fun w' => w'.cell? ⟨b1, o1 + k * 2, none⟩ = some (.int .i64 u) ∧ w'.cell? ⟨b1, o1 + k * 2 + 1, none⟩ = some (.int .i64 v) ∧ w'.cell? ⟨V1.heap.size, 0, none⟩ = some (.int .i64 x) ∧ w'.cell? ⟨V1.heap.size, 1, none⟩ = some (.int .i64 y)) (first
            | exact CS.out _ (Below.refl wr.heap.size wr).drew
            | exact CS.out _ (by assumption)
            | go_keep) (first
            | (go_at_call 50; (with_reducible refine (D.out _).mono ?_); rintro e wy ⟨rfl, hb⟩
               have hbl : Below wr.heap.size wr wy := (Below.refl wr.heap.size wr).drew.trans (hb.mono (Nat.le_refl _))
               clear hb))
          all_goals (
            have HB2 := Lib.hid (HB.out.trans (hbl.mono HB.out.size))
            clear hbl CS
            have q1 := QS.out _ HB2.out
            have q2 := QA.out _ HB2.out
            have q3 := QF.out _ HB2.out
            go_upto_region 19 with fail
            go_quiet (fail)
            go_wp2_with fail
            go_roundw
            case rel => exact ⟨k + 1, by omega, by go_num, aid.below_drewN HB2.out _⟩
            case measure => simp [intOf]; omega)
        · obtain rfl : k = n1 := by omega
          clear hb
          have hfin := AN72.out
          have hfin2 := Lib.hid (hfin.trans (HB.out.mono hfin.size))
          clear hfin
          go_wp2_with fail
          go_meet
          exact hfin2.out
  case rest =>
    have hbc := hcut
    have AN75 := Lib.hid (AN37.out.trans (hbc.mono AN37.out.size))
    clear AN37
    have AN76 := Lib.hid (AN38.out.trans (hbc.mono AN38.out.size))
    clear AN38
    have AN77 := Lib.hid (AN39.out.trans (hbc.mono AN39.out.size))
    clear AN39
    have AN78 := Lib.hid (AN40.out.trans (hbc.mono AN40.out.size))
    clear AN40
    clear hbc
    clear AN76
    clear AN78
    clear R1 Ra FB FO HLn
    clear BXp AN77
    generalize wc = VB at *
    go_wp2_with fail
    refine (draws11.possibleArrivals A n c VB hn (Bytes_below H.out AN75.out)).mono ?_
    rintro e VC ⟨vl, n2, ys, vu, m2, bs2, rfl, ho2, hn62, hok2, ho3, hm7, h2⟩
    obtain ⟨A2, c2, rfl, hc2⟩ := draws10.own_cap ho2
    obtain ⟨Ad, cd, rfl⟩ := own_sliceZ ho3
    have AN79 := Lib.hid (AN75.out.trans (h2.mono AN75.out.size))
    clear AN75
    have R2 := Lib.hid (RdZ.of_own ho2 (draws10.own_len ho2))
    have AN80 := Lib.hid (Below.refl VC.heap.size VC)
    have Rd := Lib.hid (intc.rd_of_own ho3 (draws11.ints_len ho3))
    have AN81 := Lib.hid (Below.refl VC.heap.size VC)
    clear ho2 ho3 h2 hok2
    have CI := Lib.hid (fun W (h1 : RdZ 2 W W.heap.size A2 n2 ys) (h2 : RdI W W.heap.size Ad m2 bs2) => sitk.possibleArrivals ys bs2 A2 Ad n2 c2 m2 cd W hc2 (by omega) (by omega) h1 h2)
    have CS := Lib.hid (fun W (h1 : RdZ 2 W W.heap.size A2 n2 ys) (h2 : RdI W W.heap.size Ad m2 bs2) => situ.possibleArrivals ys bs2 A2 Ad n2 c2 m2 cd W (by omega) (by omega) h1 h2)
    generalize paV ys n2 bs2 m2 = P at *
    generalize arB ys n2 bs2 m2 = Q at *
    have ne3 := bool_ne_self P
    have ne4 := bool_ne_self Q
    go_wp2_with fail
    refine (CI.out VC (R2.out.next AN80.out) (Rd.out.next AN81.out)).mono ?_
    rintro e V82 ⟨rfl, h83⟩
    have AN84 := Lib.hid (AN79.out.trans (h83.mono AN79.out.size))
    clear AN79
    have AN85 := Lib.hid (AN80.out.trans (h83.mono AN80.out.size))
    clear AN80
    have AN86 := Lib.hid (AN81.out.trans (h83.mono AN81.out.size))
    clear AN81
    clear h83
    go_wp2_with fail
    refine (CS.out V82 (R2.out.next AN85.out) (Rd.out.next AN86.out)).mono ?_
    rintro e V87 ⟨rfl, h88⟩
    have AN89 := Lib.hid (AN84.out.trans (h88.mono AN84.out.size))
    clear AN84
    have AN90 := Lib.hid (AN85.out.trans (h88.mono AN85.out.size))
    clear AN85
    have AN91 := Lib.hid (AN86.out.trans (h88.mono AN86.out.size))
    clear AN86
    clear h88
    clear AN90
    clear AN91
    clear R2 Rd CI CS
    go_wp2_with fail
    refine (draws11.sendTimes A n c V87 hn (Bytes_below H.out AN89.out)).mono ?_
    rintro e VE ⟨vl, n3, us, x3, y3, vu, m3, es, rfl, ho4, hn63, hok3, hnear3, ho5, hm73, h3⟩
    obtain ⟨A3, c3, rfl, hc3⟩ := draws10.own_cap ho4
    obtain ⟨Ae, ce, rfl⟩ := own_sliceZ ho5
    clear ne3 ne4
    have AN92 := Lib.hid (AN89.out.trans (h3.mono AN89.out.size))
    clear AN89
    have R3 := Lib.hid (RdZ.of_own ho4 (draws10.own_len ho4))
    have AN93 := Lib.hid (Below.refl VE.heap.size VE)
    have Re := Lib.hid (intc.rd_of_own ho5 (draws11.ints_len ho5))
    have AN94 := Lib.hid (Below.refl VE.heap.size VE)
    clear ho4 ho5 h3 hok3 hnear3
    have BXr := Lib.hid (newS 32 #[.int .i64 x3, .int .i64 y3] VE)
    have AN95 := Lib.hid (AN92.out.alloc AN92.out.size (.cells #[.int .i64 x3, .int .i64 y3] 32))
    clear AN92
    have AN96 := Lib.hid (AN93.out.alloc AN93.out.size (.cells #[.int .i64 x3, .int .i64 y3] 32))
    clear AN93
    have AN97 := Lib.hid (AN94.out.alloc AN94.out.size (.cells #[.int .i64 x3, .int .i64 y3] 32))
    clear AN94
    go_upto_region 27 with fail
    generalize VE.alloc (.cells #[.int .i64 x3, .int .i64 y3] 32) = W27 at *
    have AN98 := Lib.hid (Below.refl W27.heap.size W27)
    have CI := Lib.hid (fun W (h1 : RdZ 2 W W.heap.size A3 n3 us) (h2 : RdI W W.heap.size Ae m3 es) => sitj.sendTimes us es x3 y3 A3 Ae n3 c3 m3 ce W hc3 (by omega) (by omega) h1 h2)
    have CS := Lib.hid (fun W (h1 : RdZ 2 W W.heap.size A3 n3 us) (h2 : RdI W W.heap.size Ae m3 es) => sitt.sendTimes us es x3 y3 A3 Ae n3 c3 m3 ce W (by omega) (by omega) h1 h2)
    have HL3 := Lib.hid (Nat.le_trans (stV_length us n3 es m3 x3 y3) (show n3 ≤ 1048576 by omega))
    generalize stB us n3 es m3 x3 y3 = T at *
    generalize stV us n3 es m3 x3 y3 = tv at *
    generalize hM3 : tv.length = M3 at *
    have HM3 := Lib.hid hM3
    clear hM3
    have eq1 := bool_eq_self T
    have kr0_ : W27.cell? ⟨VE.heap.size, 0, none⟩ = some (.int .i64 x3) := (BXr.out.old AN98.out).cell 0
    have kr1_ : W27.cell? ⟨VE.heap.size, 1, none⟩ = some (.int .i64 y3) := (BXr.out.old AN98.out).cell 1
    go_wp2_with fail
    clear kr0_ kr1_
    refine (CI.out W27 (R3.out.next AN96.out) (Re.out.next AN97.out)).mono ?_
    rintro e V99 ⟨vf, rfl, ho101, h100⟩
    obtain ⟨Af, cf, rfl⟩ := own_sliceZ ho101
    have AN102 := Lib.hid (AN95.out.trans (h100.mono AN95.out.size))
    clear AN95
    have AN103 := Lib.hid (AN96.out.trans (h100.mono AN96.out.size))
    clear AN96
    have AN104 := Lib.hid (AN97.out.trans (h100.mono AN97.out.size))
    clear AN97
    have AN105 := Lib.hid (AN98.out.trans (h100.mono AN98.out.size))
    clear AN98
    have Rf := Lib.hid (intc.rd_of_own ho101 HM3.out)
    clear ho101 h100
    have AN106 := Lib.hid (Below.refl V99.heap.size V99)
    have kr0_ : V99.cell? ⟨VE.heap.size, 0, none⟩ = some (.int .i64 x3) := (BXr.out.old AN105.out).cell 0
    have kr1_ : V99.cell? ⟨VE.heap.size, 1, none⟩ = some (.int .i64 y3) := (BXr.out.old AN105.out).cell 1
    go_wp2_with fail
    clear kr0_ kr1_
    refine (CS.out V99 (R3.out.next AN103.out) (Re.out.next AN104.out)).mono ?_
    rintro e V107 ⟨vh, rfl, ho109, h108⟩
    obtain ⟨Ah, ch, rfl⟩ := own_sliceZ ho109
    have AN110 := Lib.hid (AN102.out.trans (h108.mono AN102.out.size))
    clear AN102
    have AN111 := Lib.hid (AN103.out.trans (h108.mono AN103.out.size))
    clear AN103
    have AN112 := Lib.hid (AN104.out.trans (h108.mono AN104.out.size))
    clear AN104
    have AN113 := Lib.hid (AN105.out.trans (h108.mono AN105.out.size))
    clear AN105
    have AN114 := Lib.hid (AN106.out.trans (h108.mono AN106.out.size))
    clear AN106
    have Rh := Lib.hid (intc.rd_of_own ho109 HM3.out)
    clear ho109 h108
    have AN115 := Lib.hid (Below.refl V107.heap.size V107)
    have E3 := Lib.hid (vint.vInts tv Af Ah M3 cf ch V107 (by have := HL3.out; omega) (Rf.out.next AN114.out) (Rh.out.next AN115.out))
    go_wp2_with fail
    refine (E3.out).mono ?_
    rintro e wx ⟨rfl, j116, rfl⟩
    have AN118 := Lib.hid (aid.below_drewN AN110.out j116)
    clear AN110
    have AN119 := Lib.hid (aid.below_drewN AN111.out j116)
    clear AN111
    have AN120 := Lib.hid (aid.below_drewN AN112.out j116)
    clear AN112
    have AN121 := Lib.hid (aid.below_drewN AN113.out j116)
    clear AN113
    have AN122 := Lib.hid (aid.below_drewN AN114.out j116)
    clear AN114
    have AN123 := Lib.hid (aid.below_drewN AN115.out j116)
    clear AN115
    generalize V107.drewN j116 = V117 at *
    go_wp2_with fail
    go_ret
    exact ⟨rfl, AN118.out⟩

theorem own : ownKnob Try.prog.godebug = none := by kernel_rfl
theorem laidOut : laidOutB Try.prog = true := by kernel_rfl

set_option maxRecDepth 100000 in
theorem lifted (os : Os) (started : os.Started) (H : Type) (enc : TypeId × Value → H) :
    ReturnsInHanded {} Try.checked os 11 .any (Rows.fnArrivalsSpec.pre6 enc Try.prog Try.f11 Rows.fnArrivalsRow.domain false) (Rows.fnArrivalsSpec.post enc Try.prog Try.f11 false true false false) := by
  refine returnsInHanded_of_change (C := Try.checked) own started (by kernel_rfl) Try.func11
    (ChangeSpec.witness6 (enc := enc) (C := Try.checked) false ⟨#[], #[.slice none 0 0], []⟩ 8 (by kernel_rfl) (by kernel_rfl) (by kernel_rfl) (by kernel_rfl)) ?_
  intro W base args ds gs before hval0 hW hcnd _
  have hval : ∀ (j : Nat) t v, Try.f11.params[j]? = some t → args[j]? = some v → Value.okWide Try.prog W .any base t v := hval0
  have hW' := hW
  obtain ⟨p, q, hA0, hV, rfl, hfz, hnd⟩ := hW
  have hA : DataW.TrodAll enc Try.prog W 0 (fun _ => true) true Try.f11.params.toList args.toList ds p := hA0
  rw [Try.params11] at hA hval
  obtain ⟨v0, vs0, d0, ds0, p0, q0, hargs, rfl, rfl, h0, r0⟩ := trodAll_cons hA
  obtain ⟨rfl, rfl, rfl⟩ := trodAll_nil r0
  obtain rfl : args = #[v0] := by cases args; simp_all
  obtain ⟨rfl, rfl⟩ := trodVars_none hV
  obtain ⟨a0, len0, cap0, rfl⟩ := okWide_slice Try.underlying53 (hval 0 53 v0 rfl rfl)
  have k0 := h0
  have lt0 : ∀ x ∈ p0, x.block < W.heap.size := by obtain ⟨m, hm⟩ := k0; exact DataW.trod_lt m _ _ _ hm
  obtain ⟨z0, w0⟩ : ∃ zs, IsRow .u8 W a0 len0 cap0 zs := by
    obtain ⟨fuel, hf⟩ := h0
    rcases open_ints Try.underlying53 Try.underlying5 (by kernel_rfl) hf with ⟨hcs, _⟩ | ⟨x, l, c, zs, hcs, _, hl, hm, hz, _, hcell, hwz⟩
    · simp [Value.cells] at hcs
      obtain ⟨rfl, rfl, rfl⟩ := hcs
      exact ⟨[], .inl ⟨rfl, rfl, rfl, rfl⟩⟩
    · simp [Value.cells] at hcs
      obtain ⟨rfl, rfl, rfl⟩ := hcs
      exact ⟨zs, .inr ⟨_, rfl, hl, hm, by simpa using hz, hcell, hwz⟩⟩
  clear hA0 hval0
  refine (walk a0 len0 cap0 z0 W w0).mono fun e W' ⟨he, bel⟩ => ?_
  subst he
  exact ⟨_, rfl, _, _, _, [], _, [], hW', trodAll_mk1 (shut_bool Try.underlying4 _), (trodAll_cons_mk (Below.trod laidOut (by kernel_rfl) (of_decide_eq_true (by kernel_rfl)) k0 bel lt0) trodAll_mk0), rfl, bel.frame _, fun h => by cases h⟩

theorem over : Rows.fnArrivalsRow.holds Try.pinned (OpenSpec.ofChange Rows.fnArrivalsSpec) :=
  OpenClaim.holds_of_wide 11 Try.f11 rfl rfl rfl rfl rfl rfl rfl ⟨rfl, rfl, rfl, rfl, rfl⟩ rfl rfl rfl rfl rfl (by kernel_rfl) Try.func11 (by kernel_rfl)
    (of_decide_eq_true (by kernel_rfl)) (by unfold Func.isWrapper; first | (rw [if_pos (by decide +kernel)]; kernel_rfl) | (rw [if_neg (by decide +kernel)]; exact ⟨rfl, rfl⟩))
    (fun os started H enc _ => lifted os started H enc)

theorem proved : Rows.FnArrivalsSaid :=
  over
#print axioms proved
end Go.Proofs.Ytpbopiecfnedgab.fnArrivals
