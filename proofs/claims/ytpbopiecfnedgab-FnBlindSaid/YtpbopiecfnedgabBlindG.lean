/- For every code of at most 65536 bytes (and trivially for a longer one) the law FnBlind returns true: the blind points are those of the model, never exactly one, and all points of the ground for one site alone; the most helpful site is the model's and one of the list; a send time is the model's and its arrivals are those that were given; the spread of a point is the model's. No condition of mine. -/
import Derived.Test.YtpbopiecfnedgabRows
import Derived.Test.YtpbopiecfnedgabDrawV11
import Derived.Test.YtpbopiecfnedgabLocG
import Derived.Test.YtpbopiecfnedgabLocQ
import Derived.Test.YtpbopiecfnedgabLocT
import Derived.Test.YtpbopiecfnedgabLocH
import Derived.Test.YtpbopiecfnedgabSitI
import Derived.Test.YtpbopiecfnedgabSitS
import Derived.Test.YtpbopiecfnedgabSitJ
import Derived.Test.YtpbopiecfnedgabBlnQ
import Derived.Test.YtpbopiecfnedgabBlnS
import Derived.Test.YtpbopiecfnedgabBlnG
import Derived.Test.YtpbopiecfnedgabVInt
import Derived.WalkKit
import Derived.ProofKit
import Derived.OpenShut
import Derived.ShutString
import Derived.ChangeOld
import Derived.Below
import Derived.BigQuiet
import Derived.Deep.QuietTactic
import Derived.Deep.RegionHeld3
import Derived.Deep.CutRange
import Derived.Deep.CutBlock
namespace Go.Proofs.Ytpbopiecfnedgab.fnBlind
open Go.ChangeShapes Go.WideShapes Go.ChangeAt Go.RowKit
open Go.ChangeMaps (open_string shut_string)
open Go.Proofs.Ytpbopiecfnedgab.code_ Go.Proofs.Ytpbopiecfnedgab.cur Go.Proofs.Ytpbopiecfnedgab.ats Go.Proofs.Ytpbopiecfnedgab.lst Go.Proofs.Ytpbopiecfnedgab.ints Go.Proofs.Ytpbopiecfnedgab.sit Go.Proofs.Ytpbopiecfnedgab.sits Go.Proofs.Ytpbopiecfnedgab.loc Go.Proofs.Ytpbopiecfnedgab.locg Go.Proofs.Ytpbopiecfnedgab.locq
set_option linter.unusedVariables false

theorem bool_ne_self (b : Bool) : (b != b) = false := by simp
theorem int_ne_self (b : Int) : (b != b) = false := by simp
theorem bool_eq_self (b : Bool) : (b == b) = true := by simp
theorem int_eq_self (b : Int) : (b == b) = true := by simp

theorem own_cap1 {w : World} {B e n : Nat} {v : Value} {xs : List Value} (h : w.ownsRow B e 1 v n xs) : ∃ A c, v = .slice A n c ∧ n ≤ c := by
  rcases h.2 with ⟨rfl, h0⟩ | ⟨g, cap, cur, rfl, _, _, hle, _⟩
  · exact ⟨none, 0, by rw [h0], by omega⟩
  · exact ⟨_, cap, rfl, by omega⟩
theorem hf_in {zs xs : List Int} {n m : Nat} {t : Int} (hn : hfB zs n xs m t = true → 0 < n) (h : hfB zs n xs m t = true) : 0 ≤ hfV zs n xs m t ∧ hfV zs n xs m t < (n : Int) := by
  have := hfT_lt zs xs n t n (hn h)
  rw [hfV_yes h]
  omega
theorem hf_pos {zs xs : List Int} {n m : Nat} {t : Int} (h : hfB zs n xs m t = true) : 0 < n := by
  rcases Nat.eq_zero_or_pos n with rfl | hp
  · unfold hfB ltB arB siB at h
    simp at h
  · exact hp

set_option maxRecDepth 100000 in
set_option maxHeartbeats 16000000 in
theorem walk (A : Option Addr) (n c : Nat) (z : List Int) (w : World) (w0 : IsRow .u8 w A n c z) :
    Calls Try.prog 13 #[.slice A n c] w fun e w' => e = .returned (.bool true) ∧ Below w.heap.size w w' := by
  obtain ⟨hby, hnc, -⟩ := bytes_of w0
  clear w0
  have hv := Lib.hid (fun w => vBig A n c w)
  by_cases hbig : (65536 : Int) < (n : Int)
  · clear hby
    go_enter Try.func13, Try.ntmps13
    go_wp2_with fail
    refine (hv.out _).mono ?_
    rintro e w1 ⟨rfl, rfl⟩
    go_wp2_with fail
    go_ret
    exact ⟨rfl, Below.refl _ _⟩
  have hd : decide ((65536 : Int) < (n : Int)) = false := by simpa using hbig
  have hn : n ≤ 65536 := by omega
  have H := Lib.hid hby
  clear hby hbig hnc
  go_enter Try.func13, Try.ntmps13
  go_wp2_with fail
  refine (hv.out _).mono ?_
  rintro e wx ⟨rfl, rfl⟩
  clear hd hv
  have AN1 := Lib.hid (Below.refl w.heap.size w)
  go_wp2_with fail
  refine (draws11.blindPoints A n c w hn (Bytes_below H.out AN1.out)).mono ?_
  rintro e V1 ⟨vl, n1, zs, rfl, ho1, hn6, hok, h1⟩
  obtain ⟨A1, c1, rfl, hc1⟩ := draws10.own_cap ho1
  have AN2 := Lib.hid (AN1.out.trans (h1.mono AN1.out.size))
  clear AN1
  have R1 := Lib.hid (RdZ.of_own ho1 (draws10.own_len ho1))
  have AN3 := Lib.hid (Below.refl V1.heap.size V1)
  clear ho1 h1 hok
  have CI := Lib.hid (fun W (h1 : RdZ 2 W W.heap.size A1 n1 zs) => blnq.blindI zs A1 n1 c1 W hc1 (by omega) h1)
  have CS := Lib.hid (fun W (h1 : RdZ 2 W W.heap.size A1 n1 zs) => blns.blindS zs A1 n1 c1 W (by omega) h1)
  have bi1 := int_ne_self (bln.blV zs n1)
  have bi2 := bool_ne_self (siB zs n1)
  have bv1 := Lib.hid (blng.blV_ne zs n1)
  have bv2 := Lib.hid (fun (h1 : siB zs n1 = true) (h2 : n1 = 1) => blng.blV_one (zs := zs) h1 h2)
  generalize bln.blV zs n1 = b at *
  generalize siB zs n1 = B at *
  go_wp2_with fail
  refine (CI.out V1 (R1.out.next AN3.out)).mono ?_
  rintro e V4 ⟨rfl, h5⟩
  have AN6 := Lib.hid (AN2.out.trans (h5.mono AN2.out.size))
  clear AN2
  have AN7 := Lib.hid (AN3.out.trans (h5.mono AN3.out.size))
  clear AN3
  clear h5
  go_wp2_with fail
  refine (CS.out V4 (R1.out.next AN7.out)).mono ?_
  rintro e V8 ⟨rfl, h9⟩
  have AN10 := Lib.hid (AN6.out.trans (h9.mono AN6.out.size))
  clear AN6
  have AN11 := Lib.hid (AN7.out.trans (h9.mono AN7.out.size))
  clear AN7
  clear h9
  clear CI CS
  go_upto_region 6 with fail
  go_cut [68] from 45 to 68 (fun s wz => s = .bool false ∧ Below V8.heap.size V8 wz)
  case first =>
    have hv := bv1.out
    have hv1 : (b == 1) = false := by simpa using hv
    cases B
    · clear bv2 hv bv1
      go_wp2_with fail
      go_meet
      exact ⟨rfl, Below.refl _ _⟩
    · by_cases h1 : n1 = 1
      · obtain rfl := bv2.out rfl h1
        have hn1 : ((n1 : Int) == 1) = true := by simp [h1]
        have hn1' : (n1 : Int) = 1 := by omega
        clear bv1 bv2 hv h1
        go_wp2_with fail
        go_meet
        exact ⟨rfl, Below.refl _ _⟩
      · have hn1 : ((n1 : Int) == 1) = false := by simp; omega
        have hn1' : ¬ (n1 : Int) = 1 := by omega
        clear bv1 bv2 hv h1
        go_wp2_with fail
        go_meet
        exact ⟨rfl, Below.refl _ _⟩
  case rest =>
    obtain ⟨rfl, hbc⟩ := hcut
    have AN12 := Lib.hid (AN10.out.trans (hbc.mono AN10.out.size))
    clear AN10
    have AN13 := Lib.hid (AN11.out.trans (hbc.mono AN11.out.size))
    clear AN11
    clear hbc bi1 bi2 bv1 bv2
    clear AN13
    clear R1
    generalize wc = VB at *
    go_wp2_with fail
    refine (draws11.helpfulSite A n c VB hn (Bytes_below H.out AN12.out)).mono ?_
    rintro e VC ⟨vl, n2, ys, vu, m2, bs2, t2, rfl, ho2, hn62, hok2, ho3, hm7, h2⟩
    obtain ⟨A2, c2, rfl, hc2⟩ := draws10.own_cap ho2
    obtain ⟨Ad, cd, rfl, hcd⟩ := own_cap1 ho3
    have AN14 := Lib.hid (AN12.out.trans (h2.mono AN12.out.size))
    clear AN12
    have R2 := Lib.hid (RdZ.of_own ho2 (draws10.own_len ho2))
    have AN15 := Lib.hid (Below.refl VC.heap.size VC)
    have Rd := Lib.hid (intc.rd_of_own ho3 (draws11.ints_len ho3))
    have AN16 := Lib.hid (Below.refl VC.heap.size VC)
    clear ho2 ho3 h2 hok2
    have CI := Lib.hid (fun W (h1 : RdZ 2 W W.heap.size A2 n2 ys) (h2 : RdI W W.heap.size Ad m2 bs2) => loch.helpfulI ys bs2 t2 A2 Ad n2 c2 m2 cd W hc2 hcd (by omega) (by omega) h1 h2)
    have CS := Lib.hid (fun W (h1 : RdZ 2 W W.heap.size A2 n2 ys) (h2 : RdI W W.heap.size Ad m2 bs2) => loch.helpfulS ys bs2 t2 A2 Ad n2 c2 m2 cd W hc2 hcd (by omega) (by omega) h1 h2)
    have hf := Lib.hid (fun (h : hfB ys n2 bs2 m2 t2 = true) => hf_in (zs := ys) (xs := bs2) (n := n2) (m := m2) (t := t2) hf_pos h)
    have bi3 := int_ne_self (hfV ys n2 bs2 m2 t2)
    have bi4 := bool_ne_self (hfB ys n2 bs2 m2 t2)
    generalize hfV ys n2 bs2 m2 t2 = hv at *
    generalize hfB ys n2 bs2 m2 t2 = HB2 at *
    go_wp2_with fail
    refine (CI.out VC (R2.out.next AN15.out) (Rd.out.next AN16.out)).mono ?_
    rintro e V17 ⟨rfl, h18⟩
    have AN19 := Lib.hid (AN14.out.trans (h18.mono AN14.out.size))
    clear AN14
    have AN20 := Lib.hid (AN15.out.trans (h18.mono AN15.out.size))
    clear AN15
    have AN21 := Lib.hid (AN16.out.trans (h18.mono AN16.out.size))
    clear AN16
    clear h18
    go_wp2_with fail
    refine (CS.out V17 (R2.out.next AN20.out) (Rd.out.next AN21.out)).mono ?_
    rintro e V22 ⟨rfl, h23⟩
    have AN24 := Lib.hid (AN19.out.trans (h23.mono AN19.out.size))
    clear AN19
    have AN25 := Lib.hid (AN20.out.trans (h23.mono AN20.out.size))
    clear AN20
    have AN26 := Lib.hid (AN21.out.trans (h23.mono AN21.out.size))
    clear AN21
    clear h23
    clear CI CS
    go_upto_region 11 with fail
    go_cut [109] from 89 to 109 (fun s wz => s = .bool false ∧ Below V22.heap.size V22 wz)
    case first =>
      cases HB2
      · clear hf
        go_wp2_with fail
        go_meet
        exact ⟨rfl, Below.refl _ _⟩
      · obtain ⟨hf0, hf1⟩ := hf.out rfl
        clear hf
        go_wp2_with fail
        go_meet
        exact ⟨by rw [decide_eq_false (by omega), decide_eq_false (by omega)]; rfl, Below.refl _ _⟩
    case rest =>
      obtain ⟨rfl, hbc⟩ := hcut
      have AN27 := Lib.hid (AN24.out.trans (hbc.mono AN24.out.size))
      clear AN24
      have AN28 := Lib.hid (AN25.out.trans (hbc.mono AN25.out.size))
      clear AN25
      have AN29 := Lib.hid (AN26.out.trans (hbc.mono AN26.out.size))
      clear AN26
      clear hbc bi3 bi4 hf
      clear AN28
      clear AN29
      clear R2 Rd
      generalize wc = VD at *
      go_wp2_with fail
      refine (drawv11.sendTime A n c VD hn (Bytes_below H.out AN27.out)).mono ?_
      rintro e VE ⟨vl, n3, us, vu, m3, es, x3, y3, rfl, ho4, hn63, hok3, ho5, hm73, hnear3, h3⟩
      obtain ⟨A3, c3, rfl, hc3⟩ := draws10.own_cap ho4
      obtain ⟨Ae, ce, rfl⟩ := own_sliceZ ho5
      have HLE := Lib.hid (draws11.ints_len ho5)
      have AN30 := Lib.hid (AN27.out.trans (h3.mono AN27.out.size))
      clear AN27
      have R3 := Lib.hid (RdZ.of_own ho4 (draws10.own_len ho4))
      have AN31 := Lib.hid (Below.refl VE.heap.size VE)
      have Re := Lib.hid (intc.rd_of_own ho5 (draws11.ints_len ho5))
      have AN32 := Lib.hid (Below.refl VE.heap.size VE)
      clear ho4 ho5 h3 hok3 hnear3
      have BXr := Lib.hid (newS 32 #[.int .i64 x3, .int .i64 y3] VE)
      have AN33 := Lib.hid (AN30.out.alloc AN30.out.size (.cells #[.int .i64 x3, .int .i64 y3] 32))
      clear AN30
      have AN34 := Lib.hid (AN31.out.alloc AN31.out.size (.cells #[.int .i64 x3, .int .i64 y3] 32))
      clear AN31
      have AN35 := Lib.hid (AN32.out.alloc AN32.out.size (.cells #[.int .i64 x3, .int .i64 y3] 32))
      clear AN32
      go_upto_region 14 with fail
      generalize VE.alloc (.cells #[.int .i64 x3, .int .i64 y3] 32) = W14 at *
      have AN36 := Lib.hid (Below.refl W14.heap.size W14)
      have CI := Lib.hid (fun W (h1 : RdZ 2 W W.heap.size A3 n3 us) (h2 : RdI W W.heap.size Ae m3 es) => loct.sendI us es x3 y3 A3 Ae n3 c3 m3 ce W hc3 (by omega) (by omega) h1 h2)
      have CS := Lib.hid (fun W (h1 : RdZ 2 W W.heap.size A3 n3 us) (h2 : RdI W W.heap.size Ae m3 es) => loct.sendS us es x3 y3 A3 Ae n3 c3 m3 ce W (by omega) (by omega) h1 h2)
      have AV := Lib.hid (fun W (h1 : RdZ 2 W W.heap.size A3 n3 us) => sitj.arrivalsOf us x3 y3 (tmV us n3 es m3 x3 y3) A3 n3 c3 W hc3 (by omega) h1)
      have TA := Lib.hid (fun (h : tmB us n3 es m3 x3 y3 = true) => tm_av (zs := us) (n := n3) (x := x3) (y := y3) HLE.out h)
      have bi5 := int_ne_self (tmV us n3 es m3 x3 y3)
      have bi6 := bool_ne_self (tmB us n3 es m3 x3 y3)
      generalize tmV us n3 es m3 x3 y3 = tv at *
      generalize tmB us n3 es m3 x3 y3 = T at *
      have kr0_ : W14.cell? ⟨VE.heap.size, 0, none⟩ = some (.int .i64 x3) := (BXr.out.old AN36.out).cell 0
      have kr1_ : W14.cell? ⟨VE.heap.size, 1, none⟩ = some (.int .i64 y3) := (BXr.out.old AN36.out).cell 1
      go_wp2_with fail
      clear kr0_ kr1_
      refine (CI.out W14 (R3.out.next AN34.out) (Re.out.next AN35.out)).mono ?_
      rintro e V37 ⟨rfl, h38⟩
      have AN39 := Lib.hid (AN33.out.trans (h38.mono AN33.out.size))
      clear AN33
      have AN40 := Lib.hid (AN34.out.trans (h38.mono AN34.out.size))
      clear AN34
      have AN41 := Lib.hid (AN35.out.trans (h38.mono AN35.out.size))
      clear AN35
      have AN42 := Lib.hid (AN36.out.trans (h38.mono AN36.out.size))
      clear AN36
      clear h38
      have kr0_ : V37.cell? ⟨VE.heap.size, 0, none⟩ = some (.int .i64 x3) := (BXr.out.old AN42.out).cell 0
      have kr1_ : V37.cell? ⟨VE.heap.size, 1, none⟩ = some (.int .i64 y3) := (BXr.out.old AN42.out).cell 1
      go_wp2_with fail
      clear kr0_ kr1_
      refine (CS.out V37 (R3.out.next AN40.out) (Re.out.next AN41.out)).mono ?_
      rintro e V43 ⟨rfl, h44⟩
      have AN45 := Lib.hid (AN39.out.trans (h44.mono AN39.out.size))
      clear AN39
      have AN46 := Lib.hid (AN40.out.trans (h44.mono AN40.out.size))
      clear AN40
      have AN47 := Lib.hid (AN41.out.trans (h44.mono AN41.out.size))
      clear AN41
      have AN48 := Lib.hid (AN42.out.trans (h44.mono AN42.out.size))
      clear AN42
      clear h44
      clear CI CS
      cases T
      · skip
        clear AN46
        clear AN47
        clear R3 Re TA AV HLE
        clear BXr AN48
        go_wp2_with fail
        refine (draws11.spreadAt A n c V43 hn (Bytes_below H.out AN45.out)).mono ?_
        rintro e VF ⟨vl, n4, ws, vu, m4, fs, x4, y4, rfl, ho6, hn64, hok4, ho7, hm74, hnear4, h4⟩
        obtain ⟨A4, c4, rfl, hc4⟩ := draws10.own_cap ho6
        obtain ⟨Af, cf, rfl⟩ := own_sliceZ ho7
        clear bi5 bi6
        have AN49 := Lib.hid (AN45.out.trans (h4.mono AN45.out.size))
        clear AN45
        have R4 := Lib.hid (RdZ.of_own ho6 (draws10.own_len ho6))
        have AN50 := Lib.hid (Below.refl VF.heap.size VF)
        have Rf := Lib.hid (intc.rd_of_own ho7 (draws11.ints_len ho7))
        have AN51 := Lib.hid (Below.refl VF.heap.size VF)
        clear ho6 ho7 h4 hok4 hnear4
        have BXs := Lib.hid (newS 32 #[.int .i64 x4, .int .i64 y4] VF)
        have AN52 := Lib.hid (AN49.out.alloc AN49.out.size (.cells #[.int .i64 x4, .int .i64 y4] 32))
        clear AN49
        have AN53 := Lib.hid (AN50.out.alloc AN50.out.size (.cells #[.int .i64 x4, .int .i64 y4] 32))
        clear AN50
        have AN54 := Lib.hid (AN51.out.alloc AN51.out.size (.cells #[.int .i64 x4, .int .i64 y4] 32))
        clear AN51
        go_upto_region 22 with fail
        generalize VF.alloc (.cells #[.int .i64 x4, .int .i64 y4] 32) = W22 at *
        have AN55 := Lib.hid (Below.refl W22.heap.size W22)
        have CI := Lib.hid (fun W (h1 : RdZ 2 W W.heap.size A4 n4 ws) (h2 : RdI W W.heap.size Af m4 fs) => loci.spreadAt ws fs x4 y4 A4 Af n4 c4 m4 cf W hc4 (by omega) (by omega) h1 h2)
        have CS := Lib.hid (fun W (h1 : RdZ 2 W W.heap.size A4 n4 ws) (h2 : RdI W W.heap.size Af m4 fs) => locs.spreadAt ws fs x4 y4 A4 Af n4 c4 m4 cf W (by omega) (by omega) h1 h2)
        generalize saV ws n4 fs m4 x4 y4 = sv at *
        generalize stB ws n4 fs m4 x4 y4 = SB at *
        have be1 := int_eq_self sv
        have be2 := bool_eq_self SB
        have ks0_ : W22.cell? ⟨VF.heap.size, 0, none⟩ = some (.int .i64 x4) := (BXs.out.old AN55.out).cell 0
        have ks1_ : W22.cell? ⟨VF.heap.size, 1, none⟩ = some (.int .i64 y4) := (BXs.out.old AN55.out).cell 1
        go_wp2_with fail
        clear ks0_ ks1_
        refine (CI.out W22 (R4.out.next AN53.out) (Rf.out.next AN54.out)).mono ?_
        rintro e V56 ⟨rfl, h57⟩
        have AN58 := Lib.hid (AN52.out.trans (h57.mono AN52.out.size))
        clear AN52
        have AN59 := Lib.hid (AN53.out.trans (h57.mono AN53.out.size))
        clear AN53
        have AN60 := Lib.hid (AN54.out.trans (h57.mono AN54.out.size))
        clear AN54
        have AN61 := Lib.hid (AN55.out.trans (h57.mono AN55.out.size))
        clear AN55
        clear h57
        have ks0_ : V56.cell? ⟨VF.heap.size, 0, none⟩ = some (.int .i64 x4) := (BXs.out.old AN61.out).cell 0
        have ks1_ : V56.cell? ⟨VF.heap.size, 1, none⟩ = some (.int .i64 y4) := (BXs.out.old AN61.out).cell 1
        go_wp2_with fail
        clear ks0_ ks1_
        refine (CS.out V56 (R4.out.next AN59.out) (Rf.out.next AN60.out)).mono ?_
        rintro e V62 ⟨rfl, h63⟩
        have AN64 := Lib.hid (AN58.out.trans (h63.mono AN58.out.size))
        clear AN58
        have AN65 := Lib.hid (AN59.out.trans (h63.mono AN59.out.size))
        clear AN59
        have AN66 := Lib.hid (AN60.out.trans (h63.mono AN60.out.size))
        clear AN60
        have AN67 := Lib.hid (AN61.out.trans (h63.mono AN61.out.size))
        clear AN61
        clear h63
        go_wp2_with fail
        go_ret
        exact ⟨rfl, AN64.out⟩
      · skip
        obtain ⟨ta1, ta2⟩ := TA.out rfl
        rw [ta1, ta2, HLE.out] at AV
        clear TA ta1 ta2 bi5 bi6
        have kr0_ : V43.cell? ⟨VE.heap.size, 0, none⟩ = some (.int .i64 x3) := (BXr.out.old AN48.out).cell 0
        have kr1_ : V43.cell? ⟨VE.heap.size, 1, none⟩ = some (.int .i64 y3) := (BXr.out.old AN48.out).cell 1
        go_wp2_with fail
        clear kr0_ kr1_
        refine (AV.out V43 (R3.out.next AN46.out)).mono ?_
        rintro e V68 ⟨vq, rfl, ho70, h69⟩
        obtain ⟨Aq, cq, rfl⟩ := own_sliceZ ho70
        have AN71 := Lib.hid (AN45.out.trans (h69.mono AN45.out.size))
        clear AN45
        have AN72 := Lib.hid (AN46.out.trans (h69.mono AN46.out.size))
        clear AN46
        have AN73 := Lib.hid (AN47.out.trans (h69.mono AN47.out.size))
        clear AN47
        have AN74 := Lib.hid (AN48.out.trans (h69.mono AN48.out.size))
        clear AN48
        have Rq := Lib.hid (intc.rd_of_own ho70 HLE.out)
        clear ho70 h69
        have AN75 := Lib.hid (Below.refl V68.heap.size V68)
        have E3 := Lib.hid (vint.vInts es Aq Ae m3 cq ce V68 (by omega) (Rq.out.next AN75.out) (Re.out.next AN73.out))
        go_wp2_with fail
        refine (E3.out).mono ?_
        rintro e wx ⟨rfl, j76, rfl⟩
        have AN78 := Lib.hid (aid.below_drewN AN71.out j76)
        clear AN71
        have AN79 := Lib.hid (aid.below_drewN AN72.out j76)
        clear AN72
        have AN80 := Lib.hid (aid.below_drewN AN73.out j76)
        clear AN73
        have AN81 := Lib.hid (aid.below_drewN AN74.out j76)
        clear AN74
        have AN82 := Lib.hid (aid.below_drewN AN75.out j76)
        clear AN75
        generalize V68.drewN j76 = V77 at *
        go_wp2_with fail
        go_ret
        exact ⟨rfl, AN78.out⟩

theorem own : ownKnob Try.prog.godebug = none := by kernel_rfl
theorem laidOut : laidOutB Try.prog = true := by kernel_rfl

set_option maxRecDepth 100000 in
theorem lifted (os : Os) (started : os.Started) (H : Type) (enc : TypeId × Value → H) :
    ReturnsInHanded {} Try.checked os 13 .any (Rows.fnBlindSpec.pre6 enc Try.prog Try.f13 Rows.fnBlindRow.domain false) (Rows.fnBlindSpec.post enc Try.prog Try.f13 false true false false) := by
  refine returnsInHanded_of_change (C := Try.checked) own started (by kernel_rfl) Try.func13
    (ChangeSpec.witness6 (enc := enc) (C := Try.checked) false ⟨#[], #[.slice none 0 0], []⟩ 8 (by kernel_rfl) (by kernel_rfl) (by kernel_rfl) (by kernel_rfl)) ?_
  intro W base args ds gs before hval0 hW hcnd _
  have hval : ∀ (j : Nat) t v, Try.f13.params[j]? = some t → args[j]? = some v → Value.okWide Try.prog W .any base t v := hval0
  have hW' := hW
  obtain ⟨p, q, hA0, hV, rfl, hfz, hnd⟩ := hW
  have hA : DataW.TrodAll enc Try.prog W 0 (fun _ => true) true Try.f13.params.toList args.toList ds p := hA0
  rw [Try.params13] at hA hval
  obtain ⟨v0, vs0, d0, ds0, p0, q0, hargs, rfl, rfl, h0, r0⟩ := trodAll_cons hA
  obtain ⟨rfl, rfl, rfl⟩ := trodAll_nil r0
  obtain rfl : args = #[v0] := by cases args; simp_all
  obtain ⟨rfl, rfl⟩ := trodVars_none hV
  obtain ⟨a0, len0, cap0, rfl⟩ := okWide_slice Try.underlying53 (hval 0 53 v0 rfl rfl)
  have k0 := h0
  have lt0 : ∀ x ∈ p0, x.block < W.heap.size := by obtain ⟨m, hm⟩ := k0; exact DataW.trod_lt m _ _ _ hm
  obtain ⟨z0, w0⟩ : ∃ zs, IsRow .u8 W a0 len0 cap0 zs := by
    obtain ⟨fuel, hf⟩ := h0
    rcases open_ints Try.underlying53 Try.underlying5 (by kernel_rfl) hf with ⟨hcs, _⟩ | ⟨x, l, c, zs, hcs, _, hl, hm, hz, _, hcell, hwz⟩
    · simp [Value.cells] at hcs
      obtain ⟨rfl, rfl, rfl⟩ := hcs
      exact ⟨[], .inl ⟨rfl, rfl, rfl, rfl⟩⟩
    · simp [Value.cells] at hcs
      obtain ⟨rfl, rfl, rfl⟩ := hcs
      exact ⟨zs, .inr ⟨_, rfl, hl, hm, by simpa using hz, hcell, hwz⟩⟩
  clear hA0 hval0
  refine (walk a0 len0 cap0 z0 W w0).mono fun e W' ⟨he, bel⟩ => ?_
  subst he
  exact ⟨_, rfl, _, _, _, [], _, [], hW', trodAll_mk1 (shut_bool Try.underlying4 _), (trodAll_cons_mk (Below.trod laidOut (by kernel_rfl) (of_decide_eq_true (by kernel_rfl)) k0 bel lt0) trodAll_mk0), rfl, bel.frame _, fun h => by cases h⟩

theorem over : Rows.fnBlindRow.holds Try.pinned (OpenSpec.ofChange Rows.fnBlindSpec) :=
  OpenClaim.holds_of_wide 13 Try.f13 rfl rfl rfl rfl rfl rfl rfl ⟨rfl, rfl, rfl, rfl, rfl⟩ rfl rfl rfl rfl rfl (by kernel_rfl) Try.func13 (by kernel_rfl)
    (of_decide_eq_true (by kernel_rfl)) (by unfold Func.isWrapper; first | (rw [if_pos (by decide +kernel)]; kernel_rfl) | (rw [if_neg (by decide +kernel)]; exact ⟨rfl, rfl⟩))
    (fun os started H enc _ => lifted os started H enc)

theorem proved : Rows.FnBlindSaid :=
  over
#print axioms proved
end Go.Proofs.Ytpbopiecfnedgab.fnBlind
