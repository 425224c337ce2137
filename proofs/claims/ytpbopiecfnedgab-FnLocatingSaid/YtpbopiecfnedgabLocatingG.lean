/- For every code of at most 65536 bytes (and trivially for a longer one) the law FnLocating returns true: the best point of the arrivals of a point has spread 0 and so has the point itself, the fitting points are those of the model, each of them has at most the tolerance as its spread and lies in the box, a sender is located if exactly one point fits, and the best point is the model's. No condition of mine. -/
import Derived.Test.YtpbopiecfnedgabRows
import Derived.Test.YtpbopiecfnedgabDrawS11
import Derived.Test.YtpbopiecfnedgabLocG
import Derived.Test.YtpbopiecfnedgabLocB
import Derived.Test.YtpbopiecfnedgabLocX
import Derived.Test.YtpbopiecfnedgabSitJ
import Derived.Test.YtpbopiecfnedgabSitE
import Derived.Test.YtpbopiecfnedgabVInt
import Derived.WalkKit
import Derived.ProofKit
import Derived.OpenShut
import Derived.ShutString
import Derived.ChangeOld
import Derived.Below
import Derived.BigQuiet
import Derived.Deep.QuietTactic
import Derived.Deep.RegionHeld3
import Derived.Deep.CutRange
import Derived.Deep.CutBlock
namespace Go.Proofs.Ytpbopiecfnedgab.fnLocating
open Go.ChangeShapes Go.WideShapes Go.ChangeAt Go.RowKit
open Go.ChangeMaps (open_string shut_string)
open Go.Proofs.Ytpbopiecfnedgab.code_ Go.Proofs.Ytpbopiecfnedgab.cur Go.Proofs.Ytpbopiecfnedgab.ats Go.Proofs.Ytpbopiecfnedgab.lst Go.Proofs.Ytpbopiecfnedgab.ints Go.Proofs.Ytpbopiecfnedgab.sit Go.Proofs.Ytpbopiecfnedgab.sits Go.Proofs.Ytpbopiecfnedgab.loc Go.Proofs.Ytpbopiecfnedgab.locg
set_option linter.unusedVariables false

theorem bool_ne_self (b : Bool) : (b != b) = false := by simp
theorem int_ne_self (b : Int) : (b != b) = false := by simp
theorem bool_eq_self (b : Bool) : (b == b) = true := by simp
theorem int_eq_self (b : Int) : (b == b) = true := by simp

set_option maxRecDepth 100000 in
set_option maxHeartbeats 16000000 in
theorem walk (A : Option Addr) (n c : Nat) (z : List Int) (w : World) (w0 : IsRow .u8 w A n c z) :
    Calls Try.prog 12 #[.slice A n c] w fun e w' => e = .returned (.bool true) ∧ Below w.heap.size w w' := by
  obtain ⟨hby, hnc, -⟩ := bytes_of w0
  clear w0
  have hv := Lib.hid (fun w => vBig A n c w)
  by_cases hbig : (65536 : Int) < (n : Int)
  · clear hby
    go_enter Try.func12, Try.ntmps12
    go_wp2_with fail
    refine (hv.out _).mono ?_
    rintro e w1 ⟨rfl, rfl⟩
    go_wp2_with fail
    go_ret
    exact ⟨rfl, Below.refl _ _⟩
  have hd : decide ((65536 : Int) < (n : Int)) = false := by simpa using hbig
  have hn : n ≤ 65536 := by omega
  have H := Lib.hid hby
  clear hby hbig hnc
  go_enter Try.func12, Try.ntmps12
  go_wp2_with fail
  refine (hv.out _).mono ?_
  rintro e wx ⟨rfl, rfl⟩
  clear hd hv
  have AN1 := Lib.hid (Below.refl w.heap.size w)
  go_wp2_with fail
  refine (draws11.arrivalsOf A n c w hn (Bytes_below H.out AN1.out)).mono ?_
  rintro e V1 ⟨vl, n1, zs, x, y, t, rfl, ho1, hn6, hok, hnear, ht, h1⟩
  obtain ⟨A1, c1, rfl, hc1⟩ := draws10.own_cap ho1
  have AN2 := Lib.hid (AN1.out.trans (h1.mono AN1.out.size))
  clear AN1
  have R1 := Lib.hid (RdZ.of_own ho1 (draws10.own_len ho1))
  have AN3 := Lib.hid (Below.refl V1.heap.size V1)
  clear ho1 h1 hnear hok ht
  have BXp := Lib.hid (newS 32 #[.int .i64 x, .int .i64 y] V1)
  have AN4 := Lib.hid (AN2.out.alloc AN2.out.size (.cells #[.int .i64 x, .int .i64 y] 32))
  clear AN2
  have AN5 := Lib.hid (AN3.out.alloc AN3.out.size (.cells #[.int .i64 x, .int .i64 y] 32))
  clear AN3
  go_upto_region 4 with fail
  generalize V1.alloc (.cells #[.int .i64 x, .int .i64 y] 32) = W1 at *
  have AN6 := Lib.hid (Below.refl W1.heap.size W1)
  have HLn := Lib.hid (Nat.le_trans (avV_length zs n1 x y t) (show n1 ≤ 1048576 by omega))
  have kp0_ : W1.cell? ⟨V1.heap.size, 0, none⟩ = some (.int .i64 x) := (BXp.out.old AN6.out).cell 0
  have kp1_ : W1.cell? ⟨V1.heap.size, 1, none⟩ = some (.int .i64 y) := (BXp.out.old AN6.out).cell 1
  go_wp2_with fail
  clear kp0_ kp1_
  refine (sitj.arrivalsOf zs x y t A1 n1 c1 W1 hc1 (by omega) (R1.out.next AN5.out)).mono ?_
  rintro e V7 ⟨va, rfl, ho9, h8⟩
  obtain ⟨Aa, ca, rfl⟩ := own_sliceZ ho9
  have AN10 := Lib.hid (AN4.out.trans (h8.mono AN4.out.size))
  clear AN4
  have AN11 := Lib.hid (AN5.out.trans (h8.mono AN5.out.size))
  clear AN5
  have AN12 := Lib.hid (AN6.out.trans (h8.mono AN6.out.size))
  clear AN6
  have Ra := Lib.hid (intc.rd_of_own ho9 rfl)
  clear ho9 h8
  have AN13 := Lib.hid (Below.refl V7.heap.size V7)
  have FB := Lib.hid (fun (h : avB zs n1 x y t = true) => And.intro (av_ar h) (And.intro (av_bp h) (And.intro (av_stB h) (And.intro (av_sa h) (bp_sa (av_ar h))))))
  generalize avB zs n1 x y t = O at *
  generalize avV zs n1 x y t = av at *
  generalize hM : av.length = M at *
  clear hM
  go_upto_if 53 with fail
  go_cut [8, 9, 10, 11, 12, 13, 14] from 54 to 96 (fun p8 p9 p10 p11 p12 p13 p14 wz => Below V7.heap.size V7 wz)
  case first =>
    cases O
    · clear FB
      go_wp2_with fail
      go_meet
      exact Below.refl _ _
    · skip
      have AN14 := Lib.hid (Below.refl V7.heap.size V7)
      obtain ⟨f1, f2, f3, f4, f5, f6⟩ := FB.out rfl
      have K1 := locb.bestI zs av A1 Aa n1 c1 M ca V7 hc1 (by omega) HLn.out (R1.out.next AN11.out) (Ra.out.next AN13.out)
      have K2 := fun W h1 h2 => loci.spreadAt zs av x y A1 Aa n1 c1 M ca W hc1 (by omega) HLn.out h1 h2
      have K3 := fun W h1 h2 => loci.spreadAt zs av (bpX zs n1 av M) (bpY zs n1 av M) A1 Aa n1 c1 M ca W hc1 (by omega) HLn.out h1 h2
      rw [f1, f2] at K1
      rw [f3, f4] at K2
      rw [f5, f6, f2] at K3
      have K1 := Lib.hid K1
      have K2 := Lib.hid K2
      have K3 := Lib.hid K3
      clear f1 f2 f3 f4 f5 f6 FB
      generalize bpX zs n1 av M = bx at *
      generalize bpY zs n1 av M = by_ at *
      go_wp2_with fail
      refine (K1.out).mono ?_
      rintro e V15 ⟨rfl, h16⟩
      have AN17 := Lib.hid (AN10.out.trans (h16.mono AN10.out.size))
      clear AN10
      have AN18 := Lib.hid (AN11.out.trans (h16.mono AN11.out.size))
      clear AN11
      have AN19 := Lib.hid (AN12.out.trans (h16.mono AN12.out.size))
      clear AN12
      have AN20 := Lib.hid (AN13.out.trans (h16.mono AN13.out.size))
      clear AN13
      have AN21 := Lib.hid (AN14.out.trans (h16.mono AN14.out.size))
      clear AN14
      clear h16
      clear K1
      have BXq := Lib.hid (newS 32 #[.int .i64 bx, .int .i64 by_] V15)
      have AN22 := Lib.hid (AN17.out.alloc AN17.out.size (.cells #[.int .i64 bx, .int .i64 by_] 32))
      clear AN17
      have AN23 := Lib.hid (AN18.out.alloc AN18.out.size (.cells #[.int .i64 bx, .int .i64 by_] 32))
      clear AN18
      have AN24 := Lib.hid (AN19.out.alloc AN19.out.size (.cells #[.int .i64 bx, .int .i64 by_] 32))
      clear AN19
      have AN25 := Lib.hid (AN20.out.alloc AN20.out.size (.cells #[.int .i64 bx, .int .i64 by_] 32))
      clear AN20
      have AN26 := Lib.hid (AN21.out.alloc AN21.out.size (.cells #[.int .i64 bx, .int .i64 by_] 32))
      clear AN21
      go_upto_region 7 with fail
      generalize V15.alloc (.cells #[.int .i64 bx, .int .i64 by_] 32) = W7 at *
      have AN27 := Lib.hid (Below.refl W7.heap.size W7)
      have kp0_ : W7.cell? ⟨V1.heap.size, 0, none⟩ = some (.int .i64 x) := (BXp.out.old AN24.out).cell 0
      have kp1_ : W7.cell? ⟨V1.heap.size, 1, none⟩ = some (.int .i64 y) := (BXp.out.old AN24.out).cell 1
      go_wp2_with fail
      clear kp0_ kp1_
      refine (K2.out W7 (R1.out.next AN23.out) (Ra.out.next AN25.out)).mono ?_
      rintro e V28 ⟨rfl, h29⟩
      have AN30 := Lib.hid (AN22.out.trans (h29.mono AN22.out.size))
      clear AN22
      have AN31 := Lib.hid (AN23.out.trans (h29.mono AN23.out.size))
      clear AN23
      have AN32 := Lib.hid (AN24.out.trans (h29.mono AN24.out.size))
      clear AN24
      have AN33 := Lib.hid (AN25.out.trans (h29.mono AN25.out.size))
      clear AN25
      have AN34 := Lib.hid (AN26.out.trans (h29.mono AN26.out.size))
      clear AN26
      have AN35 := Lib.hid (AN27.out.trans (h29.mono AN27.out.size))
      clear AN27
      clear h29
      clear K2
      have kq0_ : V28.cell? ⟨V15.heap.size, 0, none⟩ = some (.int .i64 bx) := (BXq.out.old AN35.out).cell 0
      have kq1_ : V28.cell? ⟨V15.heap.size, 1, none⟩ = some (.int .i64 by_) := (BXq.out.old AN35.out).cell 1
      go_wp2_with fail
      clear kq0_ kq1_
      refine (K3.out V28 (R1.out.next AN31.out) (Ra.out.next AN33.out)).mono ?_
      rintro e V36 ⟨rfl, h37⟩
      have AN38 := Lib.hid (AN30.out.trans (h37.mono AN30.out.size))
      clear AN30
      have AN39 := Lib.hid (AN31.out.trans (h37.mono AN31.out.size))
      clear AN31
      have AN40 := Lib.hid (AN32.out.trans (h37.mono AN32.out.size))
      clear AN32
      have AN41 := Lib.hid (AN33.out.trans (h37.mono AN33.out.size))
      clear AN33
      have AN42 := Lib.hid (AN34.out.trans (h37.mono AN34.out.size))
      clear AN34
      have AN43 := Lib.hid (AN35.out.trans (h37.mono AN35.out.size))
      clear AN35
      clear h37
      go_wp2_with fail
      go_meet
      exact AN42.out
  case rest =>
    have hbc := hcut
    have AN44 := Lib.hid (AN10.out.trans (hbc.mono AN10.out.size))
    clear AN10
    have AN45 := Lib.hid (AN11.out.trans (hbc.mono AN11.out.size))
    clear AN11
    have AN46 := Lib.hid (AN12.out.trans (hbc.mono AN12.out.size))
    clear AN12
    have AN47 := Lib.hid (AN13.out.trans (hbc.mono AN13.out.size))
    clear AN13
    clear hbc
    clear AN45
    clear AN47
    clear R1 Ra FB HLn
    clear BXp AN46
    generalize wc = VB at *
    go_wp2_with fail
    refine (draws11.fittingPoints A n c VB hn (Bytes_below H.out AN44.out)).mono ?_
    rintro e VC ⟨vl, n2, ys, vu, m2, bs, t2, rfl, ho2, hn62, hok2, ho3, hm7, h2⟩
    obtain ⟨A2, c2, rfl, hc2⟩ := draws10.own_cap ho2
    obtain ⟨Ab, cb, rfl⟩ := own_sliceZ ho3
    have AN48 := Lib.hid (AN44.out.trans (h2.mono AN44.out.size))
    clear AN44
    have R2 := Lib.hid (RdZ.of_own ho2 (draws10.own_len ho2))
    have AN49 := Lib.hid (Below.refl VC.heap.size VC)
    have Rb := Lib.hid (intc.rd_of_own ho3 (draws11.ints_len ho3))
    have AN50 := Lib.hid (Below.refl VC.heap.size VC)
    clear ho2 ho3 h2 hok2
    have CI := Lib.hid (fun W (h1 : RdZ 2 W W.heap.size A2 n2 ys) (h2 : RdI W W.heap.size Ab m2 bs) => loci.fittingPoints ys bs t2 A2 Ab n2 c2 m2 cb W hc2 (by omega) (by omega) h1 h2)
    have CS := Lib.hid (fun W (h1 : RdZ 2 W W.heap.size A2 n2 ys) (h2 : RdI W W.heap.size Ab m2 bs) => locs.fittingPoints ys bs t2 A2 Ab n2 c2 m2 cb W (by omega) (by omega) h1 h2)
    have CL := fun W (h1 : RdZ 2 W W.heap.size A2 n2 ys) (h2 : RdI W W.heap.size Ab m2 bs) => loci.isLocated ys bs t2 A2 Ab n2 c2 m2 cb W hc2 (by omega) (by omega) h1 h2
    have CB := fun W (h1 : RdZ 2 W W.heap.size A2 n2 ys) (h2 : RdI W W.heap.size Ab m2 bs) => locx.boxI ys bs t2 A2 Ab n2 c2 m2 cb W hc2 (by omega) (by omega) h1 h2
    have CP := Lib.hid (fun x y W (h1 : RdZ 2 W W.heap.size A2 n2 ys) (h2 : RdI W W.heap.size Ab m2 bs) => loci.spreadAt ys bs x y A2 Ab n2 c2 m2 cb W hc2 (by omega) (by omega) h1 h2)
    rw [il_is] at CL
    rw [fb_is] at CB
    have CL := Lib.hid CL
    have CB := Lib.hid CB
    have FT := Lib.hid (fun i (hi : i < ftN ys n2 bs m2 t2) => ft_law hi)
    have HLF := Lib.hid (ftV_length ys n2 bs m2 t2)
    have HN9 := Lib.hid (ftN_le ys n2 bs m2 t2)
    generalize ftV ys n2 bs m2 t2 = Lf at *
    generalize ftN ys n2 bs m2 t2 = N at *
    generalize ltB ys n2 bs m2 t2 = P at *
    generalize loV ys n2 bs m2 t2 0 = l0 at *
    generalize loV ys n2 bs m2 t2 1 = l1 at *
    generalize hiV ys n2 bs m2 t2 0 = h0 at *
    generalize hiV ys n2 bs m2 t2 1 = h1 at *
    have ne1 := bool_ne_self P
    go_wp2_with fail
    refine (CI.out VC (R2.out.next AN49.out) (Rb.out.next AN50.out)).mono ?_
    rintro e V51 ⟨vf, rfl, ho53, h52⟩
    obtain ⟨Af, cf, rfl, hcf⟩ := draws10.own_cap ho53
    have AN54 := Lib.hid (AN48.out.trans (h52.mono AN48.out.size))
    clear AN48
    have AN55 := Lib.hid (AN49.out.trans (h52.mono AN49.out.size))
    clear AN49
    have AN56 := Lib.hid (AN50.out.trans (h52.mono AN50.out.size))
    clear AN50
    have Rf := Lib.hid (RdZ.of_own ho53 HLF.out)
    clear ho53 h52
    have AN57 := Lib.hid (Below.refl V51.heap.size V51)
    go_wp2_with fail
    refine (CS.out V51 (R2.out.next AN55.out) (Rb.out.next AN56.out)).mono ?_
    rintro e V58 ⟨vs, rfl, ho60, h59⟩
    obtain ⟨As, cs, rfl, hcs⟩ := draws10.own_cap ho60
    have AN61 := Lib.hid (AN54.out.trans (h59.mono AN54.out.size))
    clear AN54
    have AN62 := Lib.hid (AN55.out.trans (h59.mono AN55.out.size))
    clear AN55
    have AN63 := Lib.hid (AN56.out.trans (h59.mono AN56.out.size))
    clear AN56
    have AN64 := Lib.hid (AN57.out.trans (h59.mono AN57.out.size))
    clear AN57
    have Rs := Lib.hid (RdZ.of_own ho60 HLF.out)
    clear ho60 h59
    have AN65 := Lib.hid (Below.refl V58.heap.size V58)
    have E1 := Lib.hid (site.vSites Lf Af As N cf cs V58 (by have := HN9.out; omega) (Rf.out.next AN64.out) (Rs.out.next AN65.out))
    go_wp2_with fail
    refine (E1.out).mono ?_
    rintro e wx ⟨rfl, j66, rfl⟩
    have AN68 := Lib.hid (aid.below_drewN AN61.out j66)
    clear AN61
    have AN69 := Lib.hid (aid.below_drewN AN62.out j66)
    clear AN62
    have AN70 := Lib.hid (aid.below_drewN AN63.out j66)
    clear AN63
    have AN71 := Lib.hid (aid.below_drewN AN64.out j66)
    clear AN64
    have AN72 := Lib.hid (aid.below_drewN AN65.out j66)
    clear AN65
    generalize V58.drewN j66 = V67 at *
    clear E1 CI CS
    clear AN72
    clear Rs
    go_wp2_with fail
    refine (CL.out V67 (R2.out.next AN69.out) (Rb.out.next AN70.out)).mono ?_
    rintro e V73 ⟨rfl, h74⟩
    have AN75 := Lib.hid (AN68.out.trans (h74.mono AN68.out.size))
    clear AN68
    have AN76 := Lib.hid (AN69.out.trans (h74.mono AN69.out.size))
    clear AN69
    have AN77 := Lib.hid (AN70.out.trans (h74.mono AN70.out.size))
    clear AN70
    have AN78 := Lib.hid (AN71.out.trans (h74.mono AN71.out.size))
    clear AN71
    clear h74
    go_wp2_with fail
    refine (CB.out V73 (R2.out.next AN76.out) (Rb.out.next AN77.out)).mono ?_
    rintro e V79 ⟨rfl, h80⟩
    have AN81 := Lib.hid (AN75.out.trans (h80.mono AN75.out.size))
    clear AN75
    have AN82 := Lib.hid (AN76.out.trans (h80.mono AN76.out.size))
    clear AN76
    have AN83 := Lib.hid (AN77.out.trans (h80.mono AN77.out.size))
    clear AN77
    have AN84 := Lib.hid (AN78.out.trans (h80.mono AN78.out.size))
    clear AN78
    clear h80
    clear CL CB
    have BXl := Lib.hid ((newS 32 #[.int .i64 l0, .int .i64 l1] V79).alloc (.cells #[.int .i64 h0, .int .i64 h1] 32))
    have BXh := (newS 32 #[.int .i64 l0, .int .i64 l1] V79).next 32 #[.int .i64 h0, .int .i64 h1]
    rw [World.size_alloc] at BXh
    have BXh := Lib.hid BXh
    have AN85 := Lib.hid (AN81.out.alloc AN81.out.size (.cells #[.int .i64 l0, .int .i64 l1] 32))
    clear AN81
    have AN86 := Lib.hid (AN82.out.alloc AN82.out.size (.cells #[.int .i64 l0, .int .i64 l1] 32))
    clear AN82
    have AN87 := Lib.hid (AN83.out.alloc AN83.out.size (.cells #[.int .i64 l0, .int .i64 l1] 32))
    clear AN83
    have AN88 := Lib.hid (AN84.out.alloc AN84.out.size (.cells #[.int .i64 l0, .int .i64 l1] 32))
    clear AN84
    have AN89 := Lib.hid (AN85.out.alloc AN85.out.size (.cells #[.int .i64 h0, .int .i64 h1] 32))
    clear AN85
    have AN90 := Lib.hid (AN86.out.alloc AN86.out.size (.cells #[.int .i64 h0, .int .i64 h1] 32))
    clear AN86
    have AN91 := Lib.hid (AN87.out.alloc AN87.out.size (.cells #[.int .i64 h0, .int .i64 h1] 32))
    clear AN87
    have AN92 := Lib.hid (AN88.out.alloc AN88.out.size (.cells #[.int .i64 h0, .int .i64 h1] 32))
    clear AN88
    go_upto_region 18 with fail
    generalize (V79.alloc (.cells #[.int .i64 l0, .int .i64 l1] 32)).alloc (.cells #[.int .i64 h0, .int .i64 h1] 32) = W17 at *
    have AN93 := Lib.hid (Below.refl W17.heap.size W17)
    have ne2 := bool_ne_self ((N : Int) == 1)
    have ne3 := bool_ne_self (decide ((0 : Int) < (N : Int)))
    go_upto_block 0 with fail
    clear ne2 ne3
    go_cut [27, 28, 29] from 158 to 220 (fun i p q wz => Below W17.heap.size W17 wz)
    case first =>
      go_wp2_with fail
      go_loopw [27] (fun i wr => ∃ k : Nat, k ≤ N ∧ i = .int .i64 k ∧ Below W17.heap.size W17 wr) (fun i _ => N - (intOf i).toNat)
      case atStart => exact ⟨0, Nat.zero_le _, rfl, Below.refl _ _⟩
      case round =>
        obtain ⟨k, hk, rfl, hb⟩ := hrel
        have HB := Lib.hid hb
        by_cases hlt : k < N
        · have hlt2 : (k : Int) < (N : Int) := by omega
          have hn9 := HN9.out
          obtain ⟨f1, f2, ⟨f3, f4⟩, f5, f6⟩ := FT.out k hlt
          obtain ⟨b1, o1, rfl, l1b, p0, p1⟩ := cells2 (Rf.out.next (AN92.out.trans (hb.mono AN92.out.size))) hlt
          have D := CP.out (fld 2 Lf k 0) (fld 2 Lf k 1) wr (R2.out.next (AN90.out.trans (hb.mono AN90.out.size))) (Rb.out.next (AN91.out.trans (hb.mono AN91.out.size)))
          rw [f1] at D
          have D := Lib.hid D
          clear f1 hb
          generalize saV ys n2 bs m2 (fld 2 Lf k 0) (fld 2 Lf k 1) = s at *
          generalize fld 2 Lf k 0 = u at *
          generalize fld 2 Lf k 1 = v at *
          go_wp2_with fail
          refine D.out.mono ?_
          rintro e wy ⟨rfl, hby⟩
          have HB2 := Lib.hid (HB.out.trans (hby.mono HB.out.size))
          have q0 := (hby.cell (p := ⟨b1, o1 + k * 2, none⟩) l1b).trans p0
          have q1 := (hby.cell (p := ⟨b1, o1 + k * 2 + 1, none⟩) l1b).trans p1
          have hq := AN93.out.trans (HB2.out.mono AN93.out.size)
          have c0_ := (BXl.out.old hq).cell 0
          have c1_ := (BXl.out.old hq).cell 1
          have d0_ := (BXh.out.old hq).cell 0
          have d1_ := (BXh.out.old hq).cell 1
          have g1 : ¬ t2 < s := by omega
          have g2 : ¬ u < l0 := by omega
          have g3 : ¬ h0 < u := by omega
          have g4 : ¬ v < l1 := by omega
          have g5 : ¬ h1 < v := by omega
          clear hq hby p0 p1 D
          go_upto_region 24 with fail
          go_quiet (fail)
          go_wp2_with fail
          go_roundw
          case rel => exact ⟨k + 1, by omega, by go_num, aid.below_drewN HB2.out _⟩
          case measure => simp [intOf]; omega
        · obtain rfl : k = N := by omega
          clear hb
          go_wp2_with fail
          go_meet
          exact HB.out
    case rest =>
      have hbc := hcut
      have AN94 := Lib.hid (AN89.out.trans (hbc.mono AN89.out.size))
      clear AN89
      have AN95 := Lib.hid (AN90.out.trans (hbc.mono AN90.out.size))
      clear AN90
      have AN96 := Lib.hid (AN91.out.trans (hbc.mono AN91.out.size))
      clear AN91
      have AN97 := Lib.hid (AN92.out.trans (hbc.mono AN92.out.size))
      clear AN92
      have AN98 := Lib.hid (AN93.out.trans (hbc.mono AN93.out.size))
      clear AN93
      clear hbc
      clear AN95
      clear AN96
      clear AN97
      clear AN98
      clear R2 Rb Rf BXl BXh FT HLF HN9 CP ne1
      generalize wc = VD at *
      go_wp2_with fail
      refine (draws11.bestPoint A n c VD hn (Bytes_below H.out AN94.out)).mono ?_
      rintro e VE ⟨vl, n3, us, vu, m3, ds3, rfl, ho4, hn63, hok3, ho5, hm73, h3⟩
      obtain ⟨A3, c3, rfl, hc3⟩ := draws10.own_cap ho4
      obtain ⟨Ad, cd, rfl⟩ := own_sliceZ ho5
      have AN99 := Lib.hid (AN94.out.trans (h3.mono AN94.out.size))
      clear AN94
      have R3 := Lib.hid (RdZ.of_own ho4 (draws10.own_len ho4))
      have AN100 := Lib.hid (Below.refl VE.heap.size VE)
      have Rd := Lib.hid (intc.rd_of_own ho5 (draws11.ints_len ho5))
      have AN101 := Lib.hid (Below.refl VE.heap.size VE)
      clear ho4 ho5 h3 hok3
      have CI := Lib.hid (fun W (h1 : RdZ 2 W W.heap.size A3 n3 us) (h2 : RdI W W.heap.size Ad m3 ds3) => locb.bestI us ds3 A3 Ad n3 c3 m3 cd W hc3 (by omega) (by omega) h1 h2)
      have CS := Lib.hid (fun W (h1 : RdZ 2 W W.heap.size A3 n3 us) (h2 : RdI W W.heap.size Ad m3 ds3) => locb.bestS us ds3 A3 Ad n3 c3 m3 cd W (by omega) (by omega) h1 h2)
      generalize bpX us n3 ds3 m3 = bx at *
      generalize bpY us n3 ds3 m3 = by_ at *
      generalize bpS us n3 ds3 m3 = bs_ at *
      generalize arB us n3 ds3 m3 = Q at *
      have eq1 := int_eq_self bx
      have eq2 := int_eq_self by_
      have eq3 := int_eq_self bs_
      have eq4 := bool_eq_self Q
      go_wp2_with fail
      refine (CI.out VE (R3.out.next AN100.out) (Rd.out.next AN101.out)).mono ?_
      rintro e V102 ⟨rfl, h103⟩
      have AN104 := Lib.hid (AN99.out.trans (h103.mono AN99.out.size))
      clear AN99
      have AN105 := Lib.hid (AN100.out.trans (h103.mono AN100.out.size))
      clear AN100
      have AN106 := Lib.hid (AN101.out.trans (h103.mono AN101.out.size))
      clear AN101
      clear h103
      have BXr := Lib.hid (newS 32 #[.int .i64 bx, .int .i64 by_] V102)
      have AN107 := Lib.hid (AN104.out.alloc AN104.out.size (.cells #[.int .i64 bx, .int .i64 by_] 32))
      clear AN104
      have AN108 := Lib.hid (AN105.out.alloc AN105.out.size (.cells #[.int .i64 bx, .int .i64 by_] 32))
      clear AN105
      have AN109 := Lib.hid (AN106.out.alloc AN106.out.size (.cells #[.int .i64 bx, .int .i64 by_] 32))
      clear AN106
      go_upto_region 28 with fail
      generalize V102.alloc (.cells #[.int .i64 bx, .int .i64 by_] 32) = W27 at *
      have AN110 := Lib.hid (Below.refl W27.heap.size W27)
      go_wp2_with fail
      refine (CS.out W27 (R3.out.next AN108.out) (Rd.out.next AN109.out)).mono ?_
      rintro e V111 ⟨rfl, h112⟩
      have AN113 := Lib.hid (AN107.out.trans (h112.mono AN107.out.size))
      clear AN107
      have AN114 := Lib.hid (AN108.out.trans (h112.mono AN108.out.size))
      clear AN108
      have AN115 := Lib.hid (AN109.out.trans (h112.mono AN109.out.size))
      clear AN109
      have AN116 := Lib.hid (AN110.out.trans (h112.mono AN110.out.size))
      clear AN110
      clear h112
      have BXt := Lib.hid (newS 32 #[.int .i64 bx, .int .i64 by_] V111)
      have AN117 := Lib.hid (AN113.out.alloc AN113.out.size (.cells #[.int .i64 bx, .int .i64 by_] 32))
      clear AN113
      have AN118 := Lib.hid (AN114.out.alloc AN114.out.size (.cells #[.int .i64 bx, .int .i64 by_] 32))
      clear AN114
      have AN119 := Lib.hid (AN115.out.alloc AN115.out.size (.cells #[.int .i64 bx, .int .i64 by_] 32))
      clear AN115
      have AN120 := Lib.hid (AN116.out.alloc AN116.out.size (.cells #[.int .i64 bx, .int .i64 by_] 32))
      clear AN116
      go_upto_region 29 with fail
      generalize V111.alloc (.cells #[.int .i64 bx, .int .i64 by_] 32) = W28 at *
      have AN121 := Lib.hid (Below.refl W28.heap.size W28)
      have kr0_ : W28.cell? ⟨V102.heap.size, 0, none⟩ = some (.int .i64 bx) := (BXr.out.old AN120.out).cell 0
      have kr1_ : W28.cell? ⟨V102.heap.size, 1, none⟩ = some (.int .i64 by_) := (BXr.out.old AN120.out).cell 1
      have kt0_ : W28.cell? ⟨V111.heap.size, 0, none⟩ = some (.int .i64 bx) := (BXt.out.old AN121.out).cell 0
      have kt1_ : W28.cell? ⟨V111.heap.size, 1, none⟩ = some (.int .i64 by_) := (BXt.out.old AN121.out).cell 1
      go_wp2_with fail
      go_ret
      exact ⟨rfl, AN117.out⟩

theorem own : ownKnob Try.prog.godebug = none := by kernel_rfl
theorem laidOut : laidOutB Try.prog = true := by kernel_rfl

set_option maxRecDepth 100000 in
theorem lifted (os : Os) (started : os.Started) (H : Type) (enc : TypeId × Value → H) :
    ReturnsInHanded {} Try.checked os 12 .any (Rows.fnLocatingSpec.pre6 enc Try.prog Try.f12 Rows.fnLocatingRow.domain false) (Rows.fnLocatingSpec.post enc Try.prog Try.f12 false true false false) := by
  refine returnsInHanded_of_change (C := Try.checked) own started (by kernel_rfl) Try.func12
    (ChangeSpec.witness6 (enc := enc) (C := Try.checked) false ⟨#[], #[.slice none 0 0], []⟩ 8 (by kernel_rfl) (by kernel_rfl) (by kernel_rfl) (by kernel_rfl)) ?_
  intro W base args ds gs before hval0 hW hcnd _
  have hval : ∀ (j : Nat) t v, Try.f12.params[j]? = some t → args[j]? = some v → Value.okWide Try.prog W .any base t v := hval0
  have hW' := hW
  obtain ⟨p, q, hA0, hV, rfl, hfz, hnd⟩ := hW
  have hA : DataW.TrodAll enc Try.prog W 0 (fun _ => true) true Try.f12.params.toList args.toList ds p := hA0
  rw [Try.params12] at hA hval
  obtain ⟨v0, vs0, d0, ds0, p0, q0, hargs, rfl, rfl, h0, r0⟩ := trodAll_cons hA
  obtain ⟨rfl, rfl, rfl⟩ := trodAll_nil r0
  obtain rfl : args = #[v0] := by cases args; simp_all
  obtain ⟨rfl, rfl⟩ := trodVars_none hV
  obtain ⟨a0, len0, cap0, rfl⟩ := okWide_slice Try.underlying53 (hval 0 53 v0 rfl rfl)
  have k0 := h0
  have lt0 : ∀ x ∈ p0, x.block < W.heap.size := by obtain ⟨m, hm⟩ := k0; exact DataW.trod_lt m _ _ _ hm
  obtain ⟨z0, w0⟩ : ∃ zs, IsRow .u8 W a0 len0 cap0 zs := by
    obtain ⟨fuel, hf⟩ := h0
    rcases open_ints Try.underlying53 Try.underlying5 (by kernel_rfl) hf with ⟨hcs, _⟩ | ⟨x, l, c, zs, hcs, _, hl, hm, hz, _, hcell, hwz⟩
    · simp [Value.cells] at hcs
      obtain ⟨rfl, rfl, rfl⟩ := hcs
      exact ⟨[], .inl ⟨rfl, rfl, rfl, rfl⟩⟩
    · simp [Value.cells] at hcs
      obtain ⟨rfl, rfl, rfl⟩ := hcs
      exact ⟨zs, .inr ⟨_, rfl, hl, hm, by simpa using hz, hcell, hwz⟩⟩
  clear hA0 hval0
  refine (walk a0 len0 cap0 z0 W w0).mono fun e W' ⟨he, bel⟩ => ?_
  subst he
  exact ⟨_, rfl, _, _, _, [], _, [], hW', trodAll_mk1 (shut_bool Try.underlying4 _), (trodAll_cons_mk (Below.trod laidOut (by kernel_rfl) (of_decide_eq_true (by kernel_rfl)) k0 bel lt0) trodAll_mk0), rfl, bel.frame _, fun h => by cases h⟩

theorem over : Rows.fnLocatingRow.holds Try.pinned (OpenSpec.ofChange Rows.fnLocatingSpec) :=
  OpenClaim.holds_of_wide 12 Try.f12 rfl rfl rfl rfl rfl rfl rfl ⟨rfl, rfl, rfl, rfl, rfl⟩ rfl rfl rfl rfl rfl (by kernel_rfl) Try.func12 (by kernel_rfl)
    (of_decide_eq_true (by kernel_rfl)) (by unfold Func.isWrapper; first | (rw [if_pos (by decide +kernel)]; kernel_rfl) | (rw [if_neg (by decide +kernel)]; exact ⟨rfl, rfl⟩))
    (fun os started H enc _ => lifted os started H enc)

theorem proved : Rows.FnLocatingSaid :=
  over
#print axioms proved
end Go.Proofs.Ytpbopiecfnedgab.fnLocating
