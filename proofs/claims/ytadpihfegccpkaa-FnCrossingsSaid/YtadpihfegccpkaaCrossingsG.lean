/- For every code of at most 65536 bytes (and trivially for a longer one) the law FnCrossings returns true: the sides that a line crosses, whether two sectors are the same, the double area and the turned sector are those of the model; a line crosses as many sides in the other direction; where it crosses none, both ends are in the sector or none is, and the first is not on the border; SameSector does not depend on the order. No condition of mine. -/
import Derived.Test.YtadpihfegccpkaaRows
import Derived.Test.YtadpihfegccpkaaDrawV17
import Derived.Test.YtadpihfegccpkaaDrawW17
import Derived.Test.YtadpihfegccpkaaSctM
import Derived.Test.YtadpihfegccpkaaSctG
import Derived.Test.YtadpihfegccpkaaSctK
import Derived.Test.YtadpihfegccpkaaSctP
import Derived.Test.YtadpihfegccpkaaSctQ
import Derived.Test.YtadpihfegccpkaaVSec
import Derived.Test.YtadpihfegccpkaaPlcE
import Derived.Test.YtadpihfegccpkaaCode
import Derived.WalkKit
import Derived.ProofKit
import Derived.OpenShut
import Derived.ShutString
import Derived.ChangeOld
import Derived.Below
import Derived.BigQuiet
import Derived.Deep.QuietTactic
import Derived.Deep.RegionHeld3
import Derived.Deep.CutRange
import Derived.Deep.CutBlock
namespace Go.Proofs.Ytadpihfegccpkaa.fnCrossings
open Go.ChangeShapes Go.WideShapes Go.ChangeAt Go.RowKit
open Go.ChangeMaps (open_string shut_string)
open Go.Proofs.Ytadpihfegccpkaa.code_ Go.Proofs.Ytadpihfegccpkaa.cur Go.Proofs.Ytadpihfegccpkaa.ats Go.Proofs.Ytadpihfegccpkaa.lst Go.Proofs.Ytadpihfegccpkaa.sctr Go.Proofs.Ytadpihfegccpkaa.sctl Go.Proofs.Ytadpihfegccpkaa.drawt17 Go.Proofs.Ytadpihfegccpkaa.drawv17 Go.Proofs.Ytadpihfegccpkaa.draww17
set_option linter.unusedVariables false

theorem bool_ne_self (b : Bool) : (b != b) = false := by simp
theorem int_ne_self (b : Int) : (b != b) = false := by simp
theorem bool_eq_self (b : Bool) : (b == b) = true := by simp
theorem int_eq_self (b : Int) : (b == b) = true := by simp
theorem tuN_le {d : Int} {zs : List Int} {n : Nat} (h : n ≤ 6) : tuN d zs n ≤ 1048577 := by unfold tuN; split <;> omega

set_option maxRecDepth 100000 in
set_option maxHeartbeats 16000000 in
theorem walk (A : Option Addr) (n c : Nat) (z : List Int) (w : World) (w0 : IsRow .u8 w A n c z) :
    Calls Try.prog 4 #[.slice A n c] w fun e w' => e = .returned (.bool true) ∧ Below w.heap.size w w' := by
  obtain ⟨hby, hnc, -⟩ := bytes_of w0
  clear w0
  have hv := Lib.hid (fun w => vBig A n c w)
  by_cases hbig : (65536 : Int) < (n : Int)
  · clear hby
    go_enter Try.func4, Try.ntmps4
    go_wp2_with fail
    refine (hv.out _).mono ?_
    rintro e w1 ⟨rfl, rfl⟩
    go_wp2_with fail
    go_ret
    exact ⟨rfl, Below.refl _ _⟩
  have hd : decide ((65536 : Int) < (n : Int)) = false := by simpa using hbig
  have hn : n ≤ 65536 := by omega
  have H := Lib.hid hby
  clear hby hbig hnc
  go_enter Try.func4, Try.ntmps4
  go_wp2_with fail
  refine (hv.out _).mono ?_
  rintro e wx ⟨rfl, rfl⟩
  clear hd hv
  have HB0 := Lib.hid (Below.refl w.heap.size w)
  go_wp2_with fail
  refine (drawv17.crossedSides A n c w hn (Bytes_below H.out HB0.out)).mono ?_
  rintro e V1 ⟨d1, A1, k1, c1, zs1, x1, y1, x2, y2, rfl, ho1, hk1, hc1, -, h2⟩
  have HB3 := Lib.hid (HB0.out.trans (h2.mono HB0.out.size))
  clear HB0
  clear h2
  have RX4 := Lib.hid (RdZ.of_own ho1 (own_len2 ho1))
  clear ho1
  have RX5 := Lib.hid (RX4.out.next ((((Below.refl _ _).alloc (by first | exact Nat.le_refl _ | (simp only [World.size_alloc]; omega)) (.cells #[.int .i64 d1, .slice A1 k1 c1] 26)).alloc (by first | exact Nat.le_refl _ | (simp only [World.size_alloc]; omega)) (.cells #[.int .i64 x1, .int .i64 y1] 28)).alloc (by first | exact Nat.le_refl _ | (simp only [World.size_alloc]; omega)) (.cells #[.int .i64 x2, .int .i64 y2] 28)))
  clear RX4
  have BX6 := Lib.hid (((plce.at_next 26 #[.int .i64 d1, .slice A1 k1 c1] HB3.out).alloc (.cells #[.int .i64 x1, .int .i64 y1] 28)).alloc (.cells #[.int .i64 x2, .int .i64 y2] 28))
  have BX7 := Lib.hid (((plce.at_next 26 #[.int .i64 d1, .slice A1 k1 c1] HB3.out).next 28 #[.int .i64 x1, .int .i64 y1]).alloc (.cells #[.int .i64 x2, .int .i64 y2] 28))
  rw [World.size_alloc] at BX7
  have BX8 := Lib.hid (((plce.at_next 26 #[.int .i64 d1, .slice A1 k1 c1] HB3.out).alloc (.cells #[.int .i64 x1, .int .i64 y1] 28)).next 28 #[.int .i64 x2, .int .i64 y2])
  rw [World.size_alloc, World.size_alloc] at BX8
  clear HB3
  have HBn := Lib.hid BX6.out.1
  have HB9 := HBn
  clear HBn
  go_upto_region 4 with fail
  generalize (((V1.alloc (.cells #[.int .i64 d1, .slice A1 k1 c1] 26)).alloc (.cells #[.int .i64 x1, .int .i64 y1] 28)).alloc (.cells #[.int .i64 x2, .int .i64 y2] 28)) = W1 at *
  have CI := Lib.hid (fun (W : World) (h0 : RdZ 2 W W.heap.size A1 k1 zs1) => sctp.crossedSides d1 zs1 x1 y1 x2 y2 A1 k1 c1 W hc1 (by omega) h0)
  have CJ := Lib.hid (fun (W : World) (h0 : RdZ 2 W W.heap.size A1 k1 zs1) => by have t_ := sctp.crossedSides d1 zs1 x2 y2 x1 y1 A1 k1 c1 W hc1 (by omega) h0; rw [sctm.csV_swap, sctm.csB_swap] at t_; exact t_)
  have CS := Lib.hid (fun (W : World) (h0 : RdZ 2 W W.heap.size A1 k1 zs1) => sctq.crossedSides d1 zs1 x1 y1 x2 y2 A1 k1 c1 W (by omega) h0)
  have C1 := Lib.hid (fun (W : World) (h0 : RdZ 2 W W.heap.size A1 k1 zs1) => sctp.isIn d1 zs1 x1 y1 A1 k1 c1 W hc1 (by omega) h0)
  have C2 := Lib.hid (fun (W : World) (h0 : RdZ 2 W W.heap.size A1 k1 zs1) => sctp.isIn d1 zs1 x2 y2 A1 k1 c1 W hc1 (by omega) h0)
  have C3 := Lib.hid (fun (W : World) (h0 : RdZ 2 W W.heap.size A1 k1 zs1) => sctp.isOnBorder d1 zs1 x1 y1 A1 k1 c1 W hc1 (by omega) h0)
  have M1 := Lib.hid (fun (h : csB d1 zs1 k1 x1 y1 x2 y2 = true) => sctm.cs_ii h)
  have M2 := Lib.hid (fun (h : csB d1 zs1 k1 x1 y1 x2 y2 = true) (h0 : csV d1 zs1 k1 x1 y1 x2 y2 = 0) => sctm.cs_none h h0)
  generalize csV d1 zs1 k1 x1 y1 x2 y2 = NV at *
  generalize csB d1 zs1 k1 x1 y1 x2 y2 = O1 at *
  generalize iiB d1 zs1 k1 x1 y1 = b1 at *
  generalize iiB d1 zs1 k1 x2 y2 = b2 at *
  generalize iiV d1 zs1 k1 x1 y1 = v1 at *
  generalize iiV d1 zs1 k1 x2 y2 = v2 at *
  generalize ioV d1 zs1 k1 x1 y1 = v3 at *
  have n1 := int_ne_self (NV : Int)
  have n2 := bool_ne_self O1
  have ks0_ : W1.cell? ⟨V1.heap.size, 0, none⟩ = some (.int .i64 d1) := BX6.out.cell 0
  have ks1_ : W1.cell? ⟨V1.heap.size, 1, none⟩ = some (.slice A1 k1 c1) := BX6.out.cell 1
  have kp0_ : W1.cell? ⟨V1.heap.size + 1, 0, none⟩ = some (.int .i64 x1) := BX7.out.cell 0
  have kp1_ : W1.cell? ⟨V1.heap.size + 1, 1, none⟩ = some (.int .i64 y1) := BX7.out.cell 1
  have kq0_ : W1.cell? ⟨V1.heap.size + 1 + 1, 0, none⟩ = some (.int .i64 x2) := BX8.out.cell 0
  have kq1_ : W1.cell? ⟨V1.heap.size + 1 + 1, 1, none⟩ = some (.int .i64 y2) := BX8.out.cell 1
  go_wp2_with fail
  clear ks0_ ks1_ kp0_ kp1_ kq0_ kq1_
  refine (CI.out W1 RX5.out).mono ?_
  rintro e V10 ⟨rfl, h11⟩
  have HB12 := Lib.hid (HB9.out.trans (h11.mono HB9.out.size))
  clear HB9
  have BX13 := Lib.hid (BX6.out.old h11)
  clear BX6
  have BX14 := Lib.hid (BX7.out.old h11)
  clear BX7
  have BX15 := Lib.hid (BX8.out.old h11)
  clear BX8
  have RX16 := Lib.hid (RX5.out.next h11)
  clear RX5
  clear h11
  have ks0_ : V10.cell? ⟨V1.heap.size, 0, none⟩ = some (.int .i64 d1) := BX13.out.cell 0
  have ks1_ : V10.cell? ⟨V1.heap.size, 1, none⟩ = some (.slice A1 k1 c1) := BX13.out.cell 1
  have kp0_ : V10.cell? ⟨V1.heap.size + 1, 0, none⟩ = some (.int .i64 x1) := BX14.out.cell 0
  have kp1_ : V10.cell? ⟨V1.heap.size + 1, 1, none⟩ = some (.int .i64 y1) := BX14.out.cell 1
  have kq0_ : V10.cell? ⟨V1.heap.size + 1 + 1, 0, none⟩ = some (.int .i64 x2) := BX15.out.cell 0
  have kq1_ : V10.cell? ⟨V1.heap.size + 1 + 1, 1, none⟩ = some (.int .i64 y2) := BX15.out.cell 1
  go_wp2_with fail
  clear ks0_ ks1_ kp0_ kp1_ kq0_ kq1_
  refine (CJ.out V10 RX16.out).mono ?_
  rintro e V17 ⟨rfl, h18⟩
  have HB19 := Lib.hid (HB12.out.trans (h18.mono HB12.out.size))
  clear HB12
  have BX20 := Lib.hid (BX13.out.old h18)
  clear BX13
  have BX21 := Lib.hid (BX14.out.old h18)
  clear BX14
  have BX22 := Lib.hid (BX15.out.old h18)
  clear BX15
  have RX23 := Lib.hid (RX16.out.next h18)
  clear RX16
  clear h18
  have ks0_ : V17.cell? ⟨V1.heap.size, 0, none⟩ = some (.int .i64 d1) := BX20.out.cell 0
  have ks1_ : V17.cell? ⟨V1.heap.size, 1, none⟩ = some (.slice A1 k1 c1) := BX20.out.cell 1
  have kp0_ : V17.cell? ⟨V1.heap.size + 1, 0, none⟩ = some (.int .i64 x1) := BX21.out.cell 0
  have kp1_ : V17.cell? ⟨V1.heap.size + 1, 1, none⟩ = some (.int .i64 y1) := BX21.out.cell 1
  have kq0_ : V17.cell? ⟨V1.heap.size + 1 + 1, 0, none⟩ = some (.int .i64 x2) := BX22.out.cell 0
  have kq1_ : V17.cell? ⟨V1.heap.size + 1 + 1, 1, none⟩ = some (.int .i64 y2) := BX22.out.cell 1
  go_wp2_with fail
  clear ks0_ ks1_ kp0_ kp1_ kq0_ kq1_
  refine (CS.out V17 RX23.out).mono ?_
  rintro e V24 ⟨rfl, h25⟩
  have HB26 := Lib.hid (HB19.out.trans (h25.mono HB19.out.size))
  clear HB19
  have BX27 := Lib.hid (BX20.out.old h25)
  clear BX20
  have BX28 := Lib.hid (BX21.out.old h25)
  clear BX21
  have BX29 := Lib.hid (BX22.out.old h25)
  clear BX22
  have RX30 := Lib.hid (RX23.out.next h25)
  clear RX23
  clear h25
  clear CI CJ CS
  go_upto_if 83 with fail
  go_cut [] from 84 to 127 (fun wz => Below V24.heap.size V24 wz)
  case first =>
    cases O1
    · go_wp2_with fail
      go_meet
      exact Below.refl _ _
    · obtain ⟨e1_, e2_⟩ := M1.out rfl
      have M3 := Lib.hid (M2.out rfl)
      subst e1_
      subst e2_
      have KB := Lib.hid (Below.refl V24.heap.size V24)
      have ks0_ : V24.cell? ⟨V1.heap.size, 0, none⟩ = some (.int .i64 d1) := BX27.out.cell 0
      have ks1_ : V24.cell? ⟨V1.heap.size, 1, none⟩ = some (.slice A1 k1 c1) := BX27.out.cell 1
      have kp0_ : V24.cell? ⟨V1.heap.size + 1, 0, none⟩ = some (.int .i64 x1) := BX28.out.cell 0
      have kp1_ : V24.cell? ⟨V1.heap.size + 1, 1, none⟩ = some (.int .i64 y1) := BX28.out.cell 1
      go_wp2_with fail
      clear ks0_ ks1_ kp0_ kp1_
      refine (C1.out V24 RX30.out).mono ?_
      rintro e V31 ⟨rfl, h32⟩
      have KB := Lib.hid (KB.out.trans (h32.mono KB.out.size))
      have HB33 := Lib.hid (HB26.out.trans (h32.mono HB26.out.size))
      have BX34 := Lib.hid (BX27.out.old h32)
      have BX35 := Lib.hid (BX28.out.old h32)
      have BX36 := Lib.hid (BX29.out.old h32)
      have RX37 := Lib.hid (RX30.out.next h32)
      have ks0_ : V31.cell? ⟨V1.heap.size, 0, none⟩ = some (.int .i64 d1) := BX34.out.cell 0
      have ks1_ : V31.cell? ⟨V1.heap.size, 1, none⟩ = some (.slice A1 k1 c1) := BX34.out.cell 1
      have kq0_ : V31.cell? ⟨V1.heap.size + 1 + 1, 0, none⟩ = some (.int .i64 x2) := BX36.out.cell 0
      have kq1_ : V31.cell? ⟨V1.heap.size + 1 + 1, 1, none⟩ = some (.int .i64 y2) := BX36.out.cell 1
      go_wp2_with fail
      clear ks0_ ks1_ kq0_ kq1_
      refine (C2.out V31 RX37.out).mono ?_
      rintro e V38 ⟨rfl, h39⟩
      have KB := Lib.hid (KB.out.trans (h39.mono KB.out.size))
      have HB40 := Lib.hid (HB33.out.trans (h39.mono HB33.out.size))
      have BX41 := Lib.hid (BX34.out.old h39)
      have BX42 := Lib.hid (BX35.out.old h39)
      have BX43 := Lib.hid (BX36.out.old h39)
      have RX44 := Lib.hid (RX37.out.next h39)
      have ks0_ : V38.cell? ⟨V1.heap.size, 0, none⟩ = some (.int .i64 d1) := BX41.out.cell 0
      have ks1_ : V38.cell? ⟨V1.heap.size, 1, none⟩ = some (.slice A1 k1 c1) := BX41.out.cell 1
      have kp0_ : V38.cell? ⟨V1.heap.size + 1, 0, none⟩ = some (.int .i64 x1) := BX42.out.cell 0
      have kp1_ : V38.cell? ⟨V1.heap.size + 1, 1, none⟩ = some (.int .i64 y1) := BX42.out.cell 1
      go_wp2_with fail
      clear ks0_ ks1_ kp0_ kp1_
      refine (C3.out V38 RX44.out).mono ?_
      rintro e V45 ⟨rfl, h46⟩
      have KB := Lib.hid (KB.out.trans (h46.mono KB.out.size))
      have HB47 := Lib.hid (HB40.out.trans (h46.mono HB40.out.size))
      have BX48 := Lib.hid (BX41.out.old h46)
      have BX49 := Lib.hid (BX42.out.old h46)
      have BX50 := Lib.hid (BX43.out.old h46)
      have RX51 := Lib.hid (RX44.out.next h46)
      by_cases h0 : NV = 0
      · obtain ⟨rfl, rfl⟩ := M3.out h0
        clear M3
        have hz : ((NV : Int) == 0) = true := by simp [h0]
        clear h0
        cases v1
        · go_wp2_with fail
          go_meet
          exact KB.out
        · go_wp2_with fail
          go_meet
          exact KB.out
      · have hz : ((NV : Int) == 0) = false := by simpa using h0
        clear h0 M3
        cases v1 <;> cases v2 <;> cases v3
        all_goals
          go_wp2_with fail
          go_meet
          exact KB.out
  case rest =>
    clear M1 M2 C1 C2 C3 n1 n2
    clear BX27
    clear BX28
    clear BX29
    clear RX30
    have hcx := hcut
    clear hcut
    have HB52 := Lib.hid (HB26.out.trans (hcx.mono HB26.out.size))
    clear HB26
    clear hcx
    go_wp2_with fail
    refine (draww17.sameSector A n c wc hn (Bytes_below H.out HB52.out)).mono ?_
    rintro e V53 ⟨d2, d3, A2, A3, k2, c2, k3, c3, zs2, zs3, rfl, ⟨ho2, hk2, hc2⟩, ⟨ho3, hk3, hc3⟩, h54⟩
    have HB55 := Lib.hid (HB52.out.trans (h54.mono HB52.out.size))
    clear HB52
    clear h54
    have RX56 := Lib.hid (RdZ.of_own ho2 (own_len2 ho2))
    clear ho2
    have RX57 := Lib.hid (RdZ.of_own ho3 (own_len2 ho3))
    clear ho3
    have RX58 := Lib.hid (RX56.out.next (((Below.refl _ _).alloc (by first | exact Nat.le_refl _ | (simp only [World.size_alloc]; omega)) (.cells #[.int .i64 d2, .slice A2 k2 c2] 26)).alloc (by first | exact Nat.le_refl _ | (simp only [World.size_alloc]; omega)) (.cells #[.int .i64 d3, .slice A3 k3 c3] 26)))
    clear RX56
    have RX59 := Lib.hid (RX57.out.next (((Below.refl _ _).alloc (by first | exact Nat.le_refl _ | (simp only [World.size_alloc]; omega)) (.cells #[.int .i64 d2, .slice A2 k2 c2] 26)).alloc (by first | exact Nat.le_refl _ | (simp only [World.size_alloc]; omega)) (.cells #[.int .i64 d3, .slice A3 k3 c3] 26)))
    clear RX57
    have BX60 := Lib.hid ((plce.at_next 26 #[.int .i64 d2, .slice A2 k2 c2] HB55.out).alloc (.cells #[.int .i64 d3, .slice A3 k3 c3] 26))
    have BX61 := Lib.hid ((plce.at_next 26 #[.int .i64 d2, .slice A2 k2 c2] HB55.out).next 26 #[.int .i64 d3, .slice A3 k3 c3])
    rw [World.size_alloc] at BX61
    clear HB55
    have HBn := Lib.hid BX60.out.1
    have HB62 := HBn
    clear HBn
    go_upto_region 16 with fail
    generalize ((V53.alloc (.cells #[.int .i64 d2, .slice A2 k2 c2] 26)).alloc (.cells #[.int .i64 d3, .slice A3 k3 c3] 26)) = W2 at *
    have DI := Lib.hid (fun (W : World) (h0 : RdZ 2 W W.heap.size A2 k2 zs2) (h1 : RdZ 2 W W.heap.size A3 k3 zs3) => sctg.sameSector d2 zs2 d3 zs3 A2 A3 k2 c2 k3 c3 W hc2 (by omega) hc3 (by omega) h0 h1)
    have DJ := Lib.hid (fun (W : World) (h0 : RdZ 2 W W.heap.size A2 k2 zs2) (h1 : RdZ 2 W W.heap.size A3 k3 zs3) => by have t_ := sctg.sameSector d3 zs3 d2 zs2 A3 A2 k3 c3 k2 c2 W hc3 (by omega) hc2 (by omega) h1 h0; rw [sctm.ssV_swap, sctm.ssB_swap] at t_; exact t_)
    have DS := Lib.hid (fun (W : World) (h0 : RdZ 2 W W.heap.size A2 k2 zs2) (h1 : RdZ 2 W W.heap.size A3 k3 zs3) => sctk.sameSector d2 zs2 d3 zs3 A2 A3 k2 c2 k3 c3 W (by omega) (by omega) h0 h1)
    generalize ssV d2 zs2 k2 d3 zs3 k3 = SV at *
    generalize ssB d2 zs2 k2 d3 zs3 k3 = SB at *
    have n3 := bool_ne_self SV
    have n4 := bool_ne_self SB
    have kx0_ : W2.cell? ⟨V53.heap.size, 0, none⟩ = some (.int .i64 d2) := BX60.out.cell 0
    have kx1_ : W2.cell? ⟨V53.heap.size, 1, none⟩ = some (.slice A2 k2 c2) := BX60.out.cell 1
    have ky0_ : W2.cell? ⟨V53.heap.size + 1, 0, none⟩ = some (.int .i64 d3) := BX61.out.cell 0
    have ky1_ : W2.cell? ⟨V53.heap.size + 1, 1, none⟩ = some (.slice A3 k3 c3) := BX61.out.cell 1
    go_wp2_with fail
    clear kx0_ kx1_ ky0_ ky1_
    refine (DI.out W2 RX58.out RX59.out).mono ?_
    rintro e V63 ⟨rfl, h64⟩
    have HB65 := Lib.hid (HB62.out.trans (h64.mono HB62.out.size))
    clear HB62
    have BX66 := Lib.hid (BX60.out.old h64)
    clear BX60
    have BX67 := Lib.hid (BX61.out.old h64)
    clear BX61
    have RX68 := Lib.hid (RX58.out.next h64)
    clear RX58
    have RX69 := Lib.hid (RX59.out.next h64)
    clear RX59
    clear h64
    have kx0_ : V63.cell? ⟨V53.heap.size, 0, none⟩ = some (.int .i64 d2) := BX66.out.cell 0
    have kx1_ : V63.cell? ⟨V53.heap.size, 1, none⟩ = some (.slice A2 k2 c2) := BX66.out.cell 1
    have ky0_ : V63.cell? ⟨V53.heap.size + 1, 0, none⟩ = some (.int .i64 d3) := BX67.out.cell 0
    have ky1_ : V63.cell? ⟨V53.heap.size + 1, 1, none⟩ = some (.slice A3 k3 c3) := BX67.out.cell 1
    go_wp2_with fail
    clear kx0_ kx1_ ky0_ ky1_
    refine (DJ.out V63 RX68.out RX69.out).mono ?_
    rintro e V70 ⟨rfl, h71⟩
    have HB72 := Lib.hid (HB65.out.trans (h71.mono HB65.out.size))
    clear HB65
    have BX73 := Lib.hid (BX66.out.old h71)
    clear BX66
    have BX74 := Lib.hid (BX67.out.old h71)
    clear BX67
    have RX75 := Lib.hid (RX68.out.next h71)
    clear RX68
    have RX76 := Lib.hid (RX69.out.next h71)
    clear RX69
    clear h71
    have kx0_ : V70.cell? ⟨V53.heap.size, 0, none⟩ = some (.int .i64 d2) := BX73.out.cell 0
    have kx1_ : V70.cell? ⟨V53.heap.size, 1, none⟩ = some (.slice A2 k2 c2) := BX73.out.cell 1
    have ky0_ : V70.cell? ⟨V53.heap.size + 1, 0, none⟩ = some (.int .i64 d3) := BX74.out.cell 0
    have ky1_ : V70.cell? ⟨V53.heap.size + 1, 1, none⟩ = some (.slice A3 k3 c3) := BX74.out.cell 1
    go_wp2_with fail
    clear kx0_ kx1_ ky0_ ky1_
    refine (DS.out V70 RX75.out RX76.out).mono ?_
    rintro e V77 ⟨rfl, h78⟩
    have HB79 := Lib.hid (HB72.out.trans (h78.mono HB72.out.size))
    clear HB72
    have BX80 := Lib.hid (BX73.out.old h78)
    clear BX73
    have BX81 := Lib.hid (BX74.out.old h78)
    clear BX74
    have RX82 := Lib.hid (RX75.out.next h78)
    clear RX75
    have RX83 := Lib.hid (RX76.out.next h78)
    clear RX76
    clear h78
    clear DI DJ DS
    clear BX80
    clear BX81
    clear RX82
    clear RX83
    go_wp2_with fail
    refine (drawt17.doubleArea A n c V77 hn (Bytes_below H.out HB79.out)).mono ?_
    rintro e V84 ⟨d4, A4, k4, c4, zs4, rfl, ho4, hk4, hc4, -, h85⟩
    have HB86 := Lib.hid (HB79.out.trans (h85.mono HB79.out.size))
    clear HB79
    clear h85
    have RX87 := Lib.hid (RdZ.of_own ho4 (own_len2 ho4))
    clear ho4
    have RX88 := Lib.hid (RX87.out.next ((Below.refl _ _).alloc (by first | exact Nat.le_refl _ | (simp only [World.size_alloc]; omega)) (.cells #[.int .i64 d4, .slice A4 k4 c4] 26)))
    clear RX87
    have BX89 := Lib.hid (plce.at_next 26 #[.int .i64 d4, .slice A4 k4 c4] HB86.out)
    clear HB86
    have HBn := Lib.hid BX89.out.1
    have HB90 := HBn
    clear HBn
    go_upto_region 22 with fail
    generalize (V84.alloc (.cells #[.int .i64 d4, .slice A4 k4 c4] 26)) = W3 at *
    have EI := Lib.hid (fun (W : World) (h0 : RdZ 2 W W.heap.size A4 k4 zs4) => sctp.doubleArea d4 zs4 A4 k4 c4 W hc4 (by omega) h0)
    have ES := Lib.hid (fun (W : World) (h0 : RdZ 2 W W.heap.size A4 k4 zs4) => sctq.doubleArea d4 zs4 A4 k4 c4 W (by omega) h0)
    clear n3 n4
    generalize daV d4 zs4 k4 = DV at *
    generalize seV d4 zs4 k4 = DB at *
    have n5 := int_ne_self DV
    have n6 := bool_ne_self DB
    have kd0_ : W3.cell? ⟨V84.heap.size, 0, none⟩ = some (.int .i64 d4) := BX89.out.cell 0
    have kd1_ : W3.cell? ⟨V84.heap.size, 1, none⟩ = some (.slice A4 k4 c4) := BX89.out.cell 1
    go_wp2_with fail
    clear kd0_ kd1_
    refine (EI.out W3 RX88.out).mono ?_
    rintro e V91 ⟨rfl, h92⟩
    have HB93 := Lib.hid (HB90.out.trans (h92.mono HB90.out.size))
    clear HB90
    have BX94 := Lib.hid (BX89.out.old h92)
    clear BX89
    have RX95 := Lib.hid (RX88.out.next h92)
    clear RX88
    clear h92
    have kd0_ : V91.cell? ⟨V84.heap.size, 0, none⟩ = some (.int .i64 d4) := BX94.out.cell 0
    have kd1_ : V91.cell? ⟨V84.heap.size, 1, none⟩ = some (.slice A4 k4 c4) := BX94.out.cell 1
    go_wp2_with fail
    clear kd0_ kd1_
    refine (ES.out V91 RX95.out).mono ?_
    rintro e V96 ⟨rfl, h97⟩
    have HB98 := Lib.hid (HB93.out.trans (h97.mono HB93.out.size))
    clear HB93
    have BX99 := Lib.hid (BX94.out.old h97)
    clear BX94
    have RX100 := Lib.hid (RX95.out.next h97)
    clear RX95
    clear h97
    clear EI ES
    clear BX99
    clear RX100
    go_wp2_with fail
    refine (drawt17.turnedSector A n c V96 hn (Bytes_below H.out HB98.out)).mono ?_
    rintro e V101 ⟨d5, A5, k5, c5, zs5, rfl, ho5, hk5, hc5, -, h102⟩
    have HB103 := Lib.hid (HB98.out.trans (h102.mono HB98.out.size))
    clear HB98
    clear h102
    have RX104 := Lib.hid (RdZ.of_own ho5 (own_len2 ho5))
    clear ho5
    have RX105 := Lib.hid (RX104.out.next ((Below.refl _ _).alloc (by first | exact Nat.le_refl _ | (simp only [World.size_alloc]; omega)) (.cells #[.int .i64 d5, .slice A5 k5 c5] 26)))
    clear RX104
    have BX106 := Lib.hid (plce.at_next 26 #[.int .i64 d5, .slice A5 k5 c5] HB103.out)
    clear HB103
    have HBn := Lib.hid BX106.out.1
    have HB107 := HBn
    clear HBn
    go_upto_region 27 with fail
    generalize (V101.alloc (.cells #[.int .i64 d5, .slice A5 k5 c5] 26)) = W4 at *
    have FI := Lib.hid (fun (W : World) (h0 : RdZ 2 W W.heap.size A5 k5 zs5) => sctg.turnedSector d5 zs5 A5 k5 c5 W hc5 (by omega) h0)
    have FS := Lib.hid (fun (W : World) (h0 : RdZ 2 W W.heap.size A5 k5 zs5) => sctk.turnedSector d5 zs5 A5 k5 c5 W (by omega) h0)
    clear n5 n6
    have htn : tuN d5 zs5 k5 ≤ 1048577 := tuN_le hk5
    generalize tuD d5 zs5 k5 = td at *
    generalize tuN d5 zs5 k5 = tn at *
    generalize tuV d5 zs5 k5 = tv at *
    generalize seV d5 zs5 k5 = TB at *
    have n7 := bool_eq_self TB
    have ke0_ : W4.cell? ⟨V101.heap.size, 0, none⟩ = some (.int .i64 d5) := BX106.out.cell 0
    have ke1_ : W4.cell? ⟨V101.heap.size, 1, none⟩ = some (.slice A5 k5 c5) := BX106.out.cell 1
    go_wp2_with fail
    clear ke0_ ke1_
    refine (FI.out W4 RX105.out).mono ?_
    rintro e V108 ⟨vf, rfl, hof, h109⟩
    obtain ⟨Af, cf, rfl⟩ := own_sliceZ hof
    have HB110 := Lib.hid (HB107.out.trans (h109.mono HB107.out.size))
    clear HB107
    have BX111 := Lib.hid (BX106.out.old h109)
    clear BX106
    have RX112 := Lib.hid (RX105.out.next h109)
    clear RX105
    clear h109
    have RX113 := Lib.hid (RdZ.of_own hof (own_len2 hof))
    clear hof
    have RX114 := Lib.hid (RX112.out.next ((Below.refl _ _).alloc (by first | exact Nat.le_refl _ | (simp only [World.size_alloc]; omega)) (.cells #[.int .i64 td, .slice Af tn cf] 26)))
    clear RX112
    have RX115 := Lib.hid (RX113.out.next ((Below.refl _ _).alloc (by first | exact Nat.le_refl _ | (simp only [World.size_alloc]; omega)) (.cells #[.int .i64 td, .slice Af tn cf] 26)))
    clear RX113
    have BX116 := Lib.hid (plce.at_next 26 #[.int .i64 td, .slice Af tn cf] HB110.out)
    have BX117 := Lib.hid (BX111.out.alloc (.cells #[.int .i64 td, .slice Af tn cf] 26))
    clear BX111
    clear HB110
    have HBn := Lib.hid BX116.out.1
    have HB118 := HBn
    clear HBn
    go_upto_region 28 with fail
    generalize (V108.alloc (.cells #[.int .i64 td, .slice Af tn cf] 26)) = W5 at *
    have ke0_ : W5.cell? ⟨V101.heap.size, 0, none⟩ = some (.int .i64 d5) := BX117.out.cell 0
    have ke1_ : W5.cell? ⟨V101.heap.size, 1, none⟩ = some (.slice A5 k5 c5) := BX117.out.cell 1
    go_wp2_with fail
    clear ke0_ ke1_
    refine (FS.out W5 RX114.out).mono ?_
    rintro e V119 ⟨vg, rfl, hog, h120⟩
    obtain ⟨Ag, cg, rfl⟩ := own_sliceZ hog
    have HB121 := Lib.hid (HB118.out.trans (h120.mono HB118.out.size))
    clear HB118
    have BX122 := Lib.hid (BX117.out.old h120)
    clear BX117
    have BX123 := Lib.hid (BX116.out.old h120)
    clear BX116
    have RX124 := Lib.hid (RX114.out.next h120)
    clear RX114
    have RX125 := Lib.hid (RX115.out.next h120)
    clear RX115
    clear h120
    have RX126 := Lib.hid (RdZ.of_own hog (own_len2 hog))
    clear hog
    have RX127 := Lib.hid (RX124.out.next ((Below.refl _ _).alloc (by first | exact Nat.le_refl _ | (simp only [World.size_alloc]; omega)) (.cells #[.int .i64 td, .slice Ag tn cg] 26)))
    clear RX124
    have RX128 := Lib.hid (RX125.out.next ((Below.refl _ _).alloc (by first | exact Nat.le_refl _ | (simp only [World.size_alloc]; omega)) (.cells #[.int .i64 td, .slice Ag tn cg] 26)))
    clear RX125
    have RX129 := Lib.hid (RX126.out.next ((Below.refl _ _).alloc (by first | exact Nat.le_refl _ | (simp only [World.size_alloc]; omega)) (.cells #[.int .i64 td, .slice Ag tn cg] 26)))
    clear RX126
    have BX130 := Lib.hid (plce.at_next 26 #[.int .i64 td, .slice Ag tn cg] HB121.out)
    have BX131 := Lib.hid (BX122.out.alloc (.cells #[.int .i64 td, .slice Ag tn cg] 26))
    clear BX122
    have BX132 := Lib.hid (BX123.out.alloc (.cells #[.int .i64 td, .slice Ag tn cg] 26))
    clear BX123
    clear HB121
    have HBn := Lib.hid BX130.out.1
    have HB133 := HBn
    clear HBn
    go_upto_region 29 with fail
    generalize (V119.alloc (.cells #[.int .i64 td, .slice Ag tn cg] 26)) = W6 at *
    have kf0_ : W6.cell? ⟨V108.heap.size, 0, none⟩ = some (.int .i64 td) := BX132.out.cell 0
    have kf1_ : W6.cell? ⟨V108.heap.size, 1, none⟩ = some (.slice Af tn cf) := BX132.out.cell 1
    have kg0_ : W6.cell? ⟨V119.heap.size, 0, none⟩ = some (.int .i64 td) := BX130.out.cell 0
    have kg1_ : W6.cell? ⟨V119.heap.size, 1, none⟩ = some (.slice Ag tn cg) := BX130.out.cell 1
    go_wp2_with fail
    clear kf0_ kf1_ kg0_ kg1_
    refine (vsec.vSector td tv Af Ag tn cf cg W6 htn RX128.out RX129.out).mono ?_
    rintro e Vz ⟨rfl, hz⟩
    have HB134 := Lib.hid (HB133.out.trans (hz.mono HB133.out.size))
    clear HB133
    have BX135 := Lib.hid (BX131.out.old hz)
    clear BX131
    have BX136 := Lib.hid (BX132.out.old hz)
    clear BX132
    have BX137 := Lib.hid (BX130.out.old hz)
    clear BX130
    have RX138 := Lib.hid (RX127.out.next hz)
    clear RX127
    have RX139 := Lib.hid (RX128.out.next hz)
    clear RX128
    have RX140 := Lib.hid (RX129.out.next hz)
    clear RX129
    clear hz
    go_wp2_with fail
    go_ret
    exact ⟨rfl, HB134.out⟩

theorem own : ownKnob Try.prog.godebug = none := by kernel_rfl
theorem laidOut : laidOutB Try.prog = true := by kernel_rfl

set_option maxRecDepth 100000 in
theorem lifted (os : Os) (started : os.Started) (H : Type) (enc : TypeId × Value → H) :
    ReturnsInHanded {} Try.checked os 4 .any (Rows.fnCrossingsSpec.pre6 enc Try.prog Try.f4 Rows.fnCrossingsRow.domain false) (Rows.fnCrossingsSpec.post enc Try.prog Try.f4 false true false false) := by
  refine returnsInHanded_of_change (C := Try.checked) own started (by kernel_rfl) Try.func4
    (ChangeSpec.witness6 (enc := enc) (C := Try.checked) false ⟨#[], #[.slice none 0 0], []⟩ 8 (by kernel_rfl) (by kernel_rfl) (by kernel_rfl) (by kernel_rfl)) ?_
  intro W base args ds gs before hval0 hW hcnd _
  have hval : ∀ (j : Nat) t v, Try.f4.params[j]? = some t → args[j]? = some v → Value.okWide Try.prog W .any base t v := hval0
  have hW' := hW
  obtain ⟨p, q, hA0, hV, rfl, hfz, hnd⟩ := hW
  have hA : DataW.TrodAll enc Try.prog W 0 (fun _ => true) true Try.f4.params.toList args.toList ds p := hA0
  rw [Try.params4] at hA hval
  obtain ⟨v0, vs0, d0, ds0, p0, q0, hargs, rfl, rfl, h0, r0⟩ := trodAll_cons hA
  obtain ⟨rfl, rfl, rfl⟩ := trodAll_nil r0
  obtain rfl : args = #[v0] := by cases args; simp_all
  obtain ⟨rfl, rfl⟩ := trodVars_none hV
  obtain ⟨a0, len0, cap0, rfl⟩ := okWide_slice Try.underlying22 (hval 0 22 v0 rfl rfl)
  have k0 := h0
  have lt0 : ∀ x ∈ p0, x.block < W.heap.size := by obtain ⟨m, hm⟩ := k0; exact DataW.trod_lt m _ _ _ hm
  obtain ⟨z0, w0⟩ : ∃ zs, IsRow .u8 W a0 len0 cap0 zs := by
    obtain ⟨fuel, hf⟩ := h0
    rcases open_ints Try.underlying22 Try.underlying5 (by kernel_rfl) hf with ⟨hcs, _⟩ | ⟨x, l, c, zs, hcs, _, hl, hm, hz, _, hcell, hwz⟩
    · simp [Value.cells] at hcs
      obtain ⟨rfl, rfl, rfl⟩ := hcs
      exact ⟨[], .inl ⟨rfl, rfl, rfl, rfl⟩⟩
    · simp [Value.cells] at hcs
      obtain ⟨rfl, rfl, rfl⟩ := hcs
      exact ⟨zs, .inr ⟨_, rfl, hl, hm, by simpa using hz, hcell, hwz⟩⟩
  clear hA0 hval0
  refine (walk a0 len0 cap0 z0 W w0).mono fun e W' ⟨he, bel⟩ => ?_
  subst he
  exact ⟨_, rfl, _, _, _, [], _, [], hW', trodAll_mk1 (shut_bool Try.underlying4 _), (trodAll_cons_mk (Below.trod laidOut (by kernel_rfl) (of_decide_eq_true (by kernel_rfl)) k0 bel lt0) trodAll_mk0), rfl, bel.frame _, fun h => by cases h⟩

theorem over : Rows.fnCrossingsRow.holds Try.pinned (OpenSpec.ofChange Rows.fnCrossingsSpec) :=
  OpenClaim.holds_of_wide 4 Try.f4 rfl rfl rfl rfl rfl rfl rfl ⟨rfl, rfl, rfl, rfl, rfl⟩ rfl rfl rfl rfl rfl (by kernel_rfl) Try.func4 (by kernel_rfl)
    (of_decide_eq_true (by kernel_rfl)) (by unfold Func.isWrapper; first | (rw [if_pos (by decide +kernel)]; kernel_rfl) | (rw [if_neg (by decide +kernel)]; exact ⟨rfl, rfl⟩))
    (fun os started H enc _ => lifted os started H enc)

theorem proved : Rows.FnCrossingsSaid :=
  over
#print axioms proved
end Go.Proofs.Ytadpihfegccpkaa.fnCrossings
