/- For every two sectors the law FnExactSameSector returns true: impl.SameSector and spec.SameSector return the same two truths, and the arguments are left as they were. No condition. -/
import Derived.Test.YtadpihfegccpkaaRows
import Derived.Test.YtadpihfegccpkaaSctK
import Derived.Test.YtadpihfegccpkaaSctG
import Derived.Test.YtadpihfegccpkaaSecE
import Derived.Test.YtadpihfegccpkaaSecZ
import Derived.Test.YtadpihfegccpkaaPlcE
import Derived.Test.YtadpihfegccpkaaPosX
import Derived.Test.YtadpihfegccpkaaCode
import Derived.Test.YtadpihfegccpkaaIntC
import Derived.Test.YtadpihfegccpkaaLstO
import Derived.WalkKit
import Derived.ProofKit
import Derived.OpenShut
import Derived.ShutString
import Derived.ChangeOld
import Derived.Below
import Derived.Lib.SmallJoins
import Derived.Lib.QuietBelow
import Derived.Deep.RegionHeld3
import Derived.Deep.CutRange
namespace Go.Proofs.Ytadpihfegccpkaa.fnExactSameSector
open Go.ChangeShapes Go.WideShapes Go.ChangeAt Go.RowKit Go.Joins Go.Proofs.Ytadpihfegccpkaa.ats Go.Proofs.Ytadpihfegccpkaa.ints Go.Proofs.Ytadpihfegccpkaa.lst
set_option linter.unusedVariables false

set_option maxRecDepth 100000 in
set_option maxHeartbeats 4000000 in
theorem walk (d0 : Int) (A0 : Option Addr) (n0 c0 : Nat) (z0 : List Int) (d1 : Int) (A1 : Option Addr) (n1 c1 : Nat) (z1 : List Int) (w : World) (h0 : RdZ 2 w w.heap.size A0 n0 z0) (hl0 : n0 ≤ maxLen) (h1 : RdZ 2 w w.heap.size A1 n1 z1) (hl1 : n1 ≤ maxLen) :
    Calls Try.prog 12 #[.agg #[.int .i64 d0, .slice A0 n0 c0], .agg #[.int .i64 d1, .slice A1 n1 c1]] w fun e w' => e = .returned (.bool true) ∧ Below w.heap.size w w' := by
  have S0 := Lib.hid ((newS 57 #[.int .i64 d0, .slice A0 n0 c0] w).alloc (.cells #[.int .i64 d1, .slice A1 n1 c1] 57))
  have S1 := Lib.hid ((newS 57 #[.int .i64 d0, .slice A0 n0 c0] w).next 57 #[.int .i64 d1, .slice A1 n1 c1])
  rw [World.size_alloc] at S1
  have HT0 := Lib.hid (fun (hn : n0 ≤ 1048576) (W : World) (hb : Below w.heap.size w W) => sece.toSector d0 z0 A0 n0 c0 W hn (h0.next hb))
  have HL0 := Lib.hid h0.1
  have HT1 := Lib.hid (fun (hn : n1 ≤ 1048576) (W : World) (hb : Below w.heap.size w W) => sece.toSector d1 z1 A1 n1 c1 W hn (h1.next hb))
  have HL1 := Lib.hid h1.1
  by_cases hn0 : (n0 : Int) ≤ 1048576
  case neg =>
    have Z0 := fun w => sece.sz d0 A0 n0 c0 (1048576) w hl0 (by omega) (by omega)
    rw [if_neg (by omega)] at Z0
    have Z0 := Lib.hid Z0
    clear h0 h1
    go_enter Try.func12, Try.ntmps12
    go_upto_region 2 with fail
    generalize ((w.alloc (.cells #[.int .i64 d0, .slice A0 n0 c0] 57)).alloc (.cells #[.int .i64 d1, .slice A1 n1 c1] 57)) = W0 at *
    have AN0 := Lib.hid (Below.refl W0.heap.size W0)
    have c00 : W0.cell? ⟨w.heap.size, 0, none⟩ = some (.int .i64 d0) := (S0.out.old AN0.out).cell 0
    have c01 : W0.cell? ⟨w.heap.size, 1, none⟩ = some (.slice A0 n0 c0) := (S0.out.old AN0.out).cell 1
    have c10 : W0.cell? ⟨w.heap.size + 1, 0, none⟩ = some (.int .i64 d1) := (S1.out.old AN0.out).cell 0
    have c11 : W0.cell? ⟨w.heap.size + 1, 1, none⟩ = some (.slice A1 n1 c1) := (S1.out.old AN0.out).cell 1
    go_wp2_with fail
    clear c00 c01 c10 c11
    refine (Z0.out _).mono ?_
    rintro e Y0 ⟨rfl, hb⟩
    have AY0 := Lib.hid (AN0.out.trans (hb.mono AN0.out.size))
    clear hb
    have BX := Lib.hid (S0.out.1.trans (AY0.out.mono S0.out.1.size))
    go_wp2_with fail
    go_ret
    exact ⟨rfl, BX.out⟩
  by_cases hn1 : (n1 : Int) ≤ 1048576 - (n0 : Int)
  case neg =>
    have Z0 := fun w => sece.sz d0 A0 n0 c0 (1048576) w hl0 (by omega) (by omega)
    rw [if_pos (by omega)] at Z0
    have Z0 := Lib.hid Z0
    have dz0 : decide (1048576 - (n0 : Int) < 0) = false := decide_eq_false (by omega)
    have ez0 : ¬ 1048576 - (n0 : Int) < 0 := by omega
    have Z1 := fun w => sece.sz d1 A1 n1 c1 (1048576 - (n0 : Int)) w hl1 (by omega) (by omega)
    rw [if_neg (by omega)] at Z1
    have Z1 := Lib.hid Z1
    clear h0 h1
    generalize 1048576 - (n0 : Int) = v0 at *
    go_enter Try.func12, Try.ntmps12
    go_upto_region 2 with fail
    generalize ((w.alloc (.cells #[.int .i64 d0, .slice A0 n0 c0] 57)).alloc (.cells #[.int .i64 d1, .slice A1 n1 c1] 57)) = W0 at *
    have AN0 := Lib.hid (Below.refl W0.heap.size W0)
    have c00 : W0.cell? ⟨w.heap.size, 0, none⟩ = some (.int .i64 d0) := (S0.out.old AN0.out).cell 0
    have c01 : W0.cell? ⟨w.heap.size, 1, none⟩ = some (.slice A0 n0 c0) := (S0.out.old AN0.out).cell 1
    have c10 : W0.cell? ⟨w.heap.size + 1, 0, none⟩ = some (.int .i64 d1) := (S1.out.old AN0.out).cell 0
    have c11 : W0.cell? ⟨w.heap.size + 1, 1, none⟩ = some (.slice A1 n1 c1) := (S1.out.old AN0.out).cell 1
    go_wp2_with fail
    clear c00 c01 c10 c11
    refine (Z0.out _).mono ?_
    rintro e Y0 ⟨rfl, hb⟩
    have AY0 := Lib.hid (AN0.out.trans (hb.mono AN0.out.size))
    clear hb
    have c00 : Y0.cell? ⟨w.heap.size, 0, none⟩ = some (.int .i64 d0) := (S0.out.old AY0.out).cell 0
    have c01 : Y0.cell? ⟨w.heap.size, 1, none⟩ = some (.slice A0 n0 c0) := (S0.out.old AY0.out).cell 1
    have c10 : Y0.cell? ⟨w.heap.size + 1, 0, none⟩ = some (.int .i64 d1) := (S1.out.old AY0.out).cell 0
    have c11 : Y0.cell? ⟨w.heap.size + 1, 1, none⟩ = some (.slice A1 n1 c1) := (S1.out.old AY0.out).cell 1
    go_wp2_with fail
    clear c00 c01 c10 c11
    refine (Z1.out _).mono ?_
    rintro e Y1 ⟨rfl, hb⟩
    have AY1 := Lib.hid (AY0.out.trans (hb.mono AY0.out.size))
    clear hb
    have BX := Lib.hid (S0.out.1.trans (AY1.out.mono S0.out.1.size))
    go_wp2_with fail
    go_ret
    exact ⟨rfl, BX.out⟩
  have Z0 := fun w => sece.sz d0 A0 n0 c0 (1048576) w hl0 (by omega) (by omega)
  rw [if_pos (by omega)] at Z0
  have Z0 := Lib.hid Z0
  have dz0 : decide (1048576 - (n0 : Int) < 0) = false := decide_eq_false (by omega)
  have ez0 : ¬ 1048576 - (n0 : Int) < 0 := by omega
  have Z1 := fun w => sece.sz d1 A1 n1 c1 (1048576 - (n0 : Int)) w hl1 (by omega) (by omega)
  rw [if_pos (by omega)] at Z1
  have Z1 := Lib.hid Z1
  have dz1 : decide (1048576 - (n0 : Int) - (n1 : Int) < 0) = false := decide_eq_false (by omega)
  have ez1 : ¬ 1048576 - (n0 : Int) - (n1 : Int) < 0 := by omega
  have CS_ := Lib.hid (fun (W : World) (g0 : Nat) (g1 : Nat) (h0 : RdZ 2 W W.heap.size (some ⟨g0, 0, none⟩) n0 z0) (h1 : RdZ 2 W W.heap.size (some ⟨g1, 0, none⟩) n1 z1) => sctk.sameSector d0 z0 d1 z1 (some ⟨g0, 0, none⟩) (some ⟨g1, 0, none⟩) n0 n0 n1 n1 W (by omega) (by omega) h0 h1)
  have CI_ := Lib.hid (fun (W : World) (g0 : Nat) (g1 : Nat) (h0 : RdZ 2 W W.heap.size (some ⟨g0, 0, none⟩) n0 z0) (h1 : RdZ 2 W W.heap.size (some ⟨g1, 0, none⟩) n1 z1) => sctg.sameSector d0 z0 d1 z1 (some ⟨g0, 0, none⟩) (some ⟨g1, 0, none⟩) n0 n0 n1 n1 W (by omega) (by omega) (by omega) (by omega) h0 h1)
  have T0 := Lib.hid (fun (W : World) (hb : Below w.heap.size w W) => HT0.out (by omega) W hb)
  have E0 := Lib.hid (fun (W : World) (g g' : Nat) (h : RdZ 2 W W.heap.size (some ⟨g, 0, none⟩) n0 z0) (h' : RdZ 2 W W.heap.size (some ⟨g', 0, none⟩) n0 z0) => sece.eqSector d0 z0 (some ⟨g, 0, none⟩) (some ⟨g', 0, none⟩) n0 n0 n0 W (by omega) h h')
  have T1 := Lib.hid (fun (W : World) (hb : Below w.heap.size w W) => HT1.out (by omega) W hb)
  have E1 := Lib.hid (fun (W : World) (g g' : Nat) (h : RdZ 2 W W.heap.size (some ⟨g, 0, none⟩) n1 z1) (h' : RdZ 2 W W.heap.size (some ⟨g', 0, none⟩) n1 z1) => sece.eqSector d1 z1 (some ⟨g, 0, none⟩) (some ⟨g', 0, none⟩) n1 n1 n1 W (by omega) h h')
  clear h0 HT0 h1 HT1
  generalize 1048576 - (n0 : Int) = v0 at *
  generalize 1048576 - (n0 : Int) - (n1 : Int) = v1 at *
  generalize sctr.ssV d0 z0 n0 d1 z1 n1 = q0 at *
  have ne0 : (q0 != q0) = false := by simp
  generalize sctr.ssB d0 z0 n0 d1 z1 n1 = q1 at *
  have ne1 : (q1 != q1) = false := by simp
  go_enter Try.func12, Try.ntmps12
  go_upto_region 2 with fail
  generalize ((w.alloc (.cells #[.int .i64 d0, .slice A0 n0 c0] 57)).alloc (.cells #[.int .i64 d1, .slice A1 n1 c1] 57)) = W0 at *
  have AN0 := Lib.hid (Below.refl W0.heap.size W0)
  have c00 : W0.cell? ⟨w.heap.size, 0, none⟩ = some (.int .i64 d0) := (S0.out.old AN0.out).cell 0
  have c01 : W0.cell? ⟨w.heap.size, 1, none⟩ = some (.slice A0 n0 c0) := (S0.out.old AN0.out).cell 1
  have c10 : W0.cell? ⟨w.heap.size + 1, 0, none⟩ = some (.int .i64 d1) := (S1.out.old AN0.out).cell 0
  have c11 : W0.cell? ⟨w.heap.size + 1, 1, none⟩ = some (.slice A1 n1 c1) := (S1.out.old AN0.out).cell 1
  go_wp2_with fail
  clear c00 c01 c10 c11
  refine (Z0.out _).mono ?_
  rintro e Y0 ⟨rfl, hb⟩
  have AY0 := Lib.hid (AN0.out.trans (hb.mono AN0.out.size))
  clear hb
  have c00 : Y0.cell? ⟨w.heap.size, 0, none⟩ = some (.int .i64 d0) := (S0.out.old AY0.out).cell 0
  have c01 : Y0.cell? ⟨w.heap.size, 1, none⟩ = some (.slice A0 n0 c0) := (S0.out.old AY0.out).cell 1
  have c10 : Y0.cell? ⟨w.heap.size + 1, 0, none⟩ = some (.int .i64 d1) := (S1.out.old AY0.out).cell 0
  have c11 : Y0.cell? ⟨w.heap.size + 1, 1, none⟩ = some (.slice A1 n1 c1) := (S1.out.old AY0.out).cell 1
  go_wp2_with fail
  clear c00 c01 c10 c11
  refine (Z1.out _).mono ?_
  rintro e Y1 ⟨rfl, hb⟩
  have AY1 := Lib.hid (AY0.out.trans (hb.mono AY0.out.size))
  clear hb
  have BWr := Lib.hid (S0.out.1.trans (AY1.out.mono S0.out.1.size))
  have CSr := Lib.hid (show ∀ WZ : World, Below Y1.heap.size Y1 WZ → World.cell? WZ ⟨w.heap.size, 0, none⟩ = some (.int .i64 d0) ∧ World.cell? WZ ⟨w.heap.size, 1, none⟩ = some (.slice A0 n0 c0) ∧ World.cell? WZ ⟨w.heap.size + 1, 0, none⟩ = some (.int .i64 d1) ∧ World.cell? WZ ⟨w.heap.size + 1, 1, none⟩ = some (.slice A1 n1 c1) from fun WZ hz => ⟨(S0.out.old (AY1.out.trans (hz.mono AY1.out.size))).cell 0, (S0.out.old (AY1.out.trans (hz.mono AY1.out.size))).cell 1, (S1.out.old (AY1.out.trans (hz.mono AY1.out.size))).cell 0, (S1.out.old (AY1.out.trans (hz.mono AY1.out.size))).cell 1⟩)
  have R0T := Lib.hid (fun (U : World) (hb : Below Y1.heap.size Y1 U) => T0.out U (BWr.out.trans (hb.mono BWr.out.size)))
  have R1T := Lib.hid (fun (U : World) (hb : Below Y1.heap.size Y1 U) => T1.out U (BWr.out.trans (hb.mono BWr.out.size)))
  go_upto_region 8 with fail
  go_cut [6, 7] from 22 to 29 (fun o0 o1 wz => o0 = .bool q0 ∧ o1 = .bool q1 ∧ Below Y1.heap.size Y1 wz)
  case first =>
    go_region_held3 (fun w' => World.cell? w' ⟨w.heap.size, 0, none⟩ = some (.int .i64 d0) ∧ World.cell? w' ⟨w.heap.size, 1, none⟩ = some (.slice A0 n0 c0) ∧ World.cell? w' ⟨w.heap.size + 1, 0, none⟩ = some (.int .i64 d1) ∧ World.cell? w' ⟨w.heap.size + 1, 1, none⟩ = some (.slice A1 n1 c1)) (first
      | with_reducible exact CSr.out _ (Below.refl Y1.heap.size Y1).drew
      | with_reducible exact CSr.out _ (by assumption)
      | go_keep) (first
          | (go_at_call 41; (with_reducible refine (R0T.out _ (by first | exact (Below.refl Y1.heap.size Y1).drew | assumption)).mono ?_); rintro e U0 ⟨g0, rfl, ho0, hb0⟩
             have hbl0 := posx.bl_next (V := Y1) (by first | exact (Below.refl Y1.heap.size Y1).drew | assumption) hb0
             have R0_0 := RdZ.of_own ho0 HL0.out
             clear ho0)
          | (go_at_call 41; (with_reducible refine (R1T.out _ hbl0).mono ?_); rintro e U1 ⟨g1, rfl, ho1, hb1⟩
             have hbl1 := posx.bl_next (V := Y1) hbl0 hb1
             have R1_1 := RdZ.of_own ho1 HL1.out
             have R0_1 := R0_0.next hb1
             clear ho1)
          | (go_at_call 35; (with_reducible refine (CS_.out _ g0 g1 R0_1 R1_1).mono ?_); rintro e U2 ⟨rfl, hb2⟩
             have hbl2 := posx.bl_next (V := Y1) hbl1 hb2))
    all_goals (
      go_wp2_with fail
      go_meet
      exact ⟨rfl, rfl, hbl2⟩)
  case rest =>
    obtain ⟨rfl, rfl, hbc⟩ := hcut
    clear BWr CSr R0T R1T
    generalize wc = N1 at *
    have N1A := Lib.hid (AY1.out.trans (hbc.mono AY1.out.size))
    clear hbc
    have c00 : N1.cell? ⟨w.heap.size, 0, none⟩ = some (.int .i64 d0) := (S0.out.old N1A.out).cell 0
    have c01 : N1.cell? ⟨w.heap.size, 1, none⟩ = some (.slice A0 n0 c0) := (S0.out.old N1A.out).cell 1
    have c10 : N1.cell? ⟨w.heap.size + 1, 0, none⟩ = some (.int .i64 d1) := (S1.out.old N1A.out).cell 0
    have c11 : N1.cell? ⟨w.heap.size + 1, 1, none⟩ = some (.slice A1 n1 c1) := (S1.out.old N1A.out).cell 1
    go_wp2_with fail
    clear c00 c01 c10 c11
    refine (T0.out N1 (S0.out.1.trans (N1A.out.mono S0.out.1.size))).mono ?_
    rintro e N2 ⟨g0x, rfl, ho, hb⟩
    have RX0 := Lib.hid (RdZ.of_own ho HL0.out)
    have N2A := Lib.hid (N1A.out.trans (hb.mono N1A.out.size))
    clear hb ho
    have XB0 := Lib.hid (newS 26 #[.int .i64 d0, .slice (some ⟨g0x, 0, none⟩) n0 n0] N2)
    go_upto_region 10 with fail
    generalize N2.alloc (.cells #[.int .i64 d0, .slice (some ⟨g0x, 0, none⟩) n0 n0] 26) = N3 at *
    have RX0b := Lib.hid (RX0.out.next XB0.out.1)
    clear RX0
    have N3A := Lib.hid (N2A.out.trans (XB0.out.1.mono N2A.out.size))
    have c00 : N3.cell? ⟨w.heap.size, 0, none⟩ = some (.int .i64 d0) := (S0.out.old N3A.out).cell 0
    have c01 : N3.cell? ⟨w.heap.size, 1, none⟩ = some (.slice A0 n0 c0) := (S0.out.old N3A.out).cell 1
    have c10 : N3.cell? ⟨w.heap.size + 1, 0, none⟩ = some (.int .i64 d1) := (S1.out.old N3A.out).cell 0
    have c11 : N3.cell? ⟨w.heap.size + 1, 1, none⟩ = some (.slice A1 n1 c1) := (S1.out.old N3A.out).cell 1
    have x00_ : N3.cell? ⟨N2.heap.size, 0, none⟩ = some (.int .i64 d0) := XB0.out.cell 0
    have x01_ : N3.cell? ⟨N2.heap.size, 1, none⟩ = some (.slice (some ⟨g0x, 0, none⟩) n0 n0) := XB0.out.cell 1
    go_wp2_with fail
    clear c00 c01 c10 c11 x00_ x01_
    refine (T1.out N3 (S0.out.1.trans (N3A.out.mono S0.out.1.size))).mono ?_
    rintro e N4 ⟨g1x, rfl, ho, hb⟩
    have RX1 := Lib.hid (RdZ.of_own ho HL1.out)
    have N4A := Lib.hid (N3A.out.trans (hb.mono N3A.out.size))
    have XB0N4 := Lib.hid (XB0.out.old hb)
    have RX0bN4 := Lib.hid (RX0b.out.next hb)
    clear XB0 RX0b
    clear hb ho
    have XB1 := Lib.hid (newS 26 #[.int .i64 d1, .slice (some ⟨g1x, 0, none⟩) n1 n1] N4)
    go_upto_region 11 with fail
    generalize N4.alloc (.cells #[.int .i64 d1, .slice (some ⟨g1x, 0, none⟩) n1 n1] 26) = N5 at *
    have RX1b := Lib.hid (RX1.out.next XB1.out.1)
    clear RX1
    have N5A := Lib.hid (N4A.out.trans (XB1.out.1.mono N4A.out.size))
    have XB0N4N5 := Lib.hid (XB0N4.out.old XB1.out.1)
    have RX0bN4N5 := Lib.hid (RX0bN4.out.next XB1.out.1)
    clear XB0N4 RX0bN4
    have c00 : N5.cell? ⟨w.heap.size, 0, none⟩ = some (.int .i64 d0) := (S0.out.old N5A.out).cell 0
    have c01 : N5.cell? ⟨w.heap.size, 1, none⟩ = some (.slice A0 n0 c0) := (S0.out.old N5A.out).cell 1
    have c10 : N5.cell? ⟨w.heap.size + 1, 0, none⟩ = some (.int .i64 d1) := (S1.out.old N5A.out).cell 0
    have c11 : N5.cell? ⟨w.heap.size + 1, 1, none⟩ = some (.slice A1 n1 c1) := (S1.out.old N5A.out).cell 1
    have x00_ : N5.cell? ⟨N2.heap.size, 0, none⟩ = some (.int .i64 d0) := XB0N4N5.out.cell 0
    have x01_ : N5.cell? ⟨N2.heap.size, 1, none⟩ = some (.slice (some ⟨g0x, 0, none⟩) n0 n0) := XB0N4N5.out.cell 1
    have x10_ : N5.cell? ⟨N4.heap.size, 0, none⟩ = some (.int .i64 d1) := XB1.out.cell 0
    have x11_ : N5.cell? ⟨N4.heap.size, 1, none⟩ = some (.slice (some ⟨g1x, 0, none⟩) n1 n1) := XB1.out.cell 1
    go_wp2_with fail
    clear c00 c01 c10 c11 x00_ x01_ x10_ x11_
    refine (CI_.out N5 g0x g1x RX0bN4N5.out RX1b.out).mono ?_
    rintro e N6 ⟨rfl, hb⟩
    have N6A := Lib.hid (N5A.out.trans (hb.mono N5A.out.size))
    have XB0N4N5N6 := Lib.hid (XB0N4N5.out.old hb)
    have RX0bN4N5N6 := Lib.hid (RX0bN4N5.out.next hb)
    clear XB0N4N5 RX0bN4N5
    have XB1N6 := Lib.hid (XB1.out.old hb)
    have RX1bN6 := Lib.hid (RX1b.out.next hb)
    clear XB1 RX1b
    clear hb
    have BWr := Lib.hid (S0.out.1.trans (N6A.out.mono S0.out.1.size))
    have CSr := Lib.hid (show ∀ WZ : World, Below N6.heap.size N6 WZ → World.cell? WZ ⟨w.heap.size, 0, none⟩ = some (.int .i64 d0) ∧ World.cell? WZ ⟨w.heap.size, 1, none⟩ = some (.slice A0 n0 c0) ∧ World.cell? WZ ⟨w.heap.size + 1, 0, none⟩ = some (.int .i64 d1) ∧ World.cell? WZ ⟨w.heap.size + 1, 1, none⟩ = some (.slice A1 n1 c1) ∧ World.cell? WZ ⟨N2.heap.size, 0, none⟩ = some (.int .i64 d0) ∧ World.cell? WZ ⟨N2.heap.size, 1, none⟩ = some (.slice (some ⟨g0x, 0, none⟩) n0 n0) ∧ World.cell? WZ ⟨N4.heap.size, 0, none⟩ = some (.int .i64 d1) ∧ World.cell? WZ ⟨N4.heap.size, 1, none⟩ = some (.slice (some ⟨g1x, 0, none⟩) n1 n1) from fun WZ hz => ⟨(S0.out.old (N6A.out.trans (hz.mono N6A.out.size))).cell 0, (S0.out.old (N6A.out.trans (hz.mono N6A.out.size))).cell 1, (S1.out.old (N6A.out.trans (hz.mono N6A.out.size))).cell 0, (S1.out.old (N6A.out.trans (hz.mono N6A.out.size))).cell 1, (XB0N4N5N6.out.old hz).cell 0, (XB0N4N5N6.out.old hz).cell 1, (XB1N6.out.old hz).cell 0, (XB1N6.out.old hz).cell 1⟩)
    have R0T := Lib.hid (fun (U : World) (hb : Below N6.heap.size N6 U) => T0.out U (BWr.out.trans (hb.mono BWr.out.size)))
    have R1T := Lib.hid (fun (U : World) (hb : Below N6.heap.size N6 U) => T1.out U (BWr.out.trans (hb.mono BWr.out.size)))
    go_upto_region 14 with fail
    go_cut [52] from 48 to 52 (fun o0 wz => o0 = .bool false ∧ Below N6.heap.size N6 wz)
    case first =>
      go_region_held3 (fun w' => World.cell? w' ⟨w.heap.size, 0, none⟩ = some (.int .i64 d0) ∧ World.cell? w' ⟨w.heap.size, 1, none⟩ = some (.slice A0 n0 c0) ∧ World.cell? w' ⟨w.heap.size + 1, 0, none⟩ = some (.int .i64 d1) ∧ World.cell? w' ⟨w.heap.size + 1, 1, none⟩ = some (.slice A1 n1 c1) ∧ World.cell? w' ⟨N2.heap.size, 0, none⟩ = some (.int .i64 d0) ∧ World.cell? w' ⟨N2.heap.size, 1, none⟩ = some (.slice (some ⟨g0x, 0, none⟩) n0 n0) ∧ World.cell? w' ⟨N4.heap.size, 0, none⟩ = some (.int .i64 d1) ∧ World.cell? w' ⟨N4.heap.size, 1, none⟩ = some (.slice (some ⟨g1x, 0, none⟩) n1 n1)) (first
        | with_reducible exact CSr.out _ (Below.refl N6.heap.size N6).drew
        | with_reducible exact CSr.out _ (by assumption)
        | go_keep) (first
            | (go_at_call 41; (with_reducible refine (R0T.out _ (by first | exact (Below.refl N6.heap.size N6).drew | assumption)).mono ?_); rintro e U0 ⟨g0, rfl, ho0, hb0⟩
               have hbl0 := posx.bl_next (V := N6) (by first | exact (Below.refl N6.heap.size N6).drew | assumption) hb0
               have R0_0 := RdZ.of_own ho0 HL0.out
               clear ho0)
            | (go_at_call 42; (with_reducible refine (E0.out _ g0x g0 (RX0bN4N5N6.out.next hbl0) R0_0).mono ?_); rintro e U1 ⟨rfl, hb1⟩
               have hbl1 := posx.bl_next (V := N6) hbl0 hb1))
      all_goals (
        go_wp2_with fail
        go_meet
        exact ⟨rfl, hbl1⟩)
    case rest =>
      obtain ⟨rfl, hbc⟩ := hcut
      clear BWr CSr R0T R1T
      generalize wc = N7 at *
      have N7A := Lib.hid (N6A.out.trans (hbc.mono N6A.out.size))
      have XB0N4N5N6N7 := Lib.hid (XB0N4N5N6.out.old hbc)
      have RX0bN4N5N6N7 := Lib.hid (RX0bN4N5N6.out.next hbc)
      clear XB0N4N5N6 RX0bN4N5N6
      have XB1N6N7 := Lib.hid (XB1N6.out.old hbc)
      have RX1bN6N7 := Lib.hid (RX1bN6.out.next hbc)
      clear XB1N6 RX1bN6
      clear hbc
      have BWr := Lib.hid (S0.out.1.trans (N7A.out.mono S0.out.1.size))
      have CSr := Lib.hid (show ∀ WZ : World, Below N7.heap.size N7 WZ → World.cell? WZ ⟨w.heap.size, 0, none⟩ = some (.int .i64 d0) ∧ World.cell? WZ ⟨w.heap.size, 1, none⟩ = some (.slice A0 n0 c0) ∧ World.cell? WZ ⟨w.heap.size + 1, 0, none⟩ = some (.int .i64 d1) ∧ World.cell? WZ ⟨w.heap.size + 1, 1, none⟩ = some (.slice A1 n1 c1) ∧ World.cell? WZ ⟨N2.heap.size, 0, none⟩ = some (.int .i64 d0) ∧ World.cell? WZ ⟨N2.heap.size, 1, none⟩ = some (.slice (some ⟨g0x, 0, none⟩) n0 n0) ∧ World.cell? WZ ⟨N4.heap.size, 0, none⟩ = some (.int .i64 d1) ∧ World.cell? WZ ⟨N4.heap.size, 1, none⟩ = some (.slice (some ⟨g1x, 0, none⟩) n1 n1) from fun WZ hz => ⟨(S0.out.old (N7A.out.trans (hz.mono N7A.out.size))).cell 0, (S0.out.old (N7A.out.trans (hz.mono N7A.out.size))).cell 1, (S1.out.old (N7A.out.trans (hz.mono N7A.out.size))).cell 0, (S1.out.old (N7A.out.trans (hz.mono N7A.out.size))).cell 1, (XB0N4N5N6N7.out.old hz).cell 0, (XB0N4N5N6N7.out.old hz).cell 1, (XB1N6N7.out.old hz).cell 0, (XB1N6N7.out.old hz).cell 1⟩)
      have R0T := Lib.hid (fun (U : World) (hb : Below N7.heap.size N7 U) => T0.out U (BWr.out.trans (hb.mono BWr.out.size)))
      have R1T := Lib.hid (fun (U : World) (hb : Below N7.heap.size N7 U) => T1.out U (BWr.out.trans (hb.mono BWr.out.size)))
      go_upto_region 16 with fail
      go_cut [57] from 53 to 57 (fun o0 wz => o0 = .bool false ∧ Below N7.heap.size N7 wz)
      case first =>
        go_region_held3 (fun w' => World.cell? w' ⟨w.heap.size, 0, none⟩ = some (.int .i64 d0) ∧ World.cell? w' ⟨w.heap.size, 1, none⟩ = some (.slice A0 n0 c0) ∧ World.cell? w' ⟨w.heap.size + 1, 0, none⟩ = some (.int .i64 d1) ∧ World.cell? w' ⟨w.heap.size + 1, 1, none⟩ = some (.slice A1 n1 c1) ∧ World.cell? w' ⟨N2.heap.size, 0, none⟩ = some (.int .i64 d0) ∧ World.cell? w' ⟨N2.heap.size, 1, none⟩ = some (.slice (some ⟨g0x, 0, none⟩) n0 n0) ∧ World.cell? w' ⟨N4.heap.size, 0, none⟩ = some (.int .i64 d1) ∧ World.cell? w' ⟨N4.heap.size, 1, none⟩ = some (.slice (some ⟨g1x, 0, none⟩) n1 n1)) (first
          | with_reducible exact CSr.out _ (Below.refl N7.heap.size N7).drew
          | with_reducible exact CSr.out _ (by assumption)
          | go_keep) (first
              | (go_at_call 41; (with_reducible refine (R1T.out _ (by first | exact (Below.refl N7.heap.size N7).drew | assumption)).mono ?_); rintro e U0 ⟨g0, rfl, ho0, hb0⟩
                 have hbl0 := posx.bl_next (V := N7) (by first | exact (Below.refl N7.heap.size N7).drew | assumption) hb0
                 have R1_0 := RdZ.of_own ho0 HL1.out
                 clear ho0)
              | (go_at_call 42; (with_reducible refine (E1.out _ g1x g0 (RX1bN6N7.out.next hbl0) R1_0).mono ?_); rintro e U1 ⟨rfl, hb1⟩
                 have hbl1 := posx.bl_next (V := N7) hbl0 hb1))
        all_goals (
          go_wp2_with fail
          go_meet
          exact ⟨rfl, hbl1⟩)
      case rest =>
        obtain ⟨rfl, hbc⟩ := hcut
        clear BWr CSr R0T R1T
        generalize wc = N8 at *
        have N8A := Lib.hid (N7A.out.trans (hbc.mono N7A.out.size))
        have XB0N4N5N6N7N8 := Lib.hid (XB0N4N5N6N7.out.old hbc)
        have RX0bN4N5N6N7N8 := Lib.hid (RX0bN4N5N6N7.out.next hbc)
        clear XB0N4N5N6N7 RX0bN4N5N6N7
        have XB1N6N7N8 := Lib.hid (XB1N6N7.out.old hbc)
        have RX1bN6N7N8 := Lib.hid (RX1bN6N7.out.next hbc)
        clear XB1N6N7 RX1bN6N7
        clear hbc
        have BX := Lib.hid (S0.out.1.trans (N8A.out.mono S0.out.1.size))
        go_wp2_with fail
        go_ret
        exact ⟨rfl, BX.out⟩

theorem own : ownKnob Try.prog.godebug = none := by kernel_rfl
theorem laidOut : laidOutB Try.prog = true := by kernel_rfl

set_option maxRecDepth 100000 in
theorem lifted (os : Os) (started : os.Started) (H : Type) (enc : TypeId × Value → H) :
    ReturnsInHanded {} Try.checked os 12 .any (Rows.fnExactSameSectorSpec.pre6 enc Try.prog Try.f12 Rows.fnExactSameSectorRow.domain false) (Rows.fnExactSameSectorSpec.post enc Try.prog Try.f12 false true false false) := by
  refine returnsInHanded_of_change (C := Try.checked) own started (by kernel_rfl) Try.func12
    (ChangeSpec.witness6 (enc := enc) (C := Try.checked) false ⟨#[], #[.agg #[.int .i64 0, .slice none 0 0], .agg #[.int .i64 0, .slice none 0 0]], []⟩ 8 (by kernel_rfl) (by kernel_rfl) (by kernel_rfl) (by kernel_rfl)) ?_
  intro W base args ds gs before hval0 hW hcnd _
  have hval : ∀ (j : Nat) t v, Try.f12.params[j]? = some t → args[j]? = some v → Value.okWide Try.prog W .any base t v := hval0
  have hW' := hW
  obtain ⟨p, q, hA0, hV, rfl, hfz, hnd⟩ := hW
  have hA : DataW.TrodAll enc Try.prog W 0 (fun _ => true) true Try.f12.params.toList args.toList ds p := hA0
  rw [Try.params12] at hA hval
  obtain ⟨v0, vs0, d0, ds0, p0, q0, hargs, rfl, rfl, h0, r0⟩ := trodAll_cons hA
  obtain ⟨v1, vs1, d1, ds1, p1, q1, rfl, rfl, rfl, h1, r1⟩ := trodAll_cons r0
  obtain ⟨rfl, rfl, rfl⟩ := trodAll_nil r1
  obtain rfl : args = #[v0, v1] := by cases args; simp_all
  obtain ⟨rfl, rfl⟩ := trodVars_none hV
  have k0 := h0
  have lt0 : ∀ x ∈ p0, x.block < W.heap.size := by obtain ⟨m, hm⟩ := k0; exact DataW.trod_lt m _ _ _ hm
  obtain ⟨i0, a0, m0, c0, z0, rfl, w0, n0⟩ := secz.open_sector (hval 0 57 v0 rfl rfl) h0
  have k1 := h1
  have lt1 : ∀ x ∈ p1, x.block < W.heap.size := by obtain ⟨m, hm⟩ := k1; exact DataW.trod_lt m _ _ _ hm
  obtain ⟨i1, a1, m1, c1, z1, rfl, w1, n1⟩ := secz.open_sector (hval 1 57 v1 rfl rfl) h1
  clear hA0 hval0
  refine (walk i0 a0 m0 c0 z0 i1 a1 m1 c1 z1 W w0 n0 w1 n1).mono fun e W' ⟨he, bel⟩ => ?_
  subst he
  exact ⟨_, rfl, _, _, _, [], _, [], hW', trodAll_mk1 (shut_bool Try.underlying4 _), (trodAll_cons_mk (Below.trod laidOut (by kernel_rfl) (of_decide_eq_true (by kernel_rfl)) k0 bel lt0) (trodAll_cons_mk (Below.trod laidOut (by kernel_rfl) (of_decide_eq_true (by kernel_rfl)) k1 bel lt1) trodAll_mk0)), rfl, bel.frame _, fun h => by cases h⟩

theorem over : Rows.fnExactSameSectorRow.holds Try.pinned (OpenSpec.ofChange Rows.fnExactSameSectorSpec) :=
  OpenClaim.holds_of_wide 12 Try.f12 rfl rfl rfl rfl rfl rfl rfl ⟨rfl, rfl, rfl, rfl, rfl⟩ rfl rfl rfl rfl rfl (by kernel_rfl) Try.func12 (by kernel_rfl)
    (of_decide_eq_true (by kernel_rfl)) (by unfold Func.isWrapper; first | (rw [if_pos (by decide +kernel)]; kernel_rfl) | (rw [if_neg (by decide +kernel)]; exact ⟨rfl, rfl⟩))
    (fun os started H enc _ => lifted os started H enc)

theorem proved : Rows.FnExactSameSectorSaid :=
  over
#print axioms proved
end Go.Proofs.Ytadpihfegccpkaa.fnExactSameSector
