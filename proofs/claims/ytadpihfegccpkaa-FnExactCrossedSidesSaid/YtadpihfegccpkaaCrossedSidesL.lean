/- For every sector and two places the law FnExactCrossedSides returns true: impl.CrossedSides and spec.CrossedSides return the same number and truth, and the arguments are left as they were. No condition. -/
import Derived.Test.YtadpihfegccpkaaRows
import Derived.Test.YtadpihfegccpkaaSctQ
import Derived.Test.YtadpihfegccpkaaSctP
import Derived.Test.YtadpihfegccpkaaSecE
import Derived.Test.YtadpihfegccpkaaSecZ
import Derived.Test.YtadpihfegccpkaaPlcE
import Derived.Test.YtadpihfegccpkaaPosX
import Derived.Test.YtadpihfegccpkaaCode
import Derived.Test.YtadpihfegccpkaaIntC
import Derived.Test.YtadpihfegccpkaaLstO
import Derived.WalkKit
import Derived.ProofKit
import Derived.OpenShut
import Derived.ShutString
import Derived.ChangeOld
import Derived.Below
import Derived.Lib.SmallJoins
import Derived.Lib.QuietBelow
import Derived.Deep.RegionHeld3
import Derived.Deep.CutRange
namespace Go.Proofs.Ytadpihfegccpkaa.fnExactCrossedSides
open Go.ChangeShapes Go.WideShapes Go.ChangeAt Go.RowKit Go.Joins Go.Proofs.Ytadpihfegccpkaa.ats Go.Proofs.Ytadpihfegccpkaa.ints Go.Proofs.Ytadpihfegccpkaa.lst
set_option linter.unusedVariables false

set_option maxRecDepth 100000 in
set_option maxHeartbeats 4000000 in
theorem walk (d0 : Int) (A0 : Option Addr) (n0 c0 : Nat) (z0 : List Int) (x1 y1 : Int) (x2 y2 : Int) (w : World) (h0 : RdZ 2 w w.heap.size A0 n0 z0) (hl0 : n0 ≤ maxLen) (wx1 : (Lit.int .i64 x1).wf = true) (wy1 : (Lit.int .i64 y1).wf = true) (wx2 : (Lit.int .i64 x2).wf = true) (wy2 : (Lit.int .i64 y2).wf = true) :
    Calls Try.prog 13 #[.agg #[.int .i64 d0, .slice A0 n0 c0], .agg #[.int .i64 x1, .int .i64 y1], .agg #[.int .i64 x2, .int .i64 y2]] w fun e w' => e = .returned (.bool true) ∧ Below w.heap.size w w' := by
  have S0 := Lib.hid (((newS 57 #[.int .i64 d0, .slice A0 n0 c0] w).alloc (.cells #[.int .i64 x1, .int .i64 y1] 61)).alloc (.cells #[.int .i64 x2, .int .i64 y2] 61))
  have S1 := Lib.hid (((newS 57 #[.int .i64 d0, .slice A0 n0 c0] w).next 61 #[.int .i64 x1, .int .i64 y1]).alloc (.cells #[.int .i64 x2, .int .i64 y2] 61))
  rw [World.size_alloc] at S1
  have S2 := Lib.hid (((newS 57 #[.int .i64 d0, .slice A0 n0 c0] w).alloc (.cells #[.int .i64 x1, .int .i64 y1] 61)).next 61 #[.int .i64 x2, .int .i64 y2])
  rw [World.size_alloc, World.size_alloc] at S2
  have HT0 := Lib.hid (fun (hn : n0 ≤ 1048576) (W : World) (hb : Below w.heap.size w W) => sece.toSector d0 z0 A0 n0 c0 W hn (h0.next hb))
  have HL0 := Lib.hid h0.1
  have TP1 := Lib.hid (fun w => plce.toPlace x1 y1 w)
  have TP2 := Lib.hid (fun w => plce.toPlace x2 y2 w)
  by_cases hn0 : (n0 : Int) ≤ 1048576
  case neg =>
    have Z0 := fun w => sece.sz d0 A0 n0 c0 (1048576) w hl0 (by omega) (by omega)
    rw [if_neg (by omega)] at Z0
    have Z0 := Lib.hid Z0
    clear h0
    go_enter Try.func13, Try.ntmps13
    go_upto_region 2 with fail
    generalize (((w.alloc (.cells #[.int .i64 d0, .slice A0 n0 c0] 57)).alloc (.cells #[.int .i64 x1, .int .i64 y1] 61)).alloc (.cells #[.int .i64 x2, .int .i64 y2] 61)) = W0 at *
    have AN0 := Lib.hid (Below.refl W0.heap.size W0)
    have c00 : W0.cell? ⟨w.heap.size, 0, none⟩ = some (.int .i64 d0) := (S0.out.old AN0.out).cell 0
    have c01 : W0.cell? ⟨w.heap.size, 1, none⟩ = some (.slice A0 n0 c0) := (S0.out.old AN0.out).cell 1
    have c10 : W0.cell? ⟨w.heap.size + 1, 0, none⟩ = some (.int .i64 x1) := (S1.out.old AN0.out).cell 0
    have c11 : W0.cell? ⟨w.heap.size + 1, 1, none⟩ = some (.int .i64 y1) := (S1.out.old AN0.out).cell 1
    have c20 : W0.cell? ⟨w.heap.size + 1 + 1, 0, none⟩ = some (.int .i64 x2) := (S2.out.old AN0.out).cell 0
    have c21 : W0.cell? ⟨w.heap.size + 1 + 1, 1, none⟩ = some (.int .i64 y2) := (S2.out.old AN0.out).cell 1
    go_wp2_with fail
    clear c00 c01 c10 c11 c20 c21
    refine (Z0.out _).mono ?_
    rintro e Y0 ⟨rfl, hb⟩
    have AY0 := Lib.hid (AN0.out.trans (hb.mono AN0.out.size))
    clear hb
    have BX := Lib.hid (S0.out.1.trans (AY0.out.mono S0.out.1.size))
    go_wp2_with fail
    go_ret
    exact ⟨rfl, BX.out⟩
  have Z0 := fun w => sece.sz d0 A0 n0 c0 (1048576) w hl0 (by omega) (by omega)
  rw [if_pos (by omega)] at Z0
  have Z0 := Lib.hid Z0
  have dz0 : decide (1048576 - (n0 : Int) < 0) = false := decide_eq_false (by omega)
  have ez0 : ¬ 1048576 - (n0 : Int) < 0 := by omega
  have CS_ := Lib.hid (fun (W : World) (g0 : Nat) (h0 : RdZ 2 W W.heap.size (some ⟨g0, 0, none⟩) n0 z0) => sctq.crossedSides d0 z0 x1 y1 x2 y2 (some ⟨g0, 0, none⟩) n0 n0 W (by omega) h0)
  have CI_ := Lib.hid (fun (W : World) (g0 : Nat) (h0 : RdZ 2 W W.heap.size (some ⟨g0, 0, none⟩) n0 z0) => sctp.crossedSides d0 z0 x1 y1 x2 y2 (some ⟨g0, 0, none⟩) n0 n0 W (by omega) (by omega) h0)
  have T0 := Lib.hid (fun (W : World) (hb : Below w.heap.size w W) => HT0.out (by omega) W hb)
  have E0 := Lib.hid (fun (W : World) (g g' : Nat) (h : RdZ 2 W W.heap.size (some ⟨g, 0, none⟩) n0 z0) (h' : RdZ 2 W W.heap.size (some ⟨g', 0, none⟩) n0 z0) => sece.eqSector d0 z0 (some ⟨g, 0, none⟩) (some ⟨g', 0, none⟩) n0 n0 n0 W (by omega) h h')
  clear h0 HT0
  generalize 1048576 - (n0 : Int) = v0 at *
  generalize ((sctr.csV d0 z0 n0 x1 y1 x2 y2 : Nat) : Int) = q0 at *
  have ne0 : (q0 != q0) = false := by simp
  generalize sctr.csB d0 z0 n0 x1 y1 x2 y2 = q1 at *
  have ne1 : (q1 != q1) = false := by simp
  go_enter Try.func13, Try.ntmps13
  go_upto_region 2 with fail
  generalize (((w.alloc (.cells #[.int .i64 d0, .slice A0 n0 c0] 57)).alloc (.cells #[.int .i64 x1, .int .i64 y1] 61)).alloc (.cells #[.int .i64 x2, .int .i64 y2] 61)) = W0 at *
  have AN0 := Lib.hid (Below.refl W0.heap.size W0)
  have c00 : W0.cell? ⟨w.heap.size, 0, none⟩ = some (.int .i64 d0) := (S0.out.old AN0.out).cell 0
  have c01 : W0.cell? ⟨w.heap.size, 1, none⟩ = some (.slice A0 n0 c0) := (S0.out.old AN0.out).cell 1
  have c10 : W0.cell? ⟨w.heap.size + 1, 0, none⟩ = some (.int .i64 x1) := (S1.out.old AN0.out).cell 0
  have c11 : W0.cell? ⟨w.heap.size + 1, 1, none⟩ = some (.int .i64 y1) := (S1.out.old AN0.out).cell 1
  have c20 : W0.cell? ⟨w.heap.size + 1 + 1, 0, none⟩ = some (.int .i64 x2) := (S2.out.old AN0.out).cell 0
  have c21 : W0.cell? ⟨w.heap.size + 1 + 1, 1, none⟩ = some (.int .i64 y2) := (S2.out.old AN0.out).cell 1
  go_wp2_with fail
  clear c00 c01 c10 c11 c20 c21
  refine (Z0.out _).mono ?_
  rintro e Y0 ⟨rfl, hb⟩
  have AY0 := Lib.hid (AN0.out.trans (hb.mono AN0.out.size))
  clear hb
  have BWr := Lib.hid (S0.out.1.trans (AY0.out.mono S0.out.1.size))
  have CSr := Lib.hid (show ∀ WZ : World, Below Y0.heap.size Y0 WZ → World.cell? WZ ⟨w.heap.size, 0, none⟩ = some (.int .i64 d0) ∧ World.cell? WZ ⟨w.heap.size, 1, none⟩ = some (.slice A0 n0 c0) ∧ World.cell? WZ ⟨w.heap.size + 1, 0, none⟩ = some (.int .i64 x1) ∧ World.cell? WZ ⟨w.heap.size + 1, 1, none⟩ = some (.int .i64 y1) ∧ World.cell? WZ ⟨w.heap.size + 1 + 1, 0, none⟩ = some (.int .i64 x2) ∧ World.cell? WZ ⟨w.heap.size + 1 + 1, 1, none⟩ = some (.int .i64 y2) from fun WZ hz => ⟨(S0.out.old (AY0.out.trans (hz.mono AY0.out.size))).cell 0, (S0.out.old (AY0.out.trans (hz.mono AY0.out.size))).cell 1, (S1.out.old (AY0.out.trans (hz.mono AY0.out.size))).cell 0, (S1.out.old (AY0.out.trans (hz.mono AY0.out.size))).cell 1, (S2.out.old (AY0.out.trans (hz.mono AY0.out.size))).cell 0, (S2.out.old (AY0.out.trans (hz.mono AY0.out.size))).cell 1⟩)
  have R0T := Lib.hid (fun (U : World) (hb : Below Y0.heap.size Y0 U) => T0.out U (BWr.out.trans (hb.mono BWr.out.size)))
  go_upto_region 5 with fail
  go_cut [8, 9] from 18 to 27 (fun o0 o1 wz => o0 = .int .i64 q0 ∧ o1 = .bool q1 ∧ Below Y0.heap.size Y0 wz)
  case first =>
    go_region_held3 (fun w' => World.cell? w' ⟨w.heap.size, 0, none⟩ = some (.int .i64 d0) ∧ World.cell? w' ⟨w.heap.size, 1, none⟩ = some (.slice A0 n0 c0) ∧ World.cell? w' ⟨w.heap.size + 1, 0, none⟩ = some (.int .i64 x1) ∧ World.cell? w' ⟨w.heap.size + 1, 1, none⟩ = some (.int .i64 y1) ∧ World.cell? w' ⟨w.heap.size + 1 + 1, 0, none⟩ = some (.int .i64 x2) ∧ World.cell? w' ⟨w.heap.size + 1 + 1, 1, none⟩ = some (.int .i64 y2)) (first
      | with_reducible exact CSr.out _ (Below.refl Y0.heap.size Y0).drew
      | with_reducible exact CSr.out _ (by assumption)
      | go_keep) (first
          | (go_at_call 41; (with_reducible refine (R0T.out _ (by first | exact (Below.refl Y0.heap.size Y0).drew | assumption)).mono ?_); rintro e U0 ⟨g0, rfl, ho0, hb0⟩
             have hbl0 := posx.bl_next (V := Y0) (by first | exact (Below.refl Y0.heap.size Y0).drew | assumption) hb0
             have R0_0 := RdZ.of_own ho0 HL0.out
             clear ho0)
          | (go_at_call 43; (with_reducible refine (TP1.out _).mono ?_); rintro e U1 ⟨rfl, hb1⟩
             have hbl1 := posx.bl_next (V := Y0) hbl0 hb1
             have R0_1 := R0_0.next hb1)
          | (go_at_call 43; (with_reducible refine (TP2.out _).mono ?_); rintro e U2 ⟨rfl, hb2⟩
             have hbl2 := posx.bl_next (V := Y0) hbl1 hb2
             have R0_2 := R0_1.next hb2)
          | (go_at_call 33; (with_reducible refine (CS_.out _ g0 R0_2).mono ?_); rintro e U3 ⟨rfl, hb3⟩
             have hbl3 := posx.bl_next (V := Y0) hbl2 hb3))
    all_goals (
      go_wp2_with fail
      go_meet
      exact ⟨rfl, rfl, hbl3⟩)
  case rest =>
    obtain ⟨rfl, rfl, hbc⟩ := hcut
    clear BWr CSr R0T
    generalize wc = N1 at *
    have N1A := Lib.hid (AY0.out.trans (hbc.mono AY0.out.size))
    clear hbc
    have c00 : N1.cell? ⟨w.heap.size, 0, none⟩ = some (.int .i64 d0) := (S0.out.old N1A.out).cell 0
    have c01 : N1.cell? ⟨w.heap.size, 1, none⟩ = some (.slice A0 n0 c0) := (S0.out.old N1A.out).cell 1
    have c10 : N1.cell? ⟨w.heap.size + 1, 0, none⟩ = some (.int .i64 x1) := (S1.out.old N1A.out).cell 0
    have c11 : N1.cell? ⟨w.heap.size + 1, 1, none⟩ = some (.int .i64 y1) := (S1.out.old N1A.out).cell 1
    have c20 : N1.cell? ⟨w.heap.size + 1 + 1, 0, none⟩ = some (.int .i64 x2) := (S2.out.old N1A.out).cell 0
    have c21 : N1.cell? ⟨w.heap.size + 1 + 1, 1, none⟩ = some (.int .i64 y2) := (S2.out.old N1A.out).cell 1
    go_wp2_with fail
    clear c00 c01 c10 c11 c20 c21
    refine (T0.out N1 (S0.out.1.trans (N1A.out.mono S0.out.1.size))).mono ?_
    rintro e N2 ⟨g0x, rfl, ho, hb⟩
    have RX0 := Lib.hid (RdZ.of_own ho HL0.out)
    have N2A := Lib.hid (N1A.out.trans (hb.mono N1A.out.size))
    clear hb ho
    have XB0 := Lib.hid (newS 26 #[.int .i64 d0, .slice (some ⟨g0x, 0, none⟩) n0 n0] N2)
    go_upto_region 7 with fail
    generalize N2.alloc (.cells #[.int .i64 d0, .slice (some ⟨g0x, 0, none⟩) n0 n0] 26) = N3 at *
    have RX0b := Lib.hid (RX0.out.next XB0.out.1)
    clear RX0
    have N3A := Lib.hid (N2A.out.trans (XB0.out.1.mono N2A.out.size))
    have BWr := Lib.hid (S0.out.1.trans (N3A.out.mono S0.out.1.size))
    have CSr := Lib.hid (show ∀ WZ : World, Below N3.heap.size N3 WZ → World.cell? WZ ⟨w.heap.size, 0, none⟩ = some (.int .i64 d0) ∧ World.cell? WZ ⟨w.heap.size, 1, none⟩ = some (.slice A0 n0 c0) ∧ World.cell? WZ ⟨w.heap.size + 1, 0, none⟩ = some (.int .i64 x1) ∧ World.cell? WZ ⟨w.heap.size + 1, 1, none⟩ = some (.int .i64 y1) ∧ World.cell? WZ ⟨w.heap.size + 1 + 1, 0, none⟩ = some (.int .i64 x2) ∧ World.cell? WZ ⟨w.heap.size + 1 + 1, 1, none⟩ = some (.int .i64 y2) ∧ World.cell? WZ ⟨N2.heap.size, 0, none⟩ = some (.int .i64 d0) ∧ World.cell? WZ ⟨N2.heap.size, 1, none⟩ = some (.slice (some ⟨g0x, 0, none⟩) n0 n0) from fun WZ hz => ⟨(S0.out.old (N3A.out.trans (hz.mono N3A.out.size))).cell 0, (S0.out.old (N3A.out.trans (hz.mono N3A.out.size))).cell 1, (S1.out.old (N3A.out.trans (hz.mono N3A.out.size))).cell 0, (S1.out.old (N3A.out.trans (hz.mono N3A.out.size))).cell 1, (S2.out.old (N3A.out.trans (hz.mono N3A.out.size))).cell 0, (S2.out.old (N3A.out.trans (hz.mono N3A.out.size))).cell 1, (XB0.out.old hz).cell 0, (XB0.out.old hz).cell 1⟩)
    have R0T := Lib.hid (fun (U : World) (hb : Below N3.heap.size N3 U) => T0.out U (BWr.out.trans (hb.mono BWr.out.size)))
    go_cut [11, 12] from 30 to 38 (fun o0 o1 wz => o0 = .int .i64 q0 ∧ o1 = .bool q1 ∧ Below N3.heap.size N3 wz)
    case first =>
      go_region_held3 (fun w' => World.cell? w' ⟨w.heap.size, 0, none⟩ = some (.int .i64 d0) ∧ World.cell? w' ⟨w.heap.size, 1, none⟩ = some (.slice A0 n0 c0) ∧ World.cell? w' ⟨w.heap.size + 1, 0, none⟩ = some (.int .i64 x1) ∧ World.cell? w' ⟨w.heap.size + 1, 1, none⟩ = some (.int .i64 y1) ∧ World.cell? w' ⟨w.heap.size + 1 + 1, 0, none⟩ = some (.int .i64 x2) ∧ World.cell? w' ⟨w.heap.size + 1 + 1, 1, none⟩ = some (.int .i64 y2) ∧ World.cell? w' ⟨N2.heap.size, 0, none⟩ = some (.int .i64 d0) ∧ World.cell? w' ⟨N2.heap.size, 1, none⟩ = some (.slice (some ⟨g0x, 0, none⟩) n0 n0)) (first
        | with_reducible exact CSr.out _ (Below.refl N3.heap.size N3).drew
        | with_reducible exact CSr.out _ (by assumption)
        | go_keep) (first
            | (go_at_call 43; (with_reducible refine (TP1.out _).mono ?_); rintro e U0 ⟨rfl, hb0⟩
               have hbl0 := posx.bl_next (V := N3) (by first | exact (Below.refl N3.heap.size N3).drew | assumption) hb0)
            | (go_at_call 43; (with_reducible refine (TP2.out _).mono ?_); rintro e U1 ⟨rfl, hb1⟩
               have hbl1 := posx.bl_next (V := N3) hbl0 hb1)
            | (go_at_call 32; (with_reducible refine (CI_.out _ g0x (RX0b.out.next hbl1)).mono ?_); rintro e U2 ⟨rfl, hb2⟩
               have hbl2 := posx.bl_next (V := N3) hbl1 hb2))
      all_goals (
        go_wp2_with fail
        go_meet
        exact ⟨rfl, rfl, hbl2⟩)
    case rest =>
      obtain ⟨rfl, rfl, hbc⟩ := hcut
      clear BWr CSr R0T
      generalize wc = N4 at *
      have N4A := Lib.hid (N3A.out.trans (hbc.mono N3A.out.size))
      have XB0N4 := Lib.hid (XB0.out.old hbc)
      have RX0bN4 := Lib.hid (RX0b.out.next hbc)
      clear XB0 RX0b
      clear hbc
      have BWr := Lib.hid (S0.out.1.trans (N4A.out.mono S0.out.1.size))
      have CSr := Lib.hid (show ∀ WZ : World, Below N4.heap.size N4 WZ → World.cell? WZ ⟨w.heap.size, 0, none⟩ = some (.int .i64 d0) ∧ World.cell? WZ ⟨w.heap.size, 1, none⟩ = some (.slice A0 n0 c0) ∧ World.cell? WZ ⟨w.heap.size + 1, 0, none⟩ = some (.int .i64 x1) ∧ World.cell? WZ ⟨w.heap.size + 1, 1, none⟩ = some (.int .i64 y1) ∧ World.cell? WZ ⟨w.heap.size + 1 + 1, 0, none⟩ = some (.int .i64 x2) ∧ World.cell? WZ ⟨w.heap.size + 1 + 1, 1, none⟩ = some (.int .i64 y2) ∧ World.cell? WZ ⟨N2.heap.size, 0, none⟩ = some (.int .i64 d0) ∧ World.cell? WZ ⟨N2.heap.size, 1, none⟩ = some (.slice (some ⟨g0x, 0, none⟩) n0 n0) from fun WZ hz => ⟨(S0.out.old (N4A.out.trans (hz.mono N4A.out.size))).cell 0, (S0.out.old (N4A.out.trans (hz.mono N4A.out.size))).cell 1, (S1.out.old (N4A.out.trans (hz.mono N4A.out.size))).cell 0, (S1.out.old (N4A.out.trans (hz.mono N4A.out.size))).cell 1, (S2.out.old (N4A.out.trans (hz.mono N4A.out.size))).cell 0, (S2.out.old (N4A.out.trans (hz.mono N4A.out.size))).cell 1, (XB0N4.out.old hz).cell 0, (XB0N4.out.old hz).cell 1⟩)
      have R0T := Lib.hid (fun (U : World) (hb : Below N4.heap.size N4 U) => T0.out U (BWr.out.trans (hb.mono BWr.out.size)))
      go_upto_region 10 with fail
      go_cut [51] from 47 to 51 (fun o0 wz => o0 = .bool false ∧ Below N4.heap.size N4 wz)
      case first =>
        go_region_held3 (fun w' => World.cell? w' ⟨w.heap.size, 0, none⟩ = some (.int .i64 d0) ∧ World.cell? w' ⟨w.heap.size, 1, none⟩ = some (.slice A0 n0 c0) ∧ World.cell? w' ⟨w.heap.size + 1, 0, none⟩ = some (.int .i64 x1) ∧ World.cell? w' ⟨w.heap.size + 1, 1, none⟩ = some (.int .i64 y1) ∧ World.cell? w' ⟨w.heap.size + 1 + 1, 0, none⟩ = some (.int .i64 x2) ∧ World.cell? w' ⟨w.heap.size + 1 + 1, 1, none⟩ = some (.int .i64 y2) ∧ World.cell? w' ⟨N2.heap.size, 0, none⟩ = some (.int .i64 d0) ∧ World.cell? w' ⟨N2.heap.size, 1, none⟩ = some (.slice (some ⟨g0x, 0, none⟩) n0 n0)) (first
          | with_reducible exact CSr.out _ (Below.refl N4.heap.size N4).drew
          | with_reducible exact CSr.out _ (by assumption)
          | go_keep) (first
              | (go_at_call 41; (with_reducible refine (R0T.out _ (by first | exact (Below.refl N4.heap.size N4).drew | assumption)).mono ?_); rintro e U0 ⟨g0, rfl, ho0, hb0⟩
                 have hbl0 := posx.bl_next (V := N4) (by first | exact (Below.refl N4.heap.size N4).drew | assumption) hb0
                 have R0_0 := RdZ.of_own ho0 HL0.out
                 clear ho0)
              | (go_at_call 42; (with_reducible refine (E0.out _ g0x g0 (RX0bN4.out.next hbl0) R0_0).mono ?_); rintro e U1 ⟨rfl, hb1⟩
                 have hbl1 := posx.bl_next (V := N4) hbl0 hb1))
        all_goals (
          go_wp2_with fail
          go_meet
          exact ⟨rfl, hbl1⟩)
      case rest =>
        obtain ⟨rfl, hbc⟩ := hcut
        clear BWr CSr R0T
        generalize wc = N5 at *
        have N5A := Lib.hid (N4A.out.trans (hbc.mono N4A.out.size))
        have XB0N4N5 := Lib.hid (XB0N4.out.old hbc)
        have RX0bN4N5 := Lib.hid (RX0bN4.out.next hbc)
        clear XB0N4 RX0bN4
        clear hbc
        have BX := Lib.hid (S0.out.1.trans (N5A.out.mono S0.out.1.size))
        go_wp2_with fail
        go_ret
        exact ⟨rfl, BX.out⟩

theorem own : ownKnob Try.prog.godebug = none := by kernel_rfl
theorem laidOut : laidOutB Try.prog = true := by kernel_rfl

set_option maxRecDepth 100000 in
theorem lifted (os : Os) (started : os.Started) (H : Type) (enc : TypeId × Value → H) :
    ReturnsInHanded {} Try.checked os 13 .any (Rows.fnExactCrossedSidesSpec.pre6 enc Try.prog Try.f13 Rows.fnExactCrossedSidesRow.domain false) (Rows.fnExactCrossedSidesSpec.post enc Try.prog Try.f13 false true false false) := by
  refine returnsInHanded_of_change (C := Try.checked) own started (by kernel_rfl) Try.func13
    (ChangeSpec.witness6 (enc := enc) (C := Try.checked) false ⟨#[], #[.agg #[.int .i64 0, .slice none 0 0], .agg #[.int .i64 0, .int .i64 0], .agg #[.int .i64 0, .int .i64 0]], []⟩ 8 (by kernel_rfl) (by kernel_rfl) (by kernel_rfl) (by kernel_rfl)) ?_
  intro W base args ds gs before hval0 hW hcnd _
  have hval : ∀ (j : Nat) t v, Try.f13.params[j]? = some t → args[j]? = some v → Value.okWide Try.prog W .any base t v := hval0
  have hW' := hW
  obtain ⟨p, q, hA0, hV, rfl, hfz, hnd⟩ := hW
  have hA : DataW.TrodAll enc Try.prog W 0 (fun _ => true) true Try.f13.params.toList args.toList ds p := hA0
  rw [Try.params13] at hA hval
  obtain ⟨v0, vs0, d0, ds0, p0, q0, hargs, rfl, rfl, h0, r0⟩ := trodAll_cons hA
  obtain ⟨v1, vs1, d1, ds1, p1, q1, rfl, rfl, rfl, h1, r1⟩ := trodAll_cons r0
  obtain ⟨v2, vs2, d2, ds2, p2, q2, rfl, rfl, rfl, h2, r2⟩ := trodAll_cons r1
  obtain ⟨rfl, rfl, rfl⟩ := trodAll_nil r2
  obtain rfl : args = #[v0, v1, v2] := by cases args; simp_all
  obtain ⟨rfl, rfl⟩ := trodVars_none hV
  have k0 := h0
  have lt0 : ∀ x ∈ p0, x.block < W.heap.size := by obtain ⟨m, hm⟩ := k0; exact DataW.trod_lt m _ _ _ hm
  obtain ⟨i0, a0, m0, c0, z0, rfl, w0, n0⟩ := secz.open_sector (hval 0 57 v0 rfl rfl) h0
  have k1 := h1
  have lt1 : ∀ x ∈ p1, x.block < W.heap.size := by obtain ⟨m, hm⟩ := k1; exact DataW.trod_lt m _ _ _ hm
  obtain ⟨f10, f11, y10, y11, m1, rfl, rfl, rfl, t10, t11⟩ := open_agg2 Try.underlying61 (by kernel_rfl) (by kernel_rfl) (hval 1 61 v1 rfl rfl) h1
  obtain ⟨a10, e10, -, w10⟩ := DataW.trod_int Try.underlying3 t10
  obtain rfl : f10 = .int .i64 a10 := by simpa using e10
  obtain ⟨a11, e11, -, w11⟩ := DataW.trod_int Try.underlying3 t11
  obtain rfl : f11 = .int .i64 a11 := by simpa using e11
  have k2 := h2
  have lt2 : ∀ x ∈ p2, x.block < W.heap.size := by obtain ⟨m, hm⟩ := k2; exact DataW.trod_lt m _ _ _ hm
  obtain ⟨f20, f21, y20, y21, m2, rfl, rfl, rfl, t20, t21⟩ := open_agg2 Try.underlying61 (by kernel_rfl) (by kernel_rfl) (hval 2 61 v2 rfl rfl) h2
  obtain ⟨a20, e20, -, w20⟩ := DataW.trod_int Try.underlying3 t20
  obtain rfl : f20 = .int .i64 a20 := by simpa using e20
  obtain ⟨a21, e21, -, w21⟩ := DataW.trod_int Try.underlying3 t21
  obtain rfl : f21 = .int .i64 a21 := by simpa using e21
  clear hA0 hval0
  refine (walk i0 a0 m0 c0 z0 a10 a11 a20 a21 W w0 n0 w10 w11 w20 w21).mono fun e W' ⟨he, bel⟩ => ?_
  subst he
  exact ⟨_, rfl, _, _, _, [], _, [], hW', trodAll_mk1 (shut_bool Try.underlying4 _), (trodAll_cons_mk (Below.trod laidOut (by kernel_rfl) (of_decide_eq_true (by kernel_rfl)) k0 bel lt0) (trodAll_cons_mk (Below.trod laidOut (by kernel_rfl) (of_decide_eq_true (by kernel_rfl)) k1 bel lt1) (trodAll_cons_mk (Below.trod laidOut (by kernel_rfl) (of_decide_eq_true (by kernel_rfl)) k2 bel lt2) trodAll_mk0))), rfl, bel.frame _, fun h => by cases h⟩

theorem over : Rows.fnExactCrossedSidesRow.holds Try.pinned (OpenSpec.ofChange Rows.fnExactCrossedSidesSpec) :=
  OpenClaim.holds_of_wide 13 Try.f13 rfl rfl rfl rfl rfl rfl rfl ⟨rfl, rfl, rfl, rfl, rfl⟩ rfl rfl rfl rfl rfl (by kernel_rfl) Try.func13 (by kernel_rfl)
    (of_decide_eq_true (by kernel_rfl)) (by unfold Func.isWrapper; first | (rw [if_pos (by decide +kernel)]; kernel_rfl) | (rw [if_neg (by decide +kernel)]; exact ⟨rfl, rfl⟩))
    (fun os started H enc _ => lifted os started H enc)

theorem proved : Rows.FnExactCrossedSidesSaid :=
  over
#print axioms proved
end Go.Proofs.Ytadpihfegccpkaa.fnExactCrossedSides
