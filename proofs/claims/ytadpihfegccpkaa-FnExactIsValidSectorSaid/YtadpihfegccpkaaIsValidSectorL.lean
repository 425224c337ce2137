/- For every sector the law FnExactIsValidSector returns true: impl.IsValidSector and spec.IsValidSector tell the same, and the argument is left as it was. No condition. -/
import Derived.Test.YtadpihfegccpkaaRows
import Derived.Test.YtadpihfegccpkaaSctW
import Derived.Test.YtadpihfegccpkaaSctC
import Derived.Test.YtadpihfegccpkaaSctR
import Derived.Test.YtadpihfegccpkaaSecE
import Derived.Test.YtadpihfegccpkaaSecZ
import Derived.Test.YtadpihfegccpkaaPlcE
import Derived.Test.YtadpihfegccpkaaPosX
import Derived.Test.YtadpihfegccpkaaCode
import Derived.Test.YtadpihfegccpkaaIntC
import Derived.Test.YtadpihfegccpkaaLstO
import Derived.WalkKit
import Derived.ProofKit
import Derived.OpenShut
import Derived.ShutString
import Derived.ChangeOld
import Derived.Below
import Derived.Lib.SmallJoins
import Derived.Lib.QuietBelow
import Derived.Deep.RegionHeld3
import Derived.Deep.CutRange
namespace Go.Proofs.Ytadpihfegccpkaa.fnExactIsValidSector
open Go.ChangeShapes Go.WideShapes Go.ChangeAt Go.RowKit Go.Joins Go.Proofs.Ytadpihfegccpkaa.ats Go.Proofs.Ytadpihfegccpkaa.ints Go.Proofs.Ytadpihfegccpkaa.lst
set_option linter.unusedVariables false

set_option maxRecDepth 100000 in
set_option maxHeartbeats 4000000 in
theorem walk (d0 : Int) (A0 : Option Addr) (n0 c0 : Nat) (z0 : List Int) (w : World) (h0 : RdZ 2 w w.heap.size A0 n0 z0) (hl0 : n0 ≤ maxLen) :
    Calls Try.prog 5 #[.agg #[.int .i64 d0, .slice A0 n0 c0]] w fun e w' => e = .returned (.bool true) ∧ Below w.heap.size w w' := by
  have S0 := Lib.hid (newS 57 #[.int .i64 d0, .slice A0 n0 c0] w)
  have HT0 := Lib.hid (fun (hn : n0 ≤ 1048576) (W : World) (hb : Below w.heap.size w W) => sece.toSector d0 z0 A0 n0 c0 W hn (h0.next hb))
  have HL0 := Lib.hid h0.1
  by_cases hn0 : (n0 : Int) ≤ 1048576
  case neg =>
    have Z0 := fun w => sece.sz d0 A0 n0 c0 (1048576) w hl0 (by omega) (by omega)
    rw [if_neg (by omega)] at Z0
    have Z0 := Lib.hid Z0
    clear h0
    go_enter Try.func5, Try.ntmps5
    go_upto_region 2 with fail
    generalize (w.alloc (.cells #[.int .i64 d0, .slice A0 n0 c0] 57)) = W0 at *
    have AN0 := Lib.hid (Below.refl W0.heap.size W0)
    have c00 : W0.cell? ⟨w.heap.size, 0, none⟩ = some (.int .i64 d0) := (S0.out.old AN0.out).cell 0
    have c01 : W0.cell? ⟨w.heap.size, 1, none⟩ = some (.slice A0 n0 c0) := (S0.out.old AN0.out).cell 1
    go_wp2_with fail
    clear c00 c01
    refine (Z0.out _).mono ?_
    rintro e Y0 ⟨rfl, hb⟩
    have AY0 := Lib.hid (AN0.out.trans (hb.mono AN0.out.size))
    clear hb
    have BX := Lib.hid (S0.out.1.trans (AY0.out.mono S0.out.1.size))
    go_wp2_with fail
    go_ret
    exact ⟨rfl, BX.out⟩
  have Z0 := fun w => sece.sz d0 A0 n0 c0 (1048576) w hl0 (by omega) (by omega)
  rw [if_pos (by omega)] at Z0
  have Z0 := Lib.hid Z0
  have dz0 : decide (1048576 - (n0 : Int) < 0) = false := decide_eq_false (by omega)
  have ez0 : ¬ 1048576 - (n0 : Int) < 0 := by omega
  have CS_ := Lib.hid (fun (W : World) (g0 : Nat) (h0 : RdZ 2 W W.heap.size (some ⟨g0, 0, none⟩) n0 z0) => sctw.isValidSector d0 z0 (some ⟨g0, 0, none⟩) n0 n0 W (by omega) h0)
  have CI_ := Lib.hid (fun (W : World) (g0 : Nat) (h0 : RdZ 2 W W.heap.size (some ⟨g0, 0, none⟩) n0 z0) => sctc.isValidSector d0 z0 (some ⟨g0, 0, none⟩) n0 n0 W (by omega) (by omega) h0)
  have T0 := Lib.hid (fun (W : World) (hb : Below w.heap.size w W) => HT0.out (by omega) W hb)
  have E0 := Lib.hid (fun (W : World) (g g' : Nat) (h : RdZ 2 W W.heap.size (some ⟨g, 0, none⟩) n0 z0) (h' : RdZ 2 W W.heap.size (some ⟨g', 0, none⟩) n0 z0) => sece.eqSector d0 z0 (some ⟨g, 0, none⟩) (some ⟨g', 0, none⟩) n0 n0 n0 W (by omega) h h')
  clear h0 HT0
  generalize 1048576 - (n0 : Int) = v0 at *
  generalize sctr.seV d0 z0 n0 = q0 at *
  have ne0 : (q0 != q0) = false := by simp
  go_enter Try.func5, Try.ntmps5
  go_upto_region 2 with fail
  generalize (w.alloc (.cells #[.int .i64 d0, .slice A0 n0 c0] 57)) = W0 at *
  have AN0 := Lib.hid (Below.refl W0.heap.size W0)
  have c00 : W0.cell? ⟨w.heap.size, 0, none⟩ = some (.int .i64 d0) := (S0.out.old AN0.out).cell 0
  have c01 : W0.cell? ⟨w.heap.size, 1, none⟩ = some (.slice A0 n0 c0) := (S0.out.old AN0.out).cell 1
  go_wp2_with fail
  clear c00 c01
  refine (Z0.out _).mono ?_
  rintro e Y0 ⟨rfl, hb⟩
  have AY0 := Lib.hid (AN0.out.trans (hb.mono AN0.out.size))
  clear hb
  have c00 : Y0.cell? ⟨w.heap.size, 0, none⟩ = some (.int .i64 d0) := (S0.out.old AY0.out).cell 0
  have c01 : Y0.cell? ⟨w.heap.size, 1, none⟩ = some (.slice A0 n0 c0) := (S0.out.old AY0.out).cell 1
  go_wp2_with fail
  clear c00 c01
  refine (T0.out Y0 (S0.out.1.trans (AY0.out.mono S0.out.1.size))).mono ?_
  rintro e N1 ⟨gs, rfl, ho, hb⟩
  have RS := Lib.hid (RdZ.of_own ho HL0.out)
  have N1A := Lib.hid (AY0.out.trans (hb.mono AY0.out.size))
  clear hb ho
  go_wp2_with fail
  refine (CS_.out N1 gs RS.out).mono ?_
  rintro e N2 ⟨rfl, hb⟩
  have N2A := Lib.hid (N1A.out.trans (hb.mono N1A.out.size))
  clear hb RS
  have c00 : N2.cell? ⟨w.heap.size, 0, none⟩ = some (.int .i64 d0) := (S0.out.old N2A.out).cell 0
  have c01 : N2.cell? ⟨w.heap.size, 1, none⟩ = some (.slice A0 n0 c0) := (S0.out.old N2A.out).cell 1
  go_wp2_with fail
  clear c00 c01
  refine (T0.out N2 (S0.out.1.trans (N2A.out.mono S0.out.1.size))).mono ?_
  rintro e N3 ⟨g0x, rfl, ho, hb⟩
  have RX0 := Lib.hid (RdZ.of_own ho HL0.out)
  have N3A := Lib.hid (N2A.out.trans (hb.mono N2A.out.size))
  clear hb ho
  have XB0 := Lib.hid (newS 26 #[.int .i64 d0, .slice (some ⟨g0x, 0, none⟩) n0 n0] N3)
  go_upto_region 7 with fail
  generalize N3.alloc (.cells #[.int .i64 d0, .slice (some ⟨g0x, 0, none⟩) n0 n0] 26) = N4 at *
  have RX0b := Lib.hid (RX0.out.next XB0.out.1)
  clear RX0
  have N4A := Lib.hid (N3A.out.trans (XB0.out.1.mono N3A.out.size))
  have c00 : N4.cell? ⟨w.heap.size, 0, none⟩ = some (.int .i64 d0) := (S0.out.old N4A.out).cell 0
  have c01 : N4.cell? ⟨w.heap.size, 1, none⟩ = some (.slice A0 n0 c0) := (S0.out.old N4A.out).cell 1
  have x00_ : N4.cell? ⟨N3.heap.size, 0, none⟩ = some (.int .i64 d0) := XB0.out.cell 0
  have x01_ : N4.cell? ⟨N3.heap.size, 1, none⟩ = some (.slice (some ⟨g0x, 0, none⟩) n0 n0) := XB0.out.cell 1
  go_wp2_with fail
  clear c00 c01 x00_ x01_
  refine (CI_.out N4 g0x RX0b.out).mono ?_
  rintro e N5 ⟨rfl, hb⟩
  have N5A := Lib.hid (N4A.out.trans (hb.mono N4A.out.size))
  have XB0N5 := Lib.hid (XB0.out.old hb)
  have RX0bN5 := Lib.hid (RX0b.out.next hb)
  clear XB0 RX0b
  clear hb
  have BWr := Lib.hid (S0.out.1.trans (N5A.out.mono S0.out.1.size))
  have CSr := Lib.hid (show ∀ WZ : World, Below N5.heap.size N5 WZ → World.cell? WZ ⟨w.heap.size, 0, none⟩ = some (.int .i64 d0) ∧ World.cell? WZ ⟨w.heap.size, 1, none⟩ = some (.slice A0 n0 c0) ∧ World.cell? WZ ⟨N3.heap.size, 0, none⟩ = some (.int .i64 d0) ∧ World.cell? WZ ⟨N3.heap.size, 1, none⟩ = some (.slice (some ⟨g0x, 0, none⟩) n0 n0) from fun WZ hz => ⟨(S0.out.old (N5A.out.trans (hz.mono N5A.out.size))).cell 0, (S0.out.old (N5A.out.trans (hz.mono N5A.out.size))).cell 1, (XB0N5.out.old hz).cell 0, (XB0N5.out.old hz).cell 1⟩)
  have R0T := Lib.hid (fun (U : World) (hb : Below N5.heap.size N5 U) => T0.out U (BWr.out.trans (hb.mono BWr.out.size)))
  go_upto_region 10 with fail
  go_cut [26] from 22 to 26 (fun o0 wz => o0 = .bool false ∧ Below N5.heap.size N5 wz)
  case first =>
    go_region_held3 (fun w' => World.cell? w' ⟨w.heap.size, 0, none⟩ = some (.int .i64 d0) ∧ World.cell? w' ⟨w.heap.size, 1, none⟩ = some (.slice A0 n0 c0) ∧ World.cell? w' ⟨N3.heap.size, 0, none⟩ = some (.int .i64 d0) ∧ World.cell? w' ⟨N3.heap.size, 1, none⟩ = some (.slice (some ⟨g0x, 0, none⟩) n0 n0)) (first
      | with_reducible exact CSr.out _ (Below.refl N5.heap.size N5).drew
      | with_reducible exact CSr.out _ (by assumption)
      | go_keep) (first
          | (go_at_call 41; (with_reducible refine (R0T.out _ (by first | exact (Below.refl N5.heap.size N5).drew | assumption)).mono ?_); rintro e U0 ⟨g0, rfl, ho0, hb0⟩
             have hbl0 := posx.bl_next (V := N5) (by first | exact (Below.refl N5.heap.size N5).drew | assumption) hb0
             have R0_0 := RdZ.of_own ho0 HL0.out
             clear ho0)
          | (go_at_call 42; (with_reducible refine (E0.out _ g0x g0 (RX0bN5.out.next hbl0) R0_0).mono ?_); rintro e U1 ⟨rfl, hb1⟩
             have hbl1 := posx.bl_next (V := N5) hbl0 hb1))
    all_goals (
      go_wp2_with fail
      go_meet
      exact ⟨rfl, hbl1⟩)
  case rest =>
    obtain ⟨rfl, hbc⟩ := hcut
    clear BWr CSr R0T
    generalize wc = N6 at *
    have N6A := Lib.hid (N5A.out.trans (hbc.mono N5A.out.size))
    have XB0N5N6 := Lib.hid (XB0N5.out.old hbc)
    have RX0bN5N6 := Lib.hid (RX0bN5.out.next hbc)
    clear XB0N5 RX0bN5
    clear hbc
    have BX := Lib.hid (S0.out.1.trans (N6A.out.mono S0.out.1.size))
    go_wp2_with fail
    go_ret
    exact ⟨rfl, BX.out⟩

theorem own : ownKnob Try.prog.godebug = none := by kernel_rfl
theorem laidOut : laidOutB Try.prog = true := by kernel_rfl

set_option maxRecDepth 100000 in
theorem lifted (os : Os) (started : os.Started) (H : Type) (enc : TypeId × Value → H) :
    ReturnsInHanded {} Try.checked os 5 .any (Rows.fnExactIsValidSectorSpec.pre6 enc Try.prog Try.f5 Rows.fnExactIsValidSectorRow.domain false) (Rows.fnExactIsValidSectorSpec.post enc Try.prog Try.f5 false true false false) := by
  refine returnsInHanded_of_change (C := Try.checked) own started (by kernel_rfl) Try.func5
    (ChangeSpec.witness6 (enc := enc) (C := Try.checked) false ⟨#[], #[.agg #[.int .i64 0, .slice none 0 0]], []⟩ 8 (by kernel_rfl) (by kernel_rfl) (by kernel_rfl) (by kernel_rfl)) ?_
  intro W base args ds gs before hval0 hW hcnd _
  have hval : ∀ (j : Nat) t v, Try.f5.params[j]? = some t → args[j]? = some v → Value.okWide Try.prog W .any base t v := hval0
  have hW' := hW
  obtain ⟨p, q, hA0, hV, rfl, hfz, hnd⟩ := hW
  have hA : DataW.TrodAll enc Try.prog W 0 (fun _ => true) true Try.f5.params.toList args.toList ds p := hA0
  rw [Try.params5] at hA hval
  obtain ⟨v0, vs0, d0, ds0, p0, q0, hargs, rfl, rfl, h0, r0⟩ := trodAll_cons hA
  obtain ⟨rfl, rfl, rfl⟩ := trodAll_nil r0
  obtain rfl : args = #[v0] := by cases args; simp_all
  obtain ⟨rfl, rfl⟩ := trodVars_none hV
  have k0 := h0
  have lt0 : ∀ x ∈ p0, x.block < W.heap.size := by obtain ⟨m, hm⟩ := k0; exact DataW.trod_lt m _ _ _ hm
  obtain ⟨i0, a0, m0, c0, z0, rfl, w0, n0⟩ := secz.open_sector (hval 0 57 v0 rfl rfl) h0
  clear hA0 hval0
  refine (walk i0 a0 m0 c0 z0 W w0 n0).mono fun e W' ⟨he, bel⟩ => ?_
  subst he
  exact ⟨_, rfl, _, _, _, [], _, [], hW', trodAll_mk1 (shut_bool Try.underlying4 _), (trodAll_cons_mk (Below.trod laidOut (by kernel_rfl) (of_decide_eq_true (by kernel_rfl)) k0 bel lt0) trodAll_mk0), rfl, bel.frame _, fun h => by cases h⟩

theorem over : Rows.fnExactIsValidSectorRow.holds Try.pinned (OpenSpec.ofChange Rows.fnExactIsValidSectorSpec) :=
  OpenClaim.holds_of_wide 5 Try.f5 rfl rfl rfl rfl rfl rfl rfl ⟨rfl, rfl, rfl, rfl, rfl⟩ rfl rfl rfl rfl rfl (by kernel_rfl) Try.func5 (by kernel_rfl)
    (of_decide_eq_true (by kernel_rfl)) (by unfold Func.isWrapper; first | (rw [if_pos (by decide +kernel)]; kernel_rfl) | (rw [if_neg (by decide +kernel)]; exact ⟨rfl, rfl⟩))
    (fun os started H enc _ => lifted os started H enc)

theorem proved : Rows.FnExactIsValidSectorSaid :=
  over
#print axioms proved
end Go.Proofs.Ytadpihfegccpkaa.fnExactIsValidSector
