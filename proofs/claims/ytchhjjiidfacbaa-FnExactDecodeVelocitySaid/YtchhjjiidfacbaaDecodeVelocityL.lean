/- For every int the law FnExactDecodeVelocity returns true: impl.DecodeVelocity and spec.DecodeVelocity return the same velocity that is sent as it, or both a zero velocity and false. No condition. -/
import Derived.Test.YtchhjjiidfacbaaRows
import Derived.Test.YtchhjjiidfacbaaVelU
import Derived.Test.YtchhjjiidfacbaaVelX
import Derived.Test.YtchhjjiidfacbaaPosX
import Derived.WalkKit
import Derived.ProofKit
import Derived.OpenShut
import Derived.ShutString
import Derived.ChangeOld
import Derived.Below
import Derived.Lib.SmallJoins
import Derived.Lib.QuietBelow
import Derived.Deep.RegionHeld3
import Derived.Deep.CutRange
namespace Go.Proofs.Ytchhjjiidfacbaa.fnExactDecodeVelocity
open Go.ChangeShapes Go.WideShapes Go.ChangeAt Go.RowKit Go.Joins Go.Proofs.Ytchhjjiidfacbaa.ats
open Go.ChangeMaps (open_string shut_string)
set_option linter.unusedVariables false

theorem bool_ne_self (b : Bool) : (b != b) = false := by simp
theorem int_ne_self (x : Int) : (x != x) = false := by simp

set_option maxRecDepth 100000 in
set_option maxHeartbeats 4000000 in
theorem walk (a0 : Int) (w0 : (Lit.int .i64 a0).wf = true) (w : World) :
    Calls Try.prog 7 #[.int .i64 a0] w fun e w' => e = .returned (.bool true) ∧ Below w.heap.size w w' := by
  have n0 := bounds_i64 w0
  have hs := Lib.hid (fun w => velu.decodeVelocity a0 w)
  have hi := Lib.hid (fun w => velj.decodeVelocity a0 w)
  have ne1 := bool_ne_self (vel.dcB a0)
  clear w0 n0
  generalize vel.dcX a0 = x0 at *
  generalize vel.dcY a0 = x1 at *
  generalize vel.dcB a0 = x2 at *
  have HB0 := Lib.hid (Below.refl w.heap.size w)
  go_enter Try.func7, Try.ntmps7
  go_wp2_with fail
  refine (hs.out w).mono ?_
  rintro e V1 ⟨rfl, h1⟩
  have HB1 := Lib.hid (HB0.out.trans (h1.mono HB0.out.size))
  clear HB0 h1
  have G2 := Lib.hid (newS 44 #[.int .i64 x0, .int .i64 x1] V1)
  have HB2a := Lib.hid (HB1.out.alloc HB1.out.size (.cells #[.int .i64 x0, .int .i64 x1] 44))
  clear HB1
  go_wp2_with fail
  generalize (V1.alloc (.cells #[.int .i64 x0, .int .i64 x1] 44)) = V3 at *
  generalize V1.heap.size = b3 at *
  refine (hi.out V3).mono ?_
  rintro e V4 ⟨rfl, h4⟩
  have HB4 := Lib.hid (HB2a.out.trans (h4.mono HB2a.out.size))
  have G4 := Lib.hid (G2.out.old h4)
  clear HB2a G2 h4
  have H5 := Lib.hid (newS 44 #[.int .i64 x0, .int .i64 x1] V4)
  have G5a := Lib.hid (G4.out.alloc (.cells #[.int .i64 x0, .int .i64 x1] 44))
  clear G4
  have HB5a := Lib.hid (HB4.out.alloc HB4.out.size (.cells #[.int .i64 x0, .int .i64 x1] 44))
  clear HB4
  have g0_ : (V4.alloc (.cells #[.int .i64 x0, .int .i64 x1] 44)).cell? ⟨b3, 0, none⟩ = some (.int .i64 x0) := G5a.out.cell 0
  have g1_ : (V4.alloc (.cells #[.int .i64 x0, .int .i64 x1] 44)).cell? ⟨b3, 1, none⟩ = some (.int .i64 x1) := G5a.out.cell 1
  have glt_ := G5a.out.2.2.1
  go_wp2_with fail
  clear g0_ g1_ glt_
  generalize (V4.alloc (.cells #[.int .i64 x0, .int .i64 x1] 44)) = V6 at *
  generalize V4.heap.size = b6 at *
  refine (velx.eqVelocity x0 x1 V6).mono ?_
  rintro e V7 ⟨rfl, h7⟩
  have HB7 := Lib.hid (HB5a.out.trans (h7.mono HB5a.out.size))
  have G7 := Lib.hid (G5a.out.old h7)
  have H7 := Lib.hid (H5.out.old h7)
  clear HB5a G5a H5 h7
  go_wp2_with fail
  go_ret
  exact ⟨rfl, HB7.out⟩


theorem own : ownKnob Try.prog.godebug = none := by kernel_rfl
theorem laidOut : laidOutB Try.prog = true := by kernel_rfl

set_option maxRecDepth 100000 in
theorem lifted (os : Os) (started : os.Started) (H : Type) (enc : TypeId × Value → H) :
    ReturnsInHanded {} Try.checked os 7 .any (Rows.fnExactDecodeVelocitySpec.pre6 enc Try.prog Try.f7 Rows.fnExactDecodeVelocityRow.domain false) (Rows.fnExactDecodeVelocitySpec.post enc Try.prog Try.f7 false true false false) := by
  refine returnsInHanded_of_change (C := Try.checked) own started (by kernel_rfl) Try.func7
    (ChangeSpec.witness6 (enc := enc) (C := Try.checked) false ⟨#[], #[.int .i64 0], []⟩ 8 (by kernel_rfl) (by kernel_rfl) (by kernel_rfl) (by kernel_rfl)) ?_
  intro W base args ds gs before hval0 hW hcnd _
  have hval : ∀ (j : Nat) t v, Try.f7.params[j]? = some t → args[j]? = some v → Value.okWide Try.prog W .any base t v := hval0
  have hW' := hW
  obtain ⟨p, q, hA0, hV, rfl, hfz, hnd⟩ := hW
  have hA : DataW.TrodAll enc Try.prog W 0 (fun _ => true) true Try.f7.params.toList args.toList ds p := hA0
  rw [Try.params7] at hA hval
  obtain ⟨v0, vs0, d0, ds0, p0, q0, hargs, rfl, rfl, h0, r0⟩ := trodAll_cons hA
  obtain ⟨rfl, rfl, rfl⟩ := trodAll_nil r0
  obtain rfl : args = #[v0] := by cases args; simp_all
  obtain ⟨rfl, rfl⟩ := trodVars_none hV
  obtain ⟨a0, rfl, rfl, rfl, w0⟩ := open_int Try.underlying3 (hval 0 3 v0 rfl rfl) h0
  clear hA0 hval0
  refine (walk a0 w0 W).mono fun e W' ⟨he, bel⟩ => ?_
  subst he
  exact ⟨_, rfl, _, _, _, [], _, [], hW', trodAll_mk1 (shut_bool Try.underlying4 _), (trodAll_cons_mk (shut_int Try.underlying3 w0) trodAll_mk0), rfl, bel.frame _, fun h => by cases h⟩

theorem over : Rows.fnExactDecodeVelocityRow.holds Try.pinned (OpenSpec.ofChange Rows.fnExactDecodeVelocitySpec) :=
  OpenClaim.holds_of_wide 7 Try.f7 rfl rfl rfl rfl rfl rfl rfl ⟨rfl, rfl, rfl, rfl, rfl⟩ rfl rfl rfl rfl rfl (by kernel_rfl) Try.func7 (by kernel_rfl)
    (of_decide_eq_true (by kernel_rfl)) (by unfold Func.isWrapper; first | (rw [if_pos (by decide +kernel)]; kernel_rfl) | (rw [if_neg (by decide +kernel)]; exact ⟨rfl, rfl⟩))
    (fun os started H enc _ => lifted os started H enc)

theorem proved : Rows.FnExactDecodeVelocitySaid :=
  over
#print axioms proved
end Go.Proofs.Ytchhjjiidfacbaa.fnExactDecodeVelocity
