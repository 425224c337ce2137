/- For every frame the law FnExactIsValidFrame returns true: impl.IsValidFrame and spec.IsValidFrame both tell whether its kind, address and data are in range. No condition. -/
import Derived.Test.YtpjpdfannnafbaaRows
import Derived.Test.YtpjpdfannnafbaaFrmI
import Derived.Test.YtpjpdfannnafbaaFrmS
import Derived.Test.YtpjpdfannnafbaaFrmL
import Derived.WalkKit
import Derived.ProofKit
import Derived.OpenShut
import Derived.ShutString
import Derived.ChangeOld
import Derived.Below
import Derived.Lib.SmallJoins
import Derived.Lib.QuietBelow
namespace Go.Proofs.Ytpjpdfannnafbaa.fnExactIsValidFrame
open Go.ChangeShapes Go.WideShapes Go.ChangeAt Go.RowKit Go.Joins Go.Proofs.Ytpjpdfannnafbaa.ats
open Go.ChangeMaps (open_string shut_string)
set_option linter.unusedVariables false

theorem still {P : Program} {f : FuncId} {args : Array Value} {w : World} {v : Value} (h : Calls P f args w fun e w' => e = .returned v ∧ w = w') : Calls P f args w fun e w' => e = .returned v ∧ Below w.heap.size w w' := h.mono fun _ _ ⟨he, hw⟩ => ⟨he, hw ▸ Below.refl _ _⟩
theorem bool_ne_self (b : Bool) : (b != b) = false := by simp
theorem str_ne_self (x : ByteArray) : (!(x.toList == x.toList)) = false := by simp
theorem int_ne_self (x : Int) : (x != x) = false := by simp

set_option maxRecDepth 100000 in
theorem walk (a00 : Int) (a01 : Int) (a02 : Int) (w00 : (Lit.int .i64 a00).wf = true) (w01 : (Lit.int .i64 a01).wf = true) (w02 : (Lit.int .i64 a02).wf = true) (w : World) :
    Calls Try.prog 4 #[.agg #[.int .i64 a00, .int .i64 a01, .int .i64 a02]] w fun e w' => e = .returned (.bool true) ∧ Below w.heap.size w w' := by
  have n00 := bounds_i64 w00
  have n01 := bounds_i64 w01
  have n02 := bounds_i64 w02
  have hs := Lib.hid (fun w => frms.isValid a00 a01 a02 w)
  have hi := Lib.hid (fun w => frmi.isValid a00 a01 a02 w)
  have hbb := bool_ne_self (frm.good a00 a01 a02)
  clear w00 w01 w02 n00 n01 n02
  generalize frm.good a00 a01 a02 = x0 at *
  go_enter Try.func4, Try.ntmps4
  go_wp2_with fail
  have B0 := Lib.hid (newS 39 #[.int .i64 a00, .int .i64 a01, .int .i64 a02] w)
  generalize w.alloc (.cells #[.int .i64 a00, .int .i64 a01, .int .i64 a02] 39) = W0 at *
  refine (frml.toFrame a00 a01 a02 W0).mono ?_
  rintro e W1 ⟨rfl, hb1⟩
  have B1 := Lib.hid (B0.out.old hb1)
  go_wp2_with fail
  refine (hs.out W1).mono ?_
  rintro e W2 ⟨rfl, hb2⟩
  have B2 := Lib.hid (B1.out.old hb2)
  have c0 : W2.cell? ⟨w.heap.size, 0, none⟩ = some (.int .i64 a00) := B2.out.cell 0
  have c1 : W2.cell? ⟨w.heap.size, 1, none⟩ = some (.int .i64 a01) := B2.out.cell 1
  have c2 : W2.cell? ⟨w.heap.size, 2, none⟩ = some (.int .i64 a02) := B2.out.cell 2
  clear hb1 hb2
  go_wp2_with fail
  refine (frml.toFrame a00 a01 a02 W2).mono ?_
  rintro e W3 ⟨rfl, hb3⟩
  have B3 := Lib.hid (B2.out.old hb3)
  clear c0 c1 c2
  go_wp2_with fail
  refine (hi.out W3).mono ?_
  rintro e W4 ⟨rfl, hb4⟩
  have B4 := Lib.hid (B3.out.old hb4)
  go_wp2_with fail
  go_ret
  exact ⟨rfl, B4.out.1⟩

theorem own : ownKnob Try.prog.godebug = none := by kernel_rfl
theorem laidOut : laidOutB Try.prog = true := by kernel_rfl

set_option maxRecDepth 100000 in
theorem lifted (os : Os) (started : os.Started) (H : Type) (enc : TypeId × Value → H) :
    ReturnsInHanded {} Try.checked os 4 .any (Rows.fnExactIsValidFrameSpec.pre6 enc Try.prog Try.f4 Rows.fnExactIsValidFrameRow.domain false) (Rows.fnExactIsValidFrameSpec.post enc Try.prog Try.f4 false true false false) := by
  refine returnsInHanded_of_change (C := Try.checked) own started (by kernel_rfl) Try.func4
    (ChangeSpec.witness6 (enc := enc) (C := Try.checked) false ⟨#[], #[.agg #[.int .i64 0, .int .i64 0, .int .i64 0]], []⟩ 8 (by kernel_rfl) (by kernel_rfl) (by kernel_rfl) (by kernel_rfl)) ?_
  intro W base args ds gs before hval0 hW hcnd _
  have hval : ∀ (j : Nat) t v, Try.f4.params[j]? = some t → args[j]? = some v → Value.okWide Try.prog W .any base t v := hval0
  have hW' := hW
  obtain ⟨p, q, hA0, hV, rfl, hfz, hnd⟩ := hW
  have hA : DataW.TrodAll enc Try.prog W 0 (fun _ => true) true Try.f4.params.toList args.toList ds p := hA0
  rw [Try.params4] at hA hval
  obtain ⟨v0, vs0, d0, ds0, p0, q0, hargs, rfl, rfl, h0, r0⟩ := trodAll_cons hA
  obtain ⟨rfl, rfl, rfl⟩ := trodAll_nil r0
  obtain rfl : args = #[v0] := by cases args; simp_all
  obtain ⟨rfl, rfl⟩ := trodVars_none hV
  have k0 := h0
  have lt0 : ∀ x ∈ p0, x.block < W.heap.size := by obtain ⟨m, hm⟩ := k0; exact DataW.trod_lt m _ _ _ hm
  obtain ⟨f00, f01, f02, y00, y01, y02, m0, rfl, rfl, rfl, t00, t01, t02⟩ := open_agg3 Try.underlying39 (by kernel_rfl) (by kernel_rfl) (hval 0 39 v0 rfl rfl) h0
  obtain ⟨a00, e00, -, w00⟩ := DataW.trod_int Try.underlying3 t00
  obtain rfl : f00 = .int .i64 a00 := by simpa using e00
  obtain ⟨a01, e01, -, w01⟩ := DataW.trod_int Try.underlying3 t01
  obtain rfl : f01 = .int .i64 a01 := by simpa using e01
  obtain ⟨a02, e02, -, w02⟩ := DataW.trod_int Try.underlying3 t02
  obtain rfl : f02 = .int .i64 a02 := by simpa using e02
  clear hA0 hval0
  refine (walk a00 a01 a02 w00 w01 w02 W).mono fun e W' ⟨he, bel⟩ => ?_
  subst he
  exact ⟨_, rfl, _, _, _, [], _, [], hW', trodAll_mk1 (shut_bool Try.underlying4 _), (trodAll_cons_mk (Below.trod laidOut (by kernel_rfl) (of_decide_eq_true (by kernel_rfl)) k0 bel lt0) trodAll_mk0), rfl, bel.frame _, fun h => by cases h⟩

theorem over : Rows.fnExactIsValidFrameRow.holds Try.pinned (OpenSpec.ofChange Rows.fnExactIsValidFrameSpec) :=
  OpenClaim.holds_of_wide 4 Try.f4 rfl rfl rfl rfl rfl rfl rfl ⟨rfl, rfl, rfl, rfl, rfl⟩ rfl rfl rfl rfl rfl (by kernel_rfl) Try.func4 (by kernel_rfl)
    (of_decide_eq_true (by kernel_rfl)) (by unfold Func.isWrapper; first | (rw [if_pos (by decide +kernel)]; kernel_rfl) | (rw [if_neg (by decide +kernel)]; exact ⟨rfl, rfl⟩))
    (fun os started H enc _ => lifted os started H enc)

theorem proved : Rows.FnExactIsValidFrameSaid :=
  over
#print axioms proved
end Go.Proofs.Ytpjpdfannnafbaa.fnExactIsValidFrame
