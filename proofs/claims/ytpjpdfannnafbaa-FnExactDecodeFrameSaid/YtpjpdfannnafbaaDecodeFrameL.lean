/- For every string the law FnExactDecodeFrame returns true: impl.DecodeFrame and spec.DecodeFrame return the same frame with a hex text, or both a zero frame and false. No condition. -/
import Derived.Test.YtpjpdfannnafbaaRows
import Derived.Test.YtpjpdfannnafbaaFrmE
import Derived.Test.YtpjpdfannnafbaaFrmL
import Derived.Test.YtpjpdfannnafbaaFrmK
import Derived.WalkKit
import Derived.ProofKit
import Derived.OpenShut
import Derived.ShutString
import Derived.ChangeOld
import Derived.Below
import Derived.Lib.SmallJoins
import Derived.Lib.QuietBelow
namespace Go.Proofs.Ytpjpdfannnafbaa.fnExactDecodeFrame
open Go.ChangeShapes Go.WideShapes Go.ChangeAt Go.RowKit Go.Joins Go.Proofs.Ytpjpdfannnafbaa.ats
open Go.ChangeMaps (open_string shut_string)
set_option linter.unusedVariables false

theorem still {P : Program} {f : FuncId} {args : Array Value} {w : World} {v : Value} (h : Calls P f args w fun e w' => e = .returned v ∧ w = w') : Calls P f args w fun e w' => e = .returned v ∧ Below w.heap.size w w' := h.mono fun _ _ ⟨he, hw⟩ => ⟨he, hw ▸ Below.refl _ _⟩
theorem bool_ne_self (b : Bool) : (b != b) = false := by simp
theorem str_ne_self (x : ByteArray) : (!(x.toList == x.toList)) = false := by simp
theorem int_ne_self (x : Int) : (x != x) = false := by simp

set_option maxRecDepth 100000 in
theorem walk (a0 : ByteArray) (w0 : a0.size ≤ maxLen) (w : World) :
    Calls Try.prog 6 #[.string a0] w fun e w' => e = .returned (.bool true) ∧ Below w.heap.size w w' := by
  by_cases h0 : (1048576 : Int) < (a0.size : Int)
  · clear w0
    go_enter Try.func6, Try.ntmps6
    go_wp2_with fail
    go_ret
    exact ⟨rfl, Below.refl _ _⟩
  · have hlen : a0.size ≤ 1048576 := by omega
    have hs := Lib.hid (fun w => (show Calls Try.prog 27 #[.string a0] w fun e w' => e = .returned (.tuple #[.agg #[.int .i64 (frm.dcK a0 : Nat), .int .i64 (frm.dcA a0 : Nat), .int .i64 (frm.dcD a0 : Nat)], .bool (frm.dcB a0)]) ∧ Below w.heap.size w w' from frme.decodeFrame a0 w w0))
    have hi := Lib.hid (fun w => (show Calls Try.prog 28 #[.string a0] w fun e w' => e = .returned (.tuple #[.agg #[.int .i64 (frm.dcK a0 : Nat), .int .i64 (frm.dcA a0 : Nat), .int .i64 (frm.dcD a0 : Nat)], .bool (frm.dcB a0)]) ∧ Below w.heap.size w w' from frmk.decodeFrame a0 w))
    have hbb := bool_ne_self (frm.dcB a0)
    clear w0 
    generalize ((frm.dcK a0 : Nat) : Int) = x0 at *
    generalize ((frm.dcA a0 : Nat) : Int) = x1 at *
    generalize ((frm.dcD a0 : Nat) : Int) = x2 at *
    generalize frm.dcB a0 = x3 at *
    go_enter Try.func6, Try.ntmps6
    go_wp2_with fail
    refine (hs.out w).mono ?_
    rintro e W1 ⟨rfl, hb1⟩
    go_wp2_with fail
    have B1 := Lib.hid (newS 25 #[.int .i64 x0, .int .i64 x1, .int .i64 x2] W1)
    generalize W1.alloc (.cells #[.int .i64 x0, .int .i64 x1, .int .i64 x2] 25) = W2 at *
    refine (hi.out W2).mono ?_
    rintro e W3 ⟨rfl, hb3⟩
    have B3 := Lib.hid (B1.out.old hb3)
    have c0 : W3.cell? ⟨W1.heap.size, 0, none⟩ = some (.int .i64 x0) := B3.out.cell 0
    have c1 : W3.cell? ⟨W1.heap.size, 1, none⟩ = some (.int .i64 x1) := B3.out.cell 1
    have c2 : W3.cell? ⟨W1.heap.size, 2, none⟩ = some (.int .i64 x2) := B3.out.cell 2
    have hlt := B3.out.2.2.1
    clear hb3
    go_wp2_with fail
    refine (frml.eqFrame x0 x1 x2 _).mono ?_
    rintro e W5 ⟨rfl, hb5⟩
    have B5 := Lib.hid ((B3.out.alloc (.cells #[.int .i64 x0, .int .i64 x1, .int .i64 x2] 25)).old hb5)
    clear c0 c1 c2
    go_wp2_with fail
    go_ret
    exact ⟨rfl, hb1.trans (B5.out.1.mono hb1.size)⟩

theorem own : ownKnob Try.prog.godebug = none := by kernel_rfl
theorem laidOut : laidOutB Try.prog = true := by kernel_rfl

set_option maxRecDepth 100000 in
theorem lifted (os : Os) (started : os.Started) (H : Type) (enc : TypeId × Value → H) :
    ReturnsInHanded {} Try.checked os 6 .any (Rows.fnExactDecodeFrameSpec.pre6 enc Try.prog Try.f6 Rows.fnExactDecodeFrameRow.domain false) (Rows.fnExactDecodeFrameSpec.post enc Try.prog Try.f6 false true false false) := by
  refine returnsInHanded_of_change (C := Try.checked) own started (by kernel_rfl) Try.func6
    (ChangeSpec.witness6 (enc := enc) (C := Try.checked) false ⟨#[], #[.string ByteArray.empty], []⟩ 8 (by kernel_rfl) (by kernel_rfl) (by kernel_rfl) (by kernel_rfl)) ?_
  intro W base args ds gs before hval0 hW hcnd _
  have hval : ∀ (j : Nat) t v, Try.f6.params[j]? = some t → args[j]? = some v → Value.okWide Try.prog W .any base t v := hval0
  have hW' := hW
  obtain ⟨p, q, hA0, hV, rfl, hfz, hnd⟩ := hW
  have hA : DataW.TrodAll enc Try.prog W 0 (fun _ => true) true Try.f6.params.toList args.toList ds p := hA0
  rw [Try.params6] at hA hval
  obtain ⟨v0, vs0, d0, ds0, p0, q0, hargs, rfl, rfl, h0, r0⟩ := trodAll_cons hA
  obtain ⟨rfl, rfl, rfl⟩ := trodAll_nil r0
  obtain rfl : args = #[v0] := by cases args; simp_all
  obtain ⟨rfl, rfl⟩ := trodVars_none hV
  obtain ⟨a0, rfl, rfl, rfl, w0⟩ := open_string Try.underlying9 (hval 0 9 v0 rfl rfl) h0
  clear hA0 hval0
  refine (walk a0 w0 W).mono fun e W' ⟨he, bel⟩ => ?_
  subst he
  exact ⟨_, rfl, _, _, _, [], _, [], hW', trodAll_mk1 (shut_bool Try.underlying4 _), (trodAll_cons_mk (shut_string Try.underlying9 w0) trodAll_mk0), rfl, bel.frame _, fun h => by cases h⟩

theorem over : Rows.fnExactDecodeFrameRow.holds Try.pinned (OpenSpec.ofChange Rows.fnExactDecodeFrameSpec) :=
  OpenClaim.holds_of_wide 6 Try.f6 rfl rfl rfl rfl rfl rfl rfl ⟨rfl, rfl, rfl, rfl, rfl⟩ rfl rfl rfl rfl rfl (by kernel_rfl) Try.func6 (by kernel_rfl)
    (of_decide_eq_true (by kernel_rfl)) (by unfold Func.isWrapper; first | (rw [if_pos (by decide +kernel)]; kernel_rfl) | (rw [if_neg (by decide +kernel)]; exact ⟨rfl, rfl⟩))
    (fun os started H enc _ => lifted os started H enc)

theorem proved : Rows.FnExactDecodeFrameSaid :=
  over
#print axioms proved
end Go.Proofs.Ytpjpdfannnafbaa.fnExactDecodeFrame
