/- For every two frames the law FnExactFrameDistance returns true. -/
import Derived.Test.YtpjpdfannnafbaaRows
import Derived.Test.YtpjpdfannnafbaaFrmV
import Derived.Test.YtpjpdfannnafbaaFrmL
import Derived.Test.YtpjpdfannnafbaaFrmJ
import Derived.WalkKit
import Derived.ProofKit
import Derived.OpenShut
import Derived.ShutString
import Derived.ChangeOld
import Derived.Below
import Derived.Lib.SmallJoins
import Derived.Lib.QuietBelow
namespace Go.Proofs.Ytpjpdfannnafbaa.fnExactFrameDistance
open Go.ChangeShapes Go.WideShapes Go.ChangeAt Go.RowKit Go.Joins Go.Proofs.Ytpjpdfannnafbaa.ats
open Go.ChangeMaps (open_string shut_string)
set_option linter.unusedVariables false

theorem still {P : Program} {f : FuncId} {args : Array Value} {w : World} {v : Value} (h : Calls P f args w fun e w' => e = .returned v ∧ w = w') : Calls P f args w fun e w' => e = .returned v ∧ Below w.heap.size w w' := h.mono fun _ _ ⟨he, hw⟩ => ⟨he, hw ▸ Below.refl _ _⟩
theorem bool_ne_self (b : Bool) : (b != b) = false := by simp
theorem str_ne_self (x : ByteArray) : (!(x.toList == x.toList)) = false := by simp
theorem int_ne_self (x : Int) : (x != x) = false := by simp

set_option maxRecDepth 100000 in
theorem walk (a00 : Int) (a01 : Int) (a02 : Int) (a10 : Int) (a11 : Int) (a12 : Int) (w00 : (Lit.int .i64 a00).wf = true) (w01 : (Lit.int .i64 a01).wf = true) (w02 : (Lit.int .i64 a02).wf = true) (w10 : (Lit.int .i64 a10).wf = true) (w11 : (Lit.int .i64 a11).wf = true) (w12 : (Lit.int .i64 a12).wf = true) (w : World) :
    Calls Try.prog 8 #[.agg #[.int .i64 a00, .int .i64 a01, .int .i64 a02], .agg #[.int .i64 a10, .int .i64 a11, .int .i64 a12]] w fun e w' => e = .returned (.bool true) ∧ Below w.heap.size w w' := by
  have n00 := bounds_i64 w00
  have n01 := bounds_i64 w01
  have n02 := bounds_i64 w02
  have n10 := bounds_i64 w10
  have n11 := bounds_i64 w11
  have n12 := bounds_i64 w12
  have hs := Lib.hid (fun w => frmv.distance a00 a01 a02 a10 a11 a12 w)
  have hi := Lib.hid (fun w => frmj.distance a00 a01 a02 a10 a11 a12 w)
  have fb := bool_ne_self (frmv.fdB a00 a01 a02 a10 a11 a12)
  have fi := int_ne_self ((frmv.fdV a00 a01 a02 a10 a11 a12 : Nat) : Int)
  clear w00 w01 w02 w10 w11 w12 n00 n01 n02 n10 n11 n12
  generalize (frmv.fdV a00 a01 a02 a10 a11 a12 : Nat) = x0 at *
  generalize frmv.fdB a00 a01 a02 a10 a11 a12 = x1 at *
  go_enter Try.func8, Try.ntmps8
  go_wp2_with fail
  have B0 := Lib.hid ((newS 39 #[.int .i64 a00, .int .i64 a01, .int .i64 a02] w).alloc (.cells #[.int .i64 a10, .int .i64 a11, .int .i64 a12] 39))
  have C0 := Lib.hid ((newS 39 #[.int .i64 a00, .int .i64 a01, .int .i64 a02] w).next 39 #[.int .i64 a10, .int .i64 a11, .int .i64 a12])
  rw [World.size_alloc] at C0
  generalize (w.alloc (.cells #[.int .i64 a00, .int .i64 a01, .int .i64 a02] 39)).alloc (.cells #[.int .i64 a10, .int .i64 a11, .int .i64 a12] 39) = W0 at *
  have T0 := Lib.hid (fun w d0 os => Calls.regrown_of (frml.toFrame a00 a01 a02 (Sort.grow (redrawn w d0) os)))
  have T1 := Lib.hid (fun w d0 os => Calls.regrown_of (frml.toFrame a10 a11 a12 (Sort.grow (redrawn w d0) os)))
  have XS := Lib.hid (fun w d0 os => Calls.regrown_of (hs.out (Sort.grow (redrawn w d0) os)))
  have XI := Lib.hid (fun w d0 os => Calls.regrown_of (hi.out (Sort.grow (redrawn w d0) os)))
  have q00 : ∀ d0 os, (Sort.grow (redrawn W0 d0) os).cell? ⟨w.heap.size, 0, none⟩ = some (.int .i64 a00) := fun d0 os => cell_regrown (B0.out.cell 0) d0 os
  have q01 : ∀ d0 os, (Sort.grow (redrawn W0 d0) os).cell? ⟨w.heap.size, 1, none⟩ = some (.int .i64 a01) := fun d0 os => cell_regrown (B0.out.cell 1) d0 os
  have q02 : ∀ d0 os, (Sort.grow (redrawn W0 d0) os).cell? ⟨w.heap.size, 2, none⟩ = some (.int .i64 a02) := fun d0 os => cell_regrown (B0.out.cell 2) d0 os
  have q10 : ∀ d0 os, (Sort.grow (redrawn W0 d0) os).cell? ⟨w.heap.size + 1, 0, none⟩ = some (.int .i64 a10) := fun d0 os => cell_regrown (C0.out.cell 0) d0 os
  have q11 : ∀ d0 os, (Sort.grow (redrawn W0 d0) os).cell? ⟨w.heap.size + 1, 1, none⟩ = some (.int .i64 a11) := fun d0 os => cell_regrown (C0.out.cell 1) d0 os
  have q12 : ∀ d0 os, (Sort.grow (redrawn W0 d0) os).cell? ⟨w.heap.size + 1, 2, none⟩ = some (.int .i64 a12) := fun d0 os => cell_regrown (C0.out.cell 2) d0 os
  refine wp_region_quiet_below (by kernel_rfl) (by kernel_rfl) ?_
  repeat (quiet_step (first
    | (go_at_call 23; first | (with_reducible exact T0.out _ _ _) | (with_reducible exact T1.out _ _ _))
    | (go_at_call 14; with_reducible exact XS.out _ _ _)))
  refine wpQuiet_nil ?_
  intro _ hw
  obtain ⟨⟨dq, osq⟩, hw2⟩ := hw
  subst hw2
  have B1 := Lib.hid (B0.out.old (below_regrown W0 dq osq))
  have C1 := Lib.hid (C0.out.old (below_regrown W0 dq osq))
  clear q00 q01 q02 q10 q11 q12
  generalize Sort.grow (redrawn W0 dq) osq = W1 at *
  go_wp2_with fail
  have q00 : ∀ d0 os, (Sort.grow (redrawn W1 d0) os).cell? ⟨w.heap.size, 0, none⟩ = some (.int .i64 a00) := fun d0 os => cell_regrown (B1.out.cell 0) d0 os
  have q01 : ∀ d0 os, (Sort.grow (redrawn W1 d0) os).cell? ⟨w.heap.size, 1, none⟩ = some (.int .i64 a01) := fun d0 os => cell_regrown (B1.out.cell 1) d0 os
  have q02 : ∀ d0 os, (Sort.grow (redrawn W1 d0) os).cell? ⟨w.heap.size, 2, none⟩ = some (.int .i64 a02) := fun d0 os => cell_regrown (B1.out.cell 2) d0 os
  have q10 : ∀ d0 os, (Sort.grow (redrawn W1 d0) os).cell? ⟨w.heap.size + 1, 0, none⟩ = some (.int .i64 a10) := fun d0 os => cell_regrown (C1.out.cell 0) d0 os
  have q11 : ∀ d0 os, (Sort.grow (redrawn W1 d0) os).cell? ⟨w.heap.size + 1, 1, none⟩ = some (.int .i64 a11) := fun d0 os => cell_regrown (C1.out.cell 1) d0 os
  have q12 : ∀ d0 os, (Sort.grow (redrawn W1 d0) os).cell? ⟨w.heap.size + 1, 2, none⟩ = some (.int .i64 a12) := fun d0 os => cell_regrown (C1.out.cell 2) d0 os
  refine wp_region_quiet_below (by kernel_rfl) (by kernel_rfl) ?_
  repeat (quiet_step (first
    | (go_at_call 23; first | (with_reducible exact T0.out _ _ _) | (with_reducible exact T1.out _ _ _))
    | (go_at_call 13; with_reducible exact XI.out _ _ _)))
  refine wpQuiet_nil ?_
  intro _ hw
  obtain ⟨⟨dq, osq⟩, hw2⟩ := hw
  subst hw2
  have B2 := Lib.hid (B1.out.old (below_regrown W1 dq osq))
  have C2 := Lib.hid (C1.out.old (below_regrown W1 dq osq))
  clear q00 q01 q02 q10 q11 q12
  generalize Sort.grow (redrawn W1 dq) osq = W2 at *
  go_wp2_with fail
  go_ret
  exact ⟨rfl, B2.out.1⟩

theorem own : ownKnob Try.prog.godebug = none := by kernel_rfl
theorem laidOut : laidOutB Try.prog = true := by kernel_rfl

set_option maxRecDepth 100000 in
theorem lifted (os : Os) (started : os.Started) (H : Type) (enc : TypeId × Value → H) :
    ReturnsInHanded {} Try.checked os 8 .any (Rows.fnExactFrameDistanceSpec.pre6 enc Try.prog Try.f8 Rows.fnExactFrameDistanceRow.domain false) (Rows.fnExactFrameDistanceSpec.post enc Try.prog Try.f8 false true false false) := by
  refine returnsInHanded_of_change (C := Try.checked) own started (by kernel_rfl) Try.func8
    (ChangeSpec.witness6 (enc := enc) (C := Try.checked) false ⟨#[], #[.agg #[.int .i64 0, .int .i64 0, .int .i64 0], .agg #[.int .i64 0, .int .i64 0, .int .i64 0]], []⟩ 8 (by kernel_rfl) (by kernel_rfl) (by kernel_rfl) (by kernel_rfl)) ?_
  intro W base args ds gs before hval0 hW hcnd _
  have hval : ∀ (j : Nat) t v, Try.f8.params[j]? = some t → args[j]? = some v → Value.okWide Try.prog W .any base t v := hval0
  have hW' := hW
  obtain ⟨p, q, hA0, hV, rfl, hfz, hnd⟩ := hW
  have hA : DataW.TrodAll enc Try.prog W 0 (fun _ => true) true Try.f8.params.toList args.toList ds p := hA0
  rw [Try.params8] at hA hval
  obtain ⟨v0, vs0, d0, ds0, p0, q0, hargs, rfl, rfl, h0, r0⟩ := trodAll_cons hA
  obtain ⟨v1, vs1, d1, ds1, p1, q1, rfl, rfl, rfl, h1, r1⟩ := trodAll_cons r0
  obtain ⟨rfl, rfl, rfl⟩ := trodAll_nil r1
  obtain rfl : args = #[v0, v1] := by cases args; simp_all
  obtain ⟨rfl, rfl⟩ := trodVars_none hV
  have k0 := h0
  have lt0 : ∀ x ∈ p0, x.block < W.heap.size := by obtain ⟨m, hm⟩ := k0; exact DataW.trod_lt m _ _ _ hm
  obtain ⟨f00, f01, f02, y00, y01, y02, m0, rfl, rfl, rfl, t00, t01, t02⟩ := open_agg3 Try.underlying39 (by kernel_rfl) (by kernel_rfl) (hval 0 39 v0 rfl rfl) h0
  obtain ⟨a00, e00, -, w00⟩ := DataW.trod_int Try.underlying3 t00
  obtain rfl : f00 = .int .i64 a00 := by simpa using e00
  obtain ⟨a01, e01, -, w01⟩ := DataW.trod_int Try.underlying3 t01
  obtain rfl : f01 = .int .i64 a01 := by simpa using e01
  obtain ⟨a02, e02, -, w02⟩ := DataW.trod_int Try.underlying3 t02
  obtain rfl : f02 = .int .i64 a02 := by simpa using e02
  have k1 := h1
  have lt1 : ∀ x ∈ p1, x.block < W.heap.size := by obtain ⟨m, hm⟩ := k1; exact DataW.trod_lt m _ _ _ hm
  obtain ⟨f10, f11, f12, y10, y11, y12, m1, rfl, rfl, rfl, t10, t11, t12⟩ := open_agg3 Try.underlying39 (by kernel_rfl) (by kernel_rfl) (hval 1 39 v1 rfl rfl) h1
  obtain ⟨a10, e10, -, w10⟩ := DataW.trod_int Try.underlying3 t10
  obtain rfl : f10 = .int .i64 a10 := by simpa using e10
  obtain ⟨a11, e11, -, w11⟩ := DataW.trod_int Try.underlying3 t11
  obtain rfl : f11 = .int .i64 a11 := by simpa using e11
  obtain ⟨a12, e12, -, w12⟩ := DataW.trod_int Try.underlying3 t12
  obtain rfl : f12 = .int .i64 a12 := by simpa using e12
  clear hA0 hval0
  refine (walk a00 a01 a02 a10 a11 a12 w00 w01 w02 w10 w11 w12 W).mono fun e W' ⟨he, bel⟩ => ?_
  subst he
  exact ⟨_, rfl, _, _, _, [], _, [], hW', trodAll_mk1 (shut_bool Try.underlying4 _), (trodAll_cons_mk (Below.trod laidOut (by kernel_rfl) (of_decide_eq_true (by kernel_rfl)) k0 bel lt0) (trodAll_cons_mk (Below.trod laidOut (by kernel_rfl) (of_decide_eq_true (by kernel_rfl)) k1 bel lt1) trodAll_mk0)), rfl, bel.frame _, fun h => by cases h⟩

theorem over : Rows.fnExactFrameDistanceRow.holds Try.pinned (OpenSpec.ofChange Rows.fnExactFrameDistanceSpec) :=
  OpenClaim.holds_of_wide 8 Try.f8 rfl rfl rfl rfl rfl rfl rfl ⟨rfl, rfl, rfl, rfl, rfl⟩ rfl rfl rfl rfl rfl (by kernel_rfl) Try.func8 (by kernel_rfl)
    (of_decide_eq_true (by kernel_rfl)) (by unfold Func.isWrapper; first | (rw [if_pos (by decide +kernel)]; kernel_rfl) | (rw [if_neg (by decide +kernel)]; exact ⟨rfl, rfl⟩))
    (fun os started H enc _ => lifted os started H enc)

theorem proved : Rows.FnExactFrameDistanceSaid :=
  over
#print axioms proved
end Go.Proofs.Ytpjpdfannnafbaa.fnExactFrameDistance
