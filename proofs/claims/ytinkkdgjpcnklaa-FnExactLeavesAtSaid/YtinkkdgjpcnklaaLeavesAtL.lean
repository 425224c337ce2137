/- For every motion the law FnExactLeavesAt returns true: impl.LeavesAt and spec.LeavesAt return the same minute and true, or 0 and false. No condition. -/
import Derived.Test.YtinkkdgjpcnklaaRows
import Derived.Test.YtinkkdgjpcnklaaMotC
import Derived.Test.YtinkkdgjpcnklaaMotS
import Derived.Test.YtinkkdgjpcnklaaMotX
import Derived.Test.YtinkkdgjpcnklaaMotO
import Derived.Test.YtinkkdgjpcnklaaPosX
import Derived.WalkKit
import Derived.ProofKit
import Derived.OpenShut
import Derived.ShutString
import Derived.ChangeOld
import Derived.Below
import Derived.Lib.SmallJoins
import Derived.Lib.QuietBelow
import Derived.Deep.RegionHeld3
import Derived.Deep.CutRange
namespace Go.Proofs.Ytinkkdgjpcnklaa.fnExactLeavesAt
open Go.ChangeShapes Go.WideShapes Go.ChangeAt Go.RowKit Go.Joins Go.Proofs.Ytinkkdgjpcnklaa.ats
open Go.ChangeMaps (open_string shut_string)
set_option linter.unusedVariables false

theorem bool_ne_self (b : Bool) : (b != b) = false := by simp
theorem int_ne_self (x : Int) : (x != x) = false := by simp

set_option maxRecDepth 100000 in
set_option maxHeartbeats 4000000 in
theorem walk (a00 : Int) (a01 : Int) (a02 : Int) (a03 : Int) (a04 : Int) (a05 : Int) (w00 : (Lit.int .i64 a00).wf = true) (w01 : (Lit.int .i64 a01).wf = true) (w02 : (Lit.int .i64 a02).wf = true) (w03 : (Lit.int .i64 a03).wf = true) (w04 : (Lit.int .i64 a04).wf = true) (w05 : (Lit.int .i64 a05).wf = true) (w : World) :
    Calls Try.prog 13 #[.agg #[.int .i64 a00, .int .i64 a01, .int .i64 a02, .int .i64 a03, .int .i64 a04, .int .i64 a05]] w fun e w' => e = .returned (.bool true) ∧ Below w.heap.size w w' := by
  have n00 := bounds_i64 w00
  have n01 := bounds_i64 w01
  have n02 := bounds_i64 w02
  have n03 := bounds_i64 w03
  have n04 := bounds_i64 w04
  have n05 := bounds_i64 w05
  have hs := Lib.hid (fun w => mots.leavesAt a00 a01 a02 a03 a04 a05 w)
  have hi := Lib.hid (fun w => motc.leavesAt a00 a01 a02 a03 a04 a05 w)
  have ne0 := int_ne_self ((mot.lvV a00 a01 a02 a03 a04 a05 : Int))
  have ne1 := bool_ne_self (mot.lvB a00 a01 a02 a03 a04 a05)
  clear w00 w01 w02 w03 w04 w05 n00 n01 n02 n03 n04 n05
  generalize (mot.lvV a00 a01 a02 a03 a04 a05 : Int) = x0 at *
  generalize mot.lvB a00 a01 a02 a03 a04 a05 = x1 at *
  have HB0 := Lib.hid (Below.refl w.heap.size w)
  go_enter Try.func13, Try.ntmps13
  have Aa1 := Lib.hid (newS 51 #[.int .i64 a00, .int .i64 a01, .int .i64 a02, .int .i64 a03, .int .i64 a04, .int .i64 a05] w)
  have HB1a := Lib.hid (HB0.out.alloc HB0.out.size (.cells #[.int .i64 a00, .int .i64 a01, .int .i64 a02, .int .i64 a03, .int .i64 a04, .int .i64 a05] 51))
  clear HB0
  go_wp2_with fail
  generalize (w.alloc (.cells #[.int .i64 a00, .int .i64 a01, .int .i64 a02, .int .i64 a03, .int .i64 a04, .int .i64 a05] 51)) = V2 at *
  refine (motx.toMotion a00 a01 a02 a03 a04 a05 V2).mono ?_
  rintro e V3 ⟨rfl, h3⟩
  have HB3 := Lib.hid (HB1a.out.trans (h3.mono HB1a.out.size))
  have Aa3 := Lib.hid (Aa1.out.old h3)
  clear HB1a Aa1 h3
  go_wp2_with fail
  refine (hs.out V3).mono ?_
  rintro e V4 ⟨rfl, h4⟩
  have HB4 := Lib.hid (HB3.out.trans (h4.mono HB3.out.size))
  have Aa4 := Lib.hid (Aa3.out.old h4)
  clear HB3 Aa3 h4
  have aa0_ : V4.cell? ⟨w.heap.size, 0, none⟩ = some (.int .i64 a00) := Aa4.out.cell 0
  have aa1_ : V4.cell? ⟨w.heap.size, 1, none⟩ = some (.int .i64 a01) := Aa4.out.cell 1
  have aa2_ : V4.cell? ⟨w.heap.size, 2, none⟩ = some (.int .i64 a02) := Aa4.out.cell 2
  have aa3_ : V4.cell? ⟨w.heap.size, 3, none⟩ = some (.int .i64 a03) := Aa4.out.cell 3
  have aa4_ : V4.cell? ⟨w.heap.size, 4, none⟩ = some (.int .i64 a04) := Aa4.out.cell 4
  have aa5_ : V4.cell? ⟨w.heap.size, 5, none⟩ = some (.int .i64 a05) := Aa4.out.cell 5
  have aalt_ := Aa4.out.2.2.1
  go_wp2_with fail
  clear aa0_ aa1_ aa2_ aa3_ aa4_ aa5_ aalt_
  refine (motx.toMotion a00 a01 a02 a03 a04 a05 V4).mono ?_
  rintro e V5 ⟨rfl, h5⟩
  have HB5 := Lib.hid (HB4.out.trans (h5.mono HB4.out.size))
  have Aa5 := Lib.hid (Aa4.out.old h5)
  clear HB4 Aa4 h5
  go_wp2_with fail
  refine (hi.out V5).mono ?_
  rintro e V6 ⟨rfl, h6⟩
  have HB6 := Lib.hid (HB5.out.trans (h6.mono HB5.out.size))
  have Aa6 := Lib.hid (Aa5.out.old h6)
  clear HB5 Aa5 h6
  go_wp2_with fail
  go_ret
  exact ⟨rfl, HB6.out⟩


theorem own : ownKnob Try.prog.godebug = none := by kernel_rfl
theorem laidOut : laidOutB Try.prog = true := by kernel_rfl

set_option maxRecDepth 100000 in
theorem lifted (os : Os) (started : os.Started) (H : Type) (enc : TypeId × Value → H) :
    ReturnsInHanded {} Try.checked os 13 .any (Rows.fnExactLeavesAtSpec.pre6 enc Try.prog Try.f13 Rows.fnExactLeavesAtRow.domain false) (Rows.fnExactLeavesAtSpec.post enc Try.prog Try.f13 false true false false) := by
  refine returnsInHanded_of_change (C := Try.checked) own started (by kernel_rfl) Try.func13
    (ChangeSpec.witness6 (enc := enc) (C := Try.checked) false ⟨#[], #[.agg #[.int .i64 0, .int .i64 0, .int .i64 0, .int .i64 0, .int .i64 0, .int .i64 0]], []⟩ 8 (by kernel_rfl) (by kernel_rfl) (by kernel_rfl) (by kernel_rfl)) ?_
  intro W base args ds gs before hval0 hW hcnd _
  have hval : ∀ (j : Nat) t v, Try.f13.params[j]? = some t → args[j]? = some v → Value.okWide Try.prog W .any base t v := hval0
  have hW' := hW
  obtain ⟨p, q, hA0, hV, rfl, hfz, hnd⟩ := hW
  have hA : DataW.TrodAll enc Try.prog W 0 (fun _ => true) true Try.f13.params.toList args.toList ds p := hA0
  rw [Try.params13] at hA hval
  obtain ⟨v0, vs0, d0, ds0, p0, q0, hargs, rfl, rfl, h0, r0⟩ := trodAll_cons hA
  obtain ⟨rfl, rfl, rfl⟩ := trodAll_nil r0
  obtain rfl : args = #[v0] := by cases args; simp_all
  obtain ⟨rfl, rfl⟩ := trodVars_none hV
  have k0 := h0
  have lt0 : ∀ x ∈ p0, x.block < W.heap.size := by obtain ⟨m, hm⟩ := k0; exact DataW.trod_lt m _ _ _ hm
  obtain ⟨a00, a01, a02, a03, a04, a05, rfl, w00, w01, w02, w03, w04, w05⟩ := moto.open_motion (hval 0 51 v0 rfl rfl) h0
  clear hA0 hval0
  refine (walk a00 a01 a02 a03 a04 a05 w00 w01 w02 w03 w04 w05 W).mono fun e W' ⟨he, bel⟩ => ?_
  subst he
  exact ⟨_, rfl, _, _, _, [], _, [], hW', trodAll_mk1 (shut_bool Try.underlying4 _), (trodAll_cons_mk (Below.trod laidOut (by kernel_rfl) (of_decide_eq_true (by kernel_rfl)) k0 bel lt0) trodAll_mk0), rfl, bel.frame _, fun h => by cases h⟩

theorem over : Rows.fnExactLeavesAtRow.holds Try.pinned (OpenSpec.ofChange Rows.fnExactLeavesAtSpec) :=
  OpenClaim.holds_of_wide 13 Try.f13 rfl rfl rfl rfl rfl rfl rfl ⟨rfl, rfl, rfl, rfl, rfl⟩ rfl rfl rfl rfl rfl (by kernel_rfl) Try.func13 (by kernel_rfl)
    (of_decide_eq_true (by kernel_rfl)) (by unfold Func.isWrapper; first | (rw [if_pos (by decide +kernel)]; kernel_rfl) | (rw [if_neg (by decide +kernel)]; exact ⟨rfl, rfl⟩))
    (fun os started H enc _ => lifted os started H enc)

theorem proved : Rows.FnExactLeavesAtSaid :=
  over
#print axioms proved
end Go.Proofs.Ytinkkdgjpcnklaa.fnExactLeavesAt
