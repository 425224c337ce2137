/- For every motion and all other arguments the law FnExactHeightAt returns true: impl.HeightAt and spec.HeightAt return the same fraction and true, or 0, 0 and false. No condition. -/
import Derived.Test.YtinkkdgjpcnklaaRows
import Derived.Test.YtinkkdgjpcnklaaMotA
import Derived.Test.YtinkkdgjpcnklaaMotS
import Derived.Test.YtinkkdgjpcnklaaMotX
import Derived.Test.YtinkkdgjpcnklaaMotO
import Derived.Test.YtinkkdgjpcnklaaPosX
import Derived.WalkKit
import Derived.ProofKit
import Derived.OpenShut
import Derived.ShutString
import Derived.ChangeOld
import Derived.Below
import Derived.Lib.SmallJoins
import Derived.Lib.QuietBelow
import Derived.Deep.RegionHeld3
import Derived.Deep.CutRange
namespace Go.Proofs.Ytinkkdgjpcnklaa.fnExactHeightAt
open Go.ChangeShapes Go.WideShapes Go.ChangeAt Go.RowKit Go.Joins Go.Proofs.Ytinkkdgjpcnklaa.ats
open Go.ChangeMaps (open_string shut_string)
set_option linter.unusedVariables false

theorem bool_ne_self (b : Bool) : (b != b) = false := by simp
theorem int_ne_self (x : Int) : (x != x) = false := by simp

set_option maxRecDepth 100000 in
set_option maxHeartbeats 4000000 in
theorem walk (a00 : Int) (a01 : Int) (a02 : Int) (a03 : Int) (a04 : Int) (a05 : Int) (a1 : Int) (a2 : Int) (w00 : (Lit.int .i64 a00).wf = true) (w01 : (Lit.int .i64 a01).wf = true) (w02 : (Lit.int .i64 a02).wf = true) (w03 : (Lit.int .i64 a03).wf = true) (w04 : (Lit.int .i64 a04).wf = true) (w05 : (Lit.int .i64 a05).wf = true) (w1 : (Lit.int .i64 a1).wf = true) (w2 : (Lit.int .i64 a2).wf = true) (w : World) :
    Calls Try.prog 7 #[.agg #[.int .i64 a00, .int .i64 a01, .int .i64 a02, .int .i64 a03, .int .i64 a04, .int .i64 a05], .int .i64 a1, .int .i64 a2] w fun e w' => e = .returned (.bool true) ∧ Below w.heap.size w w' := by
  have n00 := bounds_i64 w00
  have n01 := bounds_i64 w01
  have n02 := bounds_i64 w02
  have n03 := bounds_i64 w03
  have n04 := bounds_i64 w04
  have n05 := bounds_i64 w05
  have n1 := bounds_i64 w1
  have n2 := bounds_i64 w2
  have hs := Lib.hid (fun w => mots.heightAt a00 a01 a02 a03 a04 a05 a1 a2 w)
  have hi := Lib.hid (fun w => mota.heightAt a00 a01 a02 a03 a04 a05 a1 a2 w)
  have ne0 := int_ne_self (mot.haN a00 a01 a02 a03 a04 a05 a1 a2)
  have ne1 := int_ne_self ((mot.haD a00 a01 a02 a03 a04 a05 a1 a2 : Int))
  have ne2 := bool_ne_self (mot.paB a00 a01 a02 a03 a04 a05 a1 a2)
  clear w00 w01 w02 w03 w04 w05 w1 w2 n00 n01 n02 n03 n04 n05 n1 n2
  generalize mot.haN a00 a01 a02 a03 a04 a05 a1 a2 = x0 at *
  generalize (mot.haD a00 a01 a02 a03 a04 a05 a1 a2 : Int) = x1 at *
  generalize mot.paB a00 a01 a02 a03 a04 a05 a1 a2 = x2 at *
  have HB0 := Lib.hid (Below.refl w.heap.size w)
  go_enter Try.func7, Try.ntmps7
  have Aa1 := Lib.hid (newS 51 #[.int .i64 a00, .int .i64 a01, .int .i64 a02, .int .i64 a03, .int .i64 a04, .int .i64 a05] w)
  have HB1a := Lib.hid (HB0.out.alloc HB0.out.size (.cells #[.int .i64 a00, .int .i64 a01, .int .i64 a02, .int .i64 a03, .int .i64 a04, .int .i64 a05] 51))
  clear HB0
  go_wp2_with fail
  generalize (w.alloc (.cells #[.int .i64 a00, .int .i64 a01, .int .i64 a02, .int .i64 a03, .int .i64 a04, .int .i64 a05] 51)) = V2 at *
  refine (motx.toMotion a00 a01 a02 a03 a04 a05 V2).mono ?_
  rintro e V3 ⟨rfl, h3⟩
  have HB3 := Lib.hid (HB1a.out.trans (h3.mono HB1a.out.size))
  have Aa3 := Lib.hid (Aa1.out.old h3)
  clear HB1a Aa1 h3
  go_wp2_with fail
  refine (hs.out V3).mono ?_
  rintro e V4 ⟨rfl, h4⟩
  have HB4 := Lib.hid (HB3.out.trans (h4.mono HB3.out.size))
  have Aa4 := Lib.hid (Aa3.out.old h4)
  clear HB3 Aa3 h4
  have aa0_ : V4.cell? ⟨w.heap.size, 0, none⟩ = some (.int .i64 a00) := Aa4.out.cell 0
  have aa1_ : V4.cell? ⟨w.heap.size, 1, none⟩ = some (.int .i64 a01) := Aa4.out.cell 1
  have aa2_ : V4.cell? ⟨w.heap.size, 2, none⟩ = some (.int .i64 a02) := Aa4.out.cell 2
  have aa3_ : V4.cell? ⟨w.heap.size, 3, none⟩ = some (.int .i64 a03) := Aa4.out.cell 3
  have aa4_ : V4.cell? ⟨w.heap.size, 4, none⟩ = some (.int .i64 a04) := Aa4.out.cell 4
  have aa5_ : V4.cell? ⟨w.heap.size, 5, none⟩ = some (.int .i64 a05) := Aa4.out.cell 5
  have aalt_ := Aa4.out.2.2.1
  go_wp2_with fail
  clear aa0_ aa1_ aa2_ aa3_ aa4_ aa5_ aalt_
  refine (motx.toMotion a00 a01 a02 a03 a04 a05 V4).mono ?_
  rintro e V5 ⟨rfl, h5⟩
  have HB5 := Lib.hid (HB4.out.trans (h5.mono HB4.out.size))
  have Aa5 := Lib.hid (Aa4.out.old h5)
  clear HB4 Aa4 h5
  go_wp2_with fail
  refine (hi.out V5).mono ?_
  rintro e V6 ⟨rfl, h6⟩
  have HB6 := Lib.hid (HB5.out.trans (h6.mono HB5.out.size))
  have Aa6 := Lib.hid (Aa5.out.old h6)
  clear HB5 Aa5 h6
  go_wp2_with fail
  go_ret
  exact ⟨rfl, HB6.out⟩


theorem own : ownKnob Try.prog.godebug = none := by kernel_rfl
theorem laidOut : laidOutB Try.prog = true := by kernel_rfl

set_option maxRecDepth 100000 in
theorem lifted (os : Os) (started : os.Started) (H : Type) (enc : TypeId × Value → H) :
    ReturnsInHanded {} Try.checked os 7 .any (Rows.fnExactHeightAtSpec.pre6 enc Try.prog Try.f7 Rows.fnExactHeightAtRow.domain false) (Rows.fnExactHeightAtSpec.post enc Try.prog Try.f7 false true false false) := by
  refine returnsInHanded_of_change (C := Try.checked) own started (by kernel_rfl) Try.func7
    (ChangeSpec.witness6 (enc := enc) (C := Try.checked) false ⟨#[], #[.agg #[.int .i64 0, .int .i64 0, .int .i64 0, .int .i64 0, .int .i64 0, .int .i64 0], .int .i64 0, .int .i64 0], []⟩ 8 (by kernel_rfl) (by kernel_rfl) (by kernel_rfl) (by kernel_rfl)) ?_
  intro W base args ds gs before hval0 hW hcnd _
  have hval : ∀ (j : Nat) t v, Try.f7.params[j]? = some t → args[j]? = some v → Value.okWide Try.prog W .any base t v := hval0
  have hW' := hW
  obtain ⟨p, q, hA0, hV, rfl, hfz, hnd⟩ := hW
  have hA : DataW.TrodAll enc Try.prog W 0 (fun _ => true) true Try.f7.params.toList args.toList ds p := hA0
  rw [Try.params7] at hA hval
  obtain ⟨v0, vs0, d0, ds0, p0, q0, hargs, rfl, rfl, h0, r0⟩ := trodAll_cons hA
  obtain ⟨v1, vs1, d1, ds1, p1, q1, rfl, rfl, rfl, h1, r1⟩ := trodAll_cons r0
  obtain ⟨v2, vs2, d2, ds2, p2, q2, rfl, rfl, rfl, h2, r2⟩ := trodAll_cons r1
  obtain ⟨rfl, rfl, rfl⟩ := trodAll_nil r2
  obtain rfl : args = #[v0, v1, v2] := by cases args; simp_all
  obtain ⟨rfl, rfl⟩ := trodVars_none hV
  have k0 := h0
  have lt0 : ∀ x ∈ p0, x.block < W.heap.size := by obtain ⟨m, hm⟩ := k0; exact DataW.trod_lt m _ _ _ hm
  obtain ⟨a00, a01, a02, a03, a04, a05, rfl, w00, w01, w02, w03, w04, w05⟩ := moto.open_motion (hval 0 51 v0 rfl rfl) h0
  obtain ⟨a1, rfl, rfl, rfl, w1⟩ := open_int Try.underlying3 (hval 1 3 v1 rfl rfl) h1
  obtain ⟨a2, rfl, rfl, rfl, w2⟩ := open_int Try.underlying3 (hval 2 3 v2 rfl rfl) h2
  clear hA0 hval0
  refine (walk a00 a01 a02 a03 a04 a05 a1 a2 w00 w01 w02 w03 w04 w05 w1 w2 W).mono fun e W' ⟨he, bel⟩ => ?_
  subst he
  exact ⟨_, rfl, _, _, _, [], _, [], hW', trodAll_mk1 (shut_bool Try.underlying4 _), (trodAll_cons_mk (Below.trod laidOut (by kernel_rfl) (of_decide_eq_true (by kernel_rfl)) k0 bel lt0) (trodAll_cons_mk (shut_int Try.underlying3 w1) (trodAll_cons_mk (shut_int Try.underlying3 w2) trodAll_mk0))), rfl, bel.frame _, fun h => by cases h⟩

theorem over : Rows.fnExactHeightAtRow.holds Try.pinned (OpenSpec.ofChange Rows.fnExactHeightAtSpec) :=
  OpenClaim.holds_of_wide 7 Try.f7 rfl rfl rfl rfl rfl rfl rfl ⟨rfl, rfl, rfl, rfl, rfl⟩ rfl rfl rfl rfl rfl (by kernel_rfl) Try.func7 (by kernel_rfl)
    (of_decide_eq_true (by kernel_rfl)) (by unfold Func.isWrapper; first | (rw [if_pos (by decide +kernel)]; kernel_rfl) | (rw [if_neg (by decide +kernel)]; exact ⟨rfl, rfl⟩))
    (fun os started H enc _ => lifted os started H enc)

theorem proved : Rows.FnExactHeightAtSaid :=
  over
#print axioms proved
end Go.Proofs.Ytinkkdgjpcnklaa.fnExactHeightAt
