/- For every place and bool the law FnExactReportOf returns true: impl.ReportOf and spec.ReportOf return the same report of the place, or both a zero report and false. No condition. -/
import Derived.Test.YtkmmogdiekillaaRows
import Derived.Test.YtkmmogdiekillaaPosK
import Derived.Test.YtkmmogdiekillaaPosT
import Derived.Test.YtkmmogdiekillaaPosX
import Derived.WalkKit
import Derived.ProofKit
import Derived.OpenShut
import Derived.ShutString
import Derived.ChangeOld
import Derived.Below
import Derived.Lib.SmallJoins
import Derived.Lib.QuietBelow
import Derived.Deep.RegionHeld3
import Derived.Deep.CutRange
namespace Go.Proofs.Ytkmmogdiekillaa.fnExactReportOf
open Go.ChangeShapes Go.WideShapes Go.ChangeAt Go.RowKit Go.Joins Go.Proofs.Ytkmmogdiekillaa.ats
open Go.ChangeMaps (open_string shut_string)
set_option linter.unusedVariables false

theorem bool_ne_self (b : Bool) : (b != b) = false := by simp
theorem int_ne_self (x : Int) : (x != x) = false := by simp

set_option maxRecDepth 100000 in
set_option maxHeartbeats 4000000 in
theorem walk (a00 : Int) (a01 : Int) (a1 : Bool) (w00 : (Lit.int .i64 a00).wf = true) (w01 : (Lit.int .i64 a01).wf = true) (w : World) :
    Calls Try.prog 7 #[.agg #[.int .i64 a00, .int .i64 a01], .bool a1] w fun e w' => e = .returned (.bool true) ∧ Below w.heap.size w w' := by
  have n00 := bounds_i64 w00
  have n01 := bounds_i64 w01
  have hs := Lib.hid (fun w => post.reportOf a00 a01 a1 w)
  have hi := Lib.hid (fun w => posk.reportOf a00 a01 a1 w)
  have ne1 := bool_ne_self (pos.pB a00 a01)
  clear w00 w01 n00 n01
  generalize pos.roO a00 a01 a1 = x0 at *
  generalize pos.roV a00 a01 a00 a1 = x1 at *
  generalize pos.roV a00 a01 a01 a1 = x2 at *
  generalize pos.pB a00 a01 = x3 at *
  have HB0 := Lib.hid (Below.refl w.heap.size w)
  go_enter Try.func7, Try.ntmps7
  have Aa1 := Lib.hid (newS 55 #[.int .i64 a00, .int .i64 a01] w)
  have HB1a := Lib.hid (HB0.out.alloc HB0.out.size (.cells #[.int .i64 a00, .int .i64 a01] 55))
  clear HB0
  go_wp2_with fail
  generalize (w.alloc (.cells #[.int .i64 a00, .int .i64 a01] 55)) = V2 at *
  refine (posx.toPlace a00 a01 V2).mono ?_
  rintro e V3 ⟨rfl, h3⟩
  have HB3 := Lib.hid (HB1a.out.trans (h3.mono HB1a.out.size))
  have Aa3 := Lib.hid (Aa1.out.old h3)
  clear HB1a Aa1 h3
  go_wp2_with fail
  refine (hs.out V3).mono ?_
  rintro e V4 ⟨rfl, h4⟩
  have HB4 := Lib.hid (HB3.out.trans (h4.mono HB3.out.size))
  have Aa4 := Lib.hid (Aa3.out.old h4)
  clear HB3 Aa3 h4
  have G5 := Lib.hid (newS 29 #[.bool x0, .int .i64 x1, .int .i64 x2] V4)
  have Aa5a := Lib.hid (Aa4.out.alloc (.cells #[.bool x0, .int .i64 x1, .int .i64 x2] 29))
  clear Aa4
  have HB5a := Lib.hid (HB4.out.alloc HB4.out.size (.cells #[.bool x0, .int .i64 x1, .int .i64 x2] 29))
  clear HB4
  have aa0_ : (V4.alloc (.cells #[.bool x0, .int .i64 x1, .int .i64 x2] 29)).cell? ⟨w.heap.size, 0, none⟩ = some (.int .i64 a00) := Aa5a.out.cell 0
  have aa1_ : (V4.alloc (.cells #[.bool x0, .int .i64 x1, .int .i64 x2] 29)).cell? ⟨w.heap.size, 1, none⟩ = some (.int .i64 a01) := Aa5a.out.cell 1
  have aalt_ := Aa5a.out.2.2.1
  go_wp2_with fail
  clear aa0_ aa1_ aalt_
  generalize (V4.alloc (.cells #[.bool x0, .int .i64 x1, .int .i64 x2] 29)) = V6 at *
  generalize V4.heap.size = b6 at *
  refine (posx.toPlace a00 a01 V6).mono ?_
  rintro e V7 ⟨rfl, h7⟩
  have HB7 := Lib.hid (HB5a.out.trans (h7.mono HB5a.out.size))
  have Aa7 := Lib.hid (Aa5a.out.old h7)
  have G7 := Lib.hid (G5.out.old h7)
  clear HB5a Aa5a G5 h7
  go_wp2_with fail
  refine (hi.out V7).mono ?_
  rintro e V8 ⟨rfl, h8⟩
  have HB8 := Lib.hid (HB7.out.trans (h8.mono HB7.out.size))
  have Aa8 := Lib.hid (Aa7.out.old h8)
  have G8 := Lib.hid (G7.out.old h8)
  clear HB7 Aa7 G7 h8
  have H9 := Lib.hid (newS 29 #[.bool x0, .int .i64 x1, .int .i64 x2] V8)
  have Aa9a := Lib.hid (Aa8.out.alloc (.cells #[.bool x0, .int .i64 x1, .int .i64 x2] 29))
  clear Aa8
  have G9a := Lib.hid (G8.out.alloc (.cells #[.bool x0, .int .i64 x1, .int .i64 x2] 29))
  clear G8
  have HB9a := Lib.hid (HB8.out.alloc HB8.out.size (.cells #[.bool x0, .int .i64 x1, .int .i64 x2] 29))
  clear HB8
  have g0_ : (V8.alloc (.cells #[.bool x0, .int .i64 x1, .int .i64 x2] 29)).cell? ⟨b6, 0, none⟩ = some (.bool x0) := G9a.out.cell 0
  have g1_ : (V8.alloc (.cells #[.bool x0, .int .i64 x1, .int .i64 x2] 29)).cell? ⟨b6, 1, none⟩ = some (.int .i64 x1) := G9a.out.cell 1
  have g2_ : (V8.alloc (.cells #[.bool x0, .int .i64 x1, .int .i64 x2] 29)).cell? ⟨b6, 2, none⟩ = some (.int .i64 x2) := G9a.out.cell 2
  have glt_ := G9a.out.2.2.1
  go_wp2_with fail
  clear g0_ g1_ g2_ glt_
  generalize (V8.alloc (.cells #[.bool x0, .int .i64 x1, .int .i64 x2] 29)) = V10 at *
  generalize V8.heap.size = b10 at *
  refine (posx.eqReport x0 x1 x2 V10).mono ?_
  rintro e V11 ⟨rfl, h11⟩
  have HB11 := Lib.hid (HB9a.out.trans (h11.mono HB9a.out.size))
  have Aa11 := Lib.hid (Aa9a.out.old h11)
  have G11 := Lib.hid (G9a.out.old h11)
  have H11 := Lib.hid (H9.out.old h11)
  clear HB9a Aa9a G9a H9 h11
  go_wp2_with fail
  go_ret
  exact ⟨rfl, HB11.out⟩


theorem own : ownKnob Try.prog.godebug = none := by kernel_rfl
theorem laidOut : laidOutB Try.prog = true := by kernel_rfl

set_option maxRecDepth 100000 in
theorem lifted (os : Os) (started : os.Started) (H : Type) (enc : TypeId × Value → H) :
    ReturnsInHanded {} Try.checked os 7 .any (Rows.fnExactReportOfSpec.pre6 enc Try.prog Try.f7 Rows.fnExactReportOfRow.domain false) (Rows.fnExactReportOfSpec.post enc Try.prog Try.f7 false true false false) := by
  refine returnsInHanded_of_change (C := Try.checked) own started (by kernel_rfl) Try.func7
    (ChangeSpec.witness6 (enc := enc) (C := Try.checked) false ⟨#[], #[.agg #[.int .i64 0, .int .i64 0], .bool false], []⟩ 8 (by kernel_rfl) (by kernel_rfl) (by kernel_rfl) (by kernel_rfl)) ?_
  intro W base args ds gs before hval0 hW hcnd _
  have hval : ∀ (j : Nat) t v, Try.f7.params[j]? = some t → args[j]? = some v → Value.okWide Try.prog W .any base t v := hval0
  have hW' := hW
  obtain ⟨p, q, hA0, hV, rfl, hfz, hnd⟩ := hW
  have hA : DataW.TrodAll enc Try.prog W 0 (fun _ => true) true Try.f7.params.toList args.toList ds p := hA0
  rw [Try.params7] at hA hval
  obtain ⟨v0, vs0, d0, ds0, p0, q0, hargs, rfl, rfl, h0, r0⟩ := trodAll_cons hA
  obtain ⟨v1, vs1, d1, ds1, p1, q1, rfl, rfl, rfl, h1, r1⟩ := trodAll_cons r0
  obtain ⟨rfl, rfl, rfl⟩ := trodAll_nil r1
  obtain rfl : args = #[v0, v1] := by cases args; simp_all
  obtain ⟨rfl, rfl⟩ := trodVars_none hV
  have k0 := h0
  have lt0 : ∀ x ∈ p0, x.block < W.heap.size := by obtain ⟨m, hm⟩ := k0; exact DataW.trod_lt m _ _ _ hm
  obtain ⟨f00, f01, y00, y01, m0, rfl, rfl, rfl, t00, t01⟩ := open_agg2 Try.underlying55 (by kernel_rfl) (by kernel_rfl) (hval 0 55 v0 rfl rfl) h0
  obtain ⟨a00, e00, -, w00⟩ := DataW.trod_int Try.underlying3 t00
  obtain rfl : f00 = .int .i64 a00 := by simpa using e00
  obtain ⟨a01, e01, -, w01⟩ := DataW.trod_int Try.underlying3 t01
  obtain rfl : f01 = .int .i64 a01 := by simpa using e01
  obtain ⟨a1, rfl, rfl, rfl⟩ := open_bool Try.underlying4 (hval 1 4 v1 rfl rfl) h1
  clear hA0 hval0
  refine (walk a00 a01 a1 w00 w01 W).mono fun e W' ⟨he, bel⟩ => ?_
  subst he
  exact ⟨_, rfl, _, _, _, [], _, [], hW', trodAll_mk1 (shut_bool Try.underlying4 _), (trodAll_cons_mk (Below.trod laidOut (by kernel_rfl) (of_decide_eq_true (by kernel_rfl)) k0 bel lt0) (trodAll_cons_mk (shut_bool Try.underlying4 a1) trodAll_mk0)), rfl, bel.frame _, fun h => by cases h⟩

theorem over : Rows.fnExactReportOfRow.holds Try.pinned (OpenSpec.ofChange Rows.fnExactReportOfSpec) :=
  OpenClaim.holds_of_wide 7 Try.f7 rfl rfl rfl rfl rfl rfl rfl ⟨rfl, rfl, rfl, rfl, rfl⟩ rfl rfl rfl rfl rfl (by kernel_rfl) Try.func7 (by kernel_rfl)
    (of_decide_eq_true (by kernel_rfl)) (by unfold Func.isWrapper; first | (rw [if_pos (by decide +kernel)]; kernel_rfl) | (rw [if_neg (by decide +kernel)]; exact ⟨rfl, rfl⟩))
    (fun os started H enc _ => lifted os started H enc)

theorem proved : Rows.FnExactReportOfSaid :=
  over
#print axioms proved
end Go.Proofs.Ytkmmogdiekillaa.fnExactReportOf
