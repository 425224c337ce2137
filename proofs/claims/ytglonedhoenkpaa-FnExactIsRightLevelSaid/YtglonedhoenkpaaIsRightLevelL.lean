/- For every velocity and every int the law FnExactIsRightLevel returns true: impl.IsRightLevel and spec.IsRightLevel return the same answer and true, or both false and false. No condition. -/
import Derived.Test.YtglonedhoenkpaaRows
import Derived.Test.YtglonedhoenkpaaLvlS
import Derived.Test.YtglonedhoenkpaaLvlA
import Derived.Test.YtglonedhoenkpaaVelX
import Derived.Test.YtglonedhoenkpaaIntC
import Derived.Test.YtglonedhoenkpaaLstO
import Derived.Test.YtglonedhoenkpaaLvlE
import Derived.WalkKit
import Derived.ProofKit
import Derived.OpenShut
import Derived.ShutString
import Derived.ChangeOld
import Derived.Below
import Derived.Lib.SmallJoins
import Derived.Lib.QuietBelow
import Derived.Deep.RegionHeld3
import Derived.Deep.CutRange
namespace Go.Proofs.Ytglonedhoenkpaa.fnExactIsRightLevel
open Go.ChangeShapes Go.WideShapes Go.ChangeAt Go.RowKit Go.Joins Go.Proofs.Ytglonedhoenkpaa.ats Go.Proofs.Ytglonedhoenkpaa.ints Go.Proofs.Ytglonedhoenkpaa.lst Go.Proofs.Ytglonedhoenkpaa.intc Go.Proofs.Ytglonedhoenkpaa.code_
open Go.ChangeMaps (open_string shut_string)
set_option linter.unusedVariables false

theorem bool_ne_self (b : Bool) : (b != b) = false := by simp
theorem int_ne_self (x : Int) : (x != x) = false := by simp

/-- The function f returns this. -/
def Gives (f : Nat) (a00 : Int) (a01 : Int) (a1 : Int) (O0 : Bool) (O1 : Bool) : Prop := ∀ (w : World), 
  Calls Try.prog f #[.agg #[.int .i64 a00, .int .i64 a01], .int .i64 a1] w fun e w' => e = .returned (.tuple #[.bool O0, .bool O1]) ∧ Below w.heap.size w w'

set_option maxRecDepth 100000 in
set_option maxHeartbeats 8000000 in
theorem law_of (a00 : Int) (a01 : Int) (a1 : Int) (O0 : Bool) (O1 : Bool) (w : World)
    (hs : Gives 40 a00 a01 a1 O0 O1) (hi : Gives 37 a00 a01 a1 O0 O1) :
    Calls Try.prog 6 #[.agg #[.int .i64 a00, .int .i64 a01], .int .i64 a1] w fun e w' => e = .returned (.bool true) ∧ Below w.heap.size w w' := by
  have HS := Lib.hid (fun (w : World) => hs w)
  have HI := Lib.hid (fun (w : World) => hi w)
  have ne0 := bool_ne_self O0
  have ne1 := bool_ne_self O1
  clear hs hi
  have BX0 := Lib.hid (newS 60 #[.int .i64 a00, .int .i64 a01] w)
  go_enter Try.func6, Try.ntmps6
  go_wp2_with fail
  generalize (w.alloc (.cells #[.int .i64 a00, .int .i64 a01] 60)) = W0 at *
  have AN1 := Lib.hid (BX0.out.1)
  have AN2 := Lib.hid (Below.refl W0.heap.size W0)
  refine (velx.toVelocity a00 a01 W0).mono ?_
  rintro e V3 ⟨rfl, h4⟩
  have AN5 := Lib.hid (AN1.out.trans (h4.mono AN1.out.size))
  clear AN1
  have AN6 := Lib.hid (AN2.out.trans (h4.mono AN2.out.size))
  clear AN2
  clear h4
  go_wp2_with fail
  refine (HS.out  V3  ).mono ?_
  rintro e V7 ⟨rfl, h8⟩
  have AN10 := Lib.hid (AN5.out.trans (h8.mono AN5.out.size))
  clear AN5
  have AN11 := Lib.hid (AN6.out.trans (h8.mono AN6.out.size))
  clear AN6
  clear h8
  have S12 := Lib.hid (BX0.out.old AN11.out)
  have c13 : V7.cell? ⟨w.heap.size, 0, none⟩ = some (.int .i64 a00) := S12.out.cell 0
  have c14 : V7.cell? ⟨w.heap.size, 1, none⟩ = some (.int .i64 a01) := S12.out.cell 1
  go_wp2_with fail
  clear c13 c14 S12
  refine (velx.toVelocity a00 a01 V7).mono ?_
  rintro e V15 ⟨rfl, h16⟩
  have AN17 := Lib.hid (AN10.out.trans (h16.mono AN10.out.size))
  clear AN10
  have AN18 := Lib.hid (AN11.out.trans (h16.mono AN11.out.size))
  clear AN11
  clear h16
  have LE19 := Lib.hid AN17.out.size
  have LE20 := Lib.hid AN18.out.size
  go_wp2_with fail
  refine (HI.out  V15  ).mono ?_
  rintro e V21 ⟨rfl, h22⟩
  have AN24 := Lib.hid (AN17.out.trans (h22.mono AN17.out.size))
  clear AN17
  have AN25 := Lib.hid (AN18.out.trans (h22.mono AN18.out.size))
  clear AN18
  clear h22
  go_wp2_with fail
  go_ret
  exact ⟨rfl, AN24.out⟩

set_option maxRecDepth 100000 in
theorem walk (a00 : Int) (a01 : Int) (a1 : Int) (w : World) (w00 : (Lit.int .i64 a00).wf = true) (w01 : (Lit.int .i64 a01).wf = true) (w1 : (Lit.int .i64 a1).wf = true) :
    Calls Try.prog 6 #[.agg #[.int .i64 a00, .int .i64 a01], .int .i64 a1] w fun e w' => e = .returned (.bool true) ∧ Below w.heap.size w w' := by
  exact law_of a00 a01 a1 (lvl.rtV a00 a01 a1) (lvl.rtO a00 a01 a1) w
    (fun w => lvls.isRightLevel a00 a01 a1 w)
    (fun w => lvla.isRightLevel a00 a01 a1 w)


theorem own : ownKnob Try.prog.godebug = none := by kernel_rfl
theorem laidOut : laidOutB Try.prog = true := by kernel_rfl

set_option maxRecDepth 100000 in
theorem lifted (os : Os) (started : os.Started) (H : Type) (enc : TypeId × Value → H) :
    ReturnsInHanded {} Try.checked os 6 .any (Rows.fnExactIsRightLevelSpec.pre6 enc Try.prog Try.f6 Rows.fnExactIsRightLevelRow.domain false) (Rows.fnExactIsRightLevelSpec.post enc Try.prog Try.f6 false true false false) := by
  refine returnsInHanded_of_change (C := Try.checked) own started (by kernel_rfl) Try.func6
    (ChangeSpec.witness6 (enc := enc) (C := Try.checked) false ⟨#[], #[.agg #[.int .i64 0, .int .i64 0], .int .i64 0], []⟩ 8 (by kernel_rfl) (by kernel_rfl) (by kernel_rfl) (by kernel_rfl)) ?_
  intro W base args ds gs before hval0 hW hcnd _
  have hval : ∀ (j : Nat) t v, Try.f6.params[j]? = some t → args[j]? = some v → Value.okWide Try.prog W .any base t v := hval0
  have hW' := hW
  obtain ⟨p, q, hA0, hV, rfl, hfz, hnd⟩ := hW
  have hA : DataW.TrodAll enc Try.prog W 0 (fun _ => true) true Try.f6.params.toList args.toList ds p := hA0
  rw [Try.params6] at hA hval
  obtain ⟨v0, vs0, d0, ds0, p0, q0, hargs, rfl, rfl, h0, r0⟩ := trodAll_cons hA
  obtain ⟨v1, vs1, d1, ds1, p1, q1, rfl, rfl, rfl, h1, r1⟩ := trodAll_cons r0
  obtain ⟨rfl, rfl, rfl⟩ := trodAll_nil r1
  obtain rfl : args = #[v0, v1] := by cases args; simp_all
  obtain ⟨rfl, rfl⟩ := trodVars_none hV
  have k0 := h0
  have lt0 : ∀ x ∈ p0, x.block < W.heap.size := by obtain ⟨m, hm⟩ := k0; exact DataW.trod_lt m _ _ _ hm
  obtain ⟨f00, f01, y00, y01, m0, rfl, rfl, rfl, t00, t01⟩ := open_agg2 Try.underlying60 (by kernel_rfl) (by kernel_rfl) (hval 0 60 v0 rfl rfl) h0
  obtain ⟨a00, e00, -, w00⟩ := DataW.trod_int Try.underlying3 t00
  obtain rfl : f00 = .int .i64 a00 := by simpa using e00
  obtain ⟨a01, e01, -, w01⟩ := DataW.trod_int Try.underlying3 t01
  obtain rfl : f01 = .int .i64 a01 := by simpa using e01
  obtain ⟨a1, rfl, rfl, rfl, w1⟩ := open_int Try.underlying3 (hval 1 3 v1 rfl rfl) h1
  clear hA0 hval0
  refine (walk a00 a01 a1 W w00 w01 w1).mono fun e W' ⟨he, bel⟩ => ?_
  subst he
  exact ⟨_, rfl, _, _, _, [], _, [], hW', trodAll_mk1 (shut_bool Try.underlying4 _), (trodAll_cons_mk (Below.trod laidOut (by kernel_rfl) (of_decide_eq_true (by kernel_rfl)) k0 bel lt0) (trodAll_cons_mk (shut_int Try.underlying3 w1) trodAll_mk0)), rfl, bel.frame _, fun h => by cases h⟩

theorem over : Rows.fnExactIsRightLevelRow.holds Try.pinned (OpenSpec.ofChange Rows.fnExactIsRightLevelSpec) :=
  OpenClaim.holds_of_wide 6 Try.f6 rfl rfl rfl rfl rfl rfl rfl ⟨rfl, rfl, rfl, rfl, rfl⟩ rfl rfl rfl rfl rfl (by kernel_rfl) Try.func6 (by kernel_rfl)
    (of_decide_eq_true (by kernel_rfl)) (by unfold Func.isWrapper; first | (rw [if_pos (by decide +kernel)]; kernel_rfl) | (rw [if_neg (by decide +kernel)]; exact ⟨rfl, rfl⟩))
    (fun os started H enc _ => lifted os started H enc)

theorem proved : Rows.FnExactIsRightLevelSaid :=
  over
#print axioms proved
end Go.Proofs.Ytglonedhoenkpaa.fnExactIsRightLevel
