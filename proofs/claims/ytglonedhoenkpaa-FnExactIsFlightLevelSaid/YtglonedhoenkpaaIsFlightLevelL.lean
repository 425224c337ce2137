/- For every int the law FnExactIsFlightLevel returns true: impl.IsFlightLevel and spec.IsFlightLevel both tell whether it is a flight level. No condition. -/
import Derived.Test.YtglonedhoenkpaaRows
import Derived.Test.YtglonedhoenkpaaLvlS
import Derived.Test.YtglonedhoenkpaaLvlA
import Derived.Test.YtglonedhoenkpaaIntC
import Derived.Test.YtglonedhoenkpaaLstO
import Derived.Test.YtglonedhoenkpaaLvlE
import Derived.WalkKit
import Derived.ProofKit
import Derived.OpenShut
import Derived.ShutString
import Derived.ChangeOld
import Derived.Below
import Derived.Lib.SmallJoins
import Derived.Lib.QuietBelow
import Derived.Deep.RegionHeld3
import Derived.Deep.CutRange
namespace Go.Proofs.Ytglonedhoenkpaa.fnExactIsFlightLevel
open Go.ChangeShapes Go.WideShapes Go.ChangeAt Go.RowKit Go.Joins Go.Proofs.Ytglonedhoenkpaa.ats Go.Proofs.Ytglonedhoenkpaa.ints Go.Proofs.Ytglonedhoenkpaa.lst Go.Proofs.Ytglonedhoenkpaa.intc Go.Proofs.Ytglonedhoenkpaa.code_
open Go.ChangeMaps (open_string shut_string)
set_option linter.unusedVariables false

theorem bool_ne_self (b : Bool) : (b != b) = false := by simp
theorem int_ne_self (x : Int) : (x != x) = false := by simp

/-- The function f returns this. -/
def Gives (f : Nat) (a0 : Int) (O0 : Bool) : Prop := ∀ (w : World), 
  Calls Try.prog f #[.int .i64 a0] w fun e w' => e = .returned (.bool O0) ∧ Below w.heap.size w w'

set_option maxRecDepth 100000 in
set_option maxHeartbeats 8000000 in
theorem law_of (a0 : Int) (O0 : Bool) (w : World)
    (hs : Gives 41 a0 O0) (hi : Gives 32 a0 O0) :
    Calls Try.prog 5 #[.int .i64 a0] w fun e w' => e = .returned (.bool true) ∧ Below w.heap.size w w' := by
  have HS := Lib.hid (fun (w : World) => hs w)
  have HI := Lib.hid (fun (w : World) => hi w)
  have ne0 := bool_ne_self O0
  clear hs hi
  go_enter Try.func5, Try.ntmps5
  have AN1 := Lib.hid (Below.refl w.heap.size w)
  go_wp2_with fail
  refine (HS.out  w  ).mono ?_
  rintro e V2 ⟨rfl, h3⟩
  have AN5 := Lib.hid (AN1.out.trans (h3.mono AN1.out.size))
  clear AN1
  clear h3
  have LE6 := Lib.hid AN5.out.size
  go_wp2_with fail
  refine (HI.out  V2  ).mono ?_
  rintro e V7 ⟨rfl, h8⟩
  have AN10 := Lib.hid (AN5.out.trans (h8.mono AN5.out.size))
  clear AN5
  clear h8
  go_wp2_with fail
  go_ret
  exact ⟨rfl, AN10.out⟩

set_option maxRecDepth 100000 in
theorem walk (a0 : Int) (w : World) (w0 : (Lit.int .i64 a0).wf = true) :
    Calls Try.prog 5 #[.int .i64 a0] w fun e w' => e = .returned (.bool true) ∧ Below w.heap.size w w' := by
  exact law_of a0 (lvl.lvB a0) w
    (fun w => (lvls.isFlightLevel a0 w).mono fun e w' h => ⟨h.1, by rw [← h.2]; exact Below.refl _ _⟩)
    (fun w => (lvla.isFlightLevel a0 w).mono fun e w' h => ⟨h.1, by rw [← h.2]; exact Below.refl _ _⟩)


theorem own : ownKnob Try.prog.godebug = none := by kernel_rfl
theorem laidOut : laidOutB Try.prog = true := by kernel_rfl

set_option maxRecDepth 100000 in
theorem lifted (os : Os) (started : os.Started) (H : Type) (enc : TypeId × Value → H) :
    ReturnsInHanded {} Try.checked os 5 .any (Rows.fnExactIsFlightLevelSpec.pre6 enc Try.prog Try.f5 Rows.fnExactIsFlightLevelRow.domain false) (Rows.fnExactIsFlightLevelSpec.post enc Try.prog Try.f5 false true false false) := by
  refine returnsInHanded_of_change (C := Try.checked) own started (by kernel_rfl) Try.func5
    (ChangeSpec.witness6 (enc := enc) (C := Try.checked) false ⟨#[], #[.int .i64 0], []⟩ 8 (by kernel_rfl) (by kernel_rfl) (by kernel_rfl) (by kernel_rfl)) ?_
  intro W base args ds gs before hval0 hW hcnd _
  have hval : ∀ (j : Nat) t v, Try.f5.params[j]? = some t → args[j]? = some v → Value.okWide Try.prog W .any base t v := hval0
  have hW' := hW
  obtain ⟨p, q, hA0, hV, rfl, hfz, hnd⟩ := hW
  have hA : DataW.TrodAll enc Try.prog W 0 (fun _ => true) true Try.f5.params.toList args.toList ds p := hA0
  rw [Try.params5] at hA hval
  obtain ⟨v0, vs0, d0, ds0, p0, q0, hargs, rfl, rfl, h0, r0⟩ := trodAll_cons hA
  obtain ⟨rfl, rfl, rfl⟩ := trodAll_nil r0
  obtain rfl : args = #[v0] := by cases args; simp_all
  obtain ⟨rfl, rfl⟩ := trodVars_none hV
  obtain ⟨a0, rfl, rfl, rfl, w0⟩ := open_int Try.underlying3 (hval 0 3 v0 rfl rfl) h0
  clear hA0 hval0
  refine (walk a0 W w0).mono fun e W' ⟨he, bel⟩ => ?_
  subst he
  exact ⟨_, rfl, _, _, _, [], _, [], hW', trodAll_mk1 (shut_bool Try.underlying4 _), (trodAll_cons_mk (shut_int Try.underlying3 w0) trodAll_mk0), rfl, bel.frame _, fun h => by cases h⟩

theorem over : Rows.fnExactIsFlightLevelRow.holds Try.pinned (OpenSpec.ofChange Rows.fnExactIsFlightLevelSpec) :=
  OpenClaim.holds_of_wide 5 Try.f5 rfl rfl rfl rfl rfl rfl rfl ⟨rfl, rfl, rfl, rfl, rfl⟩ rfl rfl rfl rfl rfl (by kernel_rfl) Try.func5 (by kernel_rfl)
    (of_decide_eq_true (by kernel_rfl)) (by unfold Func.isWrapper; first | (rw [if_pos (by decide +kernel)]; kernel_rfl) | (rw [if_neg (by decide +kernel)]; exact ⟨rfl, rfl⟩))
    (fun os started H enc _ => lifted os started H enc)

theorem proved : Rows.FnExactIsFlightLevelSaid :=
  over
#print axioms proved
end Go.Proofs.Ytglonedhoenkpaa.fnExactIsFlightLevel
