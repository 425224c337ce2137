/- For every motion and every place the law FnExactNearestMinute returns true: impl.NearestMinute and spec.NearestMinute return the same minute and true, or 0 and false. No condition. -/
import Derived.Test.YtinkkdgjpcnklaaRows
import Derived.Test.YtinkkdgjpcnklaaMotC
import Derived.Test.YtinkkdgjpcnklaaMotS
import Derived.Test.YtinkkdgjpcnklaaMotX
import Derived.Test.YtinkkdgjpcnklaaMotO
import Derived.Test.YtinkkdgjpcnklaaIntC
import Derived.Test.YtinkkdgjpcnklaaLstO
import Derived.Test.YtinkkdgjpcnklaaPlcE
import Derived.WalkKit
import Derived.ProofKit
import Derived.OpenShut
import Derived.ShutString
import Derived.ChangeOld
import Derived.Below
import Derived.Lib.SmallJoins
import Derived.Lib.QuietBelow
import Derived.Deep.RegionHeld3
import Derived.Deep.CutRange
namespace Go.Proofs.Ytinkkdgjpcnklaa.fnExactNearestMinute
open Go.ChangeShapes Go.WideShapes Go.ChangeAt Go.RowKit Go.Joins Go.Proofs.Ytinkkdgjpcnklaa.ats Go.Proofs.Ytinkkdgjpcnklaa.ints Go.Proofs.Ytinkkdgjpcnklaa.lst Go.Proofs.Ytinkkdgjpcnklaa.intc Go.Proofs.Ytinkkdgjpcnklaa.code_
open Go.ChangeMaps (open_string shut_string)
set_option linter.unusedVariables false

theorem bool_ne_self (b : Bool) : (b != b) = false := by simp
theorem int_ne_self (x : Int) : (x != x) = false := by simp

/-- The function f returns this. -/
def Gives (f : Nat) (a00 : Int) (a01 : Int) (a02 : Int) (a03 : Int) (a04 : Int) (a05 : Int) (a10 : Int) (a11 : Int) (O0 : Int) (O1 : Bool) : Prop := ∀ (w : World), 
  Calls Try.prog f #[.agg #[.int .i64 a00, .int .i64 a01, .int .i64 a02, .int .i64 a03, .int .i64 a04, .int .i64 a05], .agg #[.int .i64 a10, .int .i64 a11]] w fun e w' => e = .returned (.tuple #[.int .i64 O0, .bool O1]) ∧ Below w.heap.size w w'

set_option maxRecDepth 100000 in
set_option maxHeartbeats 8000000 in
theorem law_of (a00 : Int) (a01 : Int) (a02 : Int) (a03 : Int) (a04 : Int) (a05 : Int) (a10 : Int) (a11 : Int) (O0 : Int) (O1 : Bool) (w : World)
    (hs : Gives 25 a00 a01 a02 a03 a04 a05 a10 a11 O0 O1) (hi : Gives 24 a00 a01 a02 a03 a04 a05 a10 a11 O0 O1) :
    Calls Try.prog 11 #[.agg #[.int .i64 a00, .int .i64 a01, .int .i64 a02, .int .i64 a03, .int .i64 a04, .int .i64 a05], .agg #[.int .i64 a10, .int .i64 a11]] w fun e w' => e = .returned (.bool true) ∧ Below w.heap.size w w' := by
  have HS := Lib.hid (fun (w : World) => hs w)
  have HI := Lib.hid (fun (w : World) => hi w)
  have ne0 := int_ne_self O0
  have ne1 := bool_ne_self O1
  clear hs hi
  have BX0 := Lib.hid ((newS 51 #[.int .i64 a00, .int .i64 a01, .int .i64 a02, .int .i64 a03, .int .i64 a04, .int .i64 a05] w).alloc (.cells #[.int .i64 a10, .int .i64 a11] 48))
  have BX1 := Lib.hid ((newS 51 #[.int .i64 a00, .int .i64 a01, .int .i64 a02, .int .i64 a03, .int .i64 a04, .int .i64 a05] w).next 48 #[.int .i64 a10, .int .i64 a11])
  rw [World.size_alloc] at BX1
  go_enter Try.func11, Try.ntmps11
  go_upto_region 1 with fail
  generalize ((w.alloc (.cells #[.int .i64 a00, .int .i64 a01, .int .i64 a02, .int .i64 a03, .int .i64 a04, .int .i64 a05] 51)).alloc (.cells #[.int .i64 a10, .int .i64 a11] 48)) = W0 at *
  have AN1 := Lib.hid (BX0.out.1)
  have AN2 := Lib.hid (Below.refl W0.heap.size W0)
  have CS3 := Lib.hid (show ∀ WZ : World, Below W0.heap.size W0 WZ → WZ.cell? ⟨w.heap.size, 0, none⟩ = some (.int .i64 a00) ∧ WZ.cell? ⟨w.heap.size, 1, none⟩ = some (.int .i64 a01) ∧ WZ.cell? ⟨w.heap.size, 2, none⟩ = some (.int .i64 a02) ∧ WZ.cell? ⟨w.heap.size, 3, none⟩ = some (.int .i64 a03) ∧ WZ.cell? ⟨w.heap.size, 4, none⟩ = some (.int .i64 a04) ∧ WZ.cell? ⟨w.heap.size, 5, none⟩ = some (.int .i64 a05) ∧ WZ.cell? ⟨w.heap.size + 1, 0, none⟩ = some (.int .i64 a10) ∧ WZ.cell? ⟨w.heap.size + 1, 1, none⟩ = some (.int .i64 a11) from fun WZ hz => And.intro (plce.at_cell (BX0.out.old (AN2.out.trans (hz.mono AN2.out.size))) 0 (.int .i64 a00) rfl) (And.intro (plce.at_cell (BX0.out.old (AN2.out.trans (hz.mono AN2.out.size))) 1 (.int .i64 a01) rfl) (And.intro (plce.at_cell (BX0.out.old (AN2.out.trans (hz.mono AN2.out.size))) 2 (.int .i64 a02) rfl) (And.intro (plce.at_cell (BX0.out.old (AN2.out.trans (hz.mono AN2.out.size))) 3 (.int .i64 a03) rfl) (And.intro (plce.at_cell (BX0.out.old (AN2.out.trans (hz.mono AN2.out.size))) 4 (.int .i64 a04) rfl) (And.intro (plce.at_cell (BX0.out.old (AN2.out.trans (hz.mono AN2.out.size))) 5 (.int .i64 a05) rfl) (And.intro (plce.at_cell (BX1.out.old (AN2.out.trans (hz.mono AN2.out.size))) 0 (.int .i64 a10) rfl) (plce.at_cell (BX1.out.old (AN2.out.trans (hz.mono AN2.out.size))) 1 (.int .i64 a11) rfl))))))))
  go_cut [5, 6] from 9 to 16 (fun p0 p1 wz => p0 = .int .i64 O0 ∧ p1 = .bool O1 ∧ Below W0.heap.size W0 wz)
  case first =>
    go_region_held3 (fun w' => w'.cell? ⟨w.heap.size, 0, none⟩ = some (.int .i64 a00) ∧ w'.cell? ⟨w.heap.size, 1, none⟩ = some (.int .i64 a01) ∧ w'.cell? ⟨w.heap.size, 2, none⟩ = some (.int .i64 a02) ∧ w'.cell? ⟨w.heap.size, 3, none⟩ = some (.int .i64 a03) ∧ w'.cell? ⟨w.heap.size, 4, none⟩ = some (.int .i64 a04) ∧ w'.cell? ⟨w.heap.size, 5, none⟩ = some (.int .i64 a05) ∧ w'.cell? ⟨w.heap.size + 1, 0, none⟩ = some (.int .i64 a10) ∧ w'.cell? ⟨w.heap.size + 1, 1, none⟩ = some (.int .i64 a11)) (first
      | exact CS3.out _ (Below.refl W0.heap.size W0).drew
      | exact CS3.out _ (by assumption)
      | go_keep) (first
      | (go_at_call 41; (with_reducible refine (motx.toMotion a00 a01 a02 a03 a04 a05 _).mono ?_); rintro e w0' ⟨rfl, hb⟩
         have hl0' := plce.bl_next (V := W0) (by first | exact (Below.refl W0.heap.size W0).drew | assumption) hb
         clear hb)
      | (go_at_call 42; (with_reducible refine (plce.toPlace a10 a11 _).mono ?_); rintro e w1' ⟨rfl, hb⟩
         have hl1' := plce.bl_next (V := W0) (by first | exact (Below.refl W0.heap.size W0).drew | assumption) hb
         clear hb)
      | (go_at_call 25; (with_reducible refine (HS.out  _  ).mono ?_); rintro e wF' ⟨rfl, hb⟩
         have hlF := plce.bl_next (V := W0) (by assumption) hb
         clear hb))
    all_goals (go_wp2_with fail; go_meet; exact ⟨rfl, rfl, by assumption⟩)
  case rest =>
    obtain ⟨rfl, rfl, h5⟩ := hcut
    generalize wc = V4 at *
    clear CS3
    have AN7 := Lib.hid (AN1.out.trans (h5.mono AN1.out.size))
    clear AN1
    have AN8 := Lib.hid (AN2.out.trans (h5.mono AN2.out.size))
    clear AN2
    clear h5
    have LE9 := Lib.hid AN7.out.size
    have LE10 := Lib.hid AN8.out.size
    go_upto_region 2 with fail
    have CS11 := Lib.hid (show ∀ WZ : World, Below V4.heap.size V4 WZ → WZ.cell? ⟨w.heap.size, 0, none⟩ = some (.int .i64 a00) ∧ WZ.cell? ⟨w.heap.size, 1, none⟩ = some (.int .i64 a01) ∧ WZ.cell? ⟨w.heap.size, 2, none⟩ = some (.int .i64 a02) ∧ WZ.cell? ⟨w.heap.size, 3, none⟩ = some (.int .i64 a03) ∧ WZ.cell? ⟨w.heap.size, 4, none⟩ = some (.int .i64 a04) ∧ WZ.cell? ⟨w.heap.size, 5, none⟩ = some (.int .i64 a05) ∧ WZ.cell? ⟨w.heap.size + 1, 0, none⟩ = some (.int .i64 a10) ∧ WZ.cell? ⟨w.heap.size + 1, 1, none⟩ = some (.int .i64 a11) from fun WZ hz => And.intro (plce.at_cell (BX0.out.old (AN8.out.trans (hz.mono AN8.out.size))) 0 (.int .i64 a00) rfl) (And.intro (plce.at_cell (BX0.out.old (AN8.out.trans (hz.mono AN8.out.size))) 1 (.int .i64 a01) rfl) (And.intro (plce.at_cell (BX0.out.old (AN8.out.trans (hz.mono AN8.out.size))) 2 (.int .i64 a02) rfl) (And.intro (plce.at_cell (BX0.out.old (AN8.out.trans (hz.mono AN8.out.size))) 3 (.int .i64 a03) rfl) (And.intro (plce.at_cell (BX0.out.old (AN8.out.trans (hz.mono AN8.out.size))) 4 (.int .i64 a04) rfl) (And.intro (plce.at_cell (BX0.out.old (AN8.out.trans (hz.mono AN8.out.size))) 5 (.int .i64 a05) rfl) (And.intro (plce.at_cell (BX1.out.old (AN8.out.trans (hz.mono AN8.out.size))) 0 (.int .i64 a10) rfl) (plce.at_cell (BX1.out.old (AN8.out.trans (hz.mono AN8.out.size))) 1 (.int .i64 a11) rfl))))))))
    go_cut [7, 8] from 17 to 24 (fun p0 p1 wz => p0 = .int .i64 O0 ∧ p1 = .bool O1 ∧ Below V4.heap.size V4 wz)
    case first =>
      go_region_held3 (fun w' => w'.cell? ⟨w.heap.size, 0, none⟩ = some (.int .i64 a00) ∧ w'.cell? ⟨w.heap.size, 1, none⟩ = some (.int .i64 a01) ∧ w'.cell? ⟨w.heap.size, 2, none⟩ = some (.int .i64 a02) ∧ w'.cell? ⟨w.heap.size, 3, none⟩ = some (.int .i64 a03) ∧ w'.cell? ⟨w.heap.size, 4, none⟩ = some (.int .i64 a04) ∧ w'.cell? ⟨w.heap.size, 5, none⟩ = some (.int .i64 a05) ∧ w'.cell? ⟨w.heap.size + 1, 0, none⟩ = some (.int .i64 a10) ∧ w'.cell? ⟨w.heap.size + 1, 1, none⟩ = some (.int .i64 a11)) (first
        | exact CS11.out _ (Below.refl V4.heap.size V4).drew
        | exact CS11.out _ (by assumption)
        | go_keep) (first
        | (go_at_call 41; (with_reducible refine (motx.toMotion a00 a01 a02 a03 a04 a05 _).mono ?_); rintro e w0' ⟨rfl, hb⟩
           have hl0' := plce.bl_next (V := V4) (by first | exact (Below.refl V4.heap.size V4).drew | assumption) hb
           clear hb)
        | (go_at_call 42; (with_reducible refine (plce.toPlace a10 a11 _).mono ?_); rintro e w1' ⟨rfl, hb⟩
           have hl1' := plce.bl_next (V := V4) (by first | exact (Below.refl V4.heap.size V4).drew | assumption) hb
           clear hb)
        | (go_at_call 24; (with_reducible refine (HI.out  _  ).mono ?_); rintro e wF' ⟨rfl, hb⟩
           have hlF := plce.bl_next (V := V4) (by assumption) hb
           clear hb))
      all_goals (go_wp2_with fail; go_meet; exact ⟨rfl, rfl, by assumption⟩)
    case rest =>
      obtain ⟨rfl, rfl, h13⟩ := hcut
      generalize wc = V12 at *
      clear CS11
      have AN15 := Lib.hid (AN7.out.trans (h13.mono AN7.out.size))
      clear AN7
      have AN16 := Lib.hid (AN8.out.trans (h13.mono AN8.out.size))
      clear AN8
      clear h13
      go_wp2_with fail
      go_ret
      exact ⟨rfl, AN15.out⟩

set_option maxRecDepth 100000 in
theorem walk (a00 : Int) (a01 : Int) (a02 : Int) (a03 : Int) (a04 : Int) (a05 : Int) (a10 : Int) (a11 : Int) (w : World) (w00 : (Lit.int .i64 a00).wf = true) (w01 : (Lit.int .i64 a01).wf = true) (w02 : (Lit.int .i64 a02).wf = true) (w03 : (Lit.int .i64 a03).wf = true) (w04 : (Lit.int .i64 a04).wf = true) (w05 : (Lit.int .i64 a05).wf = true) (w10 : (Lit.int .i64 a10).wf = true) (w11 : (Lit.int .i64 a11).wf = true) :
    Calls Try.prog 11 #[.agg #[.int .i64 a00, .int .i64 a01, .int .i64 a02, .int .i64 a03, .int .i64 a04, .int .i64 a05], .agg #[.int .i64 a10, .int .i64 a11]] w fun e w' => e = .returned (.bool true) ∧ Below w.heap.size w w' := by
  exact law_of a00 a01 a02 a03 a04 a05 a10 a11 ((mot.nmV a00 a01 a02 a03 a04 a05 a10 a11 : Int)) (mot.nmB a00 a01 a02 a03 a04 a05 a10 a11) w
    (fun w => mots.nearestMinute a00 a01 a02 a03 a04 a05 a10 a11 w)
    (fun w => motc.nearestMinute a00 a01 a02 a03 a04 a05 a10 a11 w)


theorem own : ownKnob Try.prog.godebug = none := by kernel_rfl
theorem laidOut : laidOutB Try.prog = true := by kernel_rfl

set_option maxRecDepth 100000 in
theorem lifted (os : Os) (started : os.Started) (H : Type) (enc : TypeId × Value → H) :
    ReturnsInHanded {} Try.checked os 11 .any (Rows.fnExactNearestMinuteSpec.pre6 enc Try.prog Try.f11 Rows.fnExactNearestMinuteRow.domain false) (Rows.fnExactNearestMinuteSpec.post enc Try.prog Try.f11 false true false false) := by
  refine returnsInHanded_of_change (C := Try.checked) own started (by kernel_rfl) Try.func11
    (ChangeSpec.witness6 (enc := enc) (C := Try.checked) false ⟨#[], #[.agg #[.int .i64 0, .int .i64 0, .int .i64 0, .int .i64 0, .int .i64 0, .int .i64 0], .agg #[.int .i64 0, .int .i64 0]], []⟩ 8 (by kernel_rfl) (by kernel_rfl) (by kernel_rfl) (by kernel_rfl)) ?_
  intro W base args ds gs before hval0 hW hcnd _
  have hval : ∀ (j : Nat) t v, Try.f11.params[j]? = some t → args[j]? = some v → Value.okWide Try.prog W .any base t v := hval0
  have hW' := hW
  obtain ⟨p, q, hA0, hV, rfl, hfz, hnd⟩ := hW
  have hA : DataW.TrodAll enc Try.prog W 0 (fun _ => true) true Try.f11.params.toList args.toList ds p := hA0
  rw [Try.params11] at hA hval
  obtain ⟨v0, vs0, d0, ds0, p0, q0, hargs, rfl, rfl, h0, r0⟩ := trodAll_cons hA
  obtain ⟨v1, vs1, d1, ds1, p1, q1, rfl, rfl, rfl, h1, r1⟩ := trodAll_cons r0
  obtain ⟨rfl, rfl, rfl⟩ := trodAll_nil r1
  obtain rfl : args = #[v0, v1] := by cases args; simp_all
  obtain ⟨rfl, rfl⟩ := trodVars_none hV
  have k0 := h0
  have lt0 : ∀ x ∈ p0, x.block < W.heap.size := by obtain ⟨m, hm⟩ := k0; exact DataW.trod_lt m _ _ _ hm
  obtain ⟨a00, a01, a02, a03, a04, a05, rfl, w00, w01, w02, w03, w04, w05⟩ := moto.open_motion (hval 0 51 v0 rfl rfl) h0
  have k1 := h1
  have lt1 : ∀ x ∈ p1, x.block < W.heap.size := by obtain ⟨m, hm⟩ := k1; exact DataW.trod_lt m _ _ _ hm
  obtain ⟨f10, f11, y10, y11, m1, rfl, rfl, rfl, t10, t11⟩ := open_agg2 Try.underlying48 (by kernel_rfl) (by kernel_rfl) (hval 1 48 v1 rfl rfl) h1
  obtain ⟨a10, e10, -, w10⟩ := DataW.trod_int Try.underlying3 t10
  obtain rfl : f10 = .int .i64 a10 := by simpa using e10
  obtain ⟨a11, e11, -, w11⟩ := DataW.trod_int Try.underlying3 t11
  obtain rfl : f11 = .int .i64 a11 := by simpa using e11
  clear hA0 hval0
  refine (walk a00 a01 a02 a03 a04 a05 a10 a11 W w00 w01 w02 w03 w04 w05 w10 w11).mono fun e W' ⟨he, bel⟩ => ?_
  subst he
  exact ⟨_, rfl, _, _, _, [], _, [], hW', trodAll_mk1 (shut_bool Try.underlying4 _), (trodAll_cons_mk (Below.trod laidOut (by kernel_rfl) (of_decide_eq_true (by kernel_rfl)) k0 bel lt0) (trodAll_cons_mk (Below.trod laidOut (by kernel_rfl) (of_decide_eq_true (by kernel_rfl)) k1 bel lt1) trodAll_mk0)), rfl, bel.frame _, fun h => by cases h⟩

theorem over : Rows.fnExactNearestMinuteRow.holds Try.pinned (OpenSpec.ofChange Rows.fnExactNearestMinuteSpec) :=
  OpenClaim.holds_of_wide 11 Try.f11 rfl rfl rfl rfl rfl rfl rfl ⟨rfl, rfl, rfl, rfl, rfl⟩ rfl rfl rfl rfl rfl (by kernel_rfl) Try.func11 (by kernel_rfl)
    (of_decide_eq_true (by kernel_rfl)) (by unfold Func.isWrapper; first | (rw [if_pos (by decide +kernel)]; kernel_rfl) | (rw [if_neg (by decide +kernel)]; exact ⟨rfl, rfl⟩))
    (fun os started H enc _ => lifted os started H enc)

theorem proved : Rows.FnExactNearestMinuteSaid :=
  over
#print axioms proved
end Go.Proofs.Ytinkkdgjpcnklaa.fnExactNearestMinute
