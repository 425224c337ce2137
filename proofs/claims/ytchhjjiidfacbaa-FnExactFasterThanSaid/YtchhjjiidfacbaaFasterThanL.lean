/- For every two velocities the law FnExactFasterThan returns true: impl.FasterThan and spec.FasterThan tell the same of them, or both 0 and false. No condition. -/
import Derived.Test.YtchhjjiidfacbaaRows
import Derived.Test.YtchhjjiidfacbaaVelS
import Derived.Test.YtchhjjiidfacbaaVelX
import Derived.Test.YtchhjjiidfacbaaPosX
import Derived.WalkKit
import Derived.ProofKit
import Derived.OpenShut
import Derived.ShutString
import Derived.ChangeOld
import Derived.Below
import Derived.Lib.SmallJoins
import Derived.Lib.QuietBelow
import Derived.Deep.RegionHeld3
import Derived.Deep.CutRange
namespace Go.Proofs.Ytchhjjiidfacbaa.fnExactFasterThan
open Go.ChangeShapes Go.WideShapes Go.ChangeAt Go.RowKit Go.Joins Go.Proofs.Ytchhjjiidfacbaa.ats
open Go.ChangeMaps (open_string shut_string)
set_option linter.unusedVariables false

theorem bool_ne_self (b : Bool) : (b != b) = false := by simp
theorem int_ne_self (x : Int) : (x != x) = false := by simp

set_option maxRecDepth 100000 in
set_option maxHeartbeats 4000000 in
theorem walk (a00 : Int) (a01 : Int) (a10 : Int) (a11 : Int) (w00 : (Lit.int .i64 a00).wf = true) (w01 : (Lit.int .i64 a01).wf = true) (w10 : (Lit.int .i64 a10).wf = true) (w11 : (Lit.int .i64 a11).wf = true) (w : World) :
    Calls Try.prog 9 #[.agg #[.int .i64 a00, .int .i64 a01], .agg #[.int .i64 a10, .int .i64 a11]] w fun e w' => e = .returned (.bool true) ∧ Below w.heap.size w w' := by
  have n00 := bounds_i64 w00
  have n01 := bounds_i64 w01
  have n10 := bounds_i64 w10
  have n11 := bounds_i64 w11
  have hs := Lib.hid (fun w => vels.fasterThan a00 a01 a10 a11 w)
  have hi := Lib.hid (fun w => velk.fasterThan a00 a01 a10 a11 w)
  have ne0 := int_ne_self (vel.ftV a00 a01 a10 a11)
  have ne1 := bool_ne_self (vel.ftB a00 a01 a10 a11)
  clear w00 w01 w10 w11 n00 n01 n10 n11
  generalize vel.ftV a00 a01 a10 a11 = x0 at *
  generalize vel.ftB a00 a01 a10 a11 = x1 at *
  have HB0 := Lib.hid (Below.refl w.heap.size w)
  go_enter Try.func9, Try.ntmps9
  have Aa1 := Lib.hid (newS 51 #[.int .i64 a00, .int .i64 a01] w)
  have HB1a := Lib.hid (HB0.out.alloc HB0.out.size (.cells #[.int .i64 a00, .int .i64 a01] 51))
  clear HB0
  have Ab1 : Hid (AtS 51 #[.int .i64 a10, .int .i64 a11] w ((w.alloc (.cells #[.int .i64 a00, .int .i64 a01] 51)).alloc (.cells #[.int .i64 a10, .int .i64 a11] 51)) (w.heap.size + 1)) := Lib.hid (by have := (Aa1.out).next 51 #[.int .i64 a10, .int .i64 a11]; simpa only [World.size_alloc] using this)
  have Aa1xa := Lib.hid (Aa1.out.alloc (.cells #[.int .i64 a10, .int .i64 a11] 51))
  clear Aa1
  have HB1xa := Lib.hid (HB1a.out.alloc HB1a.out.size (.cells #[.int .i64 a10, .int .i64 a11] 51))
  clear HB1a
  go_upto_region 1 with fail
  generalize ((w.alloc (.cells #[.int .i64 a00, .int .i64 a01] 51)).alloc (.cells #[.int .i64 a10, .int .i64 a11] 51)) = V2 at *
  have CS3 := Lib.hid (show ∀ WZ : World, Below V2.heap.size V2 WZ → WZ.cell? ⟨w.heap.size, 0, none⟩ = some (.int .i64 a00) ∧ WZ.cell? ⟨w.heap.size, 1, none⟩ = some (.int .i64 a01) ∧ WZ.cell? ⟨w.heap.size + 1, 0, none⟩ = some (.int .i64 a10) ∧ WZ.cell? ⟨w.heap.size + 1, 1, none⟩ = some (.int .i64 a11) from fun WZ hz => And.intro (posx.at_cell (Aa1xa.out.old hz) 0 (.int .i64 a00) rfl) (And.intro (posx.at_cell (Aa1xa.out.old hz) 1 (.int .i64 a01) rfl) (And.intro (posx.at_cell (Ab1.out.old hz) 0 (.int .i64 a10) rfl) (posx.at_cell (Ab1.out.old hz) 1 (.int .i64 a11) rfl))))
  go_cut [5, 6] from 10 to 19 (fun q30 q31 wz => q30 = .int .i64 x0 ∧ q31 = .bool x1 ∧ Below V2.heap.size V2 wz)
  case first =>
    go_region_held3 (fun w' => w'.cell? ⟨w.heap.size, 0, none⟩ = some (.int .i64 a00) ∧ w'.cell? ⟨w.heap.size, 1, none⟩ = some (.int .i64 a01) ∧ w'.cell? ⟨w.heap.size + 1, 0, none⟩ = some (.int .i64 a10) ∧ w'.cell? ⟨w.heap.size + 1, 1, none⟩ = some (.int .i64 a11)) (first
      | exact CS3.out _ ((Below.refl V2.heap.size V2).drew)
      | exact CS3.out _ (by assumption)
      | go_keep) (first
      | (go_at_call 38; (with_reducible refine (velx.toVelocity a00 a01 _).mono ?_); rintro e w' ⟨rfl, hb⟩
         have hbl := posx.bl_next (V := V2) (by first | exact (Below.refl V2.heap.size V2).drew | assumption) hb
         clear hb)
      | (go_at_call 38; (with_reducible refine (velx.toVelocity a10 a11 _).mono ?_); rintro e w' ⟨rfl, hb⟩
         have hbl := posx.bl_next (V := V2) (by first | exact (Below.refl V2.heap.size V2).drew | assumption) hb
         clear hb)
      | (go_at_call 33; (with_reducible refine (hs.out _).mono ?_); rintro e w' ⟨rfl, hb⟩
         have hbl := posx.bl_next (V := V2) (by first | exact (Below.refl V2.heap.size V2).drew | assumption) hb
         clear hb))
    all_goals (go_wp2_with fail; go_meet; exact ⟨rfl, rfl, by assumption⟩)
  case rest =>
    obtain ⟨rfl, rfl, hg3⟩ := hcut
    have HB3 := Lib.hid (HB1xa.out.trans (hg3.mono HB1xa.out.size))
    have Aa3 := Lib.hid (Aa1xa.out.old hg3)
    have Ab3 := Lib.hid (Ab1.out.old hg3)
    clear HB1xa Aa1xa Ab1 CS3 hg3
    generalize wc = V4 at *
    go_upto_region 2 with fail
    have CS5 := Lib.hid (show ∀ WZ : World, Below V4.heap.size V4 WZ → WZ.cell? ⟨w.heap.size, 0, none⟩ = some (.int .i64 a00) ∧ WZ.cell? ⟨w.heap.size, 1, none⟩ = some (.int .i64 a01) ∧ WZ.cell? ⟨w.heap.size + 1, 0, none⟩ = some (.int .i64 a10) ∧ WZ.cell? ⟨w.heap.size + 1, 1, none⟩ = some (.int .i64 a11) from fun WZ hz => And.intro (posx.at_cell (Aa3.out.old hz) 0 (.int .i64 a00) rfl) (And.intro (posx.at_cell (Aa3.out.old hz) 1 (.int .i64 a01) rfl) (And.intro (posx.at_cell (Ab3.out.old hz) 0 (.int .i64 a10) rfl) (posx.at_cell (Ab3.out.old hz) 1 (.int .i64 a11) rfl))))
    go_cut [7, 8] from 20 to 29 (fun q50 q51 wz => q50 = .int .i64 x0 ∧ q51 = .bool x1 ∧ Below V4.heap.size V4 wz)
    case first =>
      go_region_held3 (fun w' => w'.cell? ⟨w.heap.size, 0, none⟩ = some (.int .i64 a00) ∧ w'.cell? ⟨w.heap.size, 1, none⟩ = some (.int .i64 a01) ∧ w'.cell? ⟨w.heap.size + 1, 0, none⟩ = some (.int .i64 a10) ∧ w'.cell? ⟨w.heap.size + 1, 1, none⟩ = some (.int .i64 a11)) (first
        | exact CS5.out _ ((Below.refl V4.heap.size V4).drew)
        | exact CS5.out _ (by assumption)
        | go_keep) (first
        | (go_at_call 38; (with_reducible refine (velx.toVelocity a00 a01 _).mono ?_); rintro e w' ⟨rfl, hb⟩
           have hbl := posx.bl_next (V := V4) (by first | exact (Below.refl V4.heap.size V4).drew | assumption) hb
           clear hb)
        | (go_at_call 38; (with_reducible refine (velx.toVelocity a10 a11 _).mono ?_); rintro e w' ⟨rfl, hb⟩
           have hbl := posx.bl_next (V := V4) (by first | exact (Below.refl V4.heap.size V4).drew | assumption) hb
           clear hb)
        | (go_at_call 32; (with_reducible refine (hi.out _).mono ?_); rintro e w' ⟨rfl, hb⟩
           have hbl := posx.bl_next (V := V4) (by first | exact (Below.refl V4.heap.size V4).drew | assumption) hb
           clear hb))
      all_goals (go_wp2_with fail; go_meet; exact ⟨rfl, rfl, by assumption⟩)
    case rest =>
      obtain ⟨rfl, rfl, hg5⟩ := hcut
      have HB5 := Lib.hid (HB3.out.trans (hg5.mono HB3.out.size))
      have Aa5 := Lib.hid (Aa3.out.old hg5)
      have Ab5 := Lib.hid (Ab3.out.old hg5)
      clear HB3 Aa3 Ab3 CS5 hg5
      generalize wc = V6 at *
      go_wp2_with fail
      go_ret
      exact ⟨rfl, HB5.out⟩


theorem own : ownKnob Try.prog.godebug = none := by kernel_rfl
theorem laidOut : laidOutB Try.prog = true := by kernel_rfl

set_option maxRecDepth 100000 in
theorem lifted (os : Os) (started : os.Started) (H : Type) (enc : TypeId × Value → H) :
    ReturnsInHanded {} Try.checked os 9 .any (Rows.fnExactFasterThanSpec.pre6 enc Try.prog Try.f9 Rows.fnExactFasterThanRow.domain false) (Rows.fnExactFasterThanSpec.post enc Try.prog Try.f9 false true false false) := by
  refine returnsInHanded_of_change (C := Try.checked) own started (by kernel_rfl) Try.func9
    (ChangeSpec.witness6 (enc := enc) (C := Try.checked) false ⟨#[], #[.agg #[.int .i64 0, .int .i64 0], .agg #[.int .i64 0, .int .i64 0]], []⟩ 8 (by kernel_rfl) (by kernel_rfl) (by kernel_rfl) (by kernel_rfl)) ?_
  intro W base args ds gs before hval0 hW hcnd _
  have hval : ∀ (j : Nat) t v, Try.f9.params[j]? = some t → args[j]? = some v → Value.okWide Try.prog W .any base t v := hval0
  have hW' := hW
  obtain ⟨p, q, hA0, hV, rfl, hfz, hnd⟩ := hW
  have hA : DataW.TrodAll enc Try.prog W 0 (fun _ => true) true Try.f9.params.toList args.toList ds p := hA0
  rw [Try.params9] at hA hval
  obtain ⟨v0, vs0, d0, ds0, p0, q0, hargs, rfl, rfl, h0, r0⟩ := trodAll_cons hA
  obtain ⟨v1, vs1, d1, ds1, p1, q1, rfl, rfl, rfl, h1, r1⟩ := trodAll_cons r0
  obtain ⟨rfl, rfl, rfl⟩ := trodAll_nil r1
  obtain rfl : args = #[v0, v1] := by cases args; simp_all
  obtain ⟨rfl, rfl⟩ := trodVars_none hV
  have k0 := h0
  have lt0 : ∀ x ∈ p0, x.block < W.heap.size := by obtain ⟨m, hm⟩ := k0; exact DataW.trod_lt m _ _ _ hm
  obtain ⟨f00, f01, y00, y01, m0, rfl, rfl, rfl, t00, t01⟩ := open_agg2 Try.underlying51 (by kernel_rfl) (by kernel_rfl) (hval 0 51 v0 rfl rfl) h0
  obtain ⟨a00, e00, -, w00⟩ := DataW.trod_int Try.underlying3 t00
  obtain rfl : f00 = .int .i64 a00 := by simpa using e00
  obtain ⟨a01, e01, -, w01⟩ := DataW.trod_int Try.underlying3 t01
  obtain rfl : f01 = .int .i64 a01 := by simpa using e01
  have k1 := h1
  have lt1 : ∀ x ∈ p1, x.block < W.heap.size := by obtain ⟨m, hm⟩ := k1; exact DataW.trod_lt m _ _ _ hm
  obtain ⟨f10, f11, y10, y11, m1, rfl, rfl, rfl, t10, t11⟩ := open_agg2 Try.underlying51 (by kernel_rfl) (by kernel_rfl) (hval 1 51 v1 rfl rfl) h1
  obtain ⟨a10, e10, -, w10⟩ := DataW.trod_int Try.underlying3 t10
  obtain rfl : f10 = .int .i64 a10 := by simpa using e10
  obtain ⟨a11, e11, -, w11⟩ := DataW.trod_int Try.underlying3 t11
  obtain rfl : f11 = .int .i64 a11 := by simpa using e11
  clear hA0 hval0
  refine (walk a00 a01 a10 a11 w00 w01 w10 w11 W).mono fun e W' ⟨he, bel⟩ => ?_
  subst he
  exact ⟨_, rfl, _, _, _, [], _, [], hW', trodAll_mk1 (shut_bool Try.underlying4 _), (trodAll_cons_mk (Below.trod laidOut (by kernel_rfl) (of_decide_eq_true (by kernel_rfl)) k0 bel lt0) (trodAll_cons_mk (Below.trod laidOut (by kernel_rfl) (of_decide_eq_true (by kernel_rfl)) k1 bel lt1) trodAll_mk0)), rfl, bel.frame _, fun h => by cases h⟩

theorem over : Rows.fnExactFasterThanRow.holds Try.pinned (OpenSpec.ofChange Rows.fnExactFasterThanSpec) :=
  OpenClaim.holds_of_wide 9 Try.f9 rfl rfl rfl rfl rfl rfl rfl ⟨rfl, rfl, rfl, rfl, rfl⟩ rfl rfl rfl rfl rfl (by kernel_rfl) Try.func9 (by kernel_rfl)
    (of_decide_eq_true (by kernel_rfl)) (by unfold Func.isWrapper; first | (rw [if_pos (by decide +kernel)]; kernel_rfl) | (rw [if_neg (by decide +kernel)]; exact ⟨rfl, rfl⟩))
    (fun os started H enc _ => lifted os started H enc)

theorem proved : Rows.FnExactFasterThanSaid :=
  over
#print axioms proved
end Go.Proofs.Ytchhjjiidfacbaa.fnExactFasterThan
