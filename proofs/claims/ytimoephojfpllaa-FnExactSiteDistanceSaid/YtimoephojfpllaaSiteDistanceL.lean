/- For every two points the law FnExactSiteDistance returns true: impl.SiteDistance and spec.SiteDistance return the same distance and true, or both 0 and false. No condition. -/
import Derived.Test.YtimoephojfpllaaRows
import Derived.Test.YtimoephojfpllaaSitI
import Derived.Test.YtimoephojfpllaaIntC
import Derived.Test.YtimoephojfpllaaLstO
import Derived.Test.YtimoephojfpllaaSitE
import Derived.WalkKit
import Derived.ProofKit
import Derived.OpenShut
import Derived.ShutString
import Derived.ChangeOld
import Derived.Below
import Derived.Lib.SmallJoins
import Derived.Lib.QuietBelow
import Derived.Deep.RegionHeld3
import Derived.Deep.CutRange
namespace Go.Proofs.Ytimoephojfpllaa.fnExactSiteDistance
open Go.ChangeShapes Go.WideShapes Go.ChangeAt Go.RowKit Go.Joins Go.Proofs.Ytimoephojfpllaa.ats Go.Proofs.Ytimoephojfpllaa.ints Go.Proofs.Ytimoephojfpllaa.lst Go.Proofs.Ytimoephojfpllaa.intc Go.Proofs.Ytimoephojfpllaa.code_
open Go.ChangeMaps (open_string shut_string)
set_option linter.unusedVariables false

theorem bool_ne_self (b : Bool) : (b != b) = false := by simp
theorem int_ne_self (x : Int) : (x != x) = false := by simp

/-- The function f returns this. -/
def Gives (f : Nat) (a00 : Int) (a01 : Int) (a10 : Int) (a11 : Int) (O0 : Int) (O1 : Bool) : Prop := ∀ (w : World), 
  Calls Try.prog f #[.agg #[.int .i64 a00, .int .i64 a01], .agg #[.int .i64 a10, .int .i64 a11]] w fun e w' => e = .returned (.tuple #[.int .i64 O0, .bool O1]) ∧ Below w.heap.size w w'

set_option maxRecDepth 100000 in
set_option maxHeartbeats 8000000 in
theorem law_of (a00 : Int) (a01 : Int) (a10 : Int) (a11 : Int) (O0 : Int) (O1 : Bool) (w : World)
    (hs : Gives 32 a00 a01 a10 a11 O0 O1) (hi : Gives 18 a00 a01 a10 a11 O0 O1) :
    Calls Try.prog 5 #[.agg #[.int .i64 a00, .int .i64 a01], .agg #[.int .i64 a10, .int .i64 a11]] w fun e w' => e = .returned (.bool true) ∧ Below w.heap.size w w' := by
  have HS := Lib.hid (fun (w : World) => hs w)
  have HI := Lib.hid (fun (w : World) => hi w)
  have ne0 := int_ne_self O0
  have ne1 := bool_ne_self O1
  clear hs hi
  have BX0 := Lib.hid ((newS 49 #[.int .i64 a00, .int .i64 a01] w).alloc (.cells #[.int .i64 a10, .int .i64 a11] 49))
  have BX1 := Lib.hid ((newS 49 #[.int .i64 a00, .int .i64 a01] w).next 49 #[.int .i64 a10, .int .i64 a11])
  rw [World.size_alloc] at BX1
  go_enter Try.func5, Try.ntmps5
  go_upto_region 1 with fail
  generalize ((w.alloc (.cells #[.int .i64 a00, .int .i64 a01] 49)).alloc (.cells #[.int .i64 a10, .int .i64 a11] 49)) = W0 at *
  have AN1 := Lib.hid (BX0.out.1)
  have AN2 := Lib.hid (Below.refl W0.heap.size W0)
  have CS3 := Lib.hid (show ∀ WZ : World, Below W0.heap.size W0 WZ → WZ.cell? ⟨w.heap.size, 0, none⟩ = some (.int .i64 a00) ∧ WZ.cell? ⟨w.heap.size, 1, none⟩ = some (.int .i64 a01) ∧ WZ.cell? ⟨w.heap.size + 1, 0, none⟩ = some (.int .i64 a10) ∧ WZ.cell? ⟨w.heap.size + 1, 1, none⟩ = some (.int .i64 a11) from fun WZ hz => And.intro (site.at_cell (BX0.out.old (AN2.out.trans (hz.mono AN2.out.size))) 0 (.int .i64 a00) rfl) (And.intro (site.at_cell (BX0.out.old (AN2.out.trans (hz.mono AN2.out.size))) 1 (.int .i64 a01) rfl) (And.intro (site.at_cell (BX1.out.old (AN2.out.trans (hz.mono AN2.out.size))) 0 (.int .i64 a10) rfl) (site.at_cell (BX1.out.old (AN2.out.trans (hz.mono AN2.out.size))) 1 (.int .i64 a11) rfl))))
  go_cut [5, 6] from 9 to 16 (fun p0 p1 wz => p0 = .int .i64 O0 ∧ p1 = .bool O1 ∧ Below W0.heap.size W0 wz)
  case first =>
    go_region_held3 (fun w' => w'.cell? ⟨w.heap.size, 0, none⟩ = some (.int .i64 a00) ∧ w'.cell? ⟨w.heap.size, 1, none⟩ = some (.int .i64 a01) ∧ w'.cell? ⟨w.heap.size + 1, 0, none⟩ = some (.int .i64 a10) ∧ w'.cell? ⟨w.heap.size + 1, 1, none⟩ = some (.int .i64 a11)) (first
      | exact CS3.out _ (Below.refl W0.heap.size W0).drew
      | exact CS3.out _ (by assumption)
      | go_keep) (first
      | (go_at_call 33; (with_reducible refine (site.toSite a00 a01 _).mono ?_); rintro e w0' ⟨rfl, hb⟩
         have hl0' := site.bl_next (V := W0) (by first | exact (Below.refl W0.heap.size W0).drew | assumption) hb
         clear hb)
      | (go_at_call 33; (with_reducible refine (site.toSite a10 a11 _).mono ?_); rintro e w1' ⟨rfl, hb⟩
         have hl1' := site.bl_next (V := W0) (by first | exact (Below.refl W0.heap.size W0).drew | assumption) hb
         clear hb)
      | (go_at_call 32; (with_reducible refine (HS.out  _  ).mono ?_); rintro e wF' ⟨rfl, hb⟩
         have hlF := site.bl_next (V := W0) (by assumption) hb
         clear hb))
    all_goals (go_wp2_with fail; go_meet; exact ⟨rfl, rfl, by assumption⟩)
  case rest =>
    obtain ⟨rfl, rfl, h5⟩ := hcut
    generalize wc = V4 at *
    clear CS3
    have AN7 := Lib.hid (AN1.out.trans (h5.mono AN1.out.size))
    clear AN1
    have AN8 := Lib.hid (AN2.out.trans (h5.mono AN2.out.size))
    clear AN2
    clear h5
    have LE9 := Lib.hid AN7.out.size
    have LE10 := Lib.hid AN8.out.size
    go_upto_region 2 with fail
    have CS11 := Lib.hid (show ∀ WZ : World, Below V4.heap.size V4 WZ → WZ.cell? ⟨w.heap.size, 0, none⟩ = some (.int .i64 a00) ∧ WZ.cell? ⟨w.heap.size, 1, none⟩ = some (.int .i64 a01) ∧ WZ.cell? ⟨w.heap.size + 1, 0, none⟩ = some (.int .i64 a10) ∧ WZ.cell? ⟨w.heap.size + 1, 1, none⟩ = some (.int .i64 a11) from fun WZ hz => And.intro (site.at_cell (BX0.out.old (AN8.out.trans (hz.mono AN8.out.size))) 0 (.int .i64 a00) rfl) (And.intro (site.at_cell (BX0.out.old (AN8.out.trans (hz.mono AN8.out.size))) 1 (.int .i64 a01) rfl) (And.intro (site.at_cell (BX1.out.old (AN8.out.trans (hz.mono AN8.out.size))) 0 (.int .i64 a10) rfl) (site.at_cell (BX1.out.old (AN8.out.trans (hz.mono AN8.out.size))) 1 (.int .i64 a11) rfl))))
    go_cut [7, 8] from 17 to 24 (fun p0 p1 wz => p0 = .int .i64 O0 ∧ p1 = .bool O1 ∧ Below V4.heap.size V4 wz)
    case first =>
      go_region_held3 (fun w' => w'.cell? ⟨w.heap.size, 0, none⟩ = some (.int .i64 a00) ∧ w'.cell? ⟨w.heap.size, 1, none⟩ = some (.int .i64 a01) ∧ w'.cell? ⟨w.heap.size + 1, 0, none⟩ = some (.int .i64 a10) ∧ w'.cell? ⟨w.heap.size + 1, 1, none⟩ = some (.int .i64 a11)) (first
        | exact CS11.out _ (Below.refl V4.heap.size V4).drew
        | exact CS11.out _ (by assumption)
        | go_keep) (first
        | (go_at_call 33; (with_reducible refine (site.toSite a00 a01 _).mono ?_); rintro e w0' ⟨rfl, hb⟩
           have hl0' := site.bl_next (V := V4) (by first | exact (Below.refl V4.heap.size V4).drew | assumption) hb
           clear hb)
        | (go_at_call 33; (with_reducible refine (site.toSite a10 a11 _).mono ?_); rintro e w1' ⟨rfl, hb⟩
           have hl1' := site.bl_next (V := V4) (by first | exact (Below.refl V4.heap.size V4).drew | assumption) hb
           clear hb)
        | (go_at_call 18; (with_reducible refine (HI.out  _  ).mono ?_); rintro e wF' ⟨rfl, hb⟩
           have hlF := site.bl_next (V := V4) (by assumption) hb
           clear hb))
      all_goals (go_wp2_with fail; go_meet; exact ⟨rfl, rfl, by assumption⟩)
    case rest =>
      obtain ⟨rfl, rfl, h13⟩ := hcut
      generalize wc = V12 at *
      clear CS11
      have AN15 := Lib.hid (AN7.out.trans (h13.mono AN7.out.size))
      clear AN7
      have AN16 := Lib.hid (AN8.out.trans (h13.mono AN8.out.size))
      clear AN8
      clear h13
      go_wp2_with fail
      go_ret
      exact ⟨rfl, AN15.out⟩

set_option maxRecDepth 100000 in
theorem walk (a00 : Int) (a01 : Int) (a10 : Int) (a11 : Int) (w : World) (w00 : (Lit.int .i64 a00).wf = true) (w01 : (Lit.int .i64 a01).wf = true) (w10 : (Lit.int .i64 a10).wf = true) (w11 : (Lit.int .i64 a11).wf = true) :
    Calls Try.prog 5 #[.agg #[.int .i64 a00, .int .i64 a01], .agg #[.int .i64 a10, .int .i64 a11]] w fun e w' => e = .returned (.bool true) ∧ Below w.heap.size w w' := by
  exact law_of a00 a01 a10 a11 (sits.sdV a00 a01 a10 a11) (sits.sdB a00 a01 a10 a11) w
    (fun w => sits.siteDistance a00 a01 a10 a11 w)
    (fun w => siti.siteDistance a00 a01 a10 a11 w)


theorem own : ownKnob Try.prog.godebug = none := by kernel_rfl
theorem laidOut : laidOutB Try.prog = true := by kernel_rfl

set_option maxRecDepth 100000 in
theorem lifted (os : Os) (started : os.Started) (H : Type) (enc : TypeId × Value → H) :
    ReturnsInHanded {} Try.checked os 5 .any (Rows.fnExactSiteDistanceSpec.pre6 enc Try.prog Try.f5 Rows.fnExactSiteDistanceRow.domain false) (Rows.fnExactSiteDistanceSpec.post enc Try.prog Try.f5 false true false false) := by
  refine returnsInHanded_of_change (C := Try.checked) own started (by kernel_rfl) Try.func5
    (ChangeSpec.witness6 (enc := enc) (C := Try.checked) false ⟨#[], #[.agg #[.int .i64 0, .int .i64 0], .agg #[.int .i64 0, .int .i64 0]], []⟩ 8 (by kernel_rfl) (by kernel_rfl) (by kernel_rfl) (by kernel_rfl)) ?_
  intro W base args ds gs before hval0 hW hcnd _
  have hval : ∀ (j : Nat) t v, Try.f5.params[j]? = some t → args[j]? = some v → Value.okWide Try.prog W .any base t v := hval0
  have hW' := hW
  obtain ⟨p, q, hA0, hV, rfl, hfz, hnd⟩ := hW
  have hA : DataW.TrodAll enc Try.prog W 0 (fun _ => true) true Try.f5.params.toList args.toList ds p := hA0
  rw [Try.params5] at hA hval
  obtain ⟨v0, vs0, d0, ds0, p0, q0, hargs, rfl, rfl, h0, r0⟩ := trodAll_cons hA
  obtain ⟨v1, vs1, d1, ds1, p1, q1, rfl, rfl, rfl, h1, r1⟩ := trodAll_cons r0
  obtain ⟨rfl, rfl, rfl⟩ := trodAll_nil r1
  obtain rfl : args = #[v0, v1] := by cases args; simp_all
  obtain ⟨rfl, rfl⟩ := trodVars_none hV
  have k0 := h0
  have lt0 : ∀ x ∈ p0, x.block < W.heap.size := by obtain ⟨m, hm⟩ := k0; exact DataW.trod_lt m _ _ _ hm
  obtain ⟨f00, f01, y00, y01, m0, rfl, rfl, rfl, t00, t01⟩ := open_agg2 Try.underlying49 (by kernel_rfl) (by kernel_rfl) (hval 0 49 v0 rfl rfl) h0
  obtain ⟨a00, e00, -, w00⟩ := DataW.trod_int Try.underlying3 t00
  obtain rfl : f00 = .int .i64 a00 := by simpa using e00
  obtain ⟨a01, e01, -, w01⟩ := DataW.trod_int Try.underlying3 t01
  obtain rfl : f01 = .int .i64 a01 := by simpa using e01
  have k1 := h1
  have lt1 : ∀ x ∈ p1, x.block < W.heap.size := by obtain ⟨m, hm⟩ := k1; exact DataW.trod_lt m _ _ _ hm
  obtain ⟨f10, f11, y10, y11, m1, rfl, rfl, rfl, t10, t11⟩ := open_agg2 Try.underlying49 (by kernel_rfl) (by kernel_rfl) (hval 1 49 v1 rfl rfl) h1
  obtain ⟨a10, e10, -, w10⟩ := DataW.trod_int Try.underlying3 t10
  obtain rfl : f10 = .int .i64 a10 := by simpa using e10
  obtain ⟨a11, e11, -, w11⟩ := DataW.trod_int Try.underlying3 t11
  obtain rfl : f11 = .int .i64 a11 := by simpa using e11
  clear hA0 hval0
  refine (walk a00 a01 a10 a11 W w00 w01 w10 w11).mono fun e W' ⟨he, bel⟩ => ?_
  subst he
  exact ⟨_, rfl, _, _, _, [], _, [], hW', trodAll_mk1 (shut_bool Try.underlying4 _), (trodAll_cons_mk (Below.trod laidOut (by kernel_rfl) (of_decide_eq_true (by kernel_rfl)) k0 bel lt0) (trodAll_cons_mk (Below.trod laidOut (by kernel_rfl) (of_decide_eq_true (by kernel_rfl)) k1 bel lt1) trodAll_mk0)), rfl, bel.frame _, fun h => by cases h⟩

theorem over : Rows.fnExactSiteDistanceRow.holds Try.pinned (OpenSpec.ofChange Rows.fnExactSiteDistanceSpec) :=
  OpenClaim.holds_of_wide 5 Try.f5 rfl rfl rfl rfl rfl rfl rfl ⟨rfl, rfl, rfl, rfl, rfl⟩ rfl rfl rfl rfl rfl (by kernel_rfl) Try.func5 (by kernel_rfl)
    (of_decide_eq_true (by kernel_rfl)) (by unfold Func.isWrapper; first | (rw [if_pos (by decide +kernel)]; kernel_rfl) | (rw [if_neg (by decide +kernel)]; exact ⟨rfl, rfl⟩))
    (fun os started H enc _ => lifted os started H enc)

theorem proved : Rows.FnExactSiteDistanceSaid :=
  over
#print axioms proved
end Go.Proofs.Ytimoephojfpllaa.fnExactSiteDistance
