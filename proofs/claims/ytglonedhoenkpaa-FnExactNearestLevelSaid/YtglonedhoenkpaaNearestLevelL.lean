/- For every slice of Cleareds and all other arguments the law FnExactNearestLevel returns true: impl.NearestLevel and spec.NearestLevel return the same level and true, or both 0 and false; the arguments are left as they were. No condition. -/
import Derived.Test.YtglonedhoenkpaaRows
import Derived.Test.YtglonedhoenkpaaLvlV
import Derived.Test.YtglonedhoenkpaaLvlF
import Derived.Test.YtglonedhoenkpaaVelX
import Derived.Test.YtglonedhoenkpaaIntC
import Derived.Test.YtglonedhoenkpaaLstO
import Derived.Test.YtglonedhoenkpaaLvlE
import Derived.WalkKit
import Derived.ProofKit
import Derived.OpenShut
import Derived.ShutString
import Derived.ChangeOld
import Derived.Below
import Derived.Lib.SmallJoins
import Derived.Lib.QuietBelow
import Derived.Deep.RegionHeld3
import Derived.Deep.CutRange
namespace Go.Proofs.Ytglonedhoenkpaa.fnExactNearestLevel
open Go.ChangeShapes Go.WideShapes Go.ChangeAt Go.RowKit Go.Joins Go.Proofs.Ytglonedhoenkpaa.ats Go.Proofs.Ytglonedhoenkpaa.ints Go.Proofs.Ytglonedhoenkpaa.lst Go.Proofs.Ytglonedhoenkpaa.intc Go.Proofs.Ytglonedhoenkpaa.code_
open Go.ChangeMaps (open_string shut_string)
set_option linter.unusedVariables false

theorem bool_ne_self (b : Bool) : (b != b) = false := by simp
theorem int_ne_self (x : Int) : (x != x) = false := by simp

/-- The function f returns this. -/
def Gives (f : Nat) (z0 : List Int) (n0 : Nat) (a10 : Int) (a11 : Int) (a2 : Int) (a3 : Int) (a4 : Int) (a5 : Int) (O0 : Int) (O1 : Bool) : Prop := ∀ (A0 : Option Addr) (c0 : Nat) (w : World), n0 ≤ c0 → RdZ 5 w w.heap.size A0 n0 z0 → 
  Calls Try.prog f #[.slice A0 n0 c0, .agg #[.int .i64 a10, .int .i64 a11], .int .i64 a2, .int .i64 a3, .int .i64 a4, .int .i64 a5] w fun e w' => e = .returned (.tuple #[.int .i64 O0, .bool O1]) ∧ Below w.heap.size w w'

set_option maxRecDepth 100000 in
set_option maxHeartbeats 8000000 in
theorem law_of (a0 : Option Addr) (c0 : Nat) (z0 : List Int) (n0 : Nat) (a10 : Int) (a11 : Int) (a2 : Int) (a3 : Int) (a4 : Int) (a5 : Int) (O0 : Int) (O1 : Bool) (w : World) (hn0 : n0 ≤ 1048576) (hr0 : RdZ 5 w w.heap.size a0 n0 z0)
    (hs : Gives 36 z0 n0 a10 a11 a2 a3 a4 a5 O0 O1) (hi : Gives 35 z0 n0 a10 a11 a2 a3 a4 a5 O0 O1) :
    Calls Try.prog 11 #[.slice a0 n0 c0, .agg #[.int .i64 a10, .int .i64 a11], .int .i64 a2, .int .i64 a3, .int .i64 a4, .int .i64 a5] w fun e w' => e = .returned (.bool true) ∧ Below w.heap.size w w' := by
  have HZ0 := Lib.hid (fun w => lvle.sz a0 n0 c0 w (by unfold maxLen; omega))
  rw [if_pos hn0] at HZ0
  have d0 : decide ((1048576 : Int) - (n0 : Int) < 0) = false := decide_eq_false (by omega)
  have HC0 := Lib.hid (fun (w' : World) (hb : Below w.heap.size w w') => lvle.copyS z0 a0 n0 c0 w' hn0 (hr0.next hb))
  have HL0 := Lib.hid hr0.1
  have HS := Lib.hid (fun (A0 : Option Addr) (c0 : Nat) (w : World) (e0 : n0 ≤ c0) (h0 : RdZ 5 w w.heap.size A0 n0 z0) => hs A0 c0 w e0 h0)
  have HI := Lib.hid (fun (A0 : Option Addr) (c0 : Nat) (w : World) (e0 : n0 ≤ c0) (h0 : RdZ 5 w w.heap.size A0 n0 z0) => hi A0 c0 w e0 h0)
  have ne0 := int_ne_self O0
  have ne1 := bool_ne_self O1
  clear hs hi hr0
  have BX1 := Lib.hid (newS 60 #[.int .i64 a10, .int .i64 a11] w)
  go_enter Try.func11, Try.ntmps11
  go_wp2_with fail
  generalize (w.alloc (.cells #[.int .i64 a10, .int .i64 a11] 60)) = W0 at *
  have AN1 := Lib.hid (BX1.out.1)
  have AN2 := Lib.hid (Below.refl W0.heap.size W0)
  refine (HZ0.out W0).mono ?_
  rintro e w' ⟨rfl, rfl⟩
  go_upto_region 5 with fail
  have CS3 := Lib.hid (show ∀ WZ : World, Below W0.heap.size W0 WZ → WZ.cell? ⟨w.heap.size, 0, none⟩ = some (.int .i64 a10) ∧ WZ.cell? ⟨w.heap.size, 1, none⟩ = some (.int .i64 a11) from fun WZ hz => And.intro (lvle.at_cell (BX1.out.old (AN2.out.trans (hz.mono AN2.out.size))) 0 (.int .i64 a10) rfl) (lvle.at_cell (BX1.out.old (AN2.out.trans (hz.mono AN2.out.size))) 1 (.int .i64 a11) rfl))
  have KC0_3 := Lib.hid (fun (WZ : World) (hz : Below W0.heap.size W0 WZ) => HC0.out WZ (AN1.out.trans (hz.mono AN1.out.size)))
  go_cut [14, 15] from 24 to 35 (fun p0 p1 wz => p0 = .int .i64 O0 ∧ p1 = .bool O1 ∧ Below W0.heap.size W0 wz)
  case first =>
    go_region_held3 (fun w' => w'.cell? ⟨w.heap.size, 0, none⟩ = some (.int .i64 a10) ∧ w'.cell? ⟨w.heap.size, 1, none⟩ = some (.int .i64 a11)) (first
      | exact CS3.out _ (Below.refl W0.heap.size W0).drew
      | exact CS3.out _ (by assumption)
      | go_keep) (first
      | (go_at_call 45; (with_reducible refine (KC0_3.out _ (by first | exact (Below.refl W0.heap.size W0).drew | assumption)).mono ?_); rintro e w0' ⟨g0, rfl, ho, hb⟩
         have hl0' := lvle.bl_next (V := W0) (by first | exact (Below.refl W0.heap.size W0).drew | assumption) hb
         have r0_0 := RdZ.of_own ho HL0.out
         clear ho hb)
      | (go_at_call 42; (with_reducible refine (velx.toVelocity a10 a11 _).mono ?_); rintro e w1' ⟨rfl, hb⟩
         have hl1' := lvle.bl_next (V := W0) (by first | exact (Below.refl W0.heap.size W0).drew | assumption) hb
         have r0_1 := r0_0.next hb
         clear hb)
      | (go_at_call 36; (with_reducible refine (HS.out _ _ _ (Nat.le_refl _) r0_1).mono ?_); rintro e wF' ⟨rfl, hb⟩
         have hlF := lvle.bl_next (V := W0) (by assumption) hb
         clear hb))
    all_goals (go_wp2_with fail; go_meet; exact ⟨rfl, rfl, by assumption⟩)
  case rest =>
    obtain ⟨rfl, rfl, h5⟩ := hcut
    generalize wc = V4 at *
    clear CS3 KC0_3
    have AN7 := Lib.hid (AN1.out.trans (h5.mono AN1.out.size))
    clear AN1
    have AN8 := Lib.hid (AN2.out.trans (h5.mono AN2.out.size))
    clear AN2
    clear h5
    go_wp2_with fail
    refine (HC0.out V4 AN7.out).mono ?_
    rintro e V9 ⟨g12, rfl, ho11, h10⟩
    have LE13 := Lib.hid AN7.out.size
    have LE14 := Lib.hid AN8.out.size
    have AN15 := Lib.hid (AN7.out.trans (h10.mono AN7.out.size))
    clear AN7
    have AN16 := Lib.hid (AN8.out.trans (h10.mono AN8.out.size))
    clear AN8
    have rd17 := Lib.hid (RdZ.of_own ho11 HL0.out)
    have OW18 := Lib.hid ho11
    have LT19 := Lib.hid (own_row_lt ho11)
    have AN20 := Lib.hid (Below.refl V9.heap.size V9)
    clear h10 ho11
    have S21 := Lib.hid (BX1.out.old AN16.out)
    have c22 : V9.cell? ⟨w.heap.size, 0, none⟩ = some (.int .i64 a10) := S21.out.cell 0
    have c23 : V9.cell? ⟨w.heap.size, 1, none⟩ = some (.int .i64 a11) := S21.out.cell 1
    go_wp2_with fail
    clear c22 c23 S21
    refine (velx.toVelocity a10 a11 V9).mono ?_
    rintro e V24 ⟨rfl, h25⟩
    have AN26 := Lib.hid (AN15.out.trans (h25.mono AN15.out.size))
    clear AN15
    have AN27 := Lib.hid (AN16.out.trans (h25.mono AN16.out.size))
    clear AN16
    have AN28 := Lib.hid (AN20.out.trans (h25.mono AN20.out.size))
    clear AN20
    have OW29 := Lib.hid (own_.own_below OW18.out h25)
    clear OW18
    clear h25
    have rd30 := Lib.hid (RdZ.of_own OW29.out HL0.out)
    have LE31 := Lib.hid AN26.out.size
    have LE32 := Lib.hid AN27.out.size
    have LE33 := Lib.hid AN28.out.size
    go_wp2_with fail
    refine (HI.out _ _ V24 (Nat.le_refl _) rd30.out).mono ?_
    rintro e V34 ⟨rfl, h35⟩
    clear rd30
    have AN37 := Lib.hid (AN26.out.trans (h35.mono AN26.out.size))
    clear AN26
    have AN38 := Lib.hid (AN27.out.trans (h35.mono AN27.out.size))
    clear AN27
    have AN39 := Lib.hid (AN28.out.trans (h35.mono AN28.out.size))
    clear AN28
    have OW40 := Lib.hid (own_.own_below OW29.out h35)
    clear OW29
    clear h35
    clear AN39
    go_wp2_with fail
    refine (HC0.out V34 AN37.out).mono ?_
    rintro e V41 ⟨g44, rfl, ho43, h42⟩
    have AN45 := Lib.hid (AN37.out.trans (h42.mono AN37.out.size))
    clear AN37
    have AN46 := Lib.hid (AN38.out.trans (h42.mono AN38.out.size))
    clear AN38
    have OW47 := Lib.hid (own_.own_below OW40.out h42)
    clear OW40
    have rd48 := Lib.hid (RdZ.of_own ho43 HL0.out)
    clear h42 ho43
    have E49 := Lib.hid (lvle.eqS z0 _ _ n0 n0 n0 V41 (by omega) (RdZ.of_own OW47.out HL0.out) rd48.out)
    clear rd48
    go_wp2_with fail
    refine E49.out.mono ?_
    rintro e V50 ⟨rfl, h51⟩
    clear E49
    have AN52 := Lib.hid (AN45.out.trans (h51.mono AN45.out.size))
    clear AN45
    have AN53 := Lib.hid (AN46.out.trans (h51.mono AN46.out.size))
    clear AN46
    have OW54 := Lib.hid (own_.own_below OW47.out h51)
    clear OW47
    clear h51
    go_wp2_with fail
    go_ret
    exact ⟨rfl, AN52.out⟩

set_option maxRecDepth 100000 in
theorem walk (a0 : Option Addr) (n0 c0 : Nat) (z0 : List Int) (a10 : Int) (a11 : Int) (a2 : Int) (a3 : Int) (a4 : Int) (a5 : Int) (w : World) (w0 : RdZ 5 w w.heap.size a0 n0 z0) (l0 : n0 ≤ maxLen) (w10 : (Lit.int .i64 a10).wf = true) (w11 : (Lit.int .i64 a11).wf = true) (w2 : (Lit.int .i64 a2).wf = true) (w3 : (Lit.int .i64 a3).wf = true) (w4 : (Lit.int .i64 a4).wf = true) (w5 : (Lit.int .i64 a5).wf = true) :
    Calls Try.prog 11 #[.slice a0 n0 c0, .agg #[.int .i64 a10, .int .i64 a11], .int .i64 a2, .int .i64 a3, .int .i64 a4, .int .i64 a5] w fun e w' => e = .returned (.bool true) ∧ Below w.heap.size w w' := by
  by_cases hn0 : n0 ≤ 1048576
  · skip
    exact law_of a0 c0 z0 n0 a10 a11 a2 a3 a4 a5 (lvl.nrV z0 n0 a10 a11 a2 a3 a4 a5) (lvl.nrO z0 n0 a10 a11 a2 a3 a4 a5) w hn0 w0
      (fun A0 c0 w hc0 h0 => lvlv.nearestLevel z0 a10 a11 a2 a3 a4 a5 A0 n0 c0 w hc0 (by omega) h0)
      (fun A0 c0 w hc0 h0 => lvlf.nearestLevel z0 a10 a11 a2 a3 a4 a5 A0 n0 c0 w hc0 (by omega) h0)
  · have HZ0 := Lib.hid (fun w => lvle.sz a0 n0 c0 w l0)
    rw [if_neg hn0] at HZ0
    clear w0 l0 w10 w11 w2 w3 w4 w5 hn0
    go_enter Try.func11, Try.ntmps11
    go_wp2_with fail
    refine (HZ0.out _).mono ?_
    rintro e w' ⟨rfl, rfl⟩
    go_wp2_with fail
    go_ret
    exact ⟨rfl, (Below.refl _ _).alloc (Nat.le_refl _) _⟩


theorem own : ownKnob Try.prog.godebug = none := by kernel_rfl
theorem laidOut : laidOutB Try.prog = true := by kernel_rfl

set_option maxRecDepth 100000 in
theorem lifted (os : Os) (started : os.Started) (H : Type) (enc : TypeId × Value → H) :
    ReturnsInHanded {} Try.checked os 11 .any (Rows.fnExactNearestLevelSpec.pre6 enc Try.prog Try.f11 Rows.fnExactNearestLevelRow.domain false) (Rows.fnExactNearestLevelSpec.post enc Try.prog Try.f11 false true false false) := by
  refine returnsInHanded_of_change (C := Try.checked) own started (by kernel_rfl) Try.func11
    (ChangeSpec.witness6 (enc := enc) (C := Try.checked) false ⟨#[], #[.slice none 0 0, .agg #[.int .i64 0, .int .i64 0], .int .i64 0, .int .i64 0, .int .i64 0, .int .i64 0], []⟩ 8 (by kernel_rfl) (by kernel_rfl) (by kernel_rfl) (by kernel_rfl)) ?_
  intro W base args ds gs before hval0 hW hcnd _
  have hval : ∀ (j : Nat) t v, Try.f11.params[j]? = some t → args[j]? = some v → Value.okWide Try.prog W .any base t v := hval0
  have hW' := hW
  obtain ⟨p, q, hA0, hV, rfl, hfz, hnd⟩ := hW
  have hA : DataW.TrodAll enc Try.prog W 0 (fun _ => true) true Try.f11.params.toList args.toList ds p := hA0
  rw [Try.params11] at hA hval
  obtain ⟨v0, vs0, d0, ds0, p0, q0, hargs, rfl, rfl, h0, r0⟩ := trodAll_cons hA
  obtain ⟨v1, vs1, d1, ds1, p1, q1, rfl, rfl, rfl, h1, r1⟩ := trodAll_cons r0
  obtain ⟨v2, vs2, d2, ds2, p2, q2, rfl, rfl, rfl, h2, r2⟩ := trodAll_cons r1
  obtain ⟨v3, vs3, d3, ds3, p3, q3, rfl, rfl, rfl, h3, r3⟩ := trodAll_cons r2
  obtain ⟨v4, vs4, d4, ds4, p4, q4, rfl, rfl, rfl, h4, r4⟩ := trodAll_cons r3
  obtain ⟨v5, vs5, d5, ds5, p5, q5, rfl, rfl, rfl, h5, r5⟩ := trodAll_cons r4
  obtain ⟨rfl, rfl, rfl⟩ := trodAll_nil r5
  obtain rfl : args = #[v0, v1, v2, v3, v4, v5] := by cases args; simp_all
  obtain ⟨rfl, rfl⟩ := trodVars_none hV
  obtain ⟨a0, len0, cap0, rfl⟩ := okWide_slice Try.underlying63 (hval 0 63 v0 rfl rfl)
  have k0 := h0
  have lt0 : ∀ x ∈ p0, x.block < W.heap.size := by obtain ⟨m, hm⟩ := k0; exact DataW.trod_lt m _ _ _ hm
  obtain ⟨z0, w0, n0⟩ : ∃ zs, lst.RdZ 5 W W.heap.size a0 len0 zs ∧ len0 ≤ maxLen := by
    obtain ⟨fuel, hf⟩ := h0
    obtain ⟨A, n, c, zs, hcs, hrd, hle⟩ := lsto.open_structs Try.underlying63 Try.underlying67 (by kernel_rfl) (by kernel_rfl) (by decide) (by
        intro j f hg
        match j, hg with
        | 0, hg => exact (Option.some.inj hg) ▸ Try.underlying3
        | 1, hg => exact (Option.some.inj hg) ▸ Try.underlying3
        | 2, hg => exact (Option.some.inj hg) ▸ Try.underlying3
        | 3, hg => exact (Option.some.inj hg) ▸ Try.underlying3
        | 4, hg => exact (Option.some.inj hg) ▸ Try.underlying3
        | q + 5, hg => exact absurd (Array.getElem?_eq_some_iff.1 hg).1 (by simp)) hf
    simp [Value.cells] at hcs
    obtain ⟨rfl, rfl, rfl⟩ := hcs
    exact ⟨zs, hrd, hle⟩
  have k1 := h1
  have lt1 : ∀ x ∈ p1, x.block < W.heap.size := by obtain ⟨m, hm⟩ := k1; exact DataW.trod_lt m _ _ _ hm
  obtain ⟨f10, f11, y10, y11, m1, rfl, rfl, rfl, t10, t11⟩ := open_agg2 Try.underlying60 (by kernel_rfl) (by kernel_rfl) (hval 1 60 v1 rfl rfl) h1
  obtain ⟨a10, e10, -, w10⟩ := DataW.trod_int Try.underlying3 t10
  obtain rfl : f10 = .int .i64 a10 := by simpa using e10
  obtain ⟨a11, e11, -, w11⟩ := DataW.trod_int Try.underlying3 t11
  obtain rfl : f11 = .int .i64 a11 := by simpa using e11
  obtain ⟨a2, rfl, rfl, rfl, w2⟩ := open_int Try.underlying3 (hval 2 3 v2 rfl rfl) h2
  obtain ⟨a3, rfl, rfl, rfl, w3⟩ := open_int Try.underlying3 (hval 3 3 v3 rfl rfl) h3
  obtain ⟨a4, rfl, rfl, rfl, w4⟩ := open_int Try.underlying3 (hval 4 3 v4 rfl rfl) h4
  obtain ⟨a5, rfl, rfl, rfl, w5⟩ := open_int Try.underlying3 (hval 5 3 v5 rfl rfl) h5
  clear hA0 hval0
  refine (walk a0 len0 cap0 z0 a10 a11 a2 a3 a4 a5 W w0 n0 w10 w11 w2 w3 w4 w5).mono fun e W' ⟨he, bel⟩ => ?_
  subst he
  exact ⟨_, rfl, _, _, _, [], _, [], hW', trodAll_mk1 (shut_bool Try.underlying4 _), (trodAll_cons_mk (Below.trod laidOut (by kernel_rfl) (of_decide_eq_true (by kernel_rfl)) k0 bel lt0) (trodAll_cons_mk (Below.trod laidOut (by kernel_rfl) (of_decide_eq_true (by kernel_rfl)) k1 bel lt1) (trodAll_cons_mk (shut_int Try.underlying3 w2) (trodAll_cons_mk (shut_int Try.underlying3 w3) (trodAll_cons_mk (shut_int Try.underlying3 w4) (trodAll_cons_mk (shut_int Try.underlying3 w5) trodAll_mk0)))))), rfl, bel.frame _, fun h => by cases h⟩

theorem over : Rows.fnExactNearestLevelRow.holds Try.pinned (OpenSpec.ofChange Rows.fnExactNearestLevelSpec) :=
  OpenClaim.holds_of_wide 11 Try.f11 rfl rfl rfl rfl rfl rfl rfl ⟨rfl, rfl, rfl, rfl, rfl⟩ rfl rfl rfl rfl rfl (by kernel_rfl) Try.func11 (by kernel_rfl)
    (of_decide_eq_true (by kernel_rfl)) (by unfold Func.isWrapper; first | (rw [if_pos (by decide +kernel)]; kernel_rfl) | (rw [if_neg (by decide +kernel)]; exact ⟨rfl, rfl⟩))
    (fun os started H enc _ => lifted os started H enc)

theorem proved : Rows.FnExactNearestLevelSaid :=
  over
#print axioms proved
end Go.Proofs.Ytglonedhoenkpaa.fnExactNearestLevel
