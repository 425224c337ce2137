/- impl's functions of chapter 7 on structs, without the decoding: IsValidPlace, IsValidReport, areAll at reports and places, ReportOf, PackReport. -/
import Derived.Test.YtadpihfegccpkaaPosI
import Derived.Test.YtadpihfegccpkaaAtS
import Derived.RegionTactic
import Derived.BigRegion
import Derived.ChangeAlike
namespace Go.Proofs.Ytadpihfegccpkaa.posj
open Go.RowKit Go.Proofs.Ytadpihfegccpkaa.pos Go.Proofs.Ytadpihfegccpkaa.in_ Go.Proofs.Ytadpihfegccpkaa.posi Go.Proofs.Ytadpihfegccpkaa.ats

theorem rB_parts (o : Bool) (a b : Int) : rB o a b = (decide (0 ≤ a) && (decide (a < sz o) && (decide (0 ≤ b) && decide (b < sz o)))) := by
  unfold rB isIn
  rw [Bool.eq_iff_iff]
  simp only [Bool.and_eq_true, decide_eq_true_eq]
  omega
theorem areAll_new (x y : Int) (W : World) (b : Nat) (hb : W.heap.size = b) :
    Calls Try.prog 92 #[.func (.func 93) #[] #[], .slice (some ⟨b, 0, none⟩) 2 2] (W.alloc (.cells #[.int .i64 x, .int .i64 y] 3)) fun e w' => e = .returned (.bool (pB x y)) ∧ W.alloc (.cells #[.int .i64 x, .int .i64 y] 3) = w' := by
  subst hb
  exact areAll2 x y _ _ ((newS 3 #[.int .i64 x, .int .i64 y] W).cell 0) ((newS 3 #[.int .i64 x, .int .i64 y] W).cell 1)
/-- A report, a place as values. -/
def rv (o : Bool) (a b : Int) : Value := .agg #[.bool o, .int .i64 a, .int .i64 b]
def pv (x y : Int) : Value := .agg #[.int .i64 x, .int .i64 y]

theorem isValidPlace (x y : Int) (w : World) :
    Calls Try.prog 57 #[.agg #[.int .i64 x, .int .i64 y]] w fun e w' => e = .returned (.bool (pB x y)) ∧ Below w.heap.size w w' := by
  have S := Lib.hid (fun (W : World) (b : Nat) (hb : W.heap.size = b) => areAll_new x y W b hb)
  have B0 := Lib.hid (newS 28 #[.int .i64 x, .int .i64 y] w)
  have HZ := Lib.hid (show (w.alloc (.cells #[.int .i64 x, .int .i64 y] 28)).heap.size = w.heap.size + 1 by rw [World.size_alloc])
  generalize pB x y = p at *
  go_enter Try.func57, Try.ntmps57
  go_wp2_with fail
  generalize w.alloc (.cells #[.int .i64 x, .int .i64 y] 28) = W at *
  have HB := Lib.hid (B0.out.1.trans ((newS 3 #[.int .i64 x, .int .i64 y] W).1.mono B0.out.1.size))
  refine (S.out W _ HZ.out).mono ?_
  rintro e w1 ⟨rfl, rfl⟩
  go_wp2_with fail
  go_ret
  exact ⟨rfl, HB.out⟩

theorem areAllPlace (x1 : Int) (y1 : Int) (x2 : Int) (y2 : Int) (g : Nat) (w : World) (hg : g < w.heap.size) (c0 : w.cell? ⟨g, 0, none⟩ = some (.int .i64 x1)) (c1 : w.cell? ⟨g, 1, none⟩ = some (.int .i64 y1)) (c2 : w.cell? ⟨g, 2, none⟩ = some (.int .i64 x2)) (c3 : w.cell? ⟨g, 3, none⟩ = some (.int .i64 y2)) :
    Calls Try.prog 62 #[.func (.func 57) #[] #[], .slice (some ⟨g, 0, none⟩) 2 2] w fun e w' => e = .returned (.bool (pB x1 y1 && pB x2 y2)) ∧ Below w.heap.size w w' := by
  have I1 := Lib.hid (fun w => isValidPlace x1 y1 w)
  have I2 := Lib.hid (fun w => isValidPlace x2 y2 w)
  generalize pB x1 y1 = p at *
  generalize pB x2 y2 = q at *
  go_enter Try.func62, Try.ntmps62
  go_wp2
  go_loopw [9] (fun i wr => Below w.heap.size w wr ∧ (i = .int .i64 0 ∨ (i = .int .i64 1 ∧ p = true) ∨ (i = .int .i64 2 ∧ p = true ∧ q = true))) (fun i _ => 2 - (intOf i).toNat)
  case atStart => exact ⟨Below.refl _ _, Or.inl rfl⟩
  case round =>
    obtain ⟨hb, hrel⟩ := hrel
    have d0 := (hb.cell (p := ⟨g, 0, none⟩) hg).trans c0
    have d1 := (hb.cell (p := ⟨g, 1, none⟩) hg).trans c1
    have d2 := (hb.cell (p := ⟨g, 2, none⟩) hg).trans c2
    have d3 := (hb.cell (p := ⟨g, 3, none⟩) hg).trans c3
    have HB := Lib.hid hb
    clear hb c0 c1 c2 c3
    rcases hrel with rfl | ⟨rfl, rfl⟩ | ⟨rfl, rfl, rfl⟩
    · have B1 := Lib.hid (HB.out.alloc HB.out.size (.cells #[.int .i64 x1, .int .i64 y1] 28))
      go_wp2_with fail
      refine (I1.out _).mono ?_
      rintro e w2 ⟨rfl, hb2⟩
      have B2 := Lib.hid (B1.out.trans (hb2.mono B1.out.size))
      clear hb2 HB B1
      cases p
      · go_wp2_with fail
        go_ret
        exact ⟨rfl, B2.out⟩
      · go_wp2_with fail
        go_roundw
        case rel => exact ⟨B2.out, by simp⟩
        case measure => simp [intOf]
    · have B1 := Lib.hid (HB.out.alloc HB.out.size (.cells #[.int .i64 x2, .int .i64 y2] 28))
      go_wp2_with fail
      refine (I2.out _).mono ?_
      rintro e w2 ⟨rfl, hb2⟩
      have B2 := Lib.hid (B1.out.trans (hb2.mono B1.out.size))
      clear hb2 HB B1
      cases q
      · go_wp2_with fail
        go_ret
        exact ⟨rfl, B2.out⟩
      · go_wp2_with fail
        go_roundw
        case rel => exact ⟨B2.out, by simp⟩
        case measure => simp [intOf]
    · go_wp2_with fail
      go_ret
      exact ⟨rfl, HB.out⟩
end Go.Proofs.Ytadpihfegccpkaa.posj
