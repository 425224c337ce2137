/- impl's functions of chapter 7 on structs, without the decoding: IsValidPlace, IsValidReport, areAll at reports and places, ReportOf, PackReport. -/
import Derived.Test.YtkndfklbonkbiaaPosI
import Derived.Test.YtkndfklbonkbiaaAtS
import Derived.RegionTactic
import Derived.BigRegion
import Derived.ChangeAlike
namespace Go.Proofs.Ytkndfklbonkbiaa.posj
open Go.RowKit Go.Proofs.Ytkndfklbonkbiaa.pos Go.Proofs.Ytkndfklbonkbiaa.in_ Go.Proofs.Ytkndfklbonkbiaa.posi Go.Proofs.Ytkndfklbonkbiaa.ats

theorem rB_parts (o : Bool) (a b : Int) : rB o a b = (decide (0 ≤ a) && (decide (a < sz o) && (decide (0 ≤ b) && decide (b < sz o)))) := by
  unfold rB isIn
  rw [Bool.eq_iff_iff]
  simp only [Bool.and_eq_true, decide_eq_true_eq]
  omega
theorem areAll_new (x y : Int) (W : World) (b : Nat) (hb : W.heap.size = b) :
    Calls Try.prog 90 #[.func (.func 91) #[] #[], .slice (some ⟨b, 0, none⟩) 2 2] (W.alloc (.cells #[.int .i64 x, .int .i64 y] 3)) fun e w' => e = .returned (.bool (pB x y)) ∧ W.alloc (.cells #[.int .i64 x, .int .i64 y] 3) = w' := by
  subst hb
  exact areAll2 x y _ _ ((newS 3 #[.int .i64 x, .int .i64 y] W).cell 0) ((newS 3 #[.int .i64 x, .int .i64 y] W).cell 1)
/-- A report, a place as values. -/
def rv (o : Bool) (a b : Int) : Value := .agg #[.bool o, .int .i64 a, .int .i64 b]
def pv (x y : Int) : Value := .agg #[.int .i64 x, .int .i64 y]

theorem isValidReport (o : Bool) (a b : Int) (w : World) :
    Calls Try.prog 132 #[.agg #[.bool o, .int .i64 a, .int .i64 b]] w fun e w' => e = .returned (.bool (rB o a b)) ∧ Below w.heap.size w w' := by
  rw [rB_parts]
  have S := Lib.hid (fun w => posi.sizeOf o w)
  generalize sz o = s at *
  have g1 : decide (0 ≤ a) = decide (0 ≤ a) := rfl
  have g2 : decide (a < s) = decide (a < s) := rfl
  have g3 : decide (0 ≤ b) = decide (0 ≤ b) := rfl
  have g4 : decide (b < s) = decide (b < s) := rfl
  generalize h1 : decide (0 ≤ a) = p1 at *
  generalize h2 : decide (a < s) = p2 at *
  generalize h3 : decide (0 ≤ b) = p3 at *
  generalize h4 : decide (b < s) = p4 at *
  clear g1 g2 g3 g4
  cases p1
  · go_enter Try.func132, Try.ntmps132
    go_wp2_with fail
    refine (S.out _).mono ?_
    rintro e w1 ⟨rfl, rfl⟩
    go_wp2_with fail
    go_ret
    exact ⟨rfl, (Below.refl _ _).alloc (Nat.le_refl _) _⟩
  · cases p2
    · go_enter Try.func132, Try.ntmps132
      go_wp2_with fail
      refine (S.out _).mono ?_
      rintro e w1 ⟨rfl, rfl⟩
      go_wp2_with fail
      go_ret
      exact ⟨rfl, (Below.refl _ _).alloc (Nat.le_refl _) _⟩
    · cases p3
      · go_enter Try.func132, Try.ntmps132
        go_wp2_with fail
        refine (S.out _).mono ?_
        rintro e w1 ⟨rfl, rfl⟩
        go_wp2_with fail
        go_ret
        exact ⟨rfl, (Below.refl _ _).alloc (Nat.le_refl _) _⟩
      · cases p4
        · go_enter Try.func132, Try.ntmps132
          go_wp2_with fail
          refine (S.out _).mono ?_
          rintro e w1 ⟨rfl, rfl⟩
          go_wp2_with fail
          go_ret
          exact ⟨rfl, (Below.refl _ _).alloc (Nat.le_refl _) _⟩
        · go_enter Try.func132, Try.ntmps132
          go_wp2_with fail
          refine (S.out _).mono ?_
          rintro e w1 ⟨rfl, rfl⟩
          go_wp2_with fail
          go_ret
          exact ⟨rfl, (Below.refl _ _).alloc (Nat.le_refl _) _⟩

theorem isValidPlace (x y : Int) (w : World) :
    Calls Try.prog 49 #[.agg #[.int .i64 x, .int .i64 y]] w fun e w' => e = .returned (.bool (pB x y)) ∧ Below w.heap.size w w' := by
  have S := Lib.hid (fun (W : World) (b : Nat) (hb : W.heap.size = b) => areAll_new x y W b hb)
  have B0 := Lib.hid (newS 31 #[.int .i64 x, .int .i64 y] w)
  have HZ := Lib.hid (show (w.alloc (.cells #[.int .i64 x, .int .i64 y] 31)).heap.size = w.heap.size + 1 by rw [World.size_alloc])
  generalize pB x y = p at *
  go_enter Try.func49, Try.ntmps49
  go_wp2_with fail
  generalize w.alloc (.cells #[.int .i64 x, .int .i64 y] 31) = W at *
  have HB := Lib.hid (B0.out.1.trans ((newS 3 #[.int .i64 x, .int .i64 y] W).1.mono B0.out.1.size))
  refine (S.out W _ HZ.out).mono ?_
  rintro e w1 ⟨rfl, rfl⟩
  go_wp2_with fail
  go_ret
  exact ⟨rfl, HB.out⟩

theorem areAllPlace (x1 : Int) (y1 : Int) (x2 : Int) (y2 : Int) (g : Nat) (w : World) (hg : g < w.heap.size) (c0 : w.cell? ⟨g, 0, none⟩ = some (.int .i64 x1)) (c1 : w.cell? ⟨g, 1, none⟩ = some (.int .i64 y1)) (c2 : w.cell? ⟨g, 2, none⟩ = some (.int .i64 x2)) (c3 : w.cell? ⟨g, 3, none⟩ = some (.int .i64 y2)) :
    Calls Try.prog 56 #[.func (.func 49) #[] #[], .slice (some ⟨g, 0, none⟩) 2 2] w fun e w' => e = .returned (.bool (pB x1 y1 && pB x2 y2)) ∧ Below w.heap.size w w' := by
  have I1 := Lib.hid (fun w => isValidPlace x1 y1 w)
  have I2 := Lib.hid (fun w => isValidPlace x2 y2 w)
  generalize pB x1 y1 = p at *
  generalize pB x2 y2 = q at *
  go_enter Try.func56, Try.ntmps56
  go_wp2
  go_loopw [9] (fun i wr => Below w.heap.size w wr ∧ (i = .int .i64 0 ∨ (i = .int .i64 1 ∧ p = true) ∨ (i = .int .i64 2 ∧ p = true ∧ q = true))) (fun i _ => 2 - (intOf i).toNat)
  case atStart => exact ⟨Below.refl _ _, Or.inl rfl⟩
  case round =>
    obtain ⟨hb, hrel⟩ := hrel
    have d0 := (hb.cell (p := ⟨g, 0, none⟩) hg).trans c0
    have d1 := (hb.cell (p := ⟨g, 1, none⟩) hg).trans c1
    have d2 := (hb.cell (p := ⟨g, 2, none⟩) hg).trans c2
    have d3 := (hb.cell (p := ⟨g, 3, none⟩) hg).trans c3
    have HB := Lib.hid hb
    clear hb c0 c1 c2 c3
    rcases hrel with rfl | ⟨rfl, rfl⟩ | ⟨rfl, rfl, rfl⟩
    · have B1 := Lib.hid (HB.out.alloc HB.out.size (.cells #[.int .i64 x1, .int .i64 y1] 31))
      go_wp2_with fail
      refine (I1.out _).mono ?_
      rintro e w2 ⟨rfl, hb2⟩
      have B2 := Lib.hid (B1.out.trans (hb2.mono B1.out.size))
      clear hb2 HB B1
      cases p
      · go_wp2_with fail
        go_ret
        exact ⟨rfl, B2.out⟩
      · go_wp2_with fail
        go_roundw
        case rel => exact ⟨B2.out, by simp⟩
        case measure => simp [intOf]
    · have B1 := Lib.hid (HB.out.alloc HB.out.size (.cells #[.int .i64 x2, .int .i64 y2] 31))
      go_wp2_with fail
      refine (I2.out _).mono ?_
      rintro e w2 ⟨rfl, hb2⟩
      have B2 := Lib.hid (B1.out.trans (hb2.mono B1.out.size))
      clear hb2 HB B1
      cases q
      · go_wp2_with fail
        go_ret
        exact ⟨rfl, B2.out⟩
      · go_wp2_with fail
        go_roundw
        case rel => exact ⟨B2.out, by simp⟩
        case measure => simp [intOf]
    · go_wp2_with fail
      go_ret
      exact ⟨rfl, HB.out⟩
end Go.Proofs.Ytkndfklbonkbiaa.posj
