/- impl's functions of chapter 7 on structs, without the decoding: IsValidPlace, IsValidReport, areAll at reports and places, ReportOf, PackReport. -/
import Derived.Test.YtelkflgmjfmadaaPosI
import Derived.Test.YtelkflgmjfmadaaAtS
import Derived.RegionTactic
import Derived.BigRegion
import Derived.ChangeAlike
namespace Go.Proofs.Ytelkflgmjfmadaa.posj
open Go.RowKit Go.Proofs.Ytelkflgmjfmadaa.pos Go.Proofs.Ytelkflgmjfmadaa.in_ Go.Proofs.Ytelkflgmjfmadaa.posi Go.Proofs.Ytelkflgmjfmadaa.ats

theorem rB_parts (o : Bool) (a b : Int) : rB o a b = (decide (0 ≤ a) && (decide (a < sz o) && (decide (0 ≤ b) && decide (b < sz o)))) := by
  unfold rB isIn
  rw [Bool.eq_iff_iff]
  simp only [Bool.and_eq_true, decide_eq_true_eq]
  omega
theorem areAll_new (x y : Int) (W : World) (b : Nat) (hb : W.heap.size = b) :
    Calls Try.prog 48 #[.func (.func 49) #[] #[], .slice (some ⟨b, 0, none⟩) 2 2] (W.alloc (.cells #[.int .i64 x, .int .i64 y] 3)) fun e w' => e = .returned (.bool (pB x y)) ∧ W.alloc (.cells #[.int .i64 x, .int .i64 y] 3) = w' := by
  subst hb
  exact areAll2 x y _ _ ((newS 3 #[.int .i64 x, .int .i64 y] W).cell 0) ((newS 3 #[.int .i64 x, .int .i64 y] W).cell 1)
/-- A report, a place as values. -/
def rv (o : Bool) (a b : Int) : Value := .agg #[.bool o, .int .i64 a, .int .i64 b]
def pv (x y : Int) : Value := .agg #[.int .i64 x, .int .i64 y]

theorem isValidReport (o : Bool) (a b : Int) (w : World) :
    Calls Try.prog 51 #[.agg #[.bool o, .int .i64 a, .int .i64 b]] w fun e w' => e = .returned (.bool (rB o a b)) ∧ Below w.heap.size w w' := by
  rw [rB_parts]
  have S := Lib.hid (fun w => posi.sizeOf o w)
  generalize sz o = s at *
  have g1 : decide (0 ≤ a) = decide (0 ≤ a) := rfl
  have g2 : decide (a < s) = decide (a < s) := rfl
  have g3 : decide (0 ≤ b) = decide (0 ≤ b) := rfl
  have g4 : decide (b < s) = decide (b < s) := rfl
  generalize h1 : decide (0 ≤ a) = p1 at *
  generalize h2 : decide (a < s) = p2 at *
  generalize h3 : decide (0 ≤ b) = p3 at *
  generalize h4 : decide (b < s) = p4 at *
  clear g1 g2 g3 g4
  cases p1
  · go_enter Try.func51, Try.ntmps51
    go_wp2_with fail
    refine (S.out _).mono ?_
    rintro e w1 ⟨rfl, rfl⟩
    go_wp2_with fail
    go_ret
    exact ⟨rfl, (Below.refl _ _).alloc (Nat.le_refl _) _⟩
  · cases p2
    · go_enter Try.func51, Try.ntmps51
      go_wp2_with fail
      refine (S.out _).mono ?_
      rintro e w1 ⟨rfl, rfl⟩
      go_wp2_with fail
      go_ret
      exact ⟨rfl, (Below.refl _ _).alloc (Nat.le_refl _) _⟩
    · cases p3
      · go_enter Try.func51, Try.ntmps51
        go_wp2_with fail
        refine (S.out _).mono ?_
        rintro e w1 ⟨rfl, rfl⟩
        go_wp2_with fail
        go_ret
        exact ⟨rfl, (Below.refl _ _).alloc (Nat.le_refl _) _⟩
      · cases p4
        · go_enter Try.func51, Try.ntmps51
          go_wp2_with fail
          refine (S.out _).mono ?_
          rintro e w1 ⟨rfl, rfl⟩
          go_wp2_with fail
          go_ret
          exact ⟨rfl, (Below.refl _ _).alloc (Nat.le_refl _) _⟩
        · go_enter Try.func51, Try.ntmps51
          go_wp2_with fail
          refine (S.out _).mono ?_
          rintro e w1 ⟨rfl, rfl⟩
          go_wp2_with fail
          go_ret
          exact ⟨rfl, (Below.refl _ _).alloc (Nat.le_refl _) _⟩

theorem isValidPlace (x y : Int) (w : World) :
    Calls Try.prog 11 #[.agg #[.int .i64 x, .int .i64 y]] w fun e w' => e = .returned (.bool (pB x y)) ∧ Below w.heap.size w w' := by
  have S := Lib.hid (fun (W : World) (b : Nat) (hb : W.heap.size = b) => areAll_new x y W b hb)
  have B0 := Lib.hid (newS 25 #[.int .i64 x, .int .i64 y] w)
  have HZ := Lib.hid (show (w.alloc (.cells #[.int .i64 x, .int .i64 y] 25)).heap.size = w.heap.size + 1 by rw [World.size_alloc])
  generalize pB x y = p at *
  go_enter Try.func11, Try.ntmps11
  go_wp2_with fail
  generalize w.alloc (.cells #[.int .i64 x, .int .i64 y] 25) = W at *
  have HB := Lib.hid (B0.out.1.trans ((newS 3 #[.int .i64 x, .int .i64 y] W).1.mono B0.out.1.size))
  refine (S.out W _ HZ.out).mono ?_
  rintro e w1 ⟨rfl, rfl⟩
  go_wp2_with fail
  go_ret
  exact ⟨rfl, HB.out⟩

theorem areAllReport (o1 : Bool) (a1 : Int) (b1 : Int) (o2 : Bool) (a2 : Int) (b2 : Int) (g : Nat) (w : World) (hg : g < w.heap.size) (c0 : w.cell? ⟨g, 0, none⟩ = some (.bool o1)) (c1 : w.cell? ⟨g, 1, none⟩ = some (.int .i64 a1)) (c2 : w.cell? ⟨g, 2, none⟩ = some (.int .i64 b1)) (c3 : w.cell? ⟨g, 3, none⟩ = some (.bool o2)) (c4 : w.cell? ⟨g, 4, none⟩ = some (.int .i64 a2)) (c5 : w.cell? ⟨g, 5, none⟩ = some (.int .i64 b2)) :
    Calls Try.prog 50 #[.func (.func 51) #[] #[], .slice (some ⟨g, 0, none⟩) 2 2] w fun e w' => e = .returned (.bool (rB o1 a1 b1 && rB o2 a2 b2)) ∧ Below w.heap.size w w' := by
  have I1 := Lib.hid (fun w => isValidReport o1 a1 b1 w)
  have I2 := Lib.hid (fun w => isValidReport o2 a2 b2 w)
  generalize rB o1 a1 b1 = p at *
  generalize rB o2 a2 b2 = q at *
  go_enter Try.func50, Try.ntmps50
  go_wp2
  go_loopw [9] (fun i wr => Below w.heap.size w wr ∧ (i = .int .i64 0 ∨ (i = .int .i64 1 ∧ p = true) ∨ (i = .int .i64 2 ∧ p = true ∧ q = true))) (fun i _ => 2 - (intOf i).toNat)
  case atStart => exact ⟨Below.refl _ _, Or.inl rfl⟩
  case round =>
    obtain ⟨hb, hrel⟩ := hrel
    have d0 := (hb.cell (p := ⟨g, 0, none⟩) hg).trans c0
    have d1 := (hb.cell (p := ⟨g, 1, none⟩) hg).trans c1
    have d2 := (hb.cell (p := ⟨g, 2, none⟩) hg).trans c2
    have d3 := (hb.cell (p := ⟨g, 3, none⟩) hg).trans c3
    have d4 := (hb.cell (p := ⟨g, 4, none⟩) hg).trans c4
    have d5 := (hb.cell (p := ⟨g, 5, none⟩) hg).trans c5
    have HB := Lib.hid hb
    clear hb c0 c1 c2 c3 c4 c5
    rcases hrel with rfl | ⟨rfl, rfl⟩ | ⟨rfl, rfl, rfl⟩
    · have B1 := Lib.hid (HB.out.alloc HB.out.size (.cells #[.bool o1, .int .i64 a1, .int .i64 b1] 29))
      go_wp2_with fail
      refine (I1.out _).mono ?_
      rintro e w2 ⟨rfl, hb2⟩
      have B2 := Lib.hid (B1.out.trans (hb2.mono B1.out.size))
      clear hb2 HB B1
      cases p
      · go_wp2_with fail
        go_ret
        exact ⟨rfl, B2.out⟩
      · go_wp2_with fail
        go_roundw
        case rel => exact ⟨B2.out, by simp⟩
        case measure => simp [intOf]
    · have B1 := Lib.hid (HB.out.alloc HB.out.size (.cells #[.bool o2, .int .i64 a2, .int .i64 b2] 29))
      go_wp2_with fail
      refine (I2.out _).mono ?_
      rintro e w2 ⟨rfl, hb2⟩
      have B2 := Lib.hid (B1.out.trans (hb2.mono B1.out.size))
      clear hb2 HB B1
      cases q
      · go_wp2_with fail
        go_ret
        exact ⟨rfl, B2.out⟩
      · go_wp2_with fail
        go_roundw
        case rel => exact ⟨B2.out, by simp⟩
        case measure => simp [intOf]
    · go_wp2_with fail
      go_ret
      exact ⟨rfl, HB.out⟩

end Go.Proofs.Ytelkflgmjfmadaa.posj
