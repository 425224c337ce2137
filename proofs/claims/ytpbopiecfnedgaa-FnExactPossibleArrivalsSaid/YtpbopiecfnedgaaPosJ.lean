/- impl's functions of chapter 7 on structs, without the decoding: IsValidPlace, IsValidReport, areAll at reports and places, ReportOf, PackReport. -/
import Derived.Test.YtpbopiecfnedgaaPosI
import Derived.Test.YtpbopiecfnedgaaAtS
import Derived.RegionTactic
import Derived.BigRegion
import Derived.ChangeAlike
namespace Go.Proofs.Ytpbopiecfnedgaa.posj
open Go.RowKit Go.Proofs.Ytpbopiecfnedgaa.pos Go.Proofs.Ytpbopiecfnedgaa.in_ Go.Proofs.Ytpbopiecfnedgaa.posi Go.Proofs.Ytpbopiecfnedgaa.ats

theorem rB_parts (o : Bool) (a b : Int) : rB o a b = (decide (0 ≤ a) && (decide (a < sz o) && (decide (0 ≤ b) && decide (b < sz o)))) := by
  unfold rB isIn
  rw [Bool.eq_iff_iff]
  simp only [Bool.and_eq_true, decide_eq_true_eq]
  omega
/-- A report, a place as values. -/
def rv (o : Bool) (a b : Int) : Value := .agg #[.bool o, .int .i64 a, .int .i64 b]
def pv (x y : Int) : Value := .agg #[.int .i64 x, .int .i64 y]

theorem isValidReport (o : Bool) (a b : Int) (w : World) :
    Calls Try.prog 137 #[.agg #[.bool o, .int .i64 a, .int .i64 b]] w fun e w' => e = .returned (.bool (rB o a b)) ∧ Below w.heap.size w w' := by
  rw [rB_parts]
  have S := Lib.hid (fun w => posi.sizeOf o w)
  generalize sz o = s at *
  have g1 : decide (0 ≤ a) = decide (0 ≤ a) := rfl
  have g2 : decide (a < s) = decide (a < s) := rfl
  have g3 : decide (0 ≤ b) = decide (0 ≤ b) := rfl
  have g4 : decide (b < s) = decide (b < s) := rfl
  generalize h1 : decide (0 ≤ a) = p1 at *
  generalize h2 : decide (a < s) = p2 at *
  generalize h3 : decide (0 ≤ b) = p3 at *
  generalize h4 : decide (b < s) = p4 at *
  clear g1 g2 g3 g4
  cases p1
  · go_enter Try.func137, Try.ntmps137
    go_wp2_with fail
    refine (S.out _).mono ?_
    rintro e w1 ⟨rfl, rfl⟩
    go_wp2_with fail
    go_ret
    exact ⟨rfl, (Below.refl _ _).alloc (Nat.le_refl _) _⟩
  · cases p2
    · go_enter Try.func137, Try.ntmps137
      go_wp2_with fail
      refine (S.out _).mono ?_
      rintro e w1 ⟨rfl, rfl⟩
      go_wp2_with fail
      go_ret
      exact ⟨rfl, (Below.refl _ _).alloc (Nat.le_refl _) _⟩
    · cases p3
      · go_enter Try.func137, Try.ntmps137
        go_wp2_with fail
        refine (S.out _).mono ?_
        rintro e w1 ⟨rfl, rfl⟩
        go_wp2_with fail
        go_ret
        exact ⟨rfl, (Below.refl _ _).alloc (Nat.le_refl _) _⟩
      · cases p4
        · go_enter Try.func137, Try.ntmps137
          go_wp2_with fail
          refine (S.out _).mono ?_
          rintro e w1 ⟨rfl, rfl⟩
          go_wp2_with fail
          go_ret
          exact ⟨rfl, (Below.refl _ _).alloc (Nat.le_refl _) _⟩
        · go_enter Try.func137, Try.ntmps137
          go_wp2_with fail
          refine (S.out _).mono ?_
          rintro e w1 ⟨rfl, rfl⟩
          go_wp2_with fail
          go_ret
          exact ⟨rfl, (Below.refl _ _).alloc (Nat.le_refl _) _⟩

end Go.Proofs.Ytpbopiecfnedgaa.posj
