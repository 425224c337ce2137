/- spec's functions of chapter 7 on one place or report: l7Good, IsValidPlace, l7Size, l7Report, IsValidReport, l7Of, ReportOf, l7Abs, l7Both. -/
import Derived.Test.YtdjcbfeilkepmaaPosM
import Derived.Test.YtdjcbfeilkepmaaIn
import Derived.BigQuiet
import Derived.Deep.QuietTactic
namespace Go.Proofs.Ytdjcbfeilkepmaa.poss
open Go.RowKit Go.Proofs.Ytdjcbfeilkepmaa.pos Go.Proofs.Ytdjcbfeilkepmaa.in_ Go.Proofs.Ytdjcbfeilkepmaa.posj Go.Proofs.Ytdjcbfeilkepmaa.posm Go.Proofs.Ytdjcbfeilkepmaa.ats

theorem good7 (x y : Int) (w : World) : Calls Try.prog 160 #[.agg #[.int .i64 x, .int .i64 y]] w fun e w' => e = .returned (.bool (pB x y)) ∧ Below w.heap.size w w' := by
  have H1 := Lib.hid (fun w => l1In x 0 9899 w)
  have H2 := Lib.hid (fun w => l1In y 0 9899 w)
  unfold pB
  generalize isIn x 0 9899 = p at *
  generalize isIn y 0 9899 = q at *
  cases p
  · go_enter Try.func160, Try.ntmps160
    go_wp2_with fail
    refine (H1.out _).mono ?_
    rintro e w1 ⟨rfl, rfl⟩
    go_wp2_with fail
    go_ret
    exact ⟨rfl, (Below.refl _ _).alloc (Nat.le_refl _) _⟩
  · go_enter Try.func160, Try.ntmps160
    go_wp2_with fail
    refine (H1.out _).mono ?_
    rintro e w1 ⟨rfl, rfl⟩
    go_wp2_with fail
    refine (H2.out _).mono ?_
    rintro e w1 ⟨rfl, rfl⟩
    go_wp2_with fail
    go_ret
    exact ⟨rfl, (Below.refl _ _).alloc (Nat.le_refl _) _⟩

theorem size7 (o : Bool) (w : World) : Calls Try.prog 189 #[.bool o] w fun e w' => e = .returned (.int .i64 (sz o)) ∧ w = w' := by
  cases o
  all_goals
    go_enter Try.func189, Try.ntmps189
    go_wp2
    go_ret
    exact ⟨rfl, rfl⟩
theorem report7 (o : Bool) (a b : Int) (w : World) : Calls Try.prog 163 #[.agg #[.bool o, .int .i64 a, .int .i64 b]] w fun e w' => e = .returned (.bool (rB o a b)) ∧ Below w.heap.size w w' := by
  have H0 := Lib.hid (fun w d => aid.quiet_left (size7 o (World.drewN w d)))
  have H1 := Lib.hid (fun w d => aid.quiet_left (l1In a 0 (sz o - 1) (World.drewN w d)))
  have H2 := Lib.hid (fun w d => aid.quiet_left (l1In b 0 (sz o - 1) (World.drewN w d)))
  have hs := sz_pos o
  unfold rB
  generalize sz o = s at *
  generalize isIn a 0 (s - 1) = p at *
  generalize isIn b 0 (s - 1) = q at *
  have e1 : IntKind.i64.wrap (s - 1) = s - 1 := IntWalk.i64_in _ (by omega)
  obtain ⟨s0, s1⟩ := hs
  cases p
  all_goals
    go_enter Try.func163, Try.ntmps163
    go_wp2_with fail
    go_quiet (first
      | (go_at_call 189; with_reducible exact H0.out _ _)
      | (go_at_call 77; first | (with_reducible exact H1.out _ _) | (with_reducible exact H2.out _ _)))
    go_wp2_with fail
    go_ret
    exact ⟨rfl, aid.below_drewN ((Below.refl _ _).alloc (Nat.le_refl _) _) _⟩
end Go.Proofs.Ytdjcbfeilkepmaa.poss
