/- spec's functions of chapter 7 on one place or report: l7Good, IsValidPlace, l7Size, l7Report, IsValidReport, l7Of, ReportOf, l7Abs, l7Both. -/
import Derived.Test.YtadpihfegccpkaaPosM
import Derived.Test.YtadpihfegccpkaaIn
import Derived.BigQuiet
import Derived.Deep.QuietTactic
namespace Go.Proofs.Ytadpihfegccpkaa.poss
open Go.RowKit Go.Proofs.Ytadpihfegccpkaa.pos Go.Proofs.Ytadpihfegccpkaa.in_ Go.Proofs.Ytadpihfegccpkaa.posj Go.Proofs.Ytadpihfegccpkaa.posm Go.Proofs.Ytadpihfegccpkaa.ats

theorem good7 (x y : Int) (w : World) : Calls Try.prog 60 #[.agg #[.int .i64 x, .int .i64 y]] w fun e w' => e = .returned (.bool (pB x y)) ∧ Below w.heap.size w w' := by
  have H1 := Lib.hid (fun w => l1In x 0 9899 w)
  have H2 := Lib.hid (fun w => l1In y 0 9899 w)
  unfold pB
  generalize isIn x 0 9899 = p at *
  generalize isIn y 0 9899 = q at *
  cases p
  · go_enter Try.func60, Try.ntmps60
    go_wp2_with fail
    refine (H1.out _).mono ?_
    rintro e w1 ⟨rfl, rfl⟩
    go_wp2_with fail
    go_ret
    exact ⟨rfl, (Below.refl _ _).alloc (Nat.le_refl _) _⟩
  · go_enter Try.func60, Try.ntmps60
    go_wp2_with fail
    refine (H1.out _).mono ?_
    rintro e w1 ⟨rfl, rfl⟩
    go_wp2_with fail
    refine (H2.out _).mono ?_
    rintro e w1 ⟨rfl, rfl⟩
    go_wp2_with fail
    go_ret
    exact ⟨rfl, (Below.refl _ _).alloc (Nat.le_refl _) _⟩

end Go.Proofs.Ytadpihfegccpkaa.poss
