/- spec's functions of chapter 7 on one place or report: l7Good, IsValidPlace, l7Size, l7Report, IsValidReport, l7Of, ReportOf, l7Abs, l7Both. -/
import Derived.Test.YtinkkdgjpcnklaaPosM
import Derived.Test.YtinkkdgjpcnklaaIn
import Derived.BigQuiet
import Derived.Deep.QuietTactic
namespace Go.Proofs.Ytinkkdgjpcnklaa.poss
open Go.RowKit Go.Proofs.Ytinkkdgjpcnklaa.pos Go.Proofs.Ytinkkdgjpcnklaa.in_ Go.Proofs.Ytinkkdgjpcnklaa.posj Go.Proofs.Ytinkkdgjpcnklaa.posm Go.Proofs.Ytinkkdgjpcnklaa.ats

theorem good7 (x y : Int) (w : World) : Calls Try.prog 53 #[.agg #[.int .i64 x, .int .i64 y]] w fun e w' => e = .returned (.bool (pB x y)) ∧ Below w.heap.size w w' := by
  have H1 := Lib.hid (fun w => l1In x 0 9899 w)
  have H2 := Lib.hid (fun w => l1In y 0 9899 w)
  unfold pB
  generalize isIn x 0 9899 = p at *
  generalize isIn y 0 9899 = q at *
  cases p
  · go_enter Try.func53, Try.ntmps53
    go_wp2_with fail
    refine (H1.out _).mono ?_
    rintro e w1 ⟨rfl, rfl⟩
    go_wp2_with fail
    go_ret
    exact ⟨rfl, (Below.refl _ _).alloc (Nat.le_refl _) _⟩
  · go_enter Try.func53, Try.ntmps53
    go_wp2_with fail
    refine (H1.out _).mono ?_
    rintro e w1 ⟨rfl, rfl⟩
    go_wp2_with fail
    refine (H2.out _).mono ?_
    rintro e w1 ⟨rfl, rfl⟩
    go_wp2_with fail
    go_ret
    exact ⟨rfl, (Below.refl _ _).alloc (Nat.le_refl _) _⟩

end Go.Proofs.Ytinkkdgjpcnklaa.poss
