/- spec's functions of chapter 7 on one place or report: l7Good, IsValidPlace, l7Size, l7Report, IsValidReport, l7Of, ReportOf, l7Abs, l7Both. -/
import Derived.Test.YtinkkdgjpcnklaaDoorPosM
import Derived.Test.YtinkkdgjpcnklaaDoorIn
import Derived.BigQuiet
import Derived.Deep.QuietTactic
namespace Go.Proofs.YtinkkdgjpcnklaaDoor.poss
open Go.RowKit Go.Proofs.YtinkkdgjpcnklaaDoor.pos Go.Proofs.YtinkkdgjpcnklaaDoor.in_ Go.Proofs.YtinkkdgjpcnklaaDoor.posj Go.Proofs.YtinkkdgjpcnklaaDoor.posm Go.Proofs.YtinkkdgjpcnklaaDoor.ats

theorem good7 (x y : Int) (w : World) : Calls Tryd.prog 34 #[.agg #[.int .i64 x, .int .i64 y]] w fun e w' => e = .returned (.bool (pB x y)) ∧ Below w.heap.size w w' := by
  have H1 := Lib.hid (fun w => l1In x 0 9899 w)
  have H2 := Lib.hid (fun w => l1In y 0 9899 w)
  unfold pB
  generalize isIn x 0 9899 = p at *
  generalize isIn y 0 9899 = q at *
  cases p
  · go_enter Tryd.func34, Tryd.ntmps34
    go_wp2_with fail
    refine (H1.out _).mono ?_
    rintro e w1 ⟨rfl, rfl⟩
    go_wp2_with fail
    go_ret
    exact ⟨rfl, (Below.refl _ _).alloc (Nat.le_refl _) _⟩
  · go_enter Tryd.func34, Tryd.ntmps34
    go_wp2_with fail
    refine (H1.out _).mono ?_
    rintro e w1 ⟨rfl, rfl⟩
    go_wp2_with fail
    refine (H2.out _).mono ?_
    rintro e w1 ⟨rfl, rfl⟩
    go_wp2_with fail
    go_ret
    exact ⟨rfl, (Below.refl _ _).alloc (Nat.le_refl _) _⟩

end Go.Proofs.YtinkkdgjpcnklaaDoor.poss
