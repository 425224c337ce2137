/- spec's functions of chapter 8 that hold no text: l8Good, IsValidVelocity, l8Size, l8Near, DirectionOf, l8Square, FasterThan, TurnOf, AddVelocities, WholeSpeed. -/
import Derived.Test.YtglonedhoenkpaaVelL
import Derived.Test.YtglonedhoenkpaaIn
import Derived.BigQuiet
import Derived.Deep.QuietTactic
namespace Go.Proofs.Ytglonedhoenkpaa.vels
open Go.RowKit Go.Proofs.Ytglonedhoenkpaa.vel Go.Proofs.Ytglonedhoenkpaa.in_ Go.Proofs.Ytglonedhoenkpaa.ats Go.Proofs.Ytglonedhoenkpaa.veli Go.Proofs.Ytglonedhoenkpaa.velj Go.Proofs.Ytglonedhoenkpaa.velk Go.Proofs.Ytglonedhoenkpaa.vell

theorem good8 (x y : Int) (w : World) : Calls Try.prog 73 #[.agg #[.int .i64 x, .int .i64 y]] w fun e w' => e = .returned (.bool (vB x y)) ∧ Below w.heap.size w w' := by
  have H1 := Lib.hid (fun w => l1In x (-200) 200 w)
  have H2 := Lib.hid (fun w => l1In y (-200) 200 w)
  unfold vB
  generalize isIn x (-200) 200 = p at *
  generalize isIn y (-200) 200 = q at *
  cases p
  · go_enter Try.func73, Try.ntmps73
    go_wp2_with fail
    refine (H1.out _).mono ?_
    rintro e w1 ⟨rfl, rfl⟩
    go_wp2_with fail
    go_ret
    exact ⟨rfl, (Below.refl _ _).alloc (Nat.le_refl _) _⟩
  · go_enter Try.func73, Try.ntmps73
    go_wp2_with fail
    refine (H1.out _).mono ?_
    rintro e w1 ⟨rfl, rfl⟩
    go_wp2_with fail
    refine (H2.out _).mono ?_
    rintro e w1 ⟨rfl, rfl⟩
    go_wp2_with fail
    go_ret
    exact ⟨rfl, (Below.refl _ _).alloc (Nat.le_refl _) _⟩

theorem square8 (x y : Int) (hv : vB x y = true) (w : World) :
    Calls Try.prog 74 #[.agg #[.int .i64 x, .int .i64 y]] w fun e w' => e = .returned (.int .i64 (sq x y)) ∧ Below w.heap.size w w' := by
  obtain ⟨hx, hy⟩ := vB_yes hv
  obtain ⟨x0, x1⟩ := self_le hx
  obtain ⟨y0, y1⟩ := self_le hy
  unfold sq
  generalize hp : x * x = p at *
  generalize hq : y * y = q at *
  clear hx hy hv
  go_enter Try.func74, Try.ntmps74
  go_wp2
  go_ret
  exact ⟨rfl, (Below.refl _ _).alloc (Nat.le_refl _) _⟩

theorem most8 (x : Int) (hx : -200 ≤ x ∧ x ≤ 200) (w : World) :
    Calls Try.prog 67 #[.int .i64 x, .int .i64 (-x)] w fun e w' => e = .returned (.int .i64 (ab x)) ∧ w = w' := by
  by_cases h : 0 < x
  · rw [show ab x = x by unfold ab; rw [if_neg (by omega)]]
    have g : decide (-x < x) = true := decide_eq_true (by omega)
    go_enter Try.func67, Try.ntmps67
    go_wp2_with fail
    go_ret
    exact ⟨rfl, rfl⟩
  · rw [show ab x = -x by unfold ab; split <;> omega]
    have g : decide (-x < x) = false := decide_eq_false (by omega)
    go_enter Try.func67, Try.ntmps67
    go_wp2_with fail
    go_ret
    exact ⟨rfl, rfl⟩
theorem size8 (x : Int) (hx : -200 ≤ x ∧ x ≤ 200) (w : World) :
    Calls Try.prog 77 #[.int .i64 x] w fun e w' => e = .returned (.int .i64 (ab x)) ∧ w = w' := by
  have H1 := Lib.hid (fun w => most8 x hx w)
  obtain ⟨x0, x1⟩ := hx
  generalize ab x = v at *
  go_enter Try.func77, Try.ntmps77
  go_wp2_with fail
  refine (H1.out _).mono ?_
  rintro e w1 ⟨rfl, rfl⟩
  go_wp2_with fail
  go_ret
  exact ⟨rfl, rfl⟩
theorem ab_in (x : Int) : ab (ab x) = ab x := by
  have h : ¬ ab x < 0 := by unfold ab; split <;> omega
  show (if ab x < 0 then -ab x else ab x) = ab x
  rw [if_neg h]
theorem near_abs (a b : Int) : decide ((ab a + ab b) * (ab a + ab b) < 2 * (ab a * ab a)) = near a b := by
  unfold near
  rw [ab_sq a, Int.mul_assoc 2 a a]


end Go.Proofs.Ytglonedhoenkpaa.vels
