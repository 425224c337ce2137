/- spec.l1In: is a number in a range? -/
import Derived.Test.YtkndfklbonkbiaaProg
import Derived.WalkKit
namespace Go.Proofs.Ytkndfklbonkbiaa.in_
open Go.RowKit

/-- Is x between a and b? -/
def isIn (x a b : Int) : Bool := decide (a ≤ x ∧ x ≤ b)
theorem l1In (x a b : Int) (w : World) :
    Calls Try.prog 85 #[.int .i64 x, .int .i64 a, .int .i64 b] w fun e w' => e = .returned (.bool (isIn x a b)) ∧ w = w' := by
  by_cases h1 : a ≤ x
  · have g1 : decide (a ≤ x) = true := decide_eq_true h1
    by_cases h2 : x ≤ b
    · have g2 : decide (x ≤ b) = true := decide_eq_true h2
      have e : isIn x a b = true := decide_eq_true ⟨h1, h2⟩
      rw [e]
      clear h1 h2 e
      go_enter Try.func85, Try.ntmps85
      go_wp2
      go_ret
      exact ⟨rfl, rfl⟩
    · have g2 : decide (x ≤ b) = false := decide_eq_false h2
      have e : isIn x a b = false := decide_eq_false (fun h => h2 h.2)
      rw [e]
      clear h1 h2 e
      go_enter Try.func85, Try.ntmps85
      go_wp2
      go_ret
      exact ⟨rfl, rfl⟩
  · have g1 : decide (a ≤ x) = false := decide_eq_false h1
    have e : isIn x a b = false := decide_eq_false (fun h => h1 h.1)
    rw [e]
    clear h1 e
    go_enter Try.func85, Try.ntmps85
    go_wp2
    go_ret
    exact ⟨rfl, rfl⟩
end Go.Proofs.Ytkndfklbonkbiaa.in_
