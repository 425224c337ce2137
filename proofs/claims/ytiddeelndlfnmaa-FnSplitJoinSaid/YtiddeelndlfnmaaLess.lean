/- LessString of impl and spec: Go's own comparison, and it is asymmetric. -/
import Derived.WalkKit
import Derived.WalkLawsBesides
import Derived.Sort.Walk0
import Derived.Test.YtiddeelndlfnmaaAid
namespace Go.Proofs.Ytiddeelndlfnmaa.less_
open Go.RowKit

/-- a before b. -/
def lt (a b : ByteArray) : Bool := Op.bytesLess a.toList b.toList
theorem asym (a b : ByteArray) : (lt a b && lt b a) = false := by
  unfold lt
  rw [Proofs.bytesLess_eq, Proofs.bytesLess_eq]
  cases h : decide (a.toList < b.toList)
  · rfl
  · simp only [decide_eq_true_eq] at h
    simp only [Bool.true_and, decide_eq_false_iff_not]
    exact List.lt_asymm h

theorem spec (a b : ByteArray) (w : World) :
    Calls Try.prog 16 #[.string a, .string b] w fun e w' => e = .returned (.bool (lt a b)) ∧ w = w' := by
  go_enter Try.func16, Try.ntmps16
  go_wp2
  go_ret
  exact ⟨rfl, rfl⟩
theorem impl (a b : ByteArray) (w : World) :
    Calls Try.prog 15 #[.string a, .string b] w fun e w' => e = .returned (.bool (lt a b)) ∧ w = w' := by
  go_enter Try.func15, Try.ntmps15
  go_wp2
  go_ret
  exact ⟨rfl, rfl⟩
end Go.Proofs.Ytiddeelndlfnmaa.less_
