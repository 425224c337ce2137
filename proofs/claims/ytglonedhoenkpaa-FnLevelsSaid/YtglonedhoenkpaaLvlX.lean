/- How many elements a list of Cleareds with one more has. -/
import Derived.Test.YtglonedhoenkpaaLvl
namespace Go.Proofs.Ytglonedhoenkpaa.lvlx
open Go.Proofs.Ytglonedhoenkpaa.lvl

theorem ci_ten (zs : List Int) (n : Nat) (a l u f t : Int) : ciN zs n a l u f t ≤ 10 := by
  cases h : ciB zs n a l u f t
  · rw [ciN_no h]; omega
  · rw [ciN_yes h]; exact (cvB_yes h).2
theorem ci_le (zs : List Int) {n : Nat} (a l u f t : Int) (_h : n ≤ 1048576) : ciN zs n a l u f t ≤ 1048576 := Nat.le_trans (ci_ten zs n a l u f t) (by omega)
end Go.Proofs.Ytglonedhoenkpaa.lvlx
