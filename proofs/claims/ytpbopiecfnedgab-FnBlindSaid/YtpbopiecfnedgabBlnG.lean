/- Blind points: never exactly one; all of them for one site alone. -/
import Derived.Test.YtpbopiecfnedgabBln
namespace Go.Proofs.Ytpbopiecfnedgab.blng
open Go.Proofs.Ytpbopiecfnedgab.sit Go.Proofs.Ytpbopiecfnedgab.loc Go.Proofs.Ytpbopiecfnedgab.bln

section
variable {α : Type} [DecidableEq α] (f : Nat → α)
theorem sum_ne_one (N : Nat) : ∀ S : List α, sumF f N S ≠ 1
  | [] => by simp [sumF]
  | x :: S => by
    have ih := sum_ne_one N S
    rw [sumF]
    unfold gF
    split <;> omega
theorem bl_ne_one (N : Nat) : blF f N ≠ 1 := by
  rw [← sum_all f (seen_nodup f N) (fun k hk => (seen_mem f N).2 ⟨k, hk, rfl⟩)]
  exact sum_ne_one f N _
theorem bl_const {N : Nat} (h : ∀ j k, f j = f k) (hN : 1 < N) : blF f N = N := by
  have hc (k : Nat) : cF f (f k) N = N := by
    unfold cF
    rw [List.countP_eq_length.2 (fun j _ => decide_eq_true (h j k)), List.length_range]
  unfold blF
  rw [List.countP_eq_length.2 (fun k _ => decide_eq_true (by rw [hc k]; exact hN)), List.length_range]
end
theorem one_site (zs : List Int) : blN zs 1 = 961 := by
  unfold blN
  refine bl_const _ (fun j k => ?_) (by decide)
  unfold kyT
  simp [List.range, List.range.loop]
theorem blN_ne (zs : List Int) (n : Nat) : blN zs n ≠ 1 := bl_ne_one _ 961
theorem blV_ne (zs : List Int) (n : Nat) : blV zs n ≠ 1 := by
  unfold blV
  split
  · have := blN_ne zs n; omega
  · decide
theorem blV_one {zs : List Int} {n : Nat} (h : siB zs n = true) (h1 : n = 1) : blV zs n = 961 := by
  subst h1
  rw [blV_yes h, one_site]; rfl
end Go.Proofs.Ytpbopiecfnedgab.blng
