/- impl's fractions: reduceFraction, ClimbRate. -/
import Derived.Test.YtdeghpihcddlgaaDoorHgtI
import Derived.RegionTactic
import Derived.BigRegion
import Derived.BigQuiet
import Derived.Deep.QuietTactic
import Derived.Outline
namespace Go.Proofs.YtdeghpihcddlgaaDoor.hgtg
open Go.RowKit Go.Proofs.YtdeghpihcddlgaaDoor.hgt Go.Proofs.YtdeghpihcddlgaaDoor.hgti

theorem tmod_nat (u v : Nat) : (u : Int).tmod (v : Int) = ((u % v : Nat) : Int) := rfl
theorem cr_no {a f b t : Int} (e : crB a f b t = false) : Ending.returned (.tuple #[.int .i64 0, .int .i64 0, .bool false]) = .returned (.tuple #[.int .i64 (crN a f b t), .int .i64 (crD a f b t : Int), .bool (crB a f b t)]) := by
  unfold crN crD
  rw [e]
  rfl
theorem cr_yes {a f b t : Int} (e : crB a f b t = true) : Ending.returned (.tuple #[.int .i64 (((b - a) * 60).tdiv (crG a f b t)), .int .i64 (((t - f).toNat / crG a f b t : Nat) : Int), .bool true]) = .returned (.tuple #[.int .i64 (crN a f b t), .int .i64 (crD a f b t : Int), .bool (crB a f b t)]) := by
  unfold crN crD
  rw [e]
  rfl
theorem cr_hs {a f b t : Int} (h : hB a = false ∨ hB b = false) : crB a f b t = false := by
  unfold crB
  rcases h with h | h <;> simp [h]
theorem cr_ts {a f b t : Int} (h : ¬ (0 ≤ f ∧ f < t ∧ t ≤ 86400)) : crB a f b t = false := by
  unfold crB
  rw [decide_eq_false h]
  simp
theorem below_drew {w w' : World} (h : ∃ j, w' = w.drewN j) : Below w.heap.size w w' := by
  obtain ⟨j, rfl⟩ := h
  exact aid.below_drewN (Below.refl _ _) j

end Go.Proofs.YtdeghpihcddlgaaDoor.hgtg
