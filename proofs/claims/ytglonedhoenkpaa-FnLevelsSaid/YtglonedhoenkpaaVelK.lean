/- impl's areAll at velocities (with whatever predicate), DirectionOf, FasterThan, TurnOf, AddVelocities, WholeSpeed. -/
import Derived.Test.YtglonedhoenkpaaVelJ
import Derived.Test.YtglonedhoenkpaaPosX
import Derived.Deep.RegionHeld3
import Derived.Deep.CutRange
namespace Go.Proofs.Ytglonedhoenkpaa.velk
open Go.RowKit Go.Proofs.Ytglonedhoenkpaa.vel Go.Proofs.Ytglonedhoenkpaa.in_ Go.Proofs.Ytglonedhoenkpaa.ats Go.Proofs.Ytglonedhoenkpaa.veli Go.Proofs.Ytglonedhoenkpaa.velj

theorem dir_no {x y : Int} (h : mB x y = false) : (Value.tuple #[.int .i64 0, .bool false]) = .tuple #[.int .i64 (dirV x y), .bool (mB x y)] := by unfold dirV; rw [h]; rfl
theorem dir_yes {x y v : Int} (h : mB x y = true) (hv : dV (near y x) (near x y) x y = v) : (Value.tuple #[.int .i64 v, .bool true]) = .tuple #[.int .i64 (dirV x y), .bool (mB x y)] := by unfold dirV; rw [h, if_pos rfl, hv]
theorem sg_in (x : Int) : sg x = -1 ∨ sg x = 0 ∨ sg x = 1 := by unfold sg; split; omega; split <;> omega

theorem ft_no {a b c d : Int} (h : ftB a b c d = false) : (Value.tuple #[.int .i64 0, .bool false]) = .tuple #[.int .i64 (ftV a b c d), .bool (ftB a b c d)] := by unfold ftV; rw [h]; rfl
theorem ft_yes {a b c d v : Int} (h : ftB a b c d = true) (hv : (if sq c d < sq a b then 1 else if sq a b < sq c d then 2 else 0) = v) : (Value.tuple #[.int .i64 v, .bool true]) = .tuple #[.int .i64 (ftV a b c d), .bool (ftB a b c d)] := by unfold ftV; rw [h, if_pos rfl, hv]
theorem tu_no {a b c d : Int} (h : tuB a b c d = false) : (Value.tuple #[.int .i64 0, .bool false]) = .tuple #[.int .i64 (tuV a b c d), .bool (tuB a b c d)] := by unfold tuV; rw [h]; rfl
theorem tu_yes {a b c d v : Int} (h : tuB a b c d = true) (hv : (if cr a b c d < 0 then 1 else if 0 < cr a b c d then 2 else if dot a b c d < 0 then 3 else 0) = v) : (Value.tuple #[.int .i64 v, .bool true]) = .tuple #[.int .i64 (tuV a b c d), .bool (tuB a b c d)] := by unfold tuV; rw [h, if_pos rfl, hv]
end Go.Proofs.Ytglonedhoenkpaa.velk
