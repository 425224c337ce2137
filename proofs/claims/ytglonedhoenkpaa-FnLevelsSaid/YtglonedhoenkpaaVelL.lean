/- impl's AddVelocities and WholeSpeed. -/
import Derived.Test.YtglonedhoenkpaaVelK
namespace Go.Proofs.Ytglonedhoenkpaa.vell
open Go.RowKit Go.Proofs.Ytglonedhoenkpaa.vel Go.Proofs.Ytglonedhoenkpaa.in_ Go.Proofs.Ytglonedhoenkpaa.ats Go.Proofs.Ytglonedhoenkpaa.veli Go.Proofs.Ytglonedhoenkpaa.velj Go.Proofs.Ytglonedhoenkpaa.velk

theorem w64 {x : Int} (h : -9223372036854775808 ≤ x ∧ x ≤ 9223372036854775807) : wrap64 x = x := IntWalk.wrap64_in x h
theorem ad_no {a b c d : Int} (h : adB a b c d = false) : (Value.tuple #[.agg #[.int .i64 0, .int .i64 0], .bool false]) = .tuple #[.agg #[.int .i64 (adX a b c d), .int .i64 (adY a b c d)], .bool (adB a b c d)] := by unfold adX adY; rw [h]; rfl
theorem ad_yes {a b c d : Int} (h : adB a b c d = true) : (Value.tuple #[.agg #[.int .i64 (a + c), .int .i64 (b + d)], .bool true]) = .tuple #[.agg #[.int .i64 (adX a b c d), .int .i64 (adY a b c d)], .bool (adB a b c d)] := by unfold adX adY; rw [h]; rfl
/-- Whatever the machine's sums are when a or c is not valid. -/
theorem ad_is (a b c d : Int) : adB a b c d = (vB a b && vB c d && vB (wrap64 (a + c)) (wrap64 (b + d))) := by
  unfold adB
  cases h1 : vB a b
  · rfl
  · cases h2 : vB c d
    · rfl
    · obtain ⟨x1, y1⟩ := vB_yes h1
      obtain ⟨x2, y2⟩ := vB_yes h2
      rw [w64 (x := a + c) (by omega), w64 (x := b + d) (by omega)]
theorem ad_sum {a b c d : Int} (h : adB a b c d = true) : wrap64 (a + c) = a + c ∧ wrap64 (b + d) = b + d := by
  unfold adB at h
  rw [Bool.and_eq_true, Bool.and_eq_true] at h
  obtain ⟨x1, y1⟩ := vB_yes h.1.1
  obtain ⟨x2, y2⟩ := vB_yes h.1.2
  exact ⟨w64 (by omega), w64 (by omega)⟩

theorem ws_no {x y : Int} (h : vB x y = false) : (Value.tuple #[.int .i64 0, .bool false]) = .tuple #[.int .i64 (wsV x y), .bool (vB x y)] := by unfold wsV; rw [h]; rfl
theorem ws_yes {x y : Int} {r : Nat} (h : vB x y = true) (hr : r = rt (sq x y)) : (Value.tuple #[.int .i64 (r : Nat), .bool true]) = .tuple #[.int .i64 (wsV x y), .bool (vB x y)] := by unfold wsV; rw [h, if_pos rfl, hr]
theorem next_le {n : Nat} (h : n ≤ 300) : 0 ≤ ((n : Int) + 1) * ((n : Int) + 1) ∧ ((n : Int) + 1) * ((n : Int) + 1) ≤ 160000 := self_le4 (s := (n : Int) + 1) ⟨by omega, by omega⟩
theorem rt_zero {s : Int} {n : Nat} (hs : s ≤ 80000) (h : 300 ≤ n) : ¬ ((n : Int) + 1) * ((n : Int) + 1) ≤ s := by
  intro h2
  have h3 : (301 : Int) * 301 ≤ ((n : Int) + 1) * ((n : Int) + 1) := Int.mul_le_mul (by omega) (by omega) (by omega) (by omega)
  omega

end Go.Proofs.Ytglonedhoenkpaa.vell
