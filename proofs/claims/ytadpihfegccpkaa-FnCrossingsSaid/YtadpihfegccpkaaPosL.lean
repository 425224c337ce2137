/- impl's PackReport and UnpackReport. -/
import Derived.Test.YtadpihfegccpkaaPosJ
import Derived.Test.YtadpihfegccpkaaPosB
namespace Go.Proofs.Ytadpihfegccpkaa.posl
open Go.RowKit Go.Proofs.Ytadpihfegccpkaa.pos Go.Proofs.Ytadpihfegccpkaa.in_ Go.Proofs.Ytadpihfegccpkaa.posi Go.Proofs.Ytadpihfegccpkaa.posj Go.Proofs.Ytadpihfegccpkaa.posb Go.Proofs.Ytadpihfegccpkaa.ats

theorem pk_no {o : Bool} {a b : Int} (h : rB o a b = false) : (Value.tuple #[.int .i64 0, .bool false]) = .tuple #[.int .i64 (pkV o a b), .bool (rB o a b)] := by unfold pkV; rw [h]; rfl
theorem pk_yes {o : Bool} {a b : Int} (h : rB o a b = true) : (Value.tuple #[.int .i64 (pk o a b), .bool true]) = .tuple #[.int .i64 (pkV o a b), .bool (rB o a b)] := by unfold pkV; rw [h]; rfl

theorem uk_no {x : Int} (h : ukB x = false) : (Value.tuple #[.agg #[.bool false, .int .i64 0, .int .i64 0], .bool false]) = .tuple #[.agg #[.bool (ukO x), .int .i64 (ukA x), .int .i64 (ukV x)], .bool (ukB x)] := by unfold ukO ukA ukV; rw [h]; rfl
theorem uk_yes {x : Int} (h : ukB x = true) : (Value.tuple #[.agg #[.bool (decide (x / 16384 % 2 = 1)), .int .i64 (x / 128 % 128), .int .i64 (x % 128)], .bool true]) = .tuple #[.agg #[.bool (ukO x), .int .i64 (ukA x), .int .i64 (ukV x)], .bool (ukB x)] := by
  have h2 : 0 ≤ x ∧ x ≤ 32767 := by unfold ukB isIn at h; rw [Bool.and_eq_true] at h; exact of_decide_eq_true h.1
  obtain ⟨e1, e2⟩ := uk_parts h2
  unfold ukO ukA ukV
  rw [h, if_pos rfl, if_pos rfl, e2, Bool.true_and, decide_eq_decide.mpr e1]
theorem uk_is (x : Int) : ukB x = (rB (decide (x / 16384 % 2 = 1)) (x / 128 % 128) (x % 128) && decide (pkV (decide (x / 16384 % 2 = 1)) (x / 128 % 128) (x % 128) = x)) := by
  unfold pkV
  rw [pk_rest]
  unfold ukB
  by_cases h : 0 ≤ x ∧ x ≤ 32767
  · obtain ⟨e1, e2⟩ := uk_parts h
    have e3 : isIn x 0 32767 = true := decide_eq_true h
    rw [e3, Bool.true_and, e2, decide_eq_decide.mpr e1]
    cases hg : rB (decide (16384 ≤ x)) (x % 16384 / 128) (x % 128)
    · rfl
    · rw [if_pos rfl, decide_eq_true (by omega)]; rfl
  · have e3 : isIn x 0 32767 = false := decide_eq_false h
    rw [e3, Bool.false_and]
    cases hg : rB (decide (x / 16384 % 2 = 1)) (x / 128 % 128) (x % 128)
    · rfl
    · rw [if_pos rfl, decide_eq_false (by omega)]; rfl

end Go.Proofs.Ytadpihfegccpkaa.posl
