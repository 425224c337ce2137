/- impl's heights, on: DecodeHeight, NearestHeight, ChangedBits. -/
import Derived.Test.YtinkkdgjpcnklaaHgtJ
namespace Go.Proofs.Ytinkkdgjpcnklaa.hgtk
open Go.RowKit Go.Proofs.Ytinkkdgjpcnklaa.hgt Go.Proofs.Ytinkkdgjpcnklaa.bin Go.Proofs.Ytinkkdgjpcnklaa.hgtm Go.Proofs.Ytinkkdgjpcnklaa.hgti

/-- DecodeHeight's three results. -/
def dcK (c : Int) : Bool := dcF c && dcB c
theorem dc_no {c : Int} (e : dcB c = false) : Ending.returned (.tuple #[.int .i64 0, .bool false, .bool false]) = .returned (.tuple #[.int .i64 (dcH c), .bool (dcF c), .bool (dcB c)]) := by
  have h := e
  unfold dcB at h
  rw [Bool.or_eq_false_iff] at h
  unfold dcH
  rw [e, h.1, h.2]
  rfl
theorem dc_fine {c : Int} (h0 : 2048 ≤ c) (h1 : c ≤ 4095) : Ending.returned (.tuple #[.int .i64 (25 * (c - 2048) - 1000), .bool true, .bool true]) = .returned (.tuple #[.int .i64 (dcH c), .bool (dcF c), .bool (dcB c)]) := by
  have e : dcF c = true := decide_eq_true ⟨h0, h1⟩
  unfold dcH dcB
  rw [e]
  rfl
theorem dc_coarse {k : Nat} (h0 : k < 2048) (h1 : un k ≤ 1279) : Ending.returned (.tuple #[.int .i64 (100 * (un k : Int) - 1200), .bool false, .bool true]) = .returned (.tuple #[.int .i64 (dcH (k : Int)), .bool (dcF (k : Int)), .bool (dcB (k : Int))]) := by
  have e : dcF (k : Int) = false := decide_eq_false (by omega)
  have e2 : dcC (k : Int) = true := by unfold dcC; rw [Int.toNat_natCast, decide_eq_true h1, decide_eq_true (show (0 : Int) ≤ k ∧ (k : Int) ≤ 2047 by omega)]; rfl
  unfold dcH dcB
  rw [e, e2, Int.toNat_natCast]
  rfl
theorem dc_out {c : Int} (h : c < 0 ∨ 4095 < c) : dcB c = false := by
  unfold dcB dcF dcC
  rw [decide_eq_false (show ¬ (2048 ≤ c ∧ c ≤ 4095) by omega), decide_eq_false (show ¬ (0 ≤ c ∧ c ≤ 2047) by omega)]
  rfl
theorem dc_over {k : Nat} (h0 : k < 2048) (h1 : 1279 < un k) : dcB (k : Int) = false := by
  unfold dcB dcF dcC
  rw [Int.toNat_natCast, decide_eq_false (show ¬ (2048 ≤ (k : Int) ∧ (k : Int) ≤ 4095) by omega), decide_eq_false (show ¬ (un k ≤ 1279) by omega)]
  simp
theorem low_fin : ∀ k : Fin 2048, bits .and .i64 (k.val : Int) 2048 = 0 ∧ bits .andNot .i64 (k.val : Int) 2048 = (k.val : Int) := by decide +kernel
theorem high_fin : ∀ k : Fin 2048, bits .and .i64 (2048 + (k.val : Int)) 2048 = 2048 ∧ bits .andNot .i64 (2048 + (k.val : Int)) 2048 = (k.val : Int) := by decide +kernel

theorem nr_no {h : Int} {f : Bool} (e : hB h = false) : Ending.returned (.tuple #[.int .i64 0, .bool false]) = .returned (.tuple #[.int .i64 (nrV h f), .bool (hB h)]) := by unfold nrV; rw [e]; rfl
theorem nr_low {h : Int} {f : Bool} (e : hB h = true) (h0 : h < lo f) : nrV h f = lo f := by
  unfold nrV clamp
  rw [e, if_pos h0]
  cases f <;> simp [lo, st]
theorem nr_high {h : Int} {f : Bool} (e : hB h = true) (h0 : hi f < h) : nrV h f = hi f := by
  have h1 : lo f ≤ hi f := by cases f <;> decide
  unfold nrV clamp
  rw [e, if_neg (show ¬ h < lo f by omega), if_pos h0]
  cases f <;> simp [lo, hi, st]
theorem nr_mid {h : Int} {f : Bool} (e : hB h = true) (h0 : ¬ h < lo f) (h1 : ¬ hi f < h) : nrV h f = lo f + st f * ((h - lo f + (st f - 1) / 2) / st f) := by
  unfold nrV clamp
  rw [e, if_neg h0, if_neg h1]
  rfl
theorem ret2 {a b : Int} (h : b = a) : Ending.returned (.tuple #[.int .i64 a, .bool true]) = .returned (.tuple #[.int .i64 b, .bool true]) := by rw [h]
end Go.Proofs.Ytinkkdgjpcnklaa.hgtk
