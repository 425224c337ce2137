/- impl's heights: EncodeHeight, DecodeHeight, NearestHeight, ChangedBits. -/
import Derived.Test.YtinkkdgjpcnklaaHgtI
namespace Go.Proofs.Ytinkkdgjpcnklaa.hgtj
open Go.RowKit Go.Proofs.Ytinkkdgjpcnklaa.hgt Go.Proofs.Ytinkkdgjpcnklaa.bin Go.Proofs.Ytinkkdgjpcnklaa.hgtm Go.Proofs.Ytinkkdgjpcnklaa.hgti

theorem en_no {h : Int} {f : Bool} (e : enB h f = false) : Ending.returned (.tuple #[.int .i64 0, .bool false]) = .returned (.tuple #[.int .i64 (enV h f : Int), .bool (enB h f)]) := by unfold enV; rw [e]; rfl
theorem en_yes {h : Int} {f : Bool} {c : Int} (e : enB h f = true) (hc : c = (enV h f : Int)) : Ending.returned (.tuple #[.int .i64 c, .bool true]) = .returned (.tuple #[.int .i64 (enV h f : Int), .bool (enB h f)]) := by rw [e, hc]
theorem or_fine (k : Nat) (hk : k < 2048) : bits .or .i64 2048 (k : Int) = 2048 + (k : Int) := by
  have h := Nat.two_pow_add_eq_or_of_lt (i := 11) hk 1
  rw [show (2048 : Int) = ((2048 : Nat) : Int) from rfl, or_nat_i 2048 k (by omega) (by omega)]
  have e : (2048 : Nat) ||| k = 2048 + k := h.symm
  rw [e]
  omega
theorem en_fine {h : Int} (h0 : ¬ h < -1000) (h1 : ¬ 50175 < h) (h2 : (h + 1000) % 25 = 0) : enB h true = true ∧ bits .or .i64 2048 ((h + 1000) / 25) = (enV h true : Int) := by
  have hb : enB h true = true := decide_eq_true ⟨by simp [lo]; omega, by simp [hi]; omega, by simp [lo, st]; omega⟩
  refine ⟨hb, ?_⟩
  obtain ⟨k, hk⟩ : ∃ k : Nat, (h + 1000) / 25 = (k : Int) := ⟨((h + 1000) / 25).toNat, by omega⟩
  unfold enV
  rw [hb, hk, or_fine k (by omega)]
  simp
theorem en_coarse {h : Int} (h0 : ¬ h < -1200) (h1 : ¬ 126700 < h) (h2 : (h + 1200) % 100 = 0) : enB h false = true ∧ grB ((h + 1200) / 100) = true ∧ (grV ((h + 1200) / 100) : Int) = (enV h false : Int) := by
  have hb : enB h false = true := decide_eq_true ⟨by simp [lo]; omega, by simp [hi]; omega, by simp [lo, st]; omega⟩
  obtain ⟨k, hk⟩ : ∃ k : Nat, (h + 1200) / 100 = (k : Int) := ⟨((h + 1200) / 100).toNat, by omega⟩
  obtain ⟨e1, e2, _⟩ := gr_yes (k := k) (by omega)
  refine ⟨hb, by rw [hk]; exact e1, ?_⟩
  unfold enV
  rw [hb, hk, e2]
  simp

end Go.Proofs.Ytinkkdgjpcnklaa.hgtj
