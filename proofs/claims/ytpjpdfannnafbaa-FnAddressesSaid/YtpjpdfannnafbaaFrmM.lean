/- Two different frames differ in at least four bits: plain mathematics. -/
import Derived.Test.YtpjpdfannnafbaaFrmV
namespace Go.Proofs.Ytpjpdfannnafbaa.frmm
open Go.Proofs.Ytpjpdfannnafbaa.bin Go.Proofs.Ytpjpdfannnafbaa.good_ Go.Proofs.Ytpjpdfannnafbaa.par Go.Proofs.Ytpjpdfannnafbaa.frm Go.Proofs.Ytpjpdfannnafbaa.frmv

/-- How many of the last k bits of v are 1. -/
def wt : Nat → Nat → Nat
  | 0, _ => 0
  | k + 1, v => wt k (v / 2) + v % 2
theorem bit_xor (a b : Nat) (ha : a < 2) (hb : b < 2) : (a ^^^ b) % 2 = (a + b) % 2 := by
  have h1 : a = 0 ∨ a = 1 := by omega
  have h2 : b = 0 ∨ b = 1 := by omega
  rcases h1 with rfl | rfl <;> rcases h2 with rfl | rfl <;> rfl
theorem wt_xor : ∀ k a b, wt k (a ^^^ b) % 2 = (wt k a + wt k b) % 2
  | 0, _, _ => rfl
  | k + 1, a, b => by
    show (wt k ((a ^^^ b) / 2) + (a ^^^ b) % 2) % 2 = (wt k (a / 2) + a % 2 + (wt k (b / 2) + b % 2)) % 2
    have h1 := wt_xor k (a / 2) (b / 2)
    have h2 := bit_xor (a % 2) (b % 2) (Nat.mod_lt _ (by omega)) (Nat.mod_lt _ (by omega))
    rw [← Nat.xor_div_two] at h1
    rw [← xor_mod] at h2
    omega
theorem wt_zero : ∀ k, wt k 0 = 0
  | 0 => rfl
  | k + 1 => by show wt k (0 / 2) + 0 % 2 = 0; rw [Nat.zero_div, wt_zero k]
theorem wt_fuel (i : Nat) : ∀ k v, v < 2 ^ k → wt (k + i) v = wt k v
  | 0, v, h => by
    simp at h; subst h
    rw [wt_zero, wt_zero]
  | k + 1, v, h => by
    rw [show k + 1 + i = (k + i) + 1 by omega]
    show wt (k + i) (v / 2) + v % 2 = wt k (v / 2) + v % 2
    rw [wt_fuel i k (v / 2) (by rw [Nat.pow_succ] at h; omega)]
theorem wt_cut {x : Nat} (h : x < 8192) : wt 12 (cut x) % 2 = wt 13 x % 2 := by
  have h1 : wt 13 (cut x) = wt 12 (cut x) := wt_fuel 1 12 (cut x) (cut_lt h)
  rw [← h1]
  unfold cut
  split
  · rfl
  · rw [wt_xor, show wt 13 6159 = 6 from rfl]
    omega
theorem wt_red : ∀ k v, wt 12 (red k v) % 2 = wt k v % 2
  | 0, _ => by show wt 12 0 % 2 = 0; rw [wt_zero]
  | k + 1, v => by
    have h1 := red_lt k (v / 2)
    have h2 := wt_red k (v / 2)
    show wt 12 (cut (2 * red k (v / 2) + v % 2)) % 2 = (wt k (v / 2) + v % 2) % 2
    rw [wt_cut (by omega)]
    show (wt 12 ((2 * red k (v / 2) + v % 2) / 2) + (2 * red k (v / 2) + v % 2) % 2) % 2 = _
    rw [show (2 * red k (v / 2) + v % 2) / 2 = red k (v / 2) by omega]
    omega
theorem wt0 : ∀ k v, v < 2 ^ k → wt k v = 0 → v = 0
  | 0, v, h, _ => by simpa using h
  | k + 1, v, h, h0 => by
    have h1 : wt k (v / 2) + v % 2 = 0 := h0
    have := wt0 k (v / 2) (by rw [Nat.pow_succ] at h; omega) (by omega)
    omega
theorem wt1 : ∀ k v, v < 2 ^ k → wt k v = 1 → ∃ i, i < k ∧ v = 2 ^ i
  | 0, _, _, h0 => by cases h0
  | k + 1, v, h, h0 => by
    have h1 : wt k (v / 2) + v % 2 = 1 := h0
    have hv : v / 2 < 2 ^ k := by rw [Nat.pow_succ] at h; omega
    rcases Nat.mod_two_eq_zero_or_one v with hm | hm
    · obtain ⟨i, hi, e⟩ := wt1 k (v / 2) hv (by omega)
      exact ⟨i + 1, by omega, by rw [Nat.pow_succ]; omega⟩
    · have := wt0 k (v / 2) hv (by omega)
      exact ⟨0, by omega, by rw [Nat.pow_zero]; omega⟩
theorem wt2 : ∀ k v, v < 2 ^ k → wt k v = 2 → ∃ i j, i < k ∧ j < k ∧ i ≠ j ∧ v = 2 ^ i ^^^ 2 ^ j
  | 0, _, _, h0 => by cases h0
  | k + 1, v, h, h0 => by
    have h1 : wt k (v / 2) + v % 2 = 2 := h0
    have hv : v / 2 < 2 ^ k := by rw [Nat.pow_succ] at h; omega
    rcases Nat.mod_two_eq_zero_or_one v with hm | hm
    · obtain ⟨i, j, hi, hj, hne, e⟩ := wt2 k (v / 2) hv (by omega)
      have hp := pair (2 ^ i) 0 (2 ^ j) 0 (by omega) (by omega)
      rw [Nat.xor_self] at hp
      refine ⟨i + 1, j + 1, by omega, by omega, by omega, ?_⟩
      rw [Nat.pow_succ, Nat.pow_succ, Nat.mul_comm _ 2, Nat.mul_comm _ 2]
      rw [← e] at hp
      simp only [Nat.add_zero] at hp
      omega
    · obtain ⟨i, hi, e⟩ := wt1 k (v / 2) hv (by omega)
      have hp := pair (2 ^ i) 0 0 1 (by omega) (by omega)
      refine ⟨i + 1, 0, by omega, by omega, by omega, ?_⟩
      rw [Nat.pow_succ, Nat.mul_comm _ 2, Nat.pow_zero]
      rw [Nat.xor_zero, Nat.zero_xor] at hp
      simp only [Nat.add_zero, Nat.mul_zero, Nat.zero_add] at hp
      omega
/-- A number without a rest that is not 0 has at least four bits 1. -/
theorem four {v : Nat} (h : v < 2 ^ 64) (h0 : v ≠ 0) (hr : red 64 v = 0) : 4 ≤ wt 64 v := by
  have he := wt_red 64 v
  rw [hr, wt_zero] at he
  rcases Nat.lt_or_ge (wt 64 v) 4 with hlt | hge
  · exfalso
    have hc : wt 64 v = 0 ∨ wt 64 v = 2 := by omega
    rcases hc with hc | hc
    · exact h0 (wt0 64 v h hc)
    · obtain ⟨i, j, hi, hj, hne, e⟩ := wt2 64 v h hc
      rw [e, red_flip] at hr
      exact hne (pat_inj hi hj ((xor_zero_iff _ _).1 hr))
  · exact hge

theorem ones_wt : ∀ k v, ones (enc 2 k v) = wt k v
  | 0, _ => rfl
  | k + 1, v => by
    rw [enc, ones_snoc, ones_wt k]
    show wt k (v / 2) + _ = wt k (v / 2) + v % 2
    rcases Nat.mod_two_eq_zero_or_one v with h | h <;> rw [h] <;> rfl
theorem dist_wt (n m : Nat) : dist n m = wt 56 (code n ^^^ code m) := by
  unfold dist bitsT
  rw [← ones_wt, enc_xor]
theorem dist_comm (n m : Nat) : dist n m = dist m n := by rw [dist_wt, dist_wt, Nat.xor_comm]
theorem dist_self (n : Nat) : dist n n = 0 := by rw [dist_wt, Nat.xor_self, wt_zero]
theorem dist_four {n m : Nat} (hn : n < 17592186044416) (hm : m < 17592186044416) (h : n ≠ m) : 4 ≤ dist n m := by
  have h1 := code_lt hn
  have h2 := code_lt hm
  have hx : code n ^^^ code m < 2 ^ 56 := Nat.xor_lt_two_pow h1 h2
  have he : wt 64 (code n ^^^ code m) = wt 56 (code n ^^^ code m) := wt_fuel 8 56 _ hx
  rw [dist_wt, ← he]
  refine four (Nat.lt_trans hx (by decide)) (fun e => h ?_) (by rw [red_xor, code_red, code_red]; rfl)
  have hc := (xor_zero_iff _ _).1 e
  have a1 := red_lt 64 (n * 4096)
  have a2 := red_lt 64 (m * 4096)
  unfold code at hc
  omega
end Go.Proofs.Ytpjpdfannnafbaa.frmm
