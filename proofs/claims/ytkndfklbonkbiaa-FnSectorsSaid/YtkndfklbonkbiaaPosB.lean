/- Bit operations of packing: 'and' with a mask and with one bit at every int, 'or' of numbers without a common bit. -/
import Derived.Test.YtkndfklbonkbiaaPos
import Derived.WalkKit
import Derived.Laws.BitsAllLaws
import Derived.Laws.Bits64
import Derived.IntWalk
namespace Go.Proofs.Ytkndfklbonkbiaa.posb
open Go.RowKit Go.Proofs.Ytkndfklbonkbiaa.pos Go.Proofs.Ytkndfklbonkbiaa.in_

theorem or_nat_i (x y : Nat) (hx : x < 9223372036854775808) (hy : y < 9223372036854775808) : bits .or .i64 (x : Int) (y : Int) = ((x ||| y : Nat) : Int) := by
  have e : bits .or .i64 (x : Int) (y : Int) = IntKind.i64.wrap ((BitVec.ofInt 64 (x : Int) ||| BitVec.ofInt 64 (y : Int)).toNat : Int) := rfl
  rw [e, BitVec.toNat_or, BitVec.ofInt_natCast, BitVec.ofInt_natCast, BitVec.toNat_ofNat, BitVec.toNat_ofNat, Nat.mod_eq_of_lt (by omega), Nat.mod_eq_of_lt (by omega)]
  have := Nat.or_lt_two_pow (n := 63) hx hy
  exact IntWalk.i64_in _ (by omega)
theorem or_low (i : Nat) (a b : Nat) (hb : b < 2 ^ i) (hi : i ≤ 20) (ha : a ≤ 1000000) : bits .or .i64 ((2 ^ i * a : Nat) : Int) (b : Int) = ((2 ^ i * a + b : Nat) : Int) := by
  have h2 : 2 ^ i ≤ 2 ^ 20 := Nat.pow_le_pow_right (by omega) hi
  have h3 : 2 ^ i * a ≤ 2 ^ 20 * 1000000 := Nat.mul_le_mul h2 ha
  rw [or_nat_i _ _ (by omega) (by omega), Nat.two_pow_add_eq_or_of_lt hb]
theorem or7 {a b : Int} (ha : 0 ≤ a ∧ a < 128) (hb : 0 ≤ b ∧ b < 128) : bits .or .i64 (128 * a) b = 128 * a + b := by
  obtain ⟨n, rfl⟩ := Int.eq_ofNat_of_zero_le ha.1
  obtain ⟨m, rfl⟩ := Int.eq_ofNat_of_zero_le hb.1
  have := or_low 7 n m (by omega) (by omega) (by omega)
  rw [show (2 : Nat) ^ 7 = 128 from rfl] at this
  rw [show (128 : Int) * (n : Int) = ((128 * n : Nat) : Int) by omega, this]
  omega
theorem or14 {n : Int} (hn : 0 ≤ n ∧ n < 16384) : bits .or .i64 n 16384 = n + 16384 := by
  obtain ⟨n, rfl⟩ := Int.eq_ofNat_of_zero_le hn.1
  have := or_nat_i n 16384 (by omega) (by omega)
  rw [show (16384 : Int) = ((16384 : Nat) : Int) from rfl, this, Nat.or_comm]
  have h2 := Nat.two_pow_add_eq_or_of_lt (i := 14) (b := n) (by omega) 1
  rw [show (2 : Nat) ^ 14 * 1 = 16384 from rfl] at h2
  rw [← h2]
  omega
/-- 'and' with a mask of the last i bits: the remainder. -/
theorem and_mask (x : Int) (i : Nat) (hi : i ≤ 30) : bits .and .i64 x ((2 ^ i - 1 : Nat) : Int) = x % ((2 ^ i : Nat) : Int) := by
  have e : bits .and .i64 x ((2 ^ i - 1 : Nat) : Int) = IntKind.i64.wrap ((BitVec.ofInt 64 x &&& BitVec.ofInt 64 ((2 ^ i - 1 : Nat) : Int)).toNat : Int) := rfl
  have h2 : 2 ^ i ≤ 2 ^ 30 := Nat.pow_le_pow_right (by omega) hi
  have h0 : 0 < 2 ^ i := Nat.two_pow_pos i
  rw [e, BitVec.toNat_and, BitVec.ofInt_natCast, BitVec.toNat_ofNat, Nat.mod_eq_of_lt (by omega), Nat.and_two_pow_sub_one_eq_mod, BitVec.toNat_ofInt]
  have hlt := Nat.mod_lt (x % ((2 ^ 64 : Nat) : Int)).toNat h0
  rw [IntWalk.i64_in _ (by omega)]
  have hx : ((x % ((2 ^ 64 : Nat) : Int)).toNat : Int) = x % ((2 ^ 64 : Nat) : Int) := by omega
  rw [Int.natCast_emod, hx]
  obtain ⟨c, hc⟩ : 2 ^ i ∣ 2 ^ 64 := Nat.pow_dvd_pow 2 (by omega)
  exact Int.emod_emod_of_dvd x ⟨(c : Int), by rw [hc]; exact Int.natCast_mul _ _⟩
theorem and127 (x : Int) : bits .and .i64 x 127 = x % 128 := and_mask x 7 (by omega)
theorem and_one (n : Nat) : n &&& 2 ^ 14 = (n / 16384 % 2) * 16384 := by
  apply Nat.eq_of_testBit_eq
  intro i
  rw [Nat.testBit_and, Nat.testBit_two_pow]
  have : (n / 16384 % 2) = 0 ∨ (n / 16384 % 2) = 1 := by omega
  by_cases h : 14 = i
  · subst h
    rw [Nat.testBit_eq_decide_div_mod_eq, Nat.testBit_eq_decide_div_mod_eq]
    simp
  · rcases this with h2 | h2
    · rw [h2]; simp [h]
    · rw [h2, Nat.one_mul, show (16384 : Nat) = 2 ^ 14 from rfl, Nat.testBit_two_pow]; simp [h]
/-- 'and' with one bit. -/
theorem and16384 (x : Int) : bits .and .i64 x 16384 = (x / 16384) % 2 * 16384 := by
  have e : bits .and .i64 x 16384 = IntKind.i64.wrap ((BitVec.ofInt 64 x &&& BitVec.ofInt 64 16384).toNat : Int) := rfl
  rw [e, BitVec.toNat_and, BitVec.toNat_ofInt]
  have h2 : (BitVec.ofInt 64 16384).toNat = 2 ^ 14 := by decide
  rw [h2, and_one]
  have hx : ((x % ((2 ^ 64 : Nat) : Int)).toNat : Int) = x % 18446744073709551616 := by omega
  generalize (x % ((2 ^ 64 : Nat) : Int)).toNat = n at *
  have hm : ((n / 16384 % 2 : Nat) : Int) = (x / 16384) % 2 := by omega
  rw [IntWalk.i64_in _ (by omega), Int.natCast_mul, hm]
  rfl
/-- What is read of a number's bits is packed to the number's rest. -/
theorem pk_rest (x : Int) : pk (decide (x / 16384 % 2 = 1)) (x / 128 % 128) (x % 128) = x % 32768 := by
  unfold pk
  by_cases h : x / 16384 % 2 = 1
  · rw [decide_eq_true h, if_pos rfl]; omega
  · rw [decide_eq_false h, if_neg (by simp)]; omega
theorem uk_parts {x : Int} (h : 0 ≤ x ∧ x ≤ 32767) : (x / 16384 % 2 = 1 ↔ 16384 ≤ x) ∧ x / 128 % 128 = x % 16384 / 128 := by omega
end Go.Proofs.Ytkndfklbonkbiaa.posb
