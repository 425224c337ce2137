/- What is read off the 24 bits of a number: mathematics. -/
import Derived.Test.YtdeghpihcddlgaaDoorVelB
import Derived.Test.YtdeghpihcddlgaaDoorGood
namespace Go.Proofs.YtdeghpihcddlgaaDoor.velc
open Go.Proofs.YtdeghpihcddlgaaDoor.vel Go.Proofs.YtdeghpihcddlgaaDoor.bin Go.Proofs.YtdeghpihcddlgaaDoor.velb Go.Proofs.YtdeghpihcddlgaaDoor.good_

theorem sub_list (s : ByteArray) (a b : Nat) : (s.extract a b).data.toList = (s.data.toList.drop a).take (b - a) := by
  obtain ⟨⟨l⟩⟩ := s
  rw [show (⟨⟨l⟩⟩ : ByteArray) = ByteArray.mk l.toArray from rfl, Go.ByteArray.extract_mk]
theorem sub_ok {B : Nat} {s : ByteArray} (h : ok B s.data.toList = true) (a b : Nat) : ok B (s.extract a b).data.toList = true := by
  rw [sub_list]
  refine take_ok ?_ _
  have e : ok B (s.data.toList.take a ++ s.data.toList.drop a) = true := by rw [List.take_append_drop]; exact h
  rw [ok_app, Bool.and_eq_true] at e
  exact e.2
theorem sub_size (s : ByteArray) (a b : Nat) (h : b ≤ s.size) : (s.extract a b).size = b - a := by
  rw [ByteArray.size_extract, Nat.min_eq_left h]
/-- The 24 bits. -/
def tx (n : Nat) : ByteArray := ⟨(bin.enc 2 24 n).toArray⟩
theorem tx_size (n : Nat) : (tx n).size = 24 := enc_length 2 24 n
theorem tx_list (n : Nat) : (tx n).data.toList = bin.enc 2 24 n := rfl
theorem tx_ok (n : Nat) : ok 2 (tx n).data.toList = true := ok_enc 2 (by omega) (by omega) 24 n
/-- k bits with i bits ahead of them and j behind them. -/
theorem mid (i k j n : Nat) : ((bin.enc 2 (i + (k + j)) n).drop i).take k = bin.enc 2 k (n / 2 ^ j) := by
  rw [enc_split 2 i (k + j), List.drop_append_of_le_length (by rw [enc_length]; exact Nat.le_refl _), List.drop_of_length_le (by rw [enc_length]; exact Nat.le_refl _), List.nil_append, enc_split 2 k j]
  exact List.take_left' (enc_length 2 k _)
theorem dec_mod (k v : Nat) : dec 2 (bin.enc 2 k v) = v % 2 ^ k := by
  have h := enc_over 2 (by omega) k (v % 2 ^ k) (v / 2 ^ k)
  rw [Nat.mod_add_div] at h
  rw [h, dec_enc 2 (by omega) (by omega) k _ (Nat.mod_lt _ (Nat.two_pow_pos k))]
theorem tx_a (n : Nat) : dec 2 ((tx n).extract 1 11).data.toList = n / 8192 % 1024 := by
  rw [sub_list, tx_list, show (24 : Nat) = 1 + (10 + 13) from rfl, show 11 - 1 = 10 from rfl, mid 1 10 13, dec_mod]
theorem tx_b (n : Nat) : dec 2 ((tx n).extract 12 22).data.toList = n / 4 % 1024 := by
  rw [sub_list, tx_list, show (24 : Nat) = 12 + (10 + 2) from rfl, show 22 - 12 = 10 from rfl, mid 12 10 2, dec_mod]
theorem at_list (s : ByteArray) (i : Nat) (h : i < s.size) : s.data.toList[i]? = some s[i] := by
  rw [List.getElem?_eq_getElem (by simpa using h)]; rfl
theorem at_of {s : ByteArray} {l : List UInt8} {i : Nat} {c : UInt8} (hs : s.data.toList = l) (hc : l[i]? = some c) (h : i < s.size) : s[i] = c := by
  have h4 := at_list s i h
  rw [hs, hc] at h4
  exact (Option.some.inj h4).symm
theorem tx_at (n i : Nat) (hi : i < 24) (h : i < (tx n).size) : (tx n)[i] = ch (n / 2 ^ (23 - i) % 2) := by
  have h3 := enc_at 2 24 n i hi
  rw [show 24 - 1 - i = 23 - i by omega] at h3
  exact at_of (tx_list n) h3 h
theorem ch49 (m : Nat) : ((ch (m % 2)).toNat = 49 ↔ m % 2 = 1) ∧ ((ch (m % 2)).toNat = 48 ∨ (ch (m % 2)).toNat = 49) := by
  have h : m % 2 = 0 ∨ m % 2 = 1 := by omega
  rcases h with h | h <;> rw [h] <;> decide
theorem up_of (m : Nat) : vel.up (m : Int) = if m / 1024 % 2 = 1 then -((m % 1024 : Nat) : Int) else ((m % 1024 : Nat) : Int) := by
  unfold vel.up
  by_cases h : m / 1024 % 2 = 1
  · rw [if_pos h, if_pos (by omega)]; omega
  · rw [if_neg h, if_neg (by omega)]; omega
/-- What the texts' bits tell. -/
theorem up_a (n : Nat) : vel.up ((n : Int) / 8192) = if n / 2 ^ 23 % 2 = 1 then -((n / 8192 % 1024 : Nat) : Int) else ((n / 8192 % 1024 : Nat) : Int) := by
  rw [show (n : Int) / 8192 = ((n / 8192 : Nat) : Int) by omega, up_of, Nat.div_div_eq_div_mul]
theorem up_b (n : Nat) : vel.up ((n : Int) / 4) = if n / 2 ^ 12 % 2 = 1 then -((n / 4 % 1024 : Nat) : Int) else ((n / 4 % 1024 : Nat) : Int) := by
  rw [show (n : Int) / 4 = ((n / 4 : Nat) : Int) by omega, up_of, Nat.div_div_eq_div_mul]
end Go.Proofs.YtdeghpihcddlgaaDoor.velc
