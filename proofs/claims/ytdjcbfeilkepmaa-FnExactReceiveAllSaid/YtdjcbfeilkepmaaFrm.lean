/- Frames: plain mathematics (their numbers, bits and hex texts), and what the functions of chapter 5 that speak of one frame return. -/
import Derived.Test.YtdjcbfeilkepmaaParB
import Derived.Test.YtdjcbfeilkepmaaBitsI
namespace Go.Proofs.Ytdjcbfeilkepmaa.frm
open Go.RowKit Go.Proofs.Ytdjcbfeilkepmaa.bin Go.Proofs.Ytdjcbfeilkepmaa.good_ Go.Proofs.Ytdjcbfeilkepmaa.par

theorem e_size (B k v : Nat) : (⟨(enc B k v).toArray⟩ : ByteArray).size = k := enc_length B k v
theorem e_ok (k v : Nat) : ok 2 (⟨(enc 2 k v).toArray⟩ : ByteArray).data.toList = true := ok_enc 2 (by omega) (by omega) k v
theorem e_dec (k v : Nat) (h : v < 2 ^ k) : dec 2 (⟨(enc 2 k v).toArray⟩ : ByteArray).data.toList = v := dec_enc 2 (by omega) (by omega) k v h
/-- Is it a frame; its number; its number with the parity; its bits and hex text. -/
def good (K A D : Int) : Bool := decide (1 ≤ K ∧ K ≤ 4 ∧ 1 ≤ A ∧ A ≤ 65535 ∧ 0 ≤ D ∧ D ≤ 16777215)
def num (K A D : Nat) : Nat := (K * 65536 + A) * 16777216 + D
def code (n : Nat) : Nat := n * 4096 + red 64 (n * 4096)
def plainT (n : Nat) : ByteArray := ⟨(enc 2 44 n).toArray⟩
def bitsT (n : Nat) : ByteArray := ⟨(enc 2 56 (code n)).toArray⟩
def hexT (n : Nat) : ByteArray := ⟨(enc 16 14 (code n)).toArray⟩
theorem good_iff {K A D : Int} : good K A D = true ↔ 1 ≤ K ∧ K ≤ 4 ∧ 1 ≤ A ∧ A ≤ 65535 ∧ 0 ≤ D ∧ D ≤ 16777215 := by unfold good; exact decide_eq_true_iff
theorem good_nat {K A D : Int} (h : good K A D = true) : ∃ k a d : Nat, K = k ∧ A = a ∧ D = d ∧ 1 ≤ k ∧ k ≤ 4 ∧ 1 ≤ a ∧ a ≤ 65535 ∧ d ≤ 16777215 := by
  have := good_iff.1 h
  exact ⟨K.toNat, A.toNat, D.toNat, by omega, by omega, by omega, by omega, by omega, by omega, by omega, by omega⟩
theorem num_lt {K A D : Nat} (hk : K ≤ 4) (ha : A ≤ 65535) (hd : D ≤ 16777215) : num K A D < 17592186044416 := by unfold num; omega
theorem code_lt {n : Nat} (h : n < 17592186044416) : code n < 72057594037927936 := by
  have := red_lt 64 (n * 4096)
  unfold code
  omega
theorem code_red {n : Nat} : red 64 (code n) = 0 := by
  have hr := red_lt 64 (n * 4096)
  unfold code
  rw [glue _ _ hr, red_xor, red_small 64 (red 64 (n * 4096)) hr (by omega), Nat.xor_self]
theorem enc_mod (B i v : Nat) (h : 0 < B) : enc B i (v % B ^ i) = enc B i v := by
  conv => rhs; rw [← Nat.mod_add_div v (B ^ i)]
  rw [enc_over B h]
theorem plain_parts {K A D : Nat} (ha : A ≤ 65535) (hd : D ≤ 16777215) : enc 2 4 K ++ enc 2 16 A ++ enc 2 24 D = enc 2 44 (num K A D) := by
  have h1 := enc_split 2 20 24 (num K A D)
  have h2 := enc_split 2 4 16 (num K A D / 2 ^ 24)
  rw [show 2 ^ 24 = 16777216 from rfl] at h1 h2
  rw [show num K A D / 16777216 = K * 65536 + A by unfold num; omega] at h1 h2
  rw [show 2 ^ 16 = 65536 from rfl, show (K * 65536 + A) / 65536 = K by omega] at h2
  have h3 := enc_mod 2 16 (K * 65536 + A) (by omega)
  have h4 := enc_mod 2 24 (num K A D) (by omega)
  rw [show 2 ^ 16 = 65536 from rfl, show (K * 65536 + A) % 65536 = A by omega] at h3
  rw [show 2 ^ 24 = 16777216 from rfl, show num K A D % 16777216 = D by unfold num; omega] at h4
  rw [← h3] at h2
  rw [h2, ← h4] at h1
  exact h1.symm
theorem dec_plain {n : Nat} (h : n < 17592186044416) : dec 2 (plainT n).data.toList = n := e_dec 44 n (by rw [show (2 : Nat) ^ 44 = 17592186044416 from rfl]; exact h)
theorem plain_size (n : Nat) : (plainT n).size = 44 := e_size 2 44 n
theorem plain_ok (n : Nat) : ok 2 (plainT n).data.toList = true := e_ok 44 n
theorem bits_size (n : Nat) : (bitsT n).size = 56 := e_size 2 56 (code n)
theorem bits_ok (n : Nat) : ok 2 (bitsT n).data.toList = true := e_ok 56 (code n)
theorem dec_bits {n : Nat} (h : n < 17592186044416) : dec 2 (bitsT n).data.toList = code n := e_dec 56 (code n) (by rw [show (2 : Nat) ^ 56 = 72057594037927936 from rfl]; exact code_lt h)
theorem plain_seal {n : Nat} (h : n < 17592186044416) : plainT n ++ parL (plainT n) = bitsT n := by
  apply aid.str_ext
  rw [aid.str_app]
  show enc 2 44 n ++ enc 2 12 (red 64 (dec 2 (plainT n).data.toList * 4096)) = enc 2 56 (code n)
  rw [dec_plain h]
  have hr := red_lt 64 (n * 4096)
  have h1 := enc_split 2 44 12 (code n)
  have h2 := enc_mod 2 12 (code n) (by omega)
  rw [show 2 ^ 12 = 4096 from rfl, show code n / 4096 = n by unfold code; omega] at h1
  rw [show 2 ^ 12 = 4096 from rfl, show code n % 4096 = red 64 (n * 4096) by unfold code; omega] at h2
  rw [h2, ← h1]

/-- The fields of 56 bits. -/
def dK (b : ByteArray) : Nat := dec 2 (b.extract 0 4).data.toList
def dA (b : ByteArray) : Nat := dec 2 (b.extract 4 20).data.toList
def dD (b : ByteArray) : Nat := dec 2 (b.extract 20 44).data.toList
def dG (b : ByteArray) : Bool := good (dK b) (dA b) (dD b)
theorem part_dec {l : List UInt8} {v a i : Nat} (m : Nat) (hl : l = enc 2 (a + i + m) v) : dec 2 ((l.drop a).take i) = v / 2 ^ m % 2 ^ i := by
  have h1 := enc_split 2 (a + i) m v
  have h2 := enc_split 2 a i (v / 2 ^ m)
  rw [hl, h1, h2, List.append_assoc, List.drop_append_of_le_length (by rw [enc_length]; exact Nat.le_refl _), List.drop_of_length_le (by rw [enc_length]; exact Nat.le_refl _), List.nil_append,
    List.take_append_of_le_length (by rw [enc_length]; exact Nat.le_refl _), List.take_of_length_le (by rw [enc_length]; exact Nat.le_refl _), ← enc_mod 2 i (v / 2 ^ m) (by omega)]
  exact dec_enc 2 (by omega) (by omega) i _ (Nat.mod_lt _ (Nat.two_pow_pos i))
theorem dK_of {v : Nat} : dK ⟨(enc 2 56 v).toArray⟩ = v / 4503599627370496 % 16 := by
  unfold dK
  rw [bitsi.sub_list]
  exact part_dec (a := 0) (i := 4) 52 rfl
theorem dA_of {v : Nat} : dA ⟨(enc 2 56 v).toArray⟩ = v / 68719476736 % 65536 := by
  unfold dA
  rw [bitsi.sub_list]
  exact part_dec (a := 4) (i := 16) 36 rfl
theorem dD_of {v : Nat} : dD ⟨(enc 2 56 v).toArray⟩ = v / 4096 % 16777216 := by
  unfold dD
  rw [bitsi.sub_list]
  exact part_dec (a := 20) (i := 24) 12 rfl
theorem fields {K A D : Nat} (hk : K ≤ 4) (ha : A ≤ 65535) (hd : D ≤ 16777215) : dK (bitsT (num K A D)) = K ∧ dA (bitsT (num K A D)) = A ∧ dD (bitsT (num K A D)) = D := by
  have hr := red_lt 64 (num K A D * 4096)
  unfold bitsT
  rw [dK_of, dA_of, dD_of]
  unfold code
  generalize red 64 (num K A D * 4096) = r at *
  unfold num
  refine ⟨?_, ?_, ?_⟩ <;> omega

/-- What EncodeFrame, DecodeFrame and RepairFrame return. -/
def numI (K A D : Int) : Nat := num K.toNat A.toNat D.toNat
def encT (K A D : Int) : ByteArray := if good K A D then hexT (numI K A D) else ⟨#[]⟩
def hexB (s : ByteArray) : Bool := rdB 16 16 s && decide (s.size = 14)
def dcB (s : ByteArray) : Bool := hexB s && (decide (syn (bitsi.unhexT s) = 0) && dG (bitsi.unhexT s))
def dcK (s : ByteArray) : Nat := if dcB s then dK (bitsi.unhexT s) else 0
def dcA (s : ByteArray) : Nat := if dcB s then dA (bitsi.unhexT s) else 0
def dcD (s : ByteArray) : Nat := if dcB s then dD (bitsi.unhexT s) else 0
def rfB (s : ByteArray) : Bool := hexB s && (repB (bitsi.unhexT s) && dG (repT (bitsi.unhexT s)))
def rfK (s : ByteArray) : Nat := if rfB s then dK (repT (bitsi.unhexT s)) else 0
def rfA (s : ByteArray) : Nat := if rfB s then dA (repT (bitsi.unhexT s)) else 0
def rfD (s : ByteArray) : Nat := if rfB s then dD (repT (bitsi.unhexT s)) else 0
def rfI (s : ByteArray) : Int := if rfB s then repI (bitsi.unhexT s) else 0

/-- A frame as a value. -/
def fv (K A D : Int) : Value := .agg #[.int .i64 K, .int .i64 A, .int .i64 D]
end Go.Proofs.Ytdjcbfeilkepmaa.frm
