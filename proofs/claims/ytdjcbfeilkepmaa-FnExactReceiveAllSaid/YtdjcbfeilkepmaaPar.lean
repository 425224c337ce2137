/- Parity and syndromes of bit strings: plain mathematics. -/
import Derived.Test.YtdjcbfeilkepmaaBin
import Derived.Test.YtdjcbfeilkepmaaGood
namespace Go.Proofs.Ytdjcbfeilkepmaa.par
open Go.RowKit Go.Proofs.Ytdjcbfeilkepmaa.bin Go.Proofs.Ytdjcbfeilkepmaa.good_

/-- What is left of a number of 13 bits; one bit more behind a rest; the rest of a number of k bits. -/
def cut (x : Nat) : Nat := if x < 4096 then x else x ^^^ 6159
def sh (r b : Nat) : Nat := cut (2 * r + b)
def red : Nat → Nat → Nat
  | 0, _ => 0
  | k + 1, v => sh (red k (v / 2)) (v % 2)

theorem xor_top (L : Nat) {x y : Nat} (h1 : 2 ^ L ≤ x) (h2 : x < 2 ^ L * 2) (h3 : 2 ^ L ≤ y) (h4 : y < 2 ^ L * 2) : x ^^^ y < 2 ^ L := by
  have hp := Nat.two_pow_pos L
  have hx : x >>> L = 1 := by rw [Nat.shiftRight_eq_div_pow]; exact Nat.div_eq_of_lt_le (by omega) (by omega)
  have hy : y >>> L = 1 := by rw [Nat.shiftRight_eq_div_pow]; exact Nat.div_eq_of_lt_le (by omega) (by omega)
  have h : (x ^^^ y) >>> L = 0 := by rw [Nat.shiftRight_xor_distrib, hx, hy]; rfl
  rw [Nat.shiftRight_eq_div_pow] at h
  exact Nat.lt_of_div_eq_zero hp h
theorem xor_under {x y n : Nat} (hx : x < 2 ^ n) (hy : y < 2 ^ n) : x ^^^ y < 2 ^ n := Nat.xor_lt_two_pow hx hy
theorem cut_lt {x : Nat} (h : x < 8192) : cut x < 4096 := by
  unfold cut
  split
  · assumption
  · exact xor_top 12 (by omega) (by omega) (by omega) (by omega)
theorem sh_lt {r b : Nat} (hr : r < 4096) (hb : b < 2) : sh r b < 4096 := cut_lt (by omega)
theorem red_lt : ∀ k v, red k v < 4096
  | 0, _ => by show 0 < 4096; omega
  | k + 1, v => sh_lt (red_lt k _) (Nat.mod_lt _ (by omega))
theorem cut_xor {x y : Nat} (hx : x < 8192) (hy : y < 8192) : cut (x ^^^ y) = cut x ^^^ cut y := by
  unfold cut
  by_cases h1 : x < 4096
  · by_cases h2 : y < 4096
    · rw [if_pos h1, if_pos h2, if_pos (xor_under (n := 12) h1 h2)]
    · rw [if_pos h1, if_neg h2, if_neg (fun h => h2 (by
        have := xor_under (n := 12) h1 h
        rwa [← Nat.xor_assoc, Nat.xor_self, Nat.zero_xor] at this)), Nat.xor_assoc]
  · by_cases h2 : y < 4096
    · rw [if_neg h1, if_pos h2, if_neg (fun h => h1 (by
        have := xor_under (n := 12) h h2
        rwa [Nat.xor_assoc, Nat.xor_self, Nat.xor_zero] at this)), Nat.xor_assoc, Nat.xor_assoc, Nat.xor_comm y]
    · rw [if_neg h1, if_neg h2, if_pos (xor_top 12 (by omega) (by omega) (by omega) (by omega))]
      rw [Nat.xor_assoc, Nat.xor_comm 6159, Nat.xor_assoc y, Nat.xor_self, Nat.xor_zero]
theorem xor_mod (a b : Nat) : (a ^^^ b) % 2 = a % 2 ^^^ b % 2 := by
  have h := Nat.xor_mod_two_pow (a := a) (b := b) (n := 1)
  rwa [Nat.pow_one] at h
theorem pair (a b c d : Nat) (hb : b < 2) (hd : d < 2) : 2 * (a ^^^ c) + (b ^^^ d) = (2 * a + b) ^^^ (2 * c + d) := by
  have h1 : ((2 * a + b) ^^^ (2 * c + d)) / 2 = a ^^^ c := by
    rw [Nat.xor_div_two, show (2 * a + b) / 2 = a by omega, show (2 * c + d) / 2 = c by omega]
  have h2 : ((2 * a + b) ^^^ (2 * c + d)) % 2 = b ^^^ d := by
    rw [xor_mod, show (2 * a + b) % 2 = b by omega, show (2 * c + d) % 2 = d by omega]
  rw [← h1, ← h2]
  exact Nat.div_add_mod _ 2
theorem sh_xor {a b c d : Nat} (ha : a < 4096) (hc : c < 4096) (hb : b < 2) (hd : d < 2) : sh (a ^^^ c) (b ^^^ d) = sh a b ^^^ sh c d := by
  unfold sh
  rw [pair a b c d hb hd]
  exact cut_xor (by omega) (by omega)
theorem red_xor : ∀ k a b, red k (a ^^^ b) = red k a ^^^ red k b
  | 0, _, _ => by simp [red]
  | k + 1, a, b => by
    show sh (red k ((a ^^^ b) / 2)) ((a ^^^ b) % 2) = sh (red k (a / 2)) (a % 2) ^^^ sh (red k (b / 2)) (b % 2)
    rw [Nat.xor_div_two, xor_mod, red_xor k]
    exact sh_xor (red_lt _ _) (red_lt _ _) (Nat.mod_lt _ (by omega)) (Nat.mod_lt _ (by omega))
theorem red_small : ∀ k v, v < 4096 → v < 2 ^ k → red k v = v
  | 0, v, _, h => by simp at h; exact h.symm
  | k + 1, v, h, h2 => by
    show cut (2 * red k (v / 2) + v % 2) = v
    rw [red_small k (v / 2) (by omega) (by rw [Nat.pow_succ] at h2; omega)]
    unfold cut
    rw [if_pos (by omega)]
    omega
theorem red_fuel (i : Nat) : ∀ k v, v < 2 ^ k → red (k + i) v = red k v
  | 0, v, h => by
    simp at h; subst h
    rw [Nat.zero_add]
    have : ∀ i, red i 0 = 0 := by
      intro i
      induction i with
      | zero => rfl
      | succ i ih => show cut (2 * red i (0 / 2) + 0 % 2) = 0; rw [Nat.zero_div, ih]; rfl
    exact this i
  | k + 1, v, h => by
    rw [show k + 1 + i = (k + i) + 1 by omega]
    show sh (red (k + i) (v / 2)) (v % 2) = sh (red k (v / 2)) (v % 2)
    rw [red_fuel i k (v / 2) (by rw [Nat.pow_succ] at h; omega)]
theorem red_snoc (l : List UInt8) (c : UInt8) (hc : dv c < 2) : red (l ++ [c]).length (dec 2 (l ++ [c])) = sh (red l.length (dec 2 l)) (dv c) := by
  rw [List.length_append, List.length_singleton, dec_snoc]
  show sh (red l.length ((2 * dec 2 l + dv c) / 2)) ((2 * dec 2 l + dv c) % 2) = _
  rw [show (2 * dec 2 l + dv c) / 2 = dec 2 l by omega, show (2 * dec 2 l + dv c) % 2 = dv c by omega]
/-- The divisor at each place divides; a replacement changes no rest. -/
theorem div_fin : ∀ j : Fin 52, red 64 (6159 * 2 ^ j.val) = 0 := by decide +kernel
theorem red_cut {w j : Nat} (h : j < 52) : red 64 (w ^^^ 6159 * 2 ^ j) = red 64 w := by rw [red_xor, div_fin ⟨j, h⟩, Nat.xor_zero]

/-- The pattern of a bit, counted from the right. -/
def pat (j : Nat) : Nat := red 64 (2 ^ j)
theorem pat_fin : ∀ a b : Fin 64, pat a.val = pat b.val → a = b := by decide +kernel
theorem pat_inj {a b : Nat} (ha : a < 64) (hb : b < 64) (h : pat a = pat b) : a = b := by
  have := pat_fin ⟨a, ha⟩ ⟨b, hb⟩ h
  simpa using this
theorem pat_pos : ∀ a : Fin 64, pat a.val ≠ 0 := by decide +kernel
theorem pat_ne {a : Nat} (ha : a < 64) : pat a ≠ 0 := pat_pos ⟨a, ha⟩
theorem red_flip {v j : Nat} : red 64 (v ^^^ 2 ^ j) = red 64 v ^^^ pat j := red_xor 64 v (2 ^ j)
theorem xor_zero_iff (a b : Nat) : a ^^^ b = 0 ↔ a = b := by
  constructor
  · intro h
    have h2 : a ^^^ b ^^^ b = 0 ^^^ b := by rw [h]
    rwa [Nat.xor_assoc, Nat.xor_self, Nat.xor_zero, Nat.zero_xor] at h2
  · rintro rfl
    exact Nat.xor_self a
theorem xor_move (a b c : Nat) : a ^^^ b = c ↔ a = c ^^^ b := by
  constructor
  · rintro rfl
    rw [Nat.xor_assoc, Nat.xor_self, Nat.xor_zero]
  · rintro rfl
    rw [Nat.xor_assoc, Nat.xor_self, Nat.xor_zero]

/-- A bit string with twelve bits 0 behind it; the rest of its first i bits. -/
def padd (s : ByteArray) : List UInt8 := s.data.toList ++ List.replicate 12 48
def rest (s : ByteArray) (i : Nat) : Nat := red i (dec 2 ((padd s).take i))
theorem len_list (s : ByteArray) : s.data.toList.length = s.size := by simp [← ByteArray.size_data]
theorem padd_length (s : ByteArray) : (padd s).length = s.size + 12 := by unfold padd; rw [List.length_append, List.length_replicate, len_list]
theorem rest_lt (s : ByteArray) (i : Nat) : rest s i < 4096 := red_lt _ _
theorem rest_step {s : ByteArray} {i : Nat} {c : UInt8} (h : (padd s)[i]? = some c) (hd : dv c < 2) : rest s (i + 1) = sh (rest s i) (dv c) := by
  obtain ⟨hl, rfl⟩ := List.getElem?_eq_some_iff.1 h
  have h1 := red_snoc ((padd s).take i) (padd s)[i] hd
  rw [← List.take_succ_eq_append_getElem hl, List.length_take, List.length_take, Nat.min_eq_left (by omega), Nat.min_eq_left (by omega)] at h1
  exact h1
theorem rest_bit {s : ByteArray} {i : Nat} (h : i < s.size) (ho : ok 2 s.data.toList = true) : rest s (i + 1) = sh (rest s i) (dv s[i]) := by
  refine rest_step ?_ (ok_get h ho)
  unfold padd
  rw [List.getElem?_append_left (by rw [len_list]; exact h), List.getElem?_eq_getElem (by rw [len_list]; exact h)]
  rfl
theorem rest_zero {s : ByteArray} {i : Nat} (h1 : s.size ≤ i) (h2 : i < s.size + 12) : rest s (i + 1) = sh (rest s i) 0 := by
  refine rest_step (c := 48) ?_ (by decide)
  unfold padd
  rw [List.getElem?_append_right (by rw [len_list]; exact h1), List.getElem?_replicate, if_pos (by rw [len_list]; omega)]
theorem dec_zeros : ∀ k, dec 2 (List.replicate k 48) = 0
  | 0 => rfl
  | k + 1 => by rw [List.replicate_succ', dec_snoc, dec_zeros k]; rfl
theorem rest_end (s : ByteArray) (h : s.size ≤ 52) (ho : ok 2 s.data.toList = true) : rest s (s.size + 12) = red 64 (dec 2 s.data.toList * 4096) := by
  unfold rest
  rw [List.take_of_length_le (by rw [padd_length]; exact Nat.le_refl _)]
  unfold padd
  have e : dec 2 (s.data.toList ++ List.replicate 12 48) = dec 2 s.data.toList * 4096 := by
    have := dec_app 2 s.data.toList (List.replicate 12 48)
    have hz : dec 2 (List.replicate 12 48) = 0 := dec_zeros 12
    rw [hz, List.length_replicate] at this
    omega
  rw [e]
  have hl := dec_lt 2 _ ho
  rw [len_list] at hl
  have hv : dec 2 s.data.toList * 4096 < 2 ^ (s.size + 12) := by
    rw [Nat.pow_add, show 2 ^ 12 = 4096 from rfl]
    omega
  obtain ⟨m, hm⟩ : ∃ m, s.size + 12 + m = 64 := ⟨64 - (s.size + 12), by omega⟩
  have := red_fuel m (s.size + 12) (dec 2 s.data.toList * 4096) hv
  rw [hm] at this
  exact this.symm
theorem glue (a b : Nat) (h : b < 4096) : a * 4096 + b = (a * 4096) ^^^ b := by
  have h1 : ((a * 4096) ^^^ b) / 4096 = a := by
    have := Nat.shiftRight_xor_distrib (a := a * 4096) (b := b) (i := 12)
    rw [Nat.shiftRight_eq_div_pow, Nat.shiftRight_eq_div_pow, Nat.shiftRight_eq_div_pow, show 2 ^ 12 = 4096 from rfl, Nat.div_eq_of_lt h, Nat.xor_zero, Nat.mul_div_cancel _ (by omega)] at this
    exact this
  have h2 : ((a * 4096) ^^^ b) % 4096 = b := by
    have := Nat.xor_mod_two_pow (a := a * 4096) (b := b) (n := 12)
    rw [show 2 ^ 12 = 4096 from rfl, Nat.mod_eq_of_lt h, Nat.mul_mod_left, Nat.zero_xor] at this
    exact this
  have := Nat.div_add_mod ((a * 4096) ^^^ b) 4096
  rw [h1, h2] at this
  omega
/-- The syndrome from the parity of the first bits and the number of the last twelve. -/
theorem syn_parts (s : ByteArray) (h : s.size ≤ 64) (h12 : 12 ≤ s.size) (ho : ok 2 s.data.toList = true) :
    red 64 (dec 2 (s.data.toList.take (s.size - 12)) * 4096) ^^^ dec 2 (s.data.toList.drop (s.size - 12)) = red 64 (dec 2 s.data.toList) := by
  have ho2 : ok 2 (s.data.toList.take (s.size - 12) ++ s.data.toList.drop (s.size - 12)) = true := by rw [List.take_append_drop]; exact ho
  rw [ok_app, Bool.and_eq_true] at ho2
  have hl := dec_lt 2 _ ho2.2
  rw [List.length_drop, len_list, show s.size - (s.size - 12) = 12 by omega] at hl
  have e : dec 2 s.data.toList = dec 2 (s.data.toList.take (s.size - 12)) * 4096 + dec 2 (s.data.toList.drop (s.size - 12)) := by
    conv => lhs; rw [← List.take_append_drop (s.size - 12) s.data.toList]
    rw [dec_app, List.length_drop, len_list, show s.size - (s.size - 12) = 12 by omega, Nat.mul_comm]
  rw [e, glue _ _ hl, red_xor, red_small 64 (dec 2 (s.data.toList.drop (s.size - 12))) hl (by omega)]

/-- What chapter 4's functions return. -/
def syn (s : ByteArray) : Nat := red 64 (dec 2 s.data.toList)
def parL (s : ByteArray) : ByteArray := ⟨(enc 2 12 (red 64 (dec 2 s.data.toList * 4096))).toArray⟩
def parT (s : ByteArray) : ByteArray := if rdB 2 52 s then parL s else ⟨#[]⟩
def addT (s : ByteArray) : ByteArray := if rdB 2 52 s then s ++ parL s else ⟨#[]⟩
def sndB (s : ByteArray) : Bool := rdB 2 64 s && decide (12 ≤ s.size)
def rsV (s : ByteArray) : Nat := if sndB s then syn s else 0
def sndV (s : ByteArray) : Bool := sndB s && decide (syn s = 0)
def synT (s : ByteArray) : ByteArray := if sndB s then ⟨(enc 2 12 (syn s)).toArray⟩ else ⟨#[]⟩
def strT (s : ByteArray) : ByteArray := if sndV s then s.extract 0 (s.size - 12) else ⟨#[]⟩
theorem syn_lt (s : ByteArray) : syn s < 4096 := red_lt _ _
theorem snd_yes {s : ByteArray} (h : rdB 2 64 s = true) (h2 : 12 ≤ s.size) : sndB s = true := by unfold sndB; rw [h, decide_eq_true h2]; rfl
theorem snd_of {s : ByteArray} (h : sndB s = true) : rdB 2 64 s = true ∧ 12 ≤ s.size := by
  unfold sndB at h
  simpa using h

/-- One replacement from the left: less, and the same rest. -/
theorem bit_len {u n : Nat} (hn : Lib.bitLen u = n + 1) (hu : u < 18446744073709551616) : 2 ^ n ≤ u ∧ u < 2 ^ n * 2 := by
  have h1 := bitLen_iff (n := u) n hu
  have h2 := bitLen_iff (n := u) (n + 1) hu
  rw [hn] at h1 h2
  rw [Nat.pow_succ] at h2
  omega
theorem step_left {u j : Nat} (hu : u < 18446744073709551616) (hj : Lib.bitLen u = j + 13) : u ^^^ 6159 * 2 ^ j < u ∧ red 64 (u ^^^ 6159 * 2 ^ j) = red 64 u ∧ j < 52 ∧ 6159 * 2 ^ j < 18446744073709551616 := by
  have h := bit_len (n := j + 12) (by omega) hu
  have hp : 2 ^ (j + 12) = 4096 * 2 ^ j := by rw [Nat.pow_add, Nat.mul_comm]
  have h64 := bitLen_iff (n := u) 64 hu
  have hj2 : j < 52 := by
    have := h64.2 hu
    omega
  have hx := xor_top (j + 12) h.1 h.2 (show 2 ^ (j + 12) ≤ 6159 * 2 ^ j by omega) (by have := Nat.two_pow_pos j; omega)
  have hm : 2 ^ j ≤ 2 ^ 51 := Nat.pow_le_pow_right (by omega) (by omega)
  exact ⟨by omega, red_cut hj2, hj2, by omega⟩
theorem end_left {u : Nat} (hu : u < 18446744073709551616) (hj : Lib.bitLen u ≤ 12) : red 64 u = u := by
  have h := (bitLen_iff (n := u) 12 hu).1 hj
  exact red_small 64 u (by omega) (by omega)
end Go.Proofs.Ytdjcbfeilkepmaa.par
