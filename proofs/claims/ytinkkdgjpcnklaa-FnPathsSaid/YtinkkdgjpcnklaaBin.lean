/- Digit texts in base 2 and 16: plain mathematics. -/
import Derived.Test.YtinkkdgjpcnklaaAid
import Derived.Lib.BitFns
namespace Go.Proofs.Ytinkkdgjpcnklaa.bin
open Go.RowKit

/-- The digit of a number below 16, and its value (16: it is none). -/
def ch (n : Nat) : UInt8 := if n < 10 then UInt8.ofNat (48 + n) else UInt8.ofNat (55 + n)
def dv (c : UInt8) : Nat := if 48 ≤ c.toNat ∧ c.toNat ≤ 57 then c.toNat - 48 else if 65 ≤ c.toNat ∧ c.toNat ≤ 70 then c.toNat - 55 else 16
theorem dv_ch : ∀ n : Nat, n < 16 → dv (ch n) = n := by decide +kernel
theorem ch_fin : ∀ n : Fin 256, dv (UInt8.ofNat n.val) < 16 → ch (dv (UInt8.ofNat n.val)) = UInt8.ofNat n.val := by decide +kernel
theorem ch_dv (c : UInt8) (h : dv c < 16) : ch (dv c) = c := by
  have := ch_fin ⟨c.toNat, c.toNat_lt⟩
  simp only [UInt8.ofNat_toNat] at this
  exact this h
theorem dv_le (c : UInt8) : dv c ≤ 16 := by
  unfold dv
  split
  · omega
  · split <;> omega

/-- The k last digits of v in base B, the number of a text in base B, and whether all of a text are digits. -/
def enc (B : Nat) : Nat → Nat → List UInt8
  | 0, _ => []
  | k + 1, v => enc B k (v / B) ++ [ch (v % B)]
def dec (B : Nat) (l : List UInt8) : Nat := l.foldl (fun n c => B * n + dv c) 0
def ok (B : Nat) (l : List UInt8) : Bool := l.all (fun c => decide (dv c < B))

theorem rev_ind {p : List UInt8 → Prop} (h0 : p []) (h1 : ∀ l c, p l → p (l ++ [c])) : ∀ l, p l := by
  have : ∀ r : List UInt8, p r.reverse := by
    intro r
    induction r with
    | nil => exact h0
    | cons c r ih => rw [List.reverse_cons]; exact h1 _ _ ih
  intro l
  rw [← List.reverse_reverse l]
  exact this _

theorem enc_length (B : Nat) : ∀ k v, (enc B k v).length = k
  | 0, _ => rfl
  | k + 1, v => by rw [enc, List.length_append, enc_length B k]; rfl
theorem dec_nil (B : Nat) : dec B [] = 0 := rfl
theorem dec_snoc (B : Nat) (l : List UInt8) (c : UInt8) : dec B (l ++ [c]) = B * dec B l + dv c := by unfold dec; rw [List.foldl_append]; rfl
theorem ok_snoc (B : Nat) (l : List UInt8) (c : UInt8) : ok B (l ++ [c]) = (ok B l && decide (dv c < B)) := by unfold ok; simp
theorem ok_app (B : Nat) (l m : List UInt8) : ok B (l ++ m) = (ok B l && ok B m) := by unfold ok; rw [List.all_append]
theorem dec_lt (B : Nat) : ∀ l, ok B l = true → dec B l < B ^ l.length := by
  refine rev_ind ?_ ?_
  · intro _; simp [dec]
  · intro l c ih h
    rw [ok_snoc, Bool.and_eq_true, decide_eq_true_eq] at h
    have hi := ih h.1
    rw [dec_snoc, List.length_append, List.length_singleton, Nat.pow_succ]
    have : B * dec B l + B ≤ B ^ l.length * B := by
      rw [Nat.mul_comm (B ^ l.length), ← Nat.mul_succ]
      exact Nat.mul_le_mul_left _ hi
    omega
theorem dec_enc (B : Nat) (h0 : 0 < B) (h : B ≤ 16) : ∀ k v, v < B ^ k → dec B (enc B k v) = v
  | 0, v, hv => by simp at hv; subst hv; rfl
  | k + 1, v, hv => by
    have hm := Nat.mod_lt v h0
    rw [enc, dec_snoc, dec_enc B h0 h k (v / B) ((Nat.div_lt_iff_lt_mul h0).2 (by rw [← Nat.pow_succ]; exact hv)), dv_ch _ (by omega)]
    exact Nat.div_add_mod v B
theorem ok_enc (B : Nat) (h0 : 0 < B) (h : B ≤ 16) : ∀ k v, ok B (enc B k v) = true
  | 0, _ => rfl
  | k + 1, v => by
    have hm := Nat.mod_lt v h0
    rw [enc, ok_snoc, ok_enc B h0 h k, dv_ch _ (by omega)]
    simpa using hm
theorem enc_dec (B : Nat) (h : B ≤ 16) : ∀ l, ok B l = true → enc B l.length (dec B l) = l := by
  refine rev_ind ?_ ?_
  · intro _; rfl
  · intro l c ih ho
    rw [ok_snoc, Bool.and_eq_true, decide_eq_true_eq] at ho
    have hB : 0 < B := by omega
    rw [List.length_append, List.length_singleton, enc, dec_snoc, Nat.mul_add_div hB, Nat.div_eq_of_lt ho.2, Nat.add_zero, ih ho.1,
      Nat.mul_add_mod, Nat.mod_eq_of_lt ho.2, ch_dv _ (by omega)]
theorem enc_split (B i : Nat) : ∀ k v, enc B (i + k) v = enc B i (v / B ^ k) ++ enc B k v
  | 0, v => by simp [enc]
  | k + 1, v => by
    show enc B (i + k + 1) v = _
    rw [enc, enc_split B i k (v / B), Nat.div_div_eq_div_mul, ← Nat.pow_succ', List.append_assoc]
    rfl
theorem enc_front (B k v : Nat) : enc B (k + 1) v = ch (v / B ^ k % B) :: enc B k v := by
  rw [Nat.add_comm, enc_split]
  rfl
theorem enc_step (B i k v : Nat) : enc B (i + 1) (v / B ^ k) = enc B i (v / B ^ (k + 1)) ++ [ch (v / B ^ k % B)] := by
  rw [enc, Nat.div_div_eq_div_mul, ← Nat.pow_succ]
theorem enc_over (B : Nat) (h0 : 0 < B) : ∀ k v u, enc B k (v + B ^ k * u) = enc B k v
  | 0, _, _ => rfl
  | k + 1, v, u => by
    rw [enc, enc, Nat.pow_succ', Nat.mul_assoc, Nat.add_mul_div_left _ _ h0, enc_over B h0 k, Nat.add_mul_mod_self_left]
theorem enc_at (B : Nat) : ∀ n v i, i < n → (enc B n v)[i]? = some (ch (v / B ^ (n - 1 - i) % B))
  | 0, _, _, h => absurd h (Nat.not_lt_zero _)
  | n + 1, v, i, h => by
    rw [enc]
    by_cases hi : i < n
    · rw [List.getElem?_append_left (by rw [enc_length]; exact hi), enc_at B n (v / B) i hi, Nat.div_div_eq_div_mul, ← Nat.pow_succ',
        show (n - 1 - i).succ = n + 1 - 1 - i by omega]
    · obtain rfl : i = n := by omega
      rw [List.getElem?_append_right (by rw [enc_length]; exact Nat.le_refl _), enc_length]
      simp
theorem enc_zero (B : Nat) : ∀ k, enc B k 0 = List.replicate k 48
  | 0 => rfl
  | k + 1 => by rw [enc, Nat.zero_div, Nat.zero_mod, enc_zero B k, List.replicate_succ']; rfl
theorem dec_app (B : Nat) (l : List UInt8) : ∀ m, dec B (l ++ m) = B ^ m.length * dec B l + dec B m := by
  refine rev_ind ?_ ?_
  · simp [dec]
  · intro m c ih
    rw [← List.append_assoc, dec_snoc, dec_snoc, ih, List.length_append, List.length_singleton, Nat.pow_succ', Nat.mul_add, Nat.mul_assoc, Nat.add_assoc]

/-- The other bit; where two bits differ. -/
def fl (c : UInt8) : UInt8 := if c = 49 then 48 else 49
def df (a b : UInt8) : UInt8 := if a = b then 48 else 49
theorem xor_mod_two (a b : Nat) : (a ^^^ b) % 2 = (a + b) % 2 := by
  have h := Nat.xor_mod_two_pow (a := a) (b := b) (n := 1)
  rw [Nat.pow_one] at h
  rw [h, Nat.add_mod]
  have ha := Nat.mod_lt a (show 0 < 2 by omega)
  have hb := Nat.mod_lt b (show 0 < 2 by omega)
  generalize a % 2 = x at *
  generalize b % 2 = y at *
  match x, ha, y, hb with
  | 0, _, 0, _ => rfl
  | 0, _, 1, _ => rfl
  | 1, _, 0, _ => rfl
  | 1, _, 1, _ => rfl
theorem enc_xor : ∀ k a b, enc 2 k (a ^^^ b) = List.zipWith df (enc 2 k a) (enc 2 k b)
  | 0, _, _ => rfl
  | k + 1, a, b => by
    rw [enc, enc, enc, List.zipWith_append (by rw [enc_length, enc_length]), Nat.xor_div_two, enc_xor k, xor_mod_two]
    congr 1
    have ha := Nat.mod_lt a (show 0 < 2 by omega)
    have hb := Nat.mod_lt b (show 0 < 2 by omega)
    rw [Nat.add_mod]
    generalize a % 2 = x at *
    generalize b % 2 = y at *
    match x, ha, y, hb with
    | 0, _, 0, _ => rfl
    | 0, _, 1, _ => rfl
    | 1, _, 0, _ => rfl
    | 1, _, 1, _ => rfl
theorem enc_flip : ∀ n v j, j < n → enc 2 n (v ^^^ 2 ^ j) = (enc 2 n v).set (n - 1 - j) (ch ((v / 2 ^ j + 1) % 2))
  | 0, _, _, h => absurd h (Nat.not_lt_zero _)
  | n + 1, v, 0, _ => by
    rw [enc, enc, List.set_append, if_neg (by rw [enc_length]; omega), Nat.xor_div_two, xor_mod_two, enc_length]
    simp
  | n + 1, v, j + 1, h => by
    rw [enc, enc, List.set_append, if_pos (by rw [enc_length]; omega), Nat.xor_div_two, xor_mod_two]
    rw [show 2 ^ (j + 1) / 2 = 2 ^ j by rw [Nat.pow_succ]; omega, enc_flip n (v / 2) j (by omega), Nat.div_div_eq_div_mul, ← Nat.pow_succ',
      show n + 1 - 1 - (j + 1) = n - 1 - j by omega, show (v + 2 ^ (j + 1)) % 2 = v % 2 by rw [Nat.pow_succ]; omega]
theorem fl_ch (m : Nat) : fl (ch (m % 2)) = ch ((m + 1) % 2) := by
  have h : m % 2 = 0 ∨ m % 2 = 1 := by omega
  rcases h with h | h
  · rw [h, show (m + 1) % 2 = 1 by omega]; rfl
  · rw [h, show (m + 1) % 2 = 0 by omega]; rfl

/-- How many digits 1; how many bits 1 of the k last. -/
def ones (l : List UInt8) : Nat := l.countP (fun c => c == 49)
def pc : Nat → Nat → Nat
  | 0, _ => 0
  | k + 1, v => pc k (v / 2) + v % 2
theorem ones_snoc (l : List UInt8) (c : UInt8) : ones (l ++ [c]) = ones l + (if c = 49 then 1 else 0) := by
  unfold ones
  rw [List.countP_append, List.countP_singleton]
  simp
theorem ones_enc : ∀ k v, ones (enc 2 k v) = pc k v
  | 0, _ => rfl
  | k + 1, v => by
    rw [enc, ones_snoc, ones_enc k, pc]
    have h : v % 2 = 0 ∨ v % 2 = 1 := by omega
    rcases h with h | h
    · rw [h]; rfl
    · rw [h]; rfl
theorem pc_small (i : Nat) : ∀ k v, v < 2 ^ k → pc (k + i) v = pc k v
  | 0, v, h => by
    simp at h; subst h
    rw [Nat.zero_add]
    have : ∀ i, pc i 0 = 0 := by
      intro i
      induction i with
      | zero => rfl
      | succ i ih => rw [pc, Nat.zero_div, ih]
    rw [this]; rfl
  | k + 1, v, h => by
    rw [show k + 1 + i = (k + i) + 1 by omega, pc, pc, pc_small i k (v / 2) (by rw [Nat.pow_succ] at h; omega)]
theorem ones_dec {l : List UInt8} (h : ok 2 l = true) (hl : l.length ≤ 64) : pc 64 (dec 2 l) = ones l := by
  have := pc_small (64 - l.length) l.length (dec 2 l) (dec_lt 2 l h)
  rw [show l.length + (64 - l.length) = 64 by omega] at this
  rw [this, ← ones_enc, enc_dec 2 (by omega) l h]
theorem pc_add (k : Nat) : ∀ i v, pc (k + i) v = pc k (v / 2 ^ i) + pc i v
  | 0, v => by simp [pc]
  | i + 1, v => by
    show pc (k + i + 1) v = _
    rw [pc, pc, pc_add k i, Nat.div_div_eq_div_mul, ← Nat.pow_succ', Nat.add_assoc]
theorem pc_mod : ∀ i v, pc i (v % 2 ^ i) = pc i v
  | 0, _ => rfl
  | i + 1, v => by
    rw [pc, pc, Nat.pow_succ', Nat.mod_mul_right_div_self, pc_mod i, Nat.mod_mul_right_mod]

theorem bitLenAux_iff : ∀ f n w, n < 2 ^ f → (Lib.bitLenAux f n ≤ w ↔ n < 2 ^ w)
  | 0, n, w, h => by
    simp at h; subst h
    simp [Lib.bitLenAux, Nat.pow_pos]
  | f + 1, n, w, h => by
    rw [Lib.bitLenAux]
    by_cases h0 : n = 0
    · subst h0; simp [Nat.pow_pos]
    · rw [if_neg h0]
      cases w with
      | zero => constructor <;> intro h1 <;> simp at h1 <;> omega
      | succ w =>
        have := bitLenAux_iff f (n / 2) w (by rw [Nat.pow_succ] at h; omega)
        rw [Nat.pow_succ]
        constructor
        · intro h1; have := this.1 (by omega); omega
        · intro h1; have := this.2 (by omega); omega
theorem bitLen_iff {n : Nat} (w : Nat) (h : n < 2 ^ 64) : Lib.bitLen n ≤ w ↔ n < 2 ^ w := bitLenAux_iff 64 n w h
end Go.Proofs.Ytinkkdgjpcnklaa.bin
