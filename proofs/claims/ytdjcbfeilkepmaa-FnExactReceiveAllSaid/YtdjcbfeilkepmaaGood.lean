/- spec's bit strings: l2Good, l2Of, l2Number, l2Ones, l2Flip. -/
import Derived.Test.YtdjcbfeilkepmaaBin
import Derived.WalkKit
import Derived.Below
import Derived.Lib.Hide
import Derived.IntWalk
import Derived.BigQuiet
import Derived.Deep.QuietTactic
namespace Go.Proofs.Ytdjcbfeilkepmaa.good_
open Go.RowKit Go.Proofs.Ytdjcbfeilkepmaa.bin

/-- The number of a text of at most m digits in base B. -/
def rdB (B m : Nat) (s : ByteArray) : Bool := decide (s.size ≤ m) && ok B s.data.toList
def rdV (B m : Nat) (s : ByteArray) : Nat := if rdB B m s then dec B s.data.toList else 0

theorem take_snoc (s : ByteArray) (k : Nat) (h : k < s.size) : s.data.toList.take (k + 1) = s.data.toList.take k ++ [s[k]] := by
  rw [List.take_succ_eq_append_getElem (by simpa using h)]; rfl
theorem byte_lt (c : UInt8) : (c.toNat : Int) < 256 := by have := c.toNat_lt; omega
theorem ok_split (B : Nat) {k : Nat} {s : ByteArray} (hk : k < s.size) : ok B s.data.toList = (ok B (s.data.toList.take k) && (decide (dv s[k] < B) && ok B (s.data.toList.drop (k + 1)))) := by
  conv => lhs; rw [← List.take_append_drop (k + 1) s.data.toList, take_snoc s k hk]
  unfold ok
  rw [List.all_append, List.all_append, List.all_cons, List.all_nil, Bool.and_true, Bool.and_assoc]
theorem ok_at {B k : Nat} {s : ByteArray} (hk : k < s.size) (h : ¬ dv s[k] < B) : ok B s.data.toList = false := by
  rw [ok_split B hk, decide_eq_false h]
  simp
theorem ok_get {B k : Nat} {s : ByteArray} (hk : k < s.size) (h : ok B s.data.toList = true) : dv s[k] < B := by
  rw [ok_split B hk] at h
  simp at h
  exact h.2.1
theorem bit_fin : ∀ n : Fin 256, dv (UInt8.ofNat n.val) < 2 ↔ (n.val = 48 ∨ n.val = 49) := by decide +kernel
theorem bit_iff (c : UInt8) : dv c < 2 ↔ (c.toNat = 48 ∨ c.toNat = 49) := by
  have := bit_fin ⟨c.toNat, c.toNat_lt⟩
  simpa only [UInt8.ofNat_toNat] using this
theorem bit_val {c : UInt8} (h : dv c < 2) : c.toNat = 48 + dv c := by
  have h2 := (bit_iff c).1 h
  unfold dv
  rw [if_pos (by omega)]
  omega
theorem bool_end {a b : Bool} (h : a = b) : Ending.returned (.bool a) = .returned (.bool b) := by rw [h]

theorem digit01 : ∀ d : Nat, d < 2 → ({ data := #[48, 49] } : ByteArray).extract d (d + 1) = ⟨#[ch d]⟩ := by
  intro d h
  match d, h with
  | 0, _ => decide
  | 1, _ => decide
theorem front_text (k n : Nat) : (⟨#[ch (n / 2 ^ k % 2)]⟩ : ByteArray) ++ ⟨(enc 2 k n).toArray⟩ = ⟨(enc 2 (k + 1) n).toArray⟩ := by
  apply aid.str_ext
  rw [aid.str_app, enc_front]
  rfl

theorem ofN (n m : Nat) (w : World) (hn : (n : Int) ≤ 9223372036854775807) (hm : (m : Int) ≤ 64) :
    Calls Try.prog 190 #[.int .i64 n, .int .i64 m] w fun e w' => e = .returned (.string ⟨(enc 2 m n).toArray⟩) ∧ w = w' := by
  have HN := Lib.hid hn
  clear hn
  go_enter Try.func190, Try.ntmps190
  go_wp2
  go_loop [0, 5, 6] (fun z t i => ∃ (k u : Nat) (a : ByteArray), k ≤ m ∧ i = .int .i64 k ∧ z = .int .i64 u ∧ t = .string a ∧ u = n / 2 ^ k ∧ a = ⟨(enc 2 k n).toArray⟩) (fun _ _ i => m - (intOf i).toNat)
  case atStart => exact ⟨0, n, _, Nat.zero_le _, rfl, rfl, rfl, by simp, rfl⟩
  case round =>
    obtain ⟨k, u, a, hk, rfl, rfl, rfl, hu, ha⟩ := hrel
    have HU := Lib.hid hu
    have HA := Lib.hid ha
    have hub : u ≤ n := by rw [hu]; exact Nat.div_le_self _ _
    have hsz : a.size = k := by rw [ha]; exact enc_length 2 k n
    clear hu ha
    by_cases hlt : k < m
    · have hN := HN.out
      have e1 : ((u : Int)).tmod 2 = ((u % 2 : Nat) : Int) := by rw [Int.tmod_eq_emod_of_nonneg (by omega)]; omega
      have e2 : ((u : Int)).tdiv 2 = ((u / 2 : Nat) : Int) := by rw [Int.tdiv_eq_ediv_of_nonneg (by omega)]; omega
      have e3 : ((u % 2 : Nat) : Int) < 2 := by omega
      have e5 : ((u % 2 : Nat) : Int) + 1 ≤ 2 := by omega
      have e6 : ((u % 2 : Nat) : Int) ≤ ((u % 2 : Nat) : Int) + 1 := by omega
      have e4 : ((u / 2 : Nat) : Int) ≤ 9223372036854775807 := by omega
      have HT := Lib.hid (show ({ data := #[48, 49] } : ByteArray).extract (u % 2) (u % 2 + 1) ++ a = ⟨(enc 2 (k + 1) n).toArray⟩ by rw [digit01 _ (by omega), HA.out, HU.out, front_text])
      have HV := Lib.hid (show u / 2 = n / 2 ^ (k + 1) by rw [HU.out, Nat.div_div_eq_div_mul, Nat.pow_succ])
      clear hub hN
      generalize u % 2 = d at *
      generalize u / 2 = u2 at *
      go_wp2_with fail
      go_round
      case rel => exact ⟨k + 1, u2, _, by omega, by go_num, rfl, rfl, HV.out, HT.out⟩
      case measure => simp [intOf]; omega
    · obtain rfl : k = m := by omega
      have HR := Lib.hid (aid.ret_str HA.out)
      go_wp2
      go_ret
      exact ⟨HR.out, rfl⟩

theorem dec_small {l : List UInt8} (h : ok 2 l = true) (hl : l.length ≤ 60) : dec 2 l < 1152921504606846976 := by
  have := dec_lt 2 l h
  have h2 : (2 : Nat) ^ l.length ≤ 2 ^ 60 := Nat.pow_le_pow_right (by omega) hl
  omega
theorem take_ok {B : Nat} {l : List UInt8} (h : ok B l = true) (k : Nat) : ok B (l.take k) = true := by
  have : ok B (l.take k ++ l.drop k) = true := by rw [List.take_append_drop]; exact h
  rw [ok_app, Bool.and_eq_true] at this
  exact this.1

theorem number (s : ByteArray) (w : World) (hs : s.size ≤ 60) (ho : ok 2 s.data.toList = true) :
    Calls Try.prog 193 #[.string s] w fun e w' => e = .returned (.int .i64 (dec 2 s.data.toList)) ∧ w = w' := by
  have HO := Lib.hid ho
  clear ho
  go_enter Try.func193, Try.ntmps193
  go_wp2
  go_loop [3, 4] (fun z i => ∃ (k : Nat) (x : Int), k ≤ s.size ∧ i = .int .i64 k ∧ z = .int .i64 x ∧ x = (dec 2 (s.data.toList.take k) : Nat)) (fun _ i => s.size - (intOf i).toNat)
  case atStart => exact ⟨0, 0, Nat.zero_le _, rfl, rfl, rfl⟩
  case round =>
    obtain ⟨k, x, hk, rfl, rfl, hx⟩ := hrel
    by_cases hlt : k < s.size
    · have hb := byte_lt s[k]
      have hd := ok_get hlt HO.out
      have hv := bit_val hd
      have hsm := dec_small (take_ok HO.out k) (by rw [List.length_take]; omega)
      have HX := Lib.hid (show 2 * x + (s[k].toNat : Int) - 48 = (dec 2 (s.data.toList.take (k + 1)) : Nat) by rw [take_snoc s k hlt, dec_snoc, hx]; omega)
      have h0 : 0 ≤ x := by omega
      have h1 : x < 1152921504606846976 := by omega
      have h48 : (48 : Int) ≤ (s[k].toNat : Int) := by omega
      clear hsm hd hv hx
      go_wp2
      go_round
      case rel => exact ⟨k + 1, _, by omega, by go_num, rfl, HX.out⟩
      case measure => simp [intOf]; omega
    · obtain rfl : k = s.size := by omega
      have HR := Lib.hid (aid.ret_int (k := .i64) (show x = (dec 2 s.data.toList : Nat) by rw [hx, List.take_of_length_le (by simp)]))
      clear hx
      go_wp2
      go_ret
      exact ⟨HR.out, rfl⟩

theorem ne49 {c : UInt8} (h : c ≠ 49) : ((c.toNat : Int) == 49) = false := by
  have : c.toNat ≠ 49 := fun e => h (UInt8.toNat_inj.1 e)
  simp
  omega
/-- One bit the other way. -/
def flipT (s : ByteArray) (i : Nat) : ByteArray := s.extract 0 i ++ ⟨#[fl (s.data.toList.getD i 0)]⟩ ++ s.extract (i + 1) s.size
theorem flipN (s : ByteArray) (i : Nat) (w : World) (hs : s.size ≤ 64) (hi : i < s.size) :
    Calls Try.prog 192 #[.string s, .int .i64 i] w fun e w' => e = .returned (.string (flipT s i)) ∧ ∃ j, w' = w.drewN j := by
  have hg : s.data.toList.getD i 0 = s[i] := by
    rw [List.getD_eq_getElem?_getD, List.getElem?_eq_getElem (by simpa using hi)]; rfl
  have hb := byte_lt s[i]
  have e1 : IntKind.i64.wrap ((i : Int) + 1) = (i : Int) + 1 := IntWalk.i64_in _ (by omega)
  by_cases h49 : s[i] = 49
  · have h2 : ((s[i].toNat : Int) == 49) = true := by rw [h49]; rfl
    have HF := Lib.hid (show flipT s i = s.extract 0 i ++ ⟨#[48]⟩ ++ s.extract (i + 1) s.size by unfold flipT; rw [hg, h49]; rfl)
    clear h49 hg
    go_enter Try.func192, Try.ntmps192
    go_wp2
    go_quiet (fail)
    go_wp2
    go_ret
    exact ⟨aid.ret_str HF.out.symm, _, rfl⟩
  · have h2 := ne49 h49
    have HF := Lib.hid (show flipT s i = s.extract 0 i ++ ⟨#[49]⟩ ++ s.extract (i + 1) s.size by unfold flipT fl; rw [hg, if_neg h49])
    clear h49 hg
    go_enter Try.func192, Try.ntmps192
    go_wp2
    go_quiet (fail)
    go_wp2
    go_ret
    exact ⟨aid.ret_str HF.out.symm, _, rfl⟩
end Go.Proofs.Ytdjcbfeilkepmaa.good_
