/- The lines of tracks and their parts, in plain mathematics (no program in it): the words of a line, the cut at ' lost ', a line's track. -/
import Derived.Test.YtfigjfckelichaaGreatDoorAid
import Derived.WalkKit
import Derived.Below
import Derived.Lib.Hide
import Derived.Lib.ItoaNum
import Derived.Lib.ItoaLen
import Derived.BigQuiet
import Derived.Deep.QuietTactic
import Derived.IntWalk
import Derived.Deep.DeepMust
import Derived.WalkSpells
import Derived.Outline
import Derived.Test.YtfigjfckelichaaGreatDoorShelf
import Derived.Lib.AppendIntMem
import Derived.Lib.SmallJoins
import Derived.Lib.Strings
import Derived.Lib.IndexBytes
import Derived.Test.YtfigjfckelichaaGreatDoorTrkV
import Derived.Test.YtfigjfckelichaaGreatDoorLaid
import Derived.Test.YtfigjfckelichaaGreatDoorRows
import Derived.Lib.SlicesCompact
import Derived.Sort.OwnSortedInts
import Derived.Test.YtfigjfckelichaaGreatDoorLst
import Derived.Test.YtfigjfckelichaaGreatDoorPos
import Derived.Test.YtfigjfckelichaaGreatDoorIn
import Derived.Test.YtfigjfckelichaaGreatDoorOwn
import Derived.Deep.RegionHeld3
import Derived.Deep.AppendLies
import Derived.Deep.CutBlock
import Derived.Deep.CutRange
import Derived.Lib.BitFns
import Derived.OwnWalk
import Derived.Maps.AppendAt
import Derived.Lib.CutLaws

/- The decimal texts of spec and impl: plain mathematics, and the contracts of spec.l1In, spec.l1Num. -/
namespace Go.Proofs.YtfigjfckelichaaGreatDoor.num
open Go.RowKit

theorem in_yes (x a b : Int) (w : World) (h1 : a ≤ x) (h2 : x ≤ b) :
    Calls Tryz.prog 76 #[.int .i64 x, .int .i64 a, .int .i64 b] w fun e w' => e = .returned (.bool true) ∧ w = w' := by
  have g1 : decide (a ≤ x) = true := by simpa using h1
  have g2 : decide (x ≤ b) = true := by simpa using h2
  go_enter Tryz.func76, Tryz.ntmps76
  go_wp2
  go_ret
  exact ⟨rfl, rfl⟩

theorem in_no (x a b : Int) (w : World) (h : x < a ∨ b < x) :
    Calls Tryz.prog 76 #[.int .i64 x, .int .i64 a, .int .i64 b] w fun e w' => e = .returned (.bool false) ∧ w = w' := by
  by_cases h1 : x < a
  · have g1 : decide (a ≤ x) = false := by simp; omega
    go_enter Tryz.func76, Tryz.ntmps76
    go_wp2
    go_ret
    exact ⟨rfl, rfl⟩
  · have g1 : decide (a ≤ x) = true := by simp; omega
    have g2 : decide (x ≤ b) = false := by simp; omega
    go_enter Tryz.func76, Tryz.ntmps76
    go_wp2
    go_ret
    exact ⟨rfl, rfl⟩

/-- The decimal text of a number. -/
def txt (n : Int) : ByteArray := ⟨(Lib.itoa n).toArray⟩

theorem itoa_small (n : Int) (h0 : 0 ≤ n) (h : n < 10) : ({ data := #[48, 49, 50, 51, 52, 53, 54, 55, 56, 57] } : ByteArray).extract n.toNat (n + 1).toNat = txt n := by
  rw [show (n + 1).toNat = n.toNat + 1 by omega, aid.digit_text _ (by omega)]
  unfold txt Lib.itoa
  rw [if_neg (by omega), Lib.decDigits_one (by omega)]
theorem itoa_big (n : Int) (h : 10 ≤ n) : txt (n / 10) ++ ({ data := #[48, 49, 50, 51, 52, 53, 54, 55, 56, 57] } : ByteArray).extract (n % 10).toNat (n % 10 + 1).toNat = txt n := by
  rw [show (n % 10 + 1).toNat = (n % 10).toNat + 1 by omega, aid.digit_text _ (by omega)]
  refine aid.str_ext ?_
  rw [aid.str_app]
  unfold txt Lib.itoa
  rw [if_neg (by omega), if_neg (by omega)]
  conv => rhs; rw [Lib.decDigits, dif_neg (by omega)]
  simp only [show (n / 10).toNat = n.toNat / 10 by omega, show (n % 10).toNat = n.toNat % 10 by omega]
theorem itoa_minus (n : Int) (h : n < 0) : ({ data := #[45] } : ByteArray) ++ txt (-n) = txt n := by
  refine aid.str_ext ?_
  rw [aid.str_app]
  unfold txt Lib.itoa
  rw [if_neg (by omega), if_pos h]
  simp only [show (-n).toNat = n.natAbs by omega]
  rfl

theorem txt_size (n : Int) (h0 : -1000000 ≤ n) (h1 : n ≤ 1000000) : (txt n).size ≤ 21 := by
  have := Lib.itoa_length_le n (by omega) (by omega)
  show (Lib.itoa n).toArray.size ≤ 21
  simpa using this

/-- Below ten: one digit. -/
theorem num_small (n : Int) (w : World) (h0 : 0 ≤ n) (h : n < 10) :
    Calls Tryz.prog 77 #[.int .i64 n] w fun e w' => e = .returned (.string (txt n)) ∧ w = w' := by
  have HF := Lib.hid (aid.ret_str (itoa_small n h0 h))
  obtain ⟨n, rfl⟩ := Int.eq_ofNat_of_zero_le h0
  go_enter Tryz.func77, Tryz.ntmps77
  go_wp2_with fail
  go_ret
  exact ⟨HF.out, rfl⟩

theorem num_nat (k : Nat) : ∀ (n : Int) (w : World), 0 ≤ n → n ≤ k → n ≤ 999999 →
    Calls Tryz.prog 77 #[.int .i64 n] w fun e w' => e = .returned (.string (txt n)) ∧ ∃ j, w' = w.drewN j := by
  induction k with
  | zero =>
    intro n w h0 hk _
    exact (num_small n w (by omega) (by omega)).mono fun e w' ⟨he, hw⟩ => ⟨he, 0, by subst hw; rfl⟩
  | succ k ih =>
    intro n w h0 hk hm
    by_cases h : n < 10
    · exact (num_small n w h0 h).mono fun e w' ⟨he, hw⟩ => ⟨he, 0, by subst hw; rfl⟩
    · have HF := Lib.hid (aid.ret_str (itoa_big n (by omega)))
      have IH := Lib.hid (fun w => ih (n / 10) w (by omega) (by omega) (by omega))
      have IQ := Lib.hid (fun x => Calls.quiet_of (IH.out (w.drewN x)))
      clear ih
      have e1 : IntKind.i64.wrap (n % 10 + 1) = n % 10 + 1 := IntWalk.i64_in _ (by omega)
      have hb := txt_size (n / 10) (by omega) (by omega)
      have e2 : 0 ≤ n % 10 := by omega
      have e3 : n % 10 < 10 := by omega
      have e4 : n.tmod 10 = n % 10 := by rw [Int.tmod_eq_emod_of_nonneg h0]
      go_enter Tryz.func77, Tryz.ntmps77
      go_wp2_with fail
      go_quiet ((go_at_call 77; exact IQ.out _))
      go_wp2_with fail
      go_ret
      exact ⟨HF.out, _, rfl⟩

/-- spec.l1Num: the decimal text, for every number that the chapter lets in. -/
theorem num_any (n : Int) (w : World) (h0 : -1000000 ≤ n) (h1 : n ≤ 999999) (h2 : -999999 ≤ n) :
    Calls Tryz.prog 77 #[.int .i64 n] w fun e w' => e = .returned (.string (txt n)) ∧ ∃ j, w' = w.drewN j := by
  by_cases h : n < 0
  · have HF := Lib.hid (aid.ret_str (itoa_minus n h))
    have hb := txt_size (-n) (by omega) (by omega)
    have hc := num_nat 999999 (-n)
    go_enter Tryz.func77, Tryz.ntmps77
    go_wp2_with (go_at_call 77; refine (hc _ (by omega) (by omega) (by omega)).mono ?_; rintro e w' ⟨rfl, j, rfl⟩)
    go_ret
    exact ⟨HF.out, _, rfl⟩
  · exact num_nat 999999 n w (by omega) (by omega) h1

end Go.Proofs.YtfigjfckelichaaGreatDoor.num

/- impl.FormatInt at every int: the decimal text, by the library's own contract for strconv.Itoa (which reads a table of strconv's). -/
namespace Go.Proofs.YtfigjfckelichaaGreatDoor.fmt
open Go.RowKit Go.Proofs.YtfigjfckelichaaGreatDoor.num

abbrev Tab (w : World) : Prop := Lib.TabIs Tryz.prog w "internal/strconv.uint64pow10" .u64 Lib.pow10Tab

theorem tab_on {w w' : World} (h : Tab w) (hb : Below w.heap.size w w') : Tab w' :=
  (Lib.tabBelow_of_tabIs h) w' hb

theorem format_yes (n : Int) (w : World) (h1 : n ≤ 999999) (h2 : -999999 ≤ n) (ht : Tab w) :
    Calls Tryz.prog 31 #[.int .i64 n] w fun e w' => e = .returned (.tuple #[.string (txt n), .bool true]) ∧ Below w.heap.size w w' := by
  have hc := Lib.hid (Tryz.strconv_Itoa n (by omega) (by omega) w ht)
  clear ht
  go_enter Tryz.func31, Tryz.ntmps31
  go_wp2_with (go_at_call 72; refine hc.out.mono ?_; rintro e w' ⟨rfl, k, os, rfl⟩)
  go_ret2
  exact ⟨rfl, Lib.below_grow _ _ (Nat.le_refl _) _ _⟩

theorem format_no (n : Int) (w : World) (h : n < -999999 ∨ 999999 < n) :
    Calls Tryz.prog 31 #[.int .i64 n] w fun e w' => e = .returned (.tuple #[.string ⟨#[]⟩, .bool false]) ∧ w = w' := by
  by_cases h1 : n < -999999
  · go_enter Tryz.func31, Tryz.ntmps31
    go_wp2
    go_ret2
    exact ⟨rfl, rfl⟩
  · have h2 : 999999 < n := by omega
    go_enter Tryz.func31, Tryz.ntmps31
    go_wp2
    go_ret2
    exact ⟨rfl, rfl⟩
end Go.Proofs.YtfigjfckelichaaGreatDoor.fmt

/- The number of a decimal text: plain mathematics, and the contracts of spec.l1Read, spec.ParseInt, impl.readDecimal and impl.ParseInt, for every string of at most 1048576 bytes. -/
namespace Go.Proofs.YtfigjfckelichaaGreatDoor.read
open Go.RowKit Go.Proofs.YtfigjfckelichaaGreatDoor.num

/-- The value of a list of digits. -/
def val (l : List UInt8) : Int := l.foldl (fun a c => 10 * a + ((c.toNat : Int) - 48)) 0
def allDig (l : List UInt8) : Prop := ∀ c ∈ l, (48 : Int) ≤ (c.toNat : Int) ∧ (c.toNat : Int) ≤ 57

theorem val_snoc (l : List UInt8) (c : UInt8) : val (l ++ [c]) = 10 * val l + ((c.toNat : Int) - 48) := by
  unfold val; rw [List.foldl_append]; rfl
theorem allDig_snoc {l : List UInt8} {c : UInt8} (h : allDig l) (h0 : (48 : Int) ≤ (c.toNat : Int)) (h1 : (c.toNat : Int) ≤ 57) : allDig (l ++ [c]) := by
  intro x hx
  rcases List.mem_append.1 hx with h' | h'
  · exact h x h'
  · simp at h'; subst h'; exact ⟨h0, h1⟩
theorem snoc_cases : ∀ l : List UInt8, l = [] ∨ ∃ r c, l = r ++ [c] := by
  intro l
  rcases List.eq_nil_or_concat l with h | ⟨r, c, h⟩
  · exact .inl h
  · exact .inr ⟨r, c, by simpa using h⟩
theorem val_bd : ∀ (n : Nat) (l : List UInt8), l.length = n → allDig l → 0 ≤ val l ∧ val l < 10 ^ n := by
  intro n
  induction n with
  | zero => intro l h _; rw [List.length_eq_zero_iff] at h; subst h; simp [val]
  | succ n ih =>
    intro l h hd
    rcases snoc_cases l with rfl | ⟨r, c, rfl⟩
    · simp at h
    · have h1 := ih r (by simpa using h) (fun x hx => hd x (List.mem_append_left _ hx))
      have h2 := hd c (by simp)
      rw [val_snoc, Int.pow_succ]
      omega
theorem val_six {l : List UInt8} (hl : l.length ≤ 6) (hd : allDig l) : 0 ≤ val l ∧ val l ≤ 999999 := by
  obtain ⟨h0, h1⟩ := val_bd _ l rfl hd
  have : (10 : Int) ^ l.length ≤ 10 ^ 6 := by
    have := Nat.pow_le_pow_right (n := 10) (by omega) hl
    exact_mod_cast this
  have e : (10 : Int) ^ 6 = 1000000 := by decide
  omega

theorem byte_digit (d : Nat) (h : d < 10) : (UInt8.ofNat (48 + d)).toNat = 48 + d := by
  rw [UInt8.toNat_ofNat']; omega
theorem dec_facts : ∀ u : Nat, val (Lib.decDigits u) = u ∧ allDig (Lib.decDigits u) := by
  intro u
  induction u using Nat.strongRecOn with
  | _ u ih =>
    rw [Lib.decDigits]
    split
    · rename_i h
      refine ⟨?_, fun c hc => ?_⟩
      · simp only [val, List.foldl_cons, List.foldl_nil]; rw [byte_digit u h]; omega
      · rw [List.mem_singleton] at hc; subst hc; rw [byte_digit u h]; omega
    · rename_i h
      obtain ⟨h1, h2⟩ := ih (u / 10) (by omega)
      have hb := byte_digit (u % 10) (by omega)
      refine ⟨?_, allDig_snoc h2 (by rw [hb]; omega) (by rw [hb]; omega)⟩
      rw [val_snoc, h1, hb]; omega
theorem dec_len : ∀ (k u : Nat), 1 ≤ k → u < 10 ^ k → 1 ≤ (Lib.decDigits u).length ∧ (Lib.decDigits u).length ≤ k := by
  intro k
  induction k with
  | zero => intro u h; omega
  | succ k ih =>
    intro u _ hu
    rw [Lib.decDigits]
    split
    · simp
    · rename_i h
      by_cases hk : k = 0
      · subst hk; simp at hu; omega
      · have := ih (u / 10) (by omega) (by rw [Nat.pow_succ] at hu; omega)
        simp; omega

/-- The number that a text can stand for. -/
def cand (l : List UInt8) : Int := if 1 < l.length ∧ l.head? = some 45 then -val (l.drop 1) else val l
def rdB (s : ByteArray) : Bool := decide (-999999 ≤ cand s.data.toList) && decide (cand s.data.toList ≤ 999999) && ((txt (cand s.data.toList)).toList == s.toList)
def rdN (s : ByteArray) : Int := if rdB s then cand s.data.toList else 0

theorem dig_not45 {l : List UInt8} (h : allDig l) : ¬ (45 : UInt8) ∈ l := fun hm => by
  have := (h 45 hm).1
  simp at this
theorem cand_txt (n : Int) (h0 : -999999 ≤ n) (h1 : n ≤ 999999) : cand (txt n).data.toList = n := by
  show cand (Lib.itoa n) = n
  unfold Lib.itoa cand
  by_cases h : n < 0
  · rw [if_pos h]
    have hl := dec_len 6 n.natAbs (by omega) (by omega)
    rw [if_pos ⟨by simp; omega, rfl⟩]
    simp only [List.drop_succ_cons, List.drop_zero]
    rw [(dec_facts _).1]; omega
  · rw [if_neg h]
    rw [if_neg, (dec_facts _).1]
    · omega
    · rintro ⟨_, hh⟩
      have := dig_not45 (dec_facts n.toNat).2
      exact this (List.mem_of_mem_head? hh)

/-- A text of a number in range is the text of its candidate. -/
theorem rd_of_txt {s : ByteArray} {n : Int} (h0 : -999999 ≤ n) (h1 : n ≤ 999999) (h : ((txt n).toList == s.toList) = true) : rdB s = true ∧ cand s.data.toList = n := by
  have e : txt n = s := aid.str_ext (by rw [beq_iff_eq, Lib.toList_data, Lib.toList_data] at h; exact h)
  have hc : cand s.data.toList = n := by rw [← e]; exact cand_txt n h0 h1
  refine ⟨?_, hc⟩
  unfold rdB
  rw [hc, h, decide_eq_true h0, decide_eq_true h1]; rfl
theorem rd_txt {s : ByteArray} (h : rdB s = true) : -999999 ≤ cand s.data.toList ∧ cand s.data.toList ≤ 999999 ∧ s = txt (cand s.data.toList) ∧ ((txt (cand s.data.toList)).toList == s.toList) = true := by
  unfold rdB at h
  simp only [Bool.and_eq_true, decide_eq_true_eq] at h
  obtain ⟨⟨h0, h1⟩, h2⟩ := h
  refine ⟨h0, h1, aid.str_ext ?_, h2⟩
  rw [beq_iff_eq, Lib.toList_data, Lib.toList_data] at h2
  exact h2.symm

theorem end_yes {s : ByteArray} {n : Int} (h : rdB s = true ∧ cand s.data.toList = n) : Ending.returned (.tuple #[.int .i64 n, .bool true]) = .returned (.tuple #[.int .i64 (rdN s), .bool (rdB s)]) := by
  unfold rdN; rw [h.1, h.2]; rfl
theorem end_no {s : ByteArray} (h : rdB s = false) : Ending.returned (.tuple #[.int .i64 0, .bool false]) = .returned (.tuple #[.int .i64 (rdN s), .bool (rdB s)]) := by
  unfold rdN; rw [h]; rfl

/-- What a readable text is made of: without a sign, only digits, one to six. -/
theorem rd_pos {s : ByteArray} (h : rdB s = true) (hp : ¬ (1 < s.data.toList.length ∧ s.data.toList.head? = some 45)) : allDig s.data.toList ∧ 1 ≤ s.data.toList.length ∧ s.data.toList.length ≤ 6 := by
  obtain ⟨h0, h1, he, _⟩ := rd_txt h
  generalize cand s.data.toList = n at *
  have hl : s.data.toList = Lib.itoa n := by rw [he]; rfl
  rw [hl] at hp ⊢
  unfold Lib.itoa at hp ⊢
  by_cases hn : n < 0
  · have := dec_len 6 n.natAbs (by omega) (by omega)
    rw [if_pos hn] at hp
    exact absurd ⟨by simp; omega, rfl⟩ hp
  · rw [if_neg hn]
    exact ⟨(dec_facts _).2, dec_len 6 _ (by omega) (by omega)⟩
theorem rd_neg {s : ByteArray} (h : rdB s = true) (hp : 1 < s.data.toList.length ∧ s.data.toList.head? = some 45) : allDig (s.data.toList.drop 1) ∧ 1 ≤ (s.data.toList.drop 1).length ∧ (s.data.toList.drop 1).length ≤ 6 := by
  obtain ⟨h0, h1, he, _⟩ := rd_txt h
  generalize cand s.data.toList = n at *
  have hl : s.data.toList = Lib.itoa n := by rw [he]; rfl
  rw [hl] at hp ⊢
  unfold Lib.itoa at hp ⊢
  by_cases hn : n < 0
  · rw [if_pos hn]
    simp only [List.drop_succ_cons, List.drop_zero]
    exact ⟨(dec_facts _).2, dec_len 6 _ (by omega) (by omega)⟩
  · rw [if_neg hn] at hp
    exact absurd (List.mem_of_mem_head? hp.2) (dig_not45 (dec_facts n.toNat).2)

theorem take_snoc (s : ByteArray) (k : Nat) (h : k < s.size) : s.data.toList.take (k + 1) = s.data.toList.take k ++ [s[k]] := by
  rw [List.take_succ_eq_append_getElem (by simpa using h)]; rfl
theorem take_all (s : ByteArray) (k : Nat) (h : s.size ≤ k) : s.data.toList.take k = s.data.toList := List.take_of_length_le (by simpa using h)
theorem dig_at {s : ByteArray} {k : Nat} (h : k < s.size) (hd : allDig s.data.toList) : (48 : Int) ≤ (s[k].toNat : Int) ∧ (s[k].toNat : Int) ≤ 57 :=
  hd _ (Array.mem_toList_iff.2 (Array.getElem_mem (xs := s.data) (i := k) h))
theorem size_list (s : ByteArray) : s.size = s.data.toList.length := by simp [← ByteArray.size_data]

/-- The loop's relation over a text t: the digits so far. -/
theorem step_ok {t : ByteArray} {k : Nat} (hk : k < t.size) (h6 : t.size ≤ 6) (hd : allDig (t.data.toList.take k)) (h0 : (48 : Int) ≤ (t[k].toNat : Int)) (h1 : (t[k].toNat : Int) ≤ 57) :
    allDig (t.data.toList.take (k + 1)) ∧ val (t.data.toList.take (k + 1)) = 10 * val (t.data.toList.take k) + ((t[k].toNat : Int) - 48) ∧ 0 ≤ val (t.data.toList.take k) ∧ val (t.data.toList.take k) ≤ 999999 := by
  rw [take_snoc t k hk, val_snoc]
  have := val_six (l := t.data.toList.take k) (by rw [List.length_take]; omega) hd
  exact ⟨allDig_snoc hd h0 h1, rfl, this.1, this.2⟩


theorem head_zero (s : ByteArray) (h : 0 < s.size) : s.data.toList.head? = some s[0] := by
  rw [List.head?_eq_getElem?]
  exact List.getElem?_eq_getElem (l := s.data.toList) (i := 0) (by rw [← size_list]; exact h)
theorem not_neg {s : ByteArray} (h : s.size ≤ 1 ∨ ∃ h0 : 0 < s.size, ((s[0].toNat : Int) == 45) = false) : ¬ (1 < s.data.toList.length ∧ s.data.toList.head? = some 45) := by
  rintro ⟨h1, h2⟩
  rcases h with h | ⟨h0, h⟩
  · rw [← size_list] at h1; omega
  · rw [head_zero s h0] at h2
    injection h2 with h2
    rw [h2] at h
    simp at h
theorem is_neg {s : ByteArray} (h1 : 1 < s.size) (h : ((s[0].toNat : Int) == 45) = true) : 1 < s.data.toList.length ∧ s.data.toList.head? = some 45 := by
  refine ⟨by rw [← size_list]; exact h1, ?_⟩
  rw [head_zero s (by omega)]
  congr 1
  simp only [beq_iff_eq] at h
  exact UInt8.toNat_inj.1 (by show _ = 45; omega)
theorem cand_pos {l : List UInt8} (h : ¬ (1 < l.length ∧ l.head? = some 45)) : cand l = val l := by unfold cand; rw [if_neg h]
theorem cand_neg {l : List UInt8} (h : 1 < l.length ∧ l.head? = some 45) : cand l = -val (l.drop 1) := by unfold cand; rw [if_pos h]

theorem bfalse {b : Bool} (h : ¬ b = true) : b = false := by simpa using h

end Go.Proofs.YtfigjfckelichaaGreatDoor.read

/- FormatInt of impl and spec at every number; what it formats can be parsed. -/
namespace Go.Proofs.YtfigjfckelichaaGreatDoor.fmtall
open Go.RowKit Go.Proofs.YtfigjfckelichaaGreatDoor.num Go.Proofs.YtfigjfckelichaaGreatDoor.read

def fmB (n : Int) : Bool := decide (-999999 ≤ n) && decide (n ≤ 999999)
def fmT (n : Int) : ByteArray := if fmB n then txt n else ⟨#[]⟩

theorem no {n : Int} (h : n < -999999 ∨ 999999 < n) : Ending.returned (.tuple #[.string ⟨#[]⟩, .bool false]) = .returned (.tuple #[.string (fmT n), .bool (fmB n)]) := by
  have hb : fmB n = false := by unfold fmB; simp; omega
  unfold fmT; rw [hb]; rfl
theorem yes {n : Int} (h1 : n ≤ 999999) (h2 : -999999 ≤ n) : Ending.returned (.tuple #[.string (txt n), .bool true]) = .returned (.tuple #[.string (fmT n), .bool (fmB n)]) := by
  have hb : fmB n = true := by unfold fmB; simp; omega
  unfold fmT; rw [hb]; rfl

theorem impl (n : Int) (w : World) (ht : fmt.Tab w) : Calls Tryz.prog 31 #[.int .i64 n] w fun e w' => e = .returned (.tuple #[.string (fmT n), .bool (fmB n)]) ∧ Below w.heap.size w w' := by
  by_cases h : n < -999999 ∨ 999999 < n
  · exact (fmt.format_no n w h).mono fun e w' ⟨he, hw⟩ => ⟨he.trans (no h), hw ▸ Below.refl _ _⟩
  · exact (fmt.format_yes n w (by omega) (by omega) ht).mono fun e w' ⟨he, hw⟩ => ⟨he.trans (yes (by omega) (by omega)), hw⟩

theorem size (n : Int) : (fmT n).size ≤ 21 := by
  unfold fmT
  split
  · rename_i h
    unfold fmB at h
    simp at h
    exact txt_size n (by omega) (by omega)
  · exact Nat.zero_le _

theorem back {n : Int} (h : fmB n = true) : rdB (fmT n) = true ∧ rdN (fmT n) = n := by
  have h2 := h
  unfold fmB at h2
  simp at h2
  have e : fmT n = txt n := by unfold fmT; rw [h]; rfl
  rw [e]
  obtain ⟨h3, h4⟩ := rd_of_txt (s := txt n) (n := n) (by omega) (by omega) (by simp)
  exact ⟨h3, by unfold rdN; rw [h3]; exact h4⟩
end Go.Proofs.YtfigjfckelichaaGreatDoor.fmtall

/- The texts of tracks; impl's TrackLine, where its table holds the words and strconv's table is as the text lays it. -/
namespace Go.Proofs.YtfigjfckelichaaGreatDoor.trkp
open Go.RowKit Go.Proofs.YtfigjfckelichaaGreatDoor.num Go.Proofs.YtfigjfckelichaaGreatDoor.ints Go.Proofs.YtfigjfckelichaaGreatDoor.lst Go.Proofs.YtfigjfckelichaaGreatDoor.in_ Go.Proofs.YtfigjfckelichaaGreatDoor.ats Go.Proofs.YtfigjfckelichaaGreatDoor.pos Go.Proofs.YtfigjfckelichaaGreatDoor.trk Go.Proofs.YtfigjfckelichaaGreatDoor.trkm
set_option linter.unusedSimpArgs false

/-- The word of a State. -/
def wd : Nat → ByteArray
  | 1 => ⟨#[110, 101, 119]⟩
  | 2 => ⟨#[99, 111, 110, 102, 105, 114, 109, 101, 100]⟩
  | 3 => ⟨#[99, 111, 97, 115, 116, 105, 110, 103]⟩
  | _ => ⟨#[]⟩
def hdT (i : Int) (k : Nat) (x y h : Int) : ByteArray := txt i ++ ⟨#[32]⟩ ++ wd k ++ ⟨#[32, 97, 116, 32]⟩ ++ txt x ++ ⟨#[44]⟩ ++ txt y ++ ⟨#[32, 104, 105, 116, 115, 32]⟩ ++ txt h
def tlT (i s x y h l : Int) : ByteArray := if l = 0 then hdT i s.toNat x y h else hdT i s.toNat x y h ++ ⟨#[32, 108, 111, 115, 116, 32]⟩ ++ txt l
/-- What TrackLine returns. -/
def tlV (i s x y h l : Int) : ByteArray := if tkB i s x y h l then tlT i s x y h l else ⟨#[]⟩
theorem tl_no {i s x y h l : Int} (hh : tkB i s x y h l = false) : Ending.returned (.tuple #[.string ⟨#[]⟩, .bool false]) = .returned (.tuple #[.string (tlV i s x y h l), .bool (tkB i s x y h l)]) := by unfold tlV; rw [hh]; rfl
theorem tl_yes {i s x y h l : Int} (hh : tkB i s x y h l = true) : Ending.returned (.tuple #[.string (tlT i s x y h l), .bool true]) = .returned (.tuple #[.string (tlV i s x y h l), .bool (tkB i s x y h l)]) := by unfold tlV; rw [hh]; rfl
theorem wd_size (k : Nat) : (wd k).size ≤ 9 := by
  unfold wd
  split <;> decide
theorem sw_is {i s x y h l : Int} (hh : tkB i s x y h l = true) : ∃ k : Nat, s = (k : Int) ∧ 1 ≤ k ∧ k ≤ 3 := by
  obtain ⟨-, -, -, -, h0, hs⟩ := tkB_yes hh
  refine ⟨s.toNat, ?_⟩
  have : s = 0 ∨ s = 1 ∨ s = 2 ∨ s = 3 := by
    rw [hs]
    unfold sw
    repeat' split
    all_goals simp
  omega
/-- impl's table holds the words. -/
def Tab (W : World) : Prop := ∀ k, k < 4 → W.cell? ⟨0, k, none⟩ = some (.string (wd k))
theorem Tab.old {W W' : World} (h : Tab W) (hb : Below W.heap.size W W') : Tab W' := fun k hk => (hb.cell (p := ⟨0, k, none⟩) (World.block_lt_of_cell? _ _ (h k hk))).trans (h k hk)
theorem Tab.on {W W' : World} (h : Tab W) (hb : Below W.heap.size W W') {k : Nat} (hk : k < 4) : W'.cell? ⟨0, k, none⟩ = some (.string (wd k)) := (h.old hb) k hk

theorem gW : Tryz.prog.globalNamed "loop.example/g00875/impl.stateWords" = some 0 := by kernel_rfl
theorem gWT : (Tryz.prog.globals[0]?).map (·.type) = some 61 := by kernel_rfl
theorem cellsW : Tryz.prog.cellsOf 61 = 4 := by kernel_rfl
theorem cellsS : Tryz.prog.cellsOf 9 = 1 := by kernel_rfl
def words : List ByteArray := [wd 0, wd 1, wd 2, wd 3]
theorem word_at : ∀ k : Nat, k < 4 → words[k]? = some (wd k)
  | 0, _ => rfl
  | 1, _ => rfl
  | 2, _ => rfl
  | 3, _ => rfl
set_option maxRecDepth 100000 in
set_option maxHeartbeats 4000000 in
theorem trackLineI (i s x y h l : Int) (w : World) (ht : fmt.Tab w) (hw : Tab w) :
    Calls Tryz.prog 7 #[.agg #[.int .i64 i, .int .i64 s, .int .i64 x, .int .i64 y, .int .i64 h, .int .i64 l]] w fun e w' => e = .returned (.tuple #[.string (tlV i s x y h l), .bool (tkB i s x y h l)]) ∧ Below w.heap.size w w' := by
  have hg := fun W => trkv.isValidTrack i s x y h l W
  cases hv : tkB i s x y h l
  · have E0 := Lib.hid (newS 25 #[.int .i64 i, .int .i64 s, .int .i64 x, .int .i64 y, .int .i64 h, .int .i64 l] w)
    have HN := Lib.hid (tl_no hv)
    rw [hv] at hg HN
    have HG := Lib.hid hg
    clear hg hv ht hw
    go_enter Tryz.func7, Tryz.ntmps7
    go_wp2_with fail
    generalize w.alloc (.cells #[.int .i64 i, .int .i64 s, .int .i64 x, .int .i64 y, .int .i64 h, .int .i64 l] 25) = W at *
    refine (HG.out _).mono ?_
    rintro e w1 ⟨rfl, hb1⟩
    have B1 := Lib.hid (E0.out.old hb1)
    clear hb1
    go_wp2_with fail
    go_ret2
    exact ⟨HN.out, B1.out.1⟩
  · have HNE := Lib.hid (tl_yes hv)
    obtain ⟨k, rfl, k1, k3⟩ := sw_is hv
    obtain ⟨hi, hp, hh, hl, -, -⟩ := tkB_yes hv
    obtain ⟨hx, hy⟩ := pB_yes hp
    have H1 := Lib.hid (fun (W : World) (hb : Below w.heap.size w W) => fmt.format_yes i W (by omega) (by omega) (fmt.tab_on ht hb))
    have H2 := Lib.hid (fun (W : World) (hb : Below w.heap.size w W) => fmt.format_yes x W (by omega) (by omega) (fmt.tab_on ht hb))
    have H3 := Lib.hid (fun (W : World) (hb : Below w.heap.size w W) => fmt.format_yes y W (by omega) (by omega) (fmt.tab_on ht hb))
    have H4 := Lib.hid (fun (W : World) (hb : Below w.heap.size w W) => fmt.format_yes h W (by omega) (by omega) (fmt.tab_on ht hb))
    have H5 := Lib.hid (fun (W : World) (hb : Below w.heap.size w W) => fmt.format_yes l W (by omega) (by omega) (fmt.tab_on ht hb))
    have z1 := txt_size i (by omega) (by omega)
    have z2 := txt_size x (by omega) (by omega)
    have z3 := txt_size y (by omega) (by omega)
    have z4 := txt_size h (by omega) (by omega)
    have z5 := txt_size l (by omega) (by omega)
    have z6 := wd_size k
    have HW := Lib.hid (fun (W : World) (hb : Below w.heap.size w W) => hw.on hb (show k < 4 by omega))
    have kk0 : (0 : Int) ≤ (k : Int) := by omega
    have kk : (k : Int) < 4 := by omega
    have HD := Lib.hid (show txt i ++ ⟨#[32]⟩ ++ wd k ++ ⟨#[32, 97, 116, 32]⟩ ++ txt x ++ ⟨#[44]⟩ ++ txt y ++ ⟨#[32, 104, 105, 116, 115, 32]⟩ ++ txt h = hdT i k x y h from rfl)
    have HT0 := Lib.hid (fun (hz : l = 0) => show hdT i k x y h = tlT i (k : Int) x y h l by unfold tlT; rw [if_pos hz]; rfl)
    have HT1 := Lib.hid (fun (hz : ¬ l = 0) => show hdT i k x y h ++ ⟨#[32, 108, 111, 115, 116, 32]⟩ ++ txt l = tlT i (k : Int) x y h l by unfold tlT; rw [if_neg hz]; rfl)
    have HZ := Lib.hid (show (hdT i k x y h).size ≤ 120 by
      rw [← HD.out]
      simp only [ByteArray.size_append]
      have e1 : (⟨#[32]⟩ : ByteArray).size = 1 := rfl
      have e2 : (⟨#[32, 97, 116, 32]⟩ : ByteArray).size = 4 := rfl
      have e3 : (⟨#[44]⟩ : ByteArray).size = 1 := rfl
      have e4 : (⟨#[32, 104, 105, 116, 115, 32]⟩ : ByteArray).size = 6 := rfl
      omega)
    have E0 := Lib.hid (newS 25 #[.int .i64 i, .int .i64 (k : Int), .int .i64 x, .int .i64 y, .int .i64 h, .int .i64 l] w)
    rw [hv] at hg HNE
    have HG := Lib.hid hg
    clear hg hv hi hp hh hl hx hy ht hw k1 k3
    generalize txt i = t1 at *
    generalize txt x = t2 at *
    generalize txt y = t3 at *
    generalize txt h = t4 at *
    generalize txt l = t5 at *
    generalize wd k = wk at *
    generalize hdT i k x y h = hd at *
    generalize tlT i (k : Int) x y h l = R at *
    go_enter Tryz.func7, Tryz.ntmps7
    go_wp2_with fail
    generalize w.alloc (.cells #[.int .i64 i, .int .i64 (k : Int), .int .i64 x, .int .i64 y, .int .i64 h, .int .i64 l] 25) = W at *
    refine (HG.out _).mono ?_
    rintro e W1 ⟨rfl, hb⟩
    have B1 := Lib.hid (E0.out.old hb)
    clear hb
    have c0 : World.cell? W1 ⟨w.heap.size, 0, none⟩ = some (.int .i64 i) := B1.out.cell 0
    have c1 : World.cell? W1 ⟨w.heap.size, 1, none⟩ = some (.int .i64 (k : Int)) := B1.out.cell 1
    have c2 : World.cell? W1 ⟨w.heap.size, 2, none⟩ = some (.int .i64 x) := B1.out.cell 2
    have c3 : World.cell? W1 ⟨w.heap.size, 3, none⟩ = some (.int .i64 y) := B1.out.cell 3
    have c4 : World.cell? W1 ⟨w.heap.size, 4, none⟩ = some (.int .i64 h) := B1.out.cell 4
    have c5 : World.cell? W1 ⟨w.heap.size, 5, none⟩ = some (.int .i64 l) := B1.out.cell 5
    go_wp2_with fail
    refine (H1.out _ B1.out.1).mono ?_
    rintro e W2 ⟨rfl, hb⟩
    have B2 := Lib.hid (B1.out.old hb)
    clear c0 c1 c2 c3 c4 c5
    clear hb
    have c0 : World.cell? W2 ⟨w.heap.size, 0, none⟩ = some (.int .i64 i) := B2.out.cell 0
    have c1 : World.cell? W2 ⟨w.heap.size, 1, none⟩ = some (.int .i64 (k : Int)) := B2.out.cell 1
    have c2 : World.cell? W2 ⟨w.heap.size, 2, none⟩ = some (.int .i64 x) := B2.out.cell 2
    have c3 : World.cell? W2 ⟨w.heap.size, 3, none⟩ = some (.int .i64 y) := B2.out.cell 3
    have c4 : World.cell? W2 ⟨w.heap.size, 4, none⟩ = some (.int .i64 h) := B2.out.cell 4
    have c5 : World.cell? W2 ⟨w.heap.size, 5, none⟩ = some (.int .i64 l) := B2.out.cell 5
    go_wp2_with fail
    refine (H2.out _ B2.out.1).mono ?_
    rintro e W3 ⟨rfl, hb⟩
    have B3 := Lib.hid (B2.out.old hb)
    clear c0 c1 c2 c3 c4 c5
    clear hb
    have c0 : World.cell? W3 ⟨w.heap.size, 0, none⟩ = some (.int .i64 i) := B3.out.cell 0
    have c1 : World.cell? W3 ⟨w.heap.size, 1, none⟩ = some (.int .i64 (k : Int)) := B3.out.cell 1
    have c2 : World.cell? W3 ⟨w.heap.size, 2, none⟩ = some (.int .i64 x) := B3.out.cell 2
    have c3 : World.cell? W3 ⟨w.heap.size, 3, none⟩ = some (.int .i64 y) := B3.out.cell 3
    have c4 : World.cell? W3 ⟨w.heap.size, 4, none⟩ = some (.int .i64 h) := B3.out.cell 4
    have c5 : World.cell? W3 ⟨w.heap.size, 5, none⟩ = some (.int .i64 l) := B3.out.cell 5
    go_wp2_with fail
    refine (H3.out _ B3.out.1).mono ?_
    rintro e W4 ⟨rfl, hb⟩
    have B4 := Lib.hid (B3.out.old hb)
    clear c0 c1 c2 c3 c4 c5
    clear hb
    have c0 : World.cell? W4 ⟨w.heap.size, 0, none⟩ = some (.int .i64 i) := B4.out.cell 0
    have c1 : World.cell? W4 ⟨w.heap.size, 1, none⟩ = some (.int .i64 (k : Int)) := B4.out.cell 1
    have c2 : World.cell? W4 ⟨w.heap.size, 2, none⟩ = some (.int .i64 x) := B4.out.cell 2
    have c3 : World.cell? W4 ⟨w.heap.size, 3, none⟩ = some (.int .i64 y) := B4.out.cell 3
    have c4 : World.cell? W4 ⟨w.heap.size, 4, none⟩ = some (.int .i64 h) := B4.out.cell 4
    have c5 : World.cell? W4 ⟨w.heap.size, 5, none⟩ = some (.int .i64 l) := B4.out.cell 5
    go_wp2_with fail
    refine (H4.out _ B4.out.1).mono ?_
    rintro e W5 ⟨rfl, hb⟩
    have B5 := Lib.hid (B4.out.old hb)
    clear c0 c1 c2 c3 c4 c5
    clear hb
    have c0 : World.cell? W5 ⟨w.heap.size, 0, none⟩ = some (.int .i64 i) := B5.out.cell 0
    have c1 : World.cell? W5 ⟨w.heap.size, 1, none⟩ = some (.int .i64 (k : Int)) := B5.out.cell 1
    have c2 : World.cell? W5 ⟨w.heap.size, 2, none⟩ = some (.int .i64 x) := B5.out.cell 2
    have c3 : World.cell? W5 ⟨w.heap.size, 3, none⟩ = some (.int .i64 y) := B5.out.cell 3
    have c4 : World.cell? W5 ⟨w.heap.size, 4, none⟩ = some (.int .i64 h) := B5.out.cell 4
    have c5 : World.cell? W5 ⟨w.heap.size, 5, none⟩ = some (.int .i64 l) := B5.out.cell 5
    have cw := HW.out _ B5.out.1
    by_cases hz : l = 0
    · have HR := Lib.hid (HT0.out hz)
      subst hz
      clear HT0 HT1
      go_wp2_with fail
      go_ret2
      exact ⟨by rw [← HNE.out, ← HR.out, ← HD.out]; rfl, B5.out.1⟩
    · have HR := Lib.hid (HT1.out hz)
      have dz : decide (l = 0) = false := decide_eq_false hz
      have dz2 : (l == 0) = false := by simpa using hz
      have zh := HZ.out
      clear HT0 HT1 HZ
      go_upto_region 8 with fail
      rw [HD.out]
      clear HD cw
      generalize hd = hd1 at *
      go_wp2_with fail
      refine (H5.out _ B5.out.1).mono ?_
      rintro e W6 ⟨rfl, hb⟩
      have B6 := Lib.hid (B5.out.old hb)
      clear hb
      go_wp2_with fail
      go_ret2
      exact ⟨by rw [← HNE.out, ← HR.out]; rfl, B6.out.1⟩
end Go.Proofs.YtfigjfckelichaaGreatDoor.trkp

/- Ascending lists of integers: plain mathematics (slices.Compact behind slices.Sort leaves each member once, ascending), and what a slice owns behind slices.Sort and slices.Compact. -/
namespace Go.Proofs.YtfigjfckelichaaGreatDoor.asc
open Go.RowKit Go.Sort

theorem asc_ext : ∀ {xs ys : List Int}, xs.Pairwise (· < ·) → ys.Pairwise (· < ·) → (∀ z, z ∈ xs ↔ z ∈ ys) → xs = ys
  | [], [], _, _, _ => rfl
  | [], y :: ys, _, _, h => absurd ((h y).2 List.mem_cons_self) (by simp)
  | x :: xs, [], _, _, h => absurd ((h x).1 List.mem_cons_self) (by simp)
  | x :: xs, y :: ys, hx, hy, h => by
    rw [List.pairwise_cons] at hx hy
    have h1 := List.mem_cons.1 ((h x).1 List.mem_cons_self)
    have h2 := List.mem_cons.1 ((h y).2 List.mem_cons_self)
    have e : x = y := by
      rcases h1 with h1 | h1
      · exact h1
      · rcases h2 with h2 | h2
        · exact h2.symm
        · have a1 := hy.1 x h1
          have a2 := hx.1 y h2
          omega
    subst e
    have : xs = ys := asc_ext hx.2 hy.2 fun z => by
      constructor
      · intro hz
        have hlt := hx.1 z hz
        rcases List.mem_cons.1 ((h z).1 (List.mem_cons_of_mem _ hz)) with e | hh
        · omega
        · exact hh
      · intro hz
        have hlt := hy.1 z hz
        rcases List.mem_cons.1 ((h z).2 (List.mem_cons_of_mem _ hz)) with e | hh
        · omega
        · exact hh
    rw [this]

theorem up_asc (d : Array Int) (hd : ∀ i j, i ≤ j → j < d.size → d[i]! ≤ d[j]!) : ∀ m, m ≤ d.size →
    (Lib.compactUpTo d m).Pairwise (· < ·) ∧ (∀ z, z ∈ Lib.compactUpTo d m ↔ ∃ j, j < m ∧ d[j]! = z)
  | 0, _ => ⟨by simp [Lib.compactUpTo], fun z => by simp [Lib.compactUpTo]⟩
  | m + 1, hm => by
    have ih := up_asc d hd m (by omega)
    rw [Lib.compactUpTo_succ]
    by_cases hk : m = 0 ∨ d[m]! ≠ d[m - 1]!
    · have hkk : Lib.keeps d m = true := by unfold Lib.keeps; exact decide_eq_true hk
      rw [if_pos hkk]
      refine ⟨?_, fun z => ?_⟩
      · rw [List.pairwise_append]
        refine ⟨ih.1, by simp, fun a ha b hb => ?_⟩
        obtain rfl : b = d[m]! := by simpa using hb
        obtain ⟨j, hj, rfl⟩ := (ih.2 a).1 ha
        have h1 := hd j (m - 1) (by omega) (by omega)
        have h2 := hd (m - 1) m (by omega) (by omega)
        rcases hk with rfl | hk
        · omega
        · omega
      · rw [List.mem_append, ih.2 z]
        constructor
        · rintro (⟨j, hj, e⟩ | h)
          · exact ⟨j, by omega, e⟩
          · exact ⟨m, by omega, by simpa using (List.mem_singleton.1 h).symm⟩
        · rintro ⟨j, hj, e⟩
          by_cases hjm : j < m
          · exact .inl ⟨j, hjm, e⟩
          · obtain rfl : j = m := by omega
            exact .inr (by rw [← e]; exact List.mem_singleton.2 rfl)
    · have h0 : m ≠ 0 := fun h => hk (.inl h)
      have he : d[m]! = d[m - 1]! := Classical.not_not.1 fun h => hk (.inr h)
      have hkk : ¬ Lib.keeps d m = true := by rw [Lib.keeps_neg (by omega) he]; decide
      rw [if_neg hkk, List.append_nil]
      refine ⟨ih.1, fun z => ?_⟩
      rw [ih.2 z]
      constructor
      · rintro ⟨j, hj, e⟩
        exact ⟨j, by omega, e⟩
      · rintro ⟨j, hj, e⟩
        by_cases hjm : j < m
        · exact ⟨j, hjm, e⟩
        · obtain rfl : j = m := by omega
          exact ⟨j - 1, by omega, by rw [← he, e]⟩
theorem sorted_le (zs : List Int) : (zs.mergeSort fun x y => decide (x ≤ y)).Pairwise (fun x y => x ≤ y) := by
  have h := List.pairwise_mergeSort (le := fun x y : Int => decide (x ≤ y)) (fun a b c h1 h2 => by simp at *; omega) (fun a b => by simp; omega) zs
  exact h.imp fun h => by simpa using h
theorem grown_put {w : World} {g q : Nat} (d : Array Int) : w.grownBy (putRow (Value.int .i64) (Sort.ahead w q) g 0 d) (some g) := by
  refine ⟨rfl, rfl, rfl, by simp [putRow, mapBlock, Sort.ahead], fun k hk hne => ?_⟩
  have : g ≠ k := fun e => hne (by rw [e])
  simp [putRow, mapBlock, Sort.ahead, Array.getElem?_modify, this]
end Go.Proofs.YtfigjfckelichaaGreatDoor.asc

/- Sightings and their groups in plain mathematics (no program in it). -/
namespace Go.Proofs.YtfigjfckelichaaGreatDoor.plt
open Go.RowKit Go.Proofs.YtfigjfckelichaaGreatDoor.in_ Go.Proofs.YtfigjfckelichaaGreatDoor.lst Go.Proofs.YtfigjfckelichaaGreatDoor.pos Go.Proofs.YtfigjfckelichaaGreatDoor.ints

theorem isIn_yes {x a b : Int} (h : isIn x a b = true) : a ≤ x ∧ x ≤ b := of_decide_eq_true h
theorem isIn_of {x a b : Int} (h1 : a ≤ x) (h2 : x ≤ b) : isIn x a b = true := decide_eq_true ⟨h1, h2⟩
/-- One sighting is valid. -/
def sgB (s t a x y : Int) : Bool := isIn s 0 86400 && (isIn t 1 9 && (isIn a 1 65535 && pB x y))
def sgK (zs : List Int) (k : Nat) : Bool := sgB (fld 5 zs k 0) (fld 5 zs k 1) (fld 5 zs k 2) (fld 5 zs k 3) (fld 5 zs k 4)
/-- All of the first k sightings are valid. -/
def alT (zs : List Int) : Nat → Bool
  | 0 => true
  | k + 1 => alT zs k && sgK zs k
/-- .. and in ascending order. -/
def okT (zs : List Int) : Nat → Bool
  | 0 => true
  | k + 1 => okT zs k && (sgK zs k && (decide (k = 0) || decide (fld 5 zs (k - 1) 0 ≤ fld 5 zs k 0)))
/-- Ascending from behind: no sighting with a number in k..n-1 is before the one ahead of it. -/
def srB (zs : List Int) (n : Nat) : Bool := decide (∀ k, k < n → 0 < k → fld 5 zs (k - 1) 0 ≤ fld 5 zs k 0)
def svB (zs : List Int) (n : Nat) : Bool := okT zs n && decide (n ≤ 20)
theorem okT_all {zs : List Int} {n : Nat} (h : okT zs n = true) : ∀ k, k < n → sgK zs k = true ∧ (0 < k → fld 5 zs (k - 1) 0 ≤ fld 5 zs k 0) := by
  induction n with
  | zero => intro k hk; omega
  | succ m ih =>
    intro k hk
    rw [okT, Bool.and_eq_true, Bool.and_eq_true, Bool.or_eq_true] at h
    rcases Nat.lt_or_ge k m with h1 | h1
    · exact ih h.1 k h1
    · obtain rfl : k = m := by omega
      refine ⟨h.2.1, fun h0 => ?_⟩
      rcases h.2.2 with h2 | h2
      · have := of_decide_eq_true h2; omega
      · exact of_decide_eq_true h2
theorem okT_of {zs : List Int} {n : Nat} (h : ∀ k, k < n → sgK zs k = true ∧ (0 < k → fld 5 zs (k - 1) 0 ≤ fld 5 zs k 0)) : okT zs n = true := by
  induction n with
  | zero => rfl
  | succ m ih =>
    rw [okT, ih (fun k hk => h k (by omega)), (h m (by omega)).1, Bool.true_and, Bool.true_and]
    rcases Nat.eq_zero_or_pos m with h0 | h0
    · rw [decide_eq_true h0]; rfl
    · rw [decide_eq_true ((h m (by omega)).2 h0), Bool.or_true]
theorem okT_cut {zs : List Int} {n k : Nat} (h : okT zs k = false) (hk : k ≤ n) : okT zs n = false := by
  cases hq : okT zs n
  · rfl
  · have := okT_of (fun j hj => okT_all hq j (by omega)) (n := k)
    rw [h] at this; cases this
theorem alT_all {zs : List Int} {n : Nat} (h : alT zs n = true) : ∀ k, k < n → sgK zs k = true := by
  induction n with
  | zero => intro k hk; omega
  | succ m ih =>
    intro k hk
    rw [alT, Bool.and_eq_true] at h
    rcases Nat.lt_or_ge k m with h1 | h1
    · exact ih h.1 k h1
    · obtain rfl : k = m := by omega
      exact h.2
theorem alT_of {zs : List Int} {n : Nat} (h : ∀ k, k < n → sgK zs k = true) : alT zs n = true := by
  induction n with
  | zero => rfl
  | succ m ih => rw [alT, ih (fun k hk => h k (by omega)), h m (by omega)]; rfl
theorem ok_is (zs : List Int) (n : Nat) : okT zs n = (alT zs n && srB zs n) := by
  cases h : okT zs n
  · cases h1 : alT zs n
    · rfl
    · cases h2 : srB zs n
      · rfl
      · have := okT_of (fun k hk => ⟨alT_all h1 k hk, of_decide_eq_true h2 k hk⟩)
        rw [h] at this; cases this
  · rw [alT_of (fun k hk => (okT_all h k hk).1)]
    unfold srB
    rw [decide_eq_true (fun k hk => (okT_all h k hk).2)]; rfl
/-- The list and the numbers are valid. -/
def asB (zs : List Int) (n : Nat) (w r : Int) : Bool := svB zs n && (isIn w 0 60 && isIn r 0 1000)
theorem asB_yes {zs : List Int} {n : Nat} {w r : Int} (h : asB zs n w r = true) : svB zs n = true ∧ (0 ≤ w ∧ w ≤ 60) ∧ 0 ≤ r ∧ r ≤ 1000 := by
  unfold asB at h
  rw [Bool.and_eq_true, Bool.and_eq_true] at h
  exact ⟨h.1, isIn_yes h.2.1, isIn_yes h.2.2⟩

/-- Two sightings are duplicates. -/
def tw (w r s a x y s' a' x' y' : Int) : Bool :=
  decide (a = a') && (decide (((s - s').natAbs : Int) ≤ w) && (decide (((x - x').natAbs : Int) ≤ r) && decide (((y - y').natAbs : Int) ≤ r)))
def twK (zs : List Int) (w r : Int) (i k : Nat) : Bool := tw w r (fld 5 zs i 0) (fld 5 zs i 2) (fld 5 zs i 3) (fld 5 zs i 4) (fld 5 zs k 0) (fld 5 zs k 2) (fld 5 zs k 3) (fld 5 zs k 4)
/-- The site of k does not occur in a group. -/
def noB (zs : List Int) (k : Nat) (g : List Nat) : Bool := g.all fun j => decide (fld 5 zs j 1 ≠ fld 5 zs k 1)
/-- Sighting k joins a group. -/
def fitB (zs : List Int) (w r : Int) (k : Nat) (g : List Nat) : Bool := twK zs w r (g.headD 0) k && noB zs k g
/-- The number of the first group that k joins, or the number of groups. -/
def pos (zs : List Int) (w r : Int) (k : Nat) (gs : List (List Nat)) : Nat := gs.findIdx (fitB zs w r k)
def put (gs : List (List Nat)) (p k : Nat) : List (List Nat) := if p < gs.length then gs.set p (gs.getD p [] ++ [k]) else gs ++ [[k]]
/-- The groups of the first k sightings. -/
def grp (zs : List Int) (w r : Int) : Nat → List (List Nat)
  | 0 => []
  | k + 1 => put (grp zs w r k) (pos zs w r k (grp zs w r k)) k
/-- The number of the group of sighting k. -/
def num (zs : List Int) (w r : Int) (k : Nat) : Nat := pos zs w r k (grp zs w r k)
/- What the functions return. -/
/- Heads of groups. -/
/-- The heads of the groups with one sighting, of the first g groups. -/
def lsT (gs : List (List Nat)) : Nat → List Int
  | 0 => []
  | g + 1 => if (gs.getD g []).length = 1 then lsT gs g ++ [(((gs.getD g []).headD 0 : Nat) : Int)] else lsT gs g
/-- The sightings that are alone, of the first k. -/
def loT (zs : List Int) (n : Nat) (w r : Int) : Nat → List Int
  | 0 => []
  | k + 1 => if ((grp zs w r n).getD (num zs w r k) []).length = 1 then loT zs n w r k ++ [(k : Int)] else loT zs n w r k
def loV (zs : List Int) (n : Nat) (w r : Int) : List Int := if asB zs n w r then loT zs n w r n else []
/- Counts of sites. -/
end Go.Proofs.YtfigjfckelichaaGreatDoor.plt

/- Sites and arrivals in plain mathematics (no program in it): a list of sites is a flat list of numbers, two a site. -/
namespace Go.Proofs.YtfigjfckelichaaGreatDoor.sit
open Go.Proofs.YtfigjfckelichaaGreatDoor.in_ Go.Proofs.YtfigjfckelichaaGreatDoor.lst

/-- A point of the ground. -/
def onB (x y : Int) : Bool := isIn x 0 30 && isIn y 0 30
def onT (zs : List Int) : Nat → Bool
  | 0 => true
  | k + 1 => onT zs k && onB (fld 2 zs k 0) (fld 2 zs k 1)
/-- Sites i and k are the same point. -/
def sameB (zs : List Int) (i k : Nat) : Bool := decide (fld 2 zs k 0 = fld 2 zs i 0 ∧ fld 2 zs k 1 = fld 2 zs i 1)
/-- None of the first k sites is the same xs the site i. -/
def newT (zs : List Int) (i : Nat) : Nat → Bool
  | 0 => true
  | k + 1 => newT zs i k && !sameB zs i k
def difT (zs : List Int) : Nat → Bool
  | 0 => true
  | k + 1 => difT zs k && newT zs k k
/-- A valid list of n sites. -/
def siB (zs : List Int) (n : Nat) : Bool := decide (1 ≤ n ∧ n ≤ 5) && (onT zs n && difT zs n)
/-- The distance of two points. -/
def dist (x y a b : Int) : Int := ((x - a).natAbs : Int) + ((y - b).natAbs : Int)
/-- A point that is not far away. -/
def okP (x y : Int) : Prop := (-1000 ≤ x ∧ x ≤ 1000) ∧ -1000 ≤ y ∧ y ≤ 1000
def okL (zs : List Int) (n : Nat) : Prop := ∀ k, k < n → okP (fld 2 zs k 0) (fld 2 zs k 1)
/-- The distance of the site k to a point. -/
def ds (zs : List Int) (x y : Int) (k : Nat) : Int := dist (fld 2 zs k 0) (fld 2 zs k 1) x y
/- ArrivalsOf. -/
/- Lists of arrivals. -/
def aiT (xs : List Int) : Nat → Bool
  | 0 => true
  | k + 1 => aiT xs k && isIn (xs.getD k 0) 0 100060
/-- A valid list of n sites and xs many arrivals. -/
def arB (zs : List Int) (n : Nat) (xs : List Int) (m : Nat) : Bool := aiT xs m && (siB zs n && decide (m = n))
/- SendTimes. -/
def stT (zs xs : List Int) (x y : Int) (n : Nat) : List Int := (List.range n).map fun k => xs.getD k 0 - ds zs x y k
def stB (zs : List Int) (n : Nat) (xs : List Int) (m : Nat) (x y : Int) : Bool := arB zs n xs m && onB x y
/- FirstHeard: the first one of the smallest ones among the first k + 1. -/
def fhT (xs : List Int) : Nat → Nat
  | 0 => 0
  | k + 1 => if xs.getD (k + 1) 0 < xs.getD (fhT xs k) 0 then k + 1 else fhT xs k
/- PossibleArrivals. -/
def apB (zs xs : List Int) (i k : Nat) : Bool := decide (((xs.getD i 0 - xs.getD k 0).natAbs : Int) ≤ ds zs (fld 2 zs i 0) (fld 2 zs i 1) k)
def apT (zs xs : List Int) (i : Nat) : Nat → Bool
  | 0 => true
  | k + 1 => apT zs xs i k && apB zs xs i k
def paT (zs xs : List Int) : Nat → Bool
  | 0 => true
  | i + 1 => paT zs xs i && apT zs xs i i
/- CoverOf. -/
def cvT (zs : List Int) (x y r : Int) : Nat → List Int
  | 0 => []
  | k + 1 => if ds zs x y k ≤ r then cvT zs x y r k ++ [(k : Int)] else cvT zs x y r k
/- CoveredPoints. -/
def cN (zs : List Int) (n : Nat) (r : Int) (x y : Nat) : Nat := (cvT zs x y r n).length
def cpX (zs : List Int) (n : Nat) (r c : Int) (y : Nat) : Nat → Nat
  | 0 => 0
  | x + 1 => if c ≤ (cN zs n r x y : Int) then cpX zs n r c y x + 1 else cpX zs n r c y x
def cpY (zs : List Int) (n : Nat) (r c : Int) : Nat → Nat
  | 0 => 0
  | y + 1 => cpY zs n r c y + cpX zs n r c y 31
/- DropSite. -/
def drT (zs : List Int) (i : Nat) : List Int := zs.take (i * 2) ++ zs.drop ((i + 1) * 2)
end Go.Proofs.YtfigjfckelichaaGreatDoor.sit

/- Locating senders in plain mathematics (no program in it): spreads, the points that fit, the best point, the box, the most helpful site, the send time. -/
namespace Go.Proofs.YtfigjfckelichaaGreatDoor.loc
open Go.Proofs.YtfigjfckelichaaGreatDoor.in_ Go.Proofs.YtfigjfckelichaaGreatDoor.lst Go.Proofs.YtfigjfckelichaaGreatDoor.sit

/-- The least and the greatest of the first k + 1 numbers. -/
def mnT (xs : List Int) : Nat → Int
  | 0 => xs.getD 0 0
  | k + 1 => min (mnT xs k) (xs.getD (k + 1) 0)
def mxT (xs : List Int) : Nat → Int
  | 0 => xs.getD 0 0
  | k + 1 => max (mxT xs k) (xs.getD (k + 1) 0)
/-- The spread of a point. -/
def sp (zs xs : List Int) (n : Nat) (x y : Int) : Int := mxT (stT zs xs x y n) (n - 1) - mnT (stT zs xs x y n) (n - 1)
/- The points of the ground, one after the other. -/
def pX (k : Nat) : Int := ((k % 31 : Nat) : Int)
def pY (k : Nat) : Int := ((k / 31 : Nat) : Int)
/-- The spread of the point k. -/
def sq (zs xs : List Int) (n k : Nat) : Int := sp zs xs n (pX k) (pY k)

/- SpreadAt. -/
/- FittingPoints: those among the first k points that fit; their number. -/
def ftT (zs xs : List Int) (n : Nat) (t : Int) : Nat → List Int
  | 0 => []
  | k + 1 => if sq zs xs n k ≤ t then ftT zs xs n t k ++ [pX k, pY k] else ftT zs xs n t k
def fcT (zs xs : List Int) (n : Nat) (t : Int) : Nat → Nat
  | 0 => 0
  | k + 1 => if sq zs xs n k ≤ t then fcT zs xs n t k + 1 else fcT zs xs n t k
def ltB (zs : List Int) (n : Nat) (xs : List Int) (m : Nat) (t : Int) : Bool := arB zs n xs m && isIn t 0 5
def ftV (zs : List Int) (n : Nat) (xs : List Int) (m : Nat) (t : Int) : List Int := if ltB zs n xs m t then ftT zs xs n t 961 else []
def ftN (zs : List Int) (n : Nat) (xs : List Int) (m : Nat) (t : Int) : Nat := if ltB zs n xs m t then fcT zs xs n t 961 else 0
/- BestPoint: the best one among the first k points. -/
def btT (zs xs : List Int) (n : Nat) : Nat → Nat
  | 0 => 0
  | k + 1 => if sq zs xs n k < sq zs xs n (btT zs xs n k) then k else btT zs xs n k
/- IsLocated. -/
/- FittingBox: the least and the greatest X (j = 0) or Y (j = 1) of the first k + 1 points of a list. -/
def loT (fs : List Int) (j : Nat) : Nat → Int
  | 0 => fld 2 fs 0 j
  | k + 1 => min (loT fs j k) (fld 2 fs (k + 1) j)
def hiT (fs : List Int) (j : Nat) : Nat → Int
  | 0 => fld 2 fs 0 j
  | k + 1 => max (hiT fs j k) (fld 2 fs (k + 1) j)
def fbB (zs : List Int) (n : Nat) (xs : List Int) (m : Nat) (t : Int) : Bool := decide (0 < ftN zs n xs m t)
def loV (zs : List Int) (n : Nat) (xs : List Int) (m : Nat) (t : Int) (j : Nat) : Int := if fbB zs n xs m t then loT (ftV zs n xs m t) j (ftN zs n xs m t - 1) else 0
def hiV (zs : List Int) (n : Nat) (xs : List Int) (m : Nat) (t : Int) (j : Nat) : Int := if fbB zs n xs m t then hiT (ftV zs n xs m t) j (ftN zs n xs m t - 1) else 0
theorem hi_yes {zs xs : List Int} {n m j : Nat} {t : Int} (h : fbB zs n xs m t = true) : hiV zs n xs m t j = hiT (ftV zs n xs m t) j (ftN zs n xs m t - 1) := by unfold hiV; rw [h]; rfl
theorem hi_no {zs xs : List Int} {n m j : Nat} {t : Int} (h : fbB zs n xs m t = false) : hiV zs n xs m t j = 0 := by unfold hiV; rw [h]; rfl

/- SendTime. -/
/- HelpfulSite: lists without one of their elements. -/
def drI (xs : List Int) (i : Nat) : List Int := xs.take i ++ xs.drop (i + 1)
/-- How many points fit without the site i. -/
def hfC (zs xs : List Int) (n : Nat) (t : Int) (i : Nat) : Nat := fcT (drT zs i) (drI xs i) (n - 1) t 961
def hfT (zs xs : List Int) (n : Nat) (t : Int) : Nat → Nat
  | 0 => 0
  | k + 1 => if hfC zs xs n t (hfT zs xs n t k) < hfC zs xs n t k then k else hfT zs xs n t k
end Go.Proofs.YtfigjfckelichaaGreatDoor.loc

/- spec's l1Put: a number put to its place in an ascending list, once (a region that draws, with three appends); the same in plain mathematics (no frames here). -/
namespace Go.Proofs.YtfigjfckelichaaGreatDoor.putq
open Go.RowKit Go.Proofs.YtfigjfckelichaaGreatDoor.ints

/-- How many numbers at the head are less than y. -/
def lead : List Int → Int → Nat
  | [], _ => 0
  | x :: r, y => if x < y then lead r y + 1 else 0
theorem lead_le (xs : List Int) (y : Int) : lead xs y ≤ xs.length := by
  induction xs with
  | nil => exact Nat.le_refl _
  | cons x r ih => simp only [lead]; split <;> simp <;> omega
/-- The list with y. -/
def put (xs : List Int) (y : Int) : List Int := if lead xs y < xs.length ∧ xs.getD (lead xs y) 0 = y then xs else xs.take (lead xs y) ++ [y] ++ xs.drop (lead xs y)
theorem put_length (xs : List Int) (y : Int) : (put xs y).length ≤ xs.length + 1 := by
  unfold put
  split
  · omega
  · have := lead_le xs y
    simp; omega

section
variable {P : Program}
theorem ints_one (xs : List Int) : ∀ u ∈ cellsI xs, u.oneCell' = true := by
  intro u hu
  unfold cellsI at hu
  obtain ⟨x, _, rfl⟩ := List.mem_map.mp hu
  rfl
theorem cellsI_at {xs : List Int} {j : Nat} {u : Value} (h : (cellsI xs)[j]? = some u) : ∃ x, xs[j]? = some x ∧ u = .int .i64 x := by
  unfold cellsI at h
  rw [List.getElem?_map] at h
  cases hx : xs[j]? with
  | none => rw [hx] at h; cases h
  | some x => rw [hx] at h; exact ⟨x, rfl, by simpa using h.symm⟩

/-- y in an ascending list, once. -/
def ins : List Int → Int → List Int
  | [], y => [y]
  | x :: r, y => if x < y then x :: ins r y else if x = y then x :: r else y :: x :: r
theorem put_ins : ∀ xs y, put xs y = ins xs y
  | [], y => by unfold put lead ins; simp
  | x :: r, y => by
    have ih := put_ins r y
    unfold put at ih ⊢
    unfold ins
    by_cases h : x < y
    · have hl : lead (x :: r) y = lead r y + 1 := by simp only [lead, if_pos h]
      rw [if_pos h, ← ih, hl]
      by_cases hc : lead r y < r.length ∧ r.getD (lead r y) 0 = y
      · rw [if_pos hc, if_pos ⟨by simp; exact hc.1, by simpa using hc.2⟩]
      · rw [if_neg hc, if_neg (fun hh => hc ⟨by simpa using hh.1, by simpa using hh.2⟩)]
        simp
    · have hl : lead (x :: r) y = 0 := by simp only [lead, if_neg h]
      rw [if_neg h, hl]
      by_cases he : x = y
      · rw [if_pos he, if_pos ⟨by simp, by simpa using he⟩]
      · rw [if_neg he, if_neg (fun hh => he (by simpa using hh.2))]
        simp
theorem mem_ins {z : Int} : ∀ {xs : List Int} {y : Int}, z ∈ ins xs y ↔ z ∈ xs ∨ z = y
  | [], y => by simp [ins]
  | x :: r, y => by
    unfold ins
    have ih := mem_ins (z := z) (xs := r) (y := y)
    split
    · rw [List.mem_cons, ih, List.mem_cons, or_assoc]
    · split
      · rename_i he
        subst he
        constructor
        · exact .inl
        · rintro (h | rfl)
          · exact h
          · exact List.mem_cons_self
      · rw [List.mem_cons, or_comm]
theorem ins_asc : ∀ {xs : List Int} {y : Int}, xs.Pairwise (· < ·) → (ins xs y).Pairwise (· < ·)
  | [], y, _ => by simp [ins]
  | x :: r, y, h => by
    rw [List.pairwise_cons] at h
    unfold ins
    split
    · rename_i hx
      rw [List.pairwise_cons]
      refine ⟨fun z hz => ?_, ins_asc h.2⟩
      rcases mem_ins.1 hz with hz | rfl
      · exact h.1 z hz
      · exact hx
    · split
      · exact List.pairwise_cons.2 h
      · refine List.pairwise_cons.2 ⟨fun z hz => ?_, List.pairwise_cons.2 h⟩
        rcases List.mem_cons.1 hz with rfl | hz
        · omega
        · have := h.1 z hz; omega
end
end Go.Proofs.YtfigjfckelichaaGreatDoor.putq

/- Groups of sightings in plain mathematics: spreads, plots, their sites (no program in it). -/
namespace Go.Proofs.YtfigjfckelichaaGreatDoor.pltm
open Go.RowKit Go.Proofs.YtfigjfckelichaaGreatDoor.in_ Go.Proofs.YtfigjfckelichaaGreatDoor.lst Go.Proofs.YtfigjfckelichaaGreatDoor.pos Go.Proofs.YtfigjfckelichaaGreatDoor.plt Go.Proofs.YtfigjfckelichaaGreatDoor.loc

theorem sum_set {k : Nat} : ∀ (gs : List (List Nat)) (p : Nat) (g : List Nat), gs[p]? = some g → ((gs.set p (g ++ [k])).map List.length).sum = (gs.map List.length).sum + 1
  | [], _, _, h => by simp at h
  | a :: l, 0, g, h => by
    simp at h
    subst h
    simp
    omega
  | a :: l, p + 1, g, h => by
    have := sum_set (k := k) l p g (by simpa using h)
    simp at this ⊢
    omega
/- Coordinates of a group. -/
def cx (zs : List Int) (j : Nat) (q : List Nat) : List Int := q.map fun k => fld 5 zs k j
theorem cx_take {zs : List Int} {j k i : Nat} {q : List Nat} (h : q[k]? = some i) : cx zs j (q.take (k + 1)) = cx zs j (q.take k) ++ [fld 5 zs i j] := by
  rw [List.take_succ_eq_append_getElem (List.getElem?_eq_some_iff.1 h).1, (List.getElem?_eq_some_iff.1 h).2]
  simp [cx]
/-- The sum of the first k numbers. -/
def smT (xs : List Int) : Nat → Int
  | 0 => 0
  | k + 1 => smT xs k + xs.getD k 0
/- Spreads. -/
theorem mxT_is (xs : List Int) : ∀ k, ∃ j, j ≤ k ∧ xs.getD j 0 = mxT xs k
  | 0 => ⟨0, Nat.le_refl _, rfl⟩
  | k + 1 => by
    obtain ⟨j, h1, h2⟩ := mxT_is xs k
    rw [mxT]
    rcases Int.le_total (xs.getD (k + 1) 0) (mxT xs k) with h | h
    · exact ⟨j, by omega, by omega⟩
    · exact ⟨k + 1, Nat.le_refl _, by omega⟩
theorem mnT_is (xs : List Int) : ∀ k, ∃ j, j ≤ k ∧ xs.getD j 0 = mnT xs k
  | 0 => ⟨0, Nat.le_refl _, rfl⟩
  | k + 1 => by
    obtain ⟨j, h1, h2⟩ := mnT_is xs k
    rw [mnT]
    rcases Int.le_total (xs.getD (k + 1) 0) (mnT xs k) with h | h
    · exact ⟨k + 1, Nat.le_refl _, by omega⟩
    · exact ⟨j, by omega, by omega⟩
/-- The greatest difference: of all pairs ahead of number i, and of i with the first k. -/
def rowM (xs : List Int) (x : Int) (i : Nat) : Nat → Int
  | 0 => x
  | k + 1 => max (rowM xs x i k) ((xs.getD i 0 - xs.getD k 0).natAbs : Int)
def allM (xs : List Int) : Nat → Int
  | 0 => 0
  | i + 1 => rowM xs (allM xs i) i i
theorem rowM_ge (xs : List Int) (x : Int) (i : Nat) : ∀ k, x ≤ rowM xs x i k ∧ ∀ j, j < k → ((xs.getD i 0 - xs.getD j 0).natAbs : Int) ≤ rowM xs x i k
  | 0 => ⟨Int.le_refl _, fun j h => by omega⟩
  | k + 1 => by
    obtain ⟨h1, h2⟩ := rowM_ge xs x i k
    rw [rowM]
    refine ⟨by omega, fun j hj => ?_⟩
    rcases Nat.lt_or_ge j k with h | h
    · have := h2 j h; omega
    · obtain rfl : j = k := by omega
      omega
theorem rowM_le {xs : List Int} {x b : Int} {i : Nat} (hx : x ≤ b) : ∀ k, (∀ j, j < k → ((xs.getD i 0 - xs.getD j 0).natAbs : Int) ≤ b) → rowM xs x i k ≤ b
  | 0, _ => hx
  | k + 1, h => by
    have h1 := rowM_le hx k (fun j hj => h j (by omega))
    have h2 := h k (by omega)
    rw [rowM]; omega
theorem allM_ge (xs : List Int) : ∀ n, 0 ≤ allM xs n ∧ ∀ i k, k < i → i < n → ((xs.getD i 0 - xs.getD k 0).natAbs : Int) ≤ allM xs n
  | 0 => ⟨Int.le_refl _, fun i k _ h => by omega⟩
  | n + 1 => by
    obtain ⟨h1, h2⟩ := allM_ge xs n
    obtain ⟨h3, h4⟩ := rowM_ge xs (allM xs n) n n
    rw [allM]
    refine ⟨by omega, fun i k hk hi => ?_⟩
    rcases Nat.lt_or_ge i n with h | h
    · have := h2 i k hk h; omega
    · obtain rfl : i = n := by omega
      exact h4 k hk
theorem allM_le {xs : List Int} {b : Int} (hb : 0 ≤ b) : ∀ n, (∀ i k, k < i → i < n → ((xs.getD i 0 - xs.getD k 0).natAbs : Int) ≤ b) → allM xs n ≤ b
  | 0, _ => hb
  | n + 1, h => by
    rw [allM]
    exact rowM_le (allM_le hb n (fun i k h1 h2 => h i k h1 (by omega))) n (fun j hj => h n j hj (by omega))
/-- SpreadOf. -/
def spB (zs : List Int) (n : Nat) (w r g : Int) : Bool := asB zs n w r && isIn g 0 (((grp zs w r n).length : Int) - 1)
/- Plots. -/
def plL (zs : List Int) (q : List Nat) : List Int := (cx zs 1 q).mergeSort fun x y => decide (x ≤ y)
def ptT (zs : List Int) (q : List Nat) : Nat → List Int
  | 0 => []
  | k + 1 => putq.put (ptT zs q k) (fld 5 zs (q.getD k 0) 1)
theorem ptT_asc (zs : List Int) (q : List Nat) : ∀ k, (ptT zs q k).Pairwise (· < ·)
  | 0 => List.Pairwise.nil
  | k + 1 => by rw [ptT, putq.put_ins]; exact putq.ins_asc (ptT_asc zs q k)
theorem ptT_mem {zs : List Int} {q : List Nat} {z : Int} : ∀ k, k ≤ q.length → (z ∈ ptT zs q k ↔ z ∈ cx zs 1 (q.take k))
  | 0, _ => by simp [ptT, cx]
  | k + 1, h => by
    have hq := List.getElem?_eq_getElem (show k < q.length by omega)
    rw [ptT, putq.put_ins, putq.mem_ins, ptT_mem k (by omega), cx_take hq, List.mem_append, List.mem_singleton, List.getD_eq_getElem?_getD, hq]; rfl
theorem ptT_len (zs : List Int) (q : List Nat) : ∀ k, (ptT zs q k).length ≤ k
  | 0 => Nat.le_refl _
  | k + 1 => by have := ptT_len zs q k; have h := putq.put_length (ptT zs q k) (fld 5 zs (q.getD k 0) 1); rw [ptT]; omega
theorem plL_asc {zs : List Int} {q : List Nat} (h : q.Pairwise (fun i j => fld 5 zs i 1 ≠ fld 5 zs j 1)) : (plL zs q).Pairwise (· < ·) := by
  have h1 := asc.sorted_le (cx zs 1 q)
  have h2 : (cx zs 1 q).Pairwise (· ≠ ·) := by unfold cx; rw [List.pairwise_map]; exact h
  have h3 : (plL zs q).Pairwise (· ≠ ·) := (List.Perm.pairwise_iff (fun hab => hab.symm) (List.mergeSort_perm (cx zs 1 q) fun x y => decide (x ≤ y))).2 h2
  have h1' : (plL zs q).Pairwise (fun x y => x ≤ y) := h1
  exact (h1'.and h3).imp (fun ⟨h4, h5⟩ => by omega)
theorem pt_is {zs : List Int} {q : List Nat} (h : q.Pairwise (fun i j => fld 5 zs i 1 ≠ fld 5 zs j 1)) : ptT zs q q.length = plL zs q := by
  refine asc.asc_ext (ptT_asc ..) (plL_asc h) fun z => ?_
  rw [ptT_mem _ (Nat.le_refl _), List.take_length]
  unfold plL
  rw [List.mem_mergeSort]
/-- A plot is valid. -/
def riT (xs : List Int) : Nat → Bool
  | 0 => true
  | k + 1 => riT xs k && (isIn (xs.getD k 0) 1 9 && (decide (k = 0) || decide (xs.getD (k - 1) 0 < xs.getD k 0)))
def plB (s a x y : Int) (xs : List Int) (n : Nat) : Bool := isIn s 0 86400 && (isIn a 1 65535 && (pB x y && (isIn n 1 9 && riT xs n)))
theorem riT_all {xs : List Int} {n : Nat} (h : riT xs n = true) : ∀ k, k < n → (1 ≤ xs.getD k 0 ∧ xs.getD k 0 ≤ 9) ∧ (0 < k → xs.getD (k - 1) 0 < xs.getD k 0) := by
  induction n with
  | zero => intro k hk; omega
  | succ m ih =>
    intro k hk
    rw [riT, Bool.and_eq_true, Bool.and_eq_true, Bool.or_eq_true] at h
    rcases Nat.lt_or_ge k m with h1 | h1
    · exact ih h.1 k h1
    · obtain rfl : k = m := by omega
      refine ⟨isIn_yes h.2.1, fun h0 => ?_⟩
      rcases h.2.2 with h2 | h2
      · have := of_decide_eq_true h2; omega
      · exact of_decide_eq_true h2
theorem plB_yes {s a x y : Int} {xs : List Int} {n : Nat} (h : plB s a x y xs n = true) : (0 ≤ s ∧ s ≤ 86400) ∧ (1 ≤ a ∧ a ≤ 65535) ∧ ((0 ≤ x ∧ x ≤ 9899) ∧ 0 ≤ y ∧ y ≤ 9899) ∧ (1 ≤ n ∧ n ≤ 9) ∧ riT xs n = true := by
  unfold plB at h
  rw [Bool.and_eq_true, Bool.and_eq_true, Bool.and_eq_true, Bool.and_eq_true] at h
  have := isIn_yes h.2.2.2.1
  exact ⟨isIn_yes h.1, isIn_yes h.2.1, pB_yes h.2.2.1, ⟨by omega, by omega⟩, h.2.2.2.2⟩
end Go.Proofs.YtfigjfckelichaaGreatDoor.pltm

/- Digit texts in base 2 and 16: plain mathematics. -/
namespace Go.Proofs.YtfigjfckelichaaGreatDoor.bin
open Go.RowKit

/-- The digit of a number below 16, and its value (16: it is none). -/
def ch (n : Nat) : UInt8 := if n < 10 then UInt8.ofNat (48 + n) else UInt8.ofNat (55 + n)
def dv (c : UInt8) : Nat := if 48 ≤ c.toNat ∧ c.toNat ≤ 57 then c.toNat - 48 else if 65 ≤ c.toNat ∧ c.toNat ≤ 70 then c.toNat - 55 else 16
theorem dv_ch : ∀ n : Nat, n < 16 → dv (ch n) = n := by decide +kernel
/-- The k last digits of v in base B, the number of a text in base B, and whether all of a text are digits. -/
def enc (B : Nat) : Nat → Nat → List UInt8
  | 0, _ => []
  | k + 1, v => enc B k (v / B) ++ [ch (v % B)]
def dec (B : Nat) (l : List UInt8) : Nat := l.foldl (fun n c => B * n + dv c) 0
def ok (B : Nat) (l : List UInt8) : Bool := l.all (fun c => decide (dv c < B))

theorem enc_length (B : Nat) : ∀ k v, (enc B k v).length = k
  | 0, _ => rfl
  | k + 1, v => by rw [enc, List.length_append, enc_length B k]; rfl
theorem dec_snoc (B : Nat) (l : List UInt8) (c : UInt8) : dec B (l ++ [c]) = B * dec B l + dv c := by unfold dec; rw [List.foldl_append]; rfl
theorem ok_snoc (B : Nat) (l : List UInt8) (c : UInt8) : ok B (l ++ [c]) = (ok B l && decide (dv c < B)) := by unfold ok; simp
theorem ok_app (B : Nat) (l m : List UInt8) : ok B (l ++ m) = (ok B l && ok B m) := by unfold ok; rw [List.all_append]
theorem dec_enc (B : Nat) (h0 : 0 < B) (h : B ≤ 16) : ∀ k v, v < B ^ k → dec B (enc B k v) = v
  | 0, v, hv => by simp at hv; subst hv; rfl
  | k + 1, v, hv => by
    have hm := Nat.mod_lt v h0
    rw [enc, dec_snoc, dec_enc B h0 h k (v / B) ((Nat.div_lt_iff_lt_mul h0).2 (by rw [← Nat.pow_succ]; exact hv)), dv_ch _ (by omega)]
    exact Nat.div_add_mod v B
theorem ok_enc (B : Nat) (h0 : 0 < B) (h : B ≤ 16) : ∀ k v, ok B (enc B k v) = true
  | 0, _ => rfl
  | k + 1, v => by
    have hm := Nat.mod_lt v h0
    rw [enc, ok_snoc, ok_enc B h0 h k, dv_ch _ (by omega)]
    simpa using hm
theorem enc_split (B i : Nat) : ∀ k v, enc B (i + k) v = enc B i (v / B ^ k) ++ enc B k v
  | 0, v => by simp [enc]
  | k + 1, v => by
    show enc B (i + k + 1) v = _
    rw [enc, enc_split B i k (v / B), Nat.div_div_eq_div_mul, ← Nat.pow_succ', List.append_assoc]
    rfl
theorem enc_over (B : Nat) (h0 : 0 < B) : ∀ k v u, enc B k (v + B ^ k * u) = enc B k v
  | 0, _, _ => rfl
  | k + 1, v, u => by
    rw [enc, enc, Nat.pow_succ', Nat.mul_assoc, Nat.add_mul_div_left _ _ h0, enc_over B h0 k, Nat.add_mul_mod_self_left]
theorem enc_at (B : Nat) : ∀ n v i, i < n → (enc B n v)[i]? = some (ch (v / B ^ (n - 1 - i) % B))
  | 0, _, _, h => absurd h (Nat.not_lt_zero _)
  | n + 1, v, i, h => by
    rw [enc]
    by_cases hi : i < n
    · rw [List.getElem?_append_left (by rw [enc_length]; exact hi), enc_at B n (v / B) i hi, Nat.div_div_eq_div_mul, ← Nat.pow_succ',
        show (n - 1 - i).succ = n + 1 - 1 - i by omega]
    · obtain rfl : i = n := by omega
      rw [List.getElem?_append_right (by rw [enc_length]; exact Nat.le_refl _), enc_length]
      simp
theorem enc_zero (B : Nat) : ∀ k, enc B k 0 = List.replicate k 48
  | 0 => rfl
  | k + 1 => by rw [enc, Nat.zero_div, Nat.zero_mod, enc_zero B k, List.replicate_succ']; rfl
/-- The other bit; where two bits differ. -/
def fl (c : UInt8) : UInt8 := if c = 49 then 48 else 49
def df (a b : UInt8) : UInt8 := if a = b then 48 else 49
theorem xor_mod_two (a b : Nat) : (a ^^^ b) % 2 = (a + b) % 2 := by
  have h := Nat.xor_mod_two_pow (a := a) (b := b) (n := 1)
  rw [Nat.pow_one] at h
  rw [h, Nat.add_mod]
  have ha := Nat.mod_lt a (show 0 < 2 by omega)
  have hb := Nat.mod_lt b (show 0 < 2 by omega)
  generalize a % 2 = x at *
  generalize b % 2 = y at *
  match x, ha, y, hb with
  | 0, _, 0, _ => rfl
  | 0, _, 1, _ => rfl
  | 1, _, 0, _ => rfl
  | 1, _, 1, _ => rfl
theorem enc_xor : ∀ k a b, enc 2 k (a ^^^ b) = List.zipWith df (enc 2 k a) (enc 2 k b)
  | 0, _, _ => rfl
  | k + 1, a, b => by
    rw [enc, enc, enc, List.zipWith_append (by rw [enc_length, enc_length]), Nat.xor_div_two, enc_xor k, xor_mod_two]
    congr 1
    have ha := Nat.mod_lt a (show 0 < 2 by omega)
    have hb := Nat.mod_lt b (show 0 < 2 by omega)
    rw [Nat.add_mod]
    generalize a % 2 = x at *
    generalize b % 2 = y at *
    match x, ha, y, hb with
    | 0, _, 0, _ => rfl
    | 0, _, 1, _ => rfl
    | 1, _, 0, _ => rfl
    | 1, _, 1, _ => rfl
theorem enc_flip : ∀ n v j, j < n → enc 2 n (v ^^^ 2 ^ j) = (enc 2 n v).set (n - 1 - j) (ch ((v / 2 ^ j + 1) % 2))
  | 0, _, _, h => absurd h (Nat.not_lt_zero _)
  | n + 1, v, 0, _ => by
    rw [enc, enc, List.set_append, if_neg (by rw [enc_length]; omega), Nat.xor_div_two, xor_mod_two, enc_length]
    simp
  | n + 1, v, j + 1, h => by
    rw [enc, enc, List.set_append, if_pos (by rw [enc_length]; omega), Nat.xor_div_two, xor_mod_two]
    rw [show 2 ^ (j + 1) / 2 = 2 ^ j by rw [Nat.pow_succ]; omega, enc_flip n (v / 2) j (by omega), Nat.div_div_eq_div_mul, ← Nat.pow_succ',
      show n + 1 - 1 - (j + 1) = n - 1 - j by omega, show (v + 2 ^ (j + 1)) % 2 = v % 2 by rw [Nat.pow_succ]; omega]
/-- How many digits 1; how many bits 1 of the k last. -/
def ones (l : List UInt8) : Nat := l.countP (fun c => c == 49)
def pc : Nat → Nat → Nat
  | 0, _ => 0
  | k + 1, v => pc k (v / 2) + v % 2
theorem ones_snoc (l : List UInt8) (c : UInt8) : ones (l ++ [c]) = ones l + (if c = 49 then 1 else 0) := by
  unfold ones
  rw [List.countP_append, List.countP_singleton]
  simp
theorem ones_enc : ∀ k v, ones (enc 2 k v) = pc k v
  | 0, _ => rfl
  | k + 1, v => by
    rw [enc, ones_snoc, ones_enc k, pc]
    have h : v % 2 = 0 ∨ v % 2 = 1 := by omega
    rcases h with h | h
    · rw [h]; rfl
    · rw [h]; rfl
theorem pc_small (i : Nat) : ∀ k v, v < 2 ^ k → pc (k + i) v = pc k v
  | 0, v, h => by
    simp at h; subst h
    rw [Nat.zero_add]
    have : ∀ i, pc i 0 = 0 := by
      intro i
      induction i with
      | zero => rfl
      | succ i ih => rw [pc, Nat.zero_div, ih]
    rw [this]; rfl
  | k + 1, v, h => by
    rw [show k + 1 + i = (k + i) + 1 by omega, pc, pc, pc_small i k (v / 2) (by rw [Nat.pow_succ] at h; omega)]
theorem pc_add (k : Nat) : ∀ i v, pc (k + i) v = pc k (v / 2 ^ i) + pc i v
  | 0, v => by simp [pc]
  | i + 1, v => by
    show pc (k + i + 1) v = _
    rw [pc, pc, pc_add k i, Nat.div_div_eq_div_mul, ← Nat.pow_succ', Nat.add_assoc]
theorem pc_mod : ∀ i v, pc i (v % 2 ^ i) = pc i v
  | 0, _ => rfl
  | i + 1, v => by
    rw [pc, pc, Nat.pow_succ', Nat.mod_mul_right_div_self, pc_mod i, Nat.mod_mul_right_mod]

theorem bitLenAux_iff : ∀ f n w, n < 2 ^ f → (Lib.bitLenAux f n ≤ w ↔ n < 2 ^ w)
  | 0, n, w, h => by
    simp at h; subst h
    simp [Lib.bitLenAux, Nat.pow_pos]
  | f + 1, n, w, h => by
    rw [Lib.bitLenAux]
    by_cases h0 : n = 0
    · subst h0; simp [Nat.pow_pos]
    · rw [if_neg h0]
      cases w with
      | zero => constructor <;> intro h1 <;> simp at h1 <;> omega
      | succ w =>
        have := bitLenAux_iff f (n / 2) w (by rw [Nat.pow_succ] at h; omega)
        rw [Nat.pow_succ]
        constructor
        · intro h1; have := this.1 (by omega); omega
        · intro h1; have := this.2 (by omega); omega
end Go.Proofs.YtfigjfckelichaaGreatDoor.bin

/- Height codes: plain mathematics. Gray codes of 11 bits, the codes of fine and coarse heights, the nearest height, changed bits. -/
namespace Go.Proofs.YtfigjfckelichaaGreatDoor.hgt
open Go.RowKit Go.Proofs.YtfigjfckelichaaGreatDoor.bin

/-- The Gray code of a number, and the loop that undoes it. -/
def gray (n : Nat) : Nat := n ^^^ (n / 2)
def unA : Nat → Nat → Nat → Nat
  | 0, _, a => a
  | f + 1, g, a => unA f (g / 2) (a ^^^ g)
def un (g : Nat) : Nat := unA 11 g 0
theorem unA_zero : ∀ f a, unA f 0 a = a
  | 0, _ => rfl
  | f + 1, a => by rw [unA, Nat.zero_div, Nat.xor_zero, unA_zero f]
theorem gray_fin : ∀ n : Fin 2048, gray n.val < 2048 ∧ un (gray n.val) = n.val ∧ un n.val < 2048 ∧ gray (un n.val) = n.val := by decide +kernel
theorem gray_lt {n : Nat} (h : n < 2048) : gray n < 2048 := (gray_fin ⟨n, h⟩).1
theorem un_gray {n : Nat} (h : n < 2048) : un (gray n) = n := (gray_fin ⟨n, h⟩).2.1
/-- A kind of heights: the lowest one, the highest one, the step. -/
def lo (f : Bool) : Int := if f then -1000 else -1200
def hi (f : Bool) : Int := if f then 50175 else 126700
def st (f : Bool) : Int := if f then 25 else 100
/-- EncodeHeight: is the height one of the kind? its code. -/
def enB (h : Int) (f : Bool) : Bool := decide (lo f ≤ h ∧ h ≤ hi f ∧ (h - lo f) % st f = 0)
def enV (h : Int) (f : Bool) : Nat := if enB h f then (if f then 2048 + ((h + 1000) / 25).toNat else gray ((h + 1200) / 100).toNat) else 0
/-- DecodeHeight. -/
def dcF (c : Int) : Bool := decide (2048 ≤ c ∧ c ≤ 4095)
def dcC (c : Int) : Bool := decide (0 ≤ c ∧ c ≤ 2047) && decide (un c.toNat ≤ 1279)
def dcB (c : Int) : Bool := dcF c || dcC c
def dcH (c : Int) : Int := if dcF c then 25 * (c - 2048) - 1000 else if dcC c then 100 * (un c.toNat : Int) - 1200 else 0
/-- NearestHeight. -/
def hB (h : Int) : Bool := decide (-2000 ≤ h ∧ h ≤ 130000)
def clamp (h : Int) (f : Bool) : Int := if h < lo f then lo f else if hi f < h then hi f else h
def nrV (h : Int) (f : Bool) : Int := if hB h then lo f + st f * ((clamp h f - lo f + (st f - 1) / 2) / st f) else 0
/-- A height that has a code is the one of its code, and the nearest one of its kind. -/
theorem back (h : Int) (f : Bool) (hb : enB h f = true) : dcB (enV h f) = true ∧ dcH (enV h f) = h ∧ dcF (enV h f) = f ∧ hB h = true ∧ nrV h f = h := by
  have hb2 := hb
  unfold enB at hb2
  have e : hB h = true := by
    cases f
    · simp [lo, hi, st] at hb2; exact decide_eq_true ⟨by omega, by omega⟩
    · simp [lo, hi, st] at hb2; exact decide_eq_true ⟨by omega, by omega⟩
  unfold enV nrV clamp
  rw [hb, e]
  cases f
  · simp [lo, hi, st] at hb2 ⊢
    obtain ⟨h1, h2, h3⟩ := hb2
    obtain ⟨k, rfl⟩ : ∃ k : Nat, h = 100 * (k : Int) - 1200 := ⟨((h + 1200) / 100).toNat, by omega⟩
    have e1 : ((100 * (k : Int) - 1200 + 1200) / 100).toNat = k := by omega
    rw [e1]
    have hk : k < 1280 := by omega
    have g1 := gray_lt (n := k) (by omega)
    have g2 := un_gray (n := k) (by omega)
    generalize gray k = g at *
    have f0 : dcF (g : Int) = false := decide_eq_false (by omega)
    have f1 : dcC (g : Int) = true := by
      unfold dcC
      rw [Int.toNat_natCast, g2, decide_eq_true (show (0 : Int) ≤ g ∧ (g : Int) ≤ 2047 by omega), decide_eq_true (show k ≤ 1279 by omega)]
      rfl
    refine ⟨by unfold dcB; rw [f0, f1]; rfl, ?_, f0, ?_⟩
    · unfold dcH
      rw [f0, f1, Int.toNat_natCast, g2]
      rfl
    · split <;> omega
  · simp [lo, hi, st] at hb2 ⊢
    obtain ⟨h1, h2, h3⟩ := hb2
    obtain ⟨k, rfl⟩ : ∃ k : Nat, h = 25 * (k : Int) - 1000 := ⟨((h + 1000) / 25).toNat, by omega⟩
    have e1 : ((25 * (k : Int) - 1000 + 1000) / 25).toNat = k := by omega
    rw [show (25 * (k : Int) - 1000 + 1000) / 25 = (k : Int) by omega]
    have f0 : dcF (2048 + max (k : Int) 0) = true := decide_eq_true (by omega)
    refine ⟨by unfold dcB; rw [f0]; rfl, ?_, f0, ?_⟩
    · unfold dcH
      rw [f0]
      show 25 * (2048 + max (k : Int) 0 - 2048) - 1000 = _
      omega
    · split <;> omega

end Go.Proofs.YtfigjfckelichaaGreatDoor.hgt

/- Heights' texts: plain mathematics. -/
namespace Go.Proofs.YtfigjfckelichaaGreatDoor.hgtt
open Go.RowKit Go.Proofs.YtfigjfckelichaaGreatDoor.num Go.Proofs.YtfigjfckelichaaGreatDoor.read Go.Proofs.YtfigjfckelichaaGreatDoor.hgt

def fl : ByteArray := ⟨#[70, 76]⟩
/-- What a text may stand for. -/
def pre (s : ByteArray) : Bool := Lib.hasPrefix s.data.toList fl.data.toList
theorem rdN_txt {n : Int} (h0 : -999999 ≤ n) (h1 : n ≤ 999999) : rdB (txt n) = true ∧ rdN (txt n) = n := by
  obtain ⟨h3, h4⟩ := rd_of_txt (s := txt n) (n := n) h0 h1 (by simp)
  exact ⟨h3, by unfold rdN; rw [h3]; exact h4⟩
end Go.Proofs.YtfigjfckelichaaGreatDoor.hgtt

/- spec.l1Split at every string of at most 1048576 bytes: the pieces between the bytes b, in new memory. -/
namespace Go.Proofs.YtfigjfckelichaaGreatDoor.split_
open Go.RowKit

/-- The pieces of a list between the bytes b; 'cur' is what has come of the current one. -/
def pieces (b : UInt8) : List UInt8 → List UInt8 → List (List UInt8)
  | [], cur => [cur]
  | c :: l, cur => if c = b then cur :: pieces b l [] else pieces b l (cur ++ [c])

theorem pieces_length (b : UInt8) : ∀ l cur, (pieces b l cur).length ≤ l.length + 1
  | [], cur => by simp [pieces]
  | c :: l, cur => by
    unfold pieces
    split
    · have := pieces_length b l []; simp; omega
    · have := pieces_length b l (cur ++ [c]); simp; omega

theorem drop_cons (s : ByteArray) (k : Nat) (h : k < s.size) : s.data.toList.drop k = s[k] :: s.data.toList.drop (k + 1) := by
  rw [List.drop_eq_getElem_cons (by simpa using h)]; rfl

theorem take_drop_snoc (s : ByteArray) (f k : Nat) (hf : f ≤ k) (h : k < s.size) : (s.data.toList.take (k + 1)).drop f = (s.data.toList.take k).drop f ++ [s[k]] := by
  have e : s.data.toList.take (k + 1) = s.data.toList.take k ++ [s[k]] := by
    rw [List.take_succ_eq_append_getElem (by simpa using h)]; rfl
  rw [e, List.drop_append_of_le_length (by simp; omega)]

/-- Behind k bytes, the current piece beginning at f: what has come, and what will. -/
def Inv (b : UInt8) (s : ByteArray) (k f : Nat) (xs : List ByteArray) : Prop :=
  xs.map (·.data.toList) ++ pieces b (s.data.toList.drop k) ((s.data.toList.take k).drop f) = pieces b s.data.toList []

theorem inv_start (b : UInt8) (s : ByteArray) : Inv b s 0 0 [] := by simp [Inv]
theorem inv_pass {b : UInt8} {s : ByteArray} {k f : Nat} {xs : List ByteArray} (h : Inv b s k f xs) (hf : f ≤ k) (hk : k < s.size) (hb : ((s[k].toNat : Int) == (b.toNat : Int)) = false) : Inv b s (k + 1) f xs := by
  unfold Inv at *
  rw [← h, drop_cons s k hk, take_drop_snoc s f k hf hk]
  conv => rhs; rw [pieces]
  rw [if_neg]
  intro e; rw [e] at hb; simp at hb
theorem inv_cut {b : UInt8} {s : ByteArray} {k f : Nat} {xs : List ByteArray} (h : Inv b s k f xs) (hk : k < s.size) (hb : ((s[k].toNat : Int) == (b.toNat : Int)) = true) : Inv b s (k + 1) (k + 1) (xs ++ [s.extract f k]) := by
  unfold Inv at *
  have e : s[k] = b := by
    simp only [beq_iff_eq, Int.ofNat_inj] at hb
    exact UInt8.toNat_inj.1 hb
  rw [← h, drop_cons s k hk]
  conv => rhs; rw [pieces, if_pos e]
  have h1 : (s.data.toList.take (k + 1)).drop (k + 1) = [] := List.drop_eq_nil_of_le (by simp; omega)
  rw [h1]
  rw [List.map_append, List.map_cons, List.map_nil, Lib.extract_data, ← List.drop_take]
  simp
theorem inv_end {b : UInt8} {s : ByteArray} {k f : Nat} {xs : List ByteArray} (h : Inv b s k f xs) (hk : s.size ≤ k) : (xs ++ [s.extract f s.size]).map (·.data.toList) = pieces b s.data.toList [] := by
  unfold Inv at h
  rw [← h]
  have h1 : s.data.toList.drop k = [] := List.drop_eq_nil_of_le (by simpa using hk)
  have h2 : s.data.toList.take k = s.data.toList := List.take_of_length_le (by simpa using hk)
  rw [h1, h2, List.map_append, List.map_cons, List.map_nil, Lib.extract_to_end]
  rfl

theorem infoS : (Tryz.prog.info? 9).map (fun i => (i.zero, i.size, i.bytes)) = some (some (.string ⟨#[]⟩), 1, 16) := by kernel_rfl

end Go.Proofs.YtfigjfckelichaaGreatDoor.split_

/- The texts of plots, in plain mathematics (no program in it). -/
namespace Go.Proofs.YtfigjfckelichaaGreatDoor.ptx
open Go.RowKit Go.Proofs.YtfigjfckelichaaGreatDoor.num Go.Proofs.YtfigjfckelichaaGreatDoor.read Go.Proofs.YtfigjfckelichaaGreatDoor.split_ Go.Proofs.YtfigjfckelichaaGreatDoor.pos Go.Proofs.YtfigjfckelichaaGreatDoor.plt Go.Proofs.YtfigjfckelichaaGreatDoor.pltm

/-- A text with the decimal texts of the first numbers of a list behind it. -/
def dgT (t : ByteArray) (xs : List Int) : Nat → ByteArray
  | 0 => t
  | k + 1 => dgT t xs k ++ txt (xs.getD k 0)
def hd (s a x y : Int) : ByteArray := txt s ++ ⟨#[58, 32]⟩ ++ txt a ++ ⟨#[32, 97, 116, 32]⟩ ++ txt x ++ ⟨#[47]⟩ ++ txt y ++ ⟨#[32, 98, 121, 32]⟩
def ptxT (s a x y : Int) (xs : List Int) (n : Nat) : ByteArray := dgT (hd s a x y) xs n
/-- What PlotText returns. -/
def ptV (s a x y : Int) (xs : List Int) (n : Nat) : ByteArray := if plB s a x y xs n then ptxT s a x y xs n else ⟨#[]⟩
theorem pt_yes {s a x y : Int} {xs : List Int} {n : Nat} (h : plB s a x y xs n = true) : Ending.returned (.tuple #[.string (ptxT s a x y xs n), .bool true]) = .returned (.tuple #[.string (ptV s a x y xs n), .bool (plB s a x y xs n)]) := by unfold ptV; rw [h]; rfl

/-- Sizes. -/
theorem txt_dec {n : Int} (h0 : 0 ≤ n) : (txt n).data.toList = Lib.decDigits n.toNat := by
  show Lib.itoa n = _
  unfold Lib.itoa
  rw [if_neg (by omega)]
theorem len_list (s : ByteArray) : s.data.toList.length = s.size := by simp [← ByteArray.size_data]
theorem txt_len {n : Int} (h0 : 0 ≤ n) (h1 : n ≤ 999999) : 1 ≤ (txt n).data.toList.length ∧ (txt n).data.toList.length ≤ 6 := by
  rw [txt_dec h0]
  exact dec_len 6 _ (by omega) (by omega)
theorem txt_dig {n : Int} (h0 : 0 ≤ n) : allDig (txt n).data.toList := by
  rw [txt_dec h0]
  exact (dec_facts _).2
theorem dig_no {l : List UInt8} (h : allDig l) {c : UInt8} (hc : c.toNat < 48 ∨ 57 < c.toNat) : c ∉ l := fun hm => by
  have := h c hm
  omega
theorem hd_list (s a x y : Int) : (hd s a x y).data.toList = (txt s).data.toList ++ ([58, 32] ++ ((txt a).data.toList ++ ([32, 97, 116, 32] ++ ((txt x).data.toList ++ ([47] ++ ((txt y).data.toList ++ [32, 98, 121, 32])))))) := by
  unfold hd
  rw [aid.str_app, aid.str_app, aid.str_app, aid.str_app, aid.str_app, aid.str_app, aid.str_app]
  simp
/-- A digit's text. -/
def dgc (z : Int) : UInt8 := UInt8.ofNat (48 + z.toNat)
theorem fin_dig : ∀ k : Fin 10, (txt (k.val : Int)).data.toList = [UInt8.ofNat (48 + k.val)] := by decide +kernel
theorem one_dig {z : Int} (h0 : 0 ≤ z) (h1 : z ≤ 9) : (txt z).data.toList = [dgc z] := by
  obtain ⟨k, rfl⟩ := Int.eq_ofNat_of_zero_le h0
  exact fin_dig ⟨k, by omega⟩
theorem dgc_nat {z : Int} (h0 : 0 ≤ z) (h1 : z ≤ 9) : (dgc z).toNat = 48 + z.toNat := byte_digit z.toNat (by omega)
theorem dg_list {t : ByteArray} {xs : List Int} : ∀ n, n ≤ xs.length → (∀ k, k < n → 1 ≤ xs.getD k 0 ∧ xs.getD k 0 ≤ 9) → (dgT t xs n).data.toList = t.data.toList ++ (xs.take n).map dgc
  | 0, _, _ => by simp [dgT]
  | n + 1, hn, h => by
    have hx := h n (by omega)
    have hg : xs[n]? = some (xs.getD n 0) := by rw [List.getD_eq_getElem?_getD, List.getElem?_eq_getElem (by omega)]; rfl
    rw [dgT, aid.str_app, dg_list n (by omega) (fun k hk => h k (by omega)), one_dig (by omega) hx.2, List.take_add_one, hg]
    simp
theorem ptx_list {s a x y : Int} {xs : List Int} {n : Nat} (hl : xs.length = n) (h : plB s a x y xs n = true) :
    (ptxT s a x y xs n).data.toList = (txt s).data.toList ++ ([58, 32] ++ ((txt a).data.toList ++ ([32, 97, 116, 32] ++ ((txt x).data.toList ++ ([47] ++ ((txt y).data.toList ++ ([32, 98, 121, 32] ++ xs.map dgc))))))) := by
  obtain ⟨_, _, _, _, hr⟩ := plB_yes h
  unfold ptxT
  rw [dg_list n (by omega) (fun k hk => (riT_all hr k hk).1), hd_list, ← hl, List.take_length]
  simp
/-- Cutting at a word whose first byte does not occur before it. -/
theorem index_at {c : UInt8} {sep m : List UInt8} : ∀ {l : List UInt8}, c ∉ l → Lib.index (l ++ ((c :: sep) ++ m)) (c :: sep) = l.length
  | [], _ => by
    show Lib.index ((c :: sep) ++ m) (c :: sep) = 0
    rw [List.cons_append, Lib.index, if_pos]
    rw [← List.cons_append, List.isPrefixOf_iff_prefix]
    exact List.prefix_append _ _
  | b :: l, h => by
    have hb : b ≠ c := fun e => h (by simp [e])
    have ih := index_at (sep := sep) (m := m) (l := l) (fun e => h (List.mem_cons_of_mem _ e))
    rw [List.cons_append, Lib.index, if_neg, ih, if_neg]
    · simp
    · simp
    · simp [List.isPrefixOf, hb.symm]
theorem cut_at {c : UInt8} {sep l m : List UInt8} (h : c ∉ l) : Lib.cut (l ++ ((c :: sep) ++ m)) (c :: sep) = (l, m, true) := by
  unfold Lib.cut
  rw [index_at h, if_pos (by omega)]
  have e : ((l.length : Int)).toNat = l.length := by omega
  rw [e, List.take_left, ← List.append_assoc, List.drop_left' (by simp)]

/-- What impl.readPlot reads. -/
def k1 (t : ByteArray) : List UInt8 × List UInt8 × Bool := Lib.cut t.data.toList [58, 32]
def k2 (t : ByteArray) : List UInt8 × List UInt8 × Bool := Lib.cut (k1 t).2.1 [32, 97, 116, 32]
def k3 (t : ByteArray) : List UInt8 × List UInt8 × Bool := Lib.cut (k2 t).2.1 [47]
def k4 (t : ByteArray) : List UInt8 × List UInt8 × Bool := Lib.cut (k3 t).2.1 [32, 98, 121, 32]
def st (l : List UInt8) : List Int := l.map fun c => (c.toNat : Int) - 48
def rS (t : ByteArray) : Int := rdN ⟨(k1 t).1.toArray⟩
def rA (t : ByteArray) : Int := rdN ⟨(k2 t).1.toArray⟩
def rX (t : ByteArray) : Int := rdN ⟨(k3 t).1.toArray⟩
def rY (t : ByteArray) : Int := rdN ⟨(k4 t).1.toArray⟩
def rD (l : List UInt8) : List Int := if l.length ≤ 9 then st l else []
def rL (t : ByteArray) : List Int := rD (k4 t).2.1
def ppB (t : ByteArray) : Bool := plB (rS t) (rA t) (rX t) (rY t) (rL t) (rL t).length && ((ptxT (rS t) (rA t) (rX t) (rY t) (rL t) (rL t).length).toList == t.toList)
theorem st_dgc {xs : List Int} (h : ∀ z ∈ xs, 1 ≤ z ∧ z ≤ 9) : st (xs.map dgc) = xs := by
  unfold st
  rw [List.map_map]
  conv => rhs; rw [← List.map_id xs]
  refine List.map_congr_left fun z hz => ?_
  have := h z hz
  show ((dgc z).toNat : Int) - 48 = z
  rw [dgc_nat (by omega) this.2]
  omega
theorem ri_mem {xs : List Int} {n : Nat} (hl : xs.length = n) (h : riT xs n = true) : ∀ z ∈ xs, 1 ≤ z ∧ z ≤ 9 := by
  intro z hz
  obtain ⟨k, hk⟩ := List.mem_iff_getElem?.1 hz
  have hlt : k < n := by have := (List.getElem?_eq_some_iff.1 hk).1; omega
  have := (riT_all h k hlt).1
  rw [List.getD_eq_getElem?_getD, hk] at this
  exact this
/-- A plot's text is read as the plot. -/
theorem rd_text {s a x y : Int} {xs : List Int} {n : Nat} (hl : xs.length = n) (h : plB s a x y xs n = true) :
    rS (ptxT s a x y xs n) = s ∧ rA (ptxT s a x y xs n) = a ∧ rX (ptxT s a x y xs n) = x ∧ rY (ptxT s a x y xs n) = y ∧ rL (ptxT s a x y xs n) = xs := by
  obtain ⟨hs, ha, hp, hn, hr⟩ := plB_yes h
  have e := ptx_list hl h
  have w1 := dig_no (txt_dig (n := s) hs.1) (c := 58) (Or.inr (by decide))
  have w2 := dig_no (txt_dig (n := a) (by omega)) (c := 32) (Or.inl (by decide))
  have w3 := dig_no (txt_dig (n := x) (by omega)) (c := 47) (Or.inl (by decide))
  have w4 := dig_no (txt_dig (n := y) (by omega)) (c := 32) (Or.inl (by decide))
  have e1 : k1 (ptxT s a x y xs n) = ((txt s).data.toList, ((txt a).data.toList ++ ([32, 97, 116, 32] ++ ((txt x).data.toList ++ ([47] ++ ((txt y).data.toList ++ ([32, 98, 121, 32] ++ xs.map dgc)))))), true) := by
    unfold k1; rw [e]; exact cut_at w1
  have e2 : k2 (ptxT s a x y xs n) = ((txt a).data.toList, ((txt x).data.toList ++ ([47] ++ ((txt y).data.toList ++ ([32, 98, 121, 32] ++ xs.map dgc)))), true) := by
    unfold k2; rw [e1]; exact cut_at w2
  have e3 : k3 (ptxT s a x y xs n) = ((txt x).data.toList, ((txt y).data.toList ++ ([32, 98, 121, 32] ++ xs.map dgc)), true) := by
    unfold k3; rw [e2]; exact cut_at w3
  have e4 : k4 (ptxT s a x y xs n) = ((txt y).data.toList, xs.map dgc, true) := by
    unfold k4; rw [e3]; exact cut_at w4
  refine ⟨?_, ?_, ?_, ?_, ?_⟩
  · unfold rS; rw [e1]; exact (hgtt.rdN_txt (by omega) (by omega)).2
  · unfold rA; rw [e2]; exact (hgtt.rdN_txt (by omega) (by omega)).2
  · unfold rX; rw [e3]; exact (hgtt.rdN_txt (by omega) (by omega)).2
  · unfold rY; rw [e4]; exact (hgtt.rdN_txt (by omega) (by omega)).2
  · unfold rL rD; rw [e4, if_pos (by simp; omega)]; exact st_dgc (ri_mem hl hr)
theorem str_of {t u : ByteArray} (h : (t.toList == u.toList) = true) : t = u := aid.str_ext (by rw [beq_iff_eq, Lib.toList_data, Lib.toList_data] at h; exact h)
/-- What ParsePlot returns. -/
def pS (t : ByteArray) : Int := if ppB t then rS t else 0
def pA (t : ByteArray) : Int := if ppB t then rA t else 0
def pX (t : ByteArray) : Int := if ppB t then rX t else 0
def pY (t : ByteArray) : Int := if ppB t then rY t else 0
def pL (t : ByteArray) : List Int := if ppB t then rL t else []
theorem p_no {t : ByteArray} (h : ppB t = false) : pS t = 0 ∧ pA t = 0 ∧ pX t = 0 ∧ pY t = 0 ∧ pL t = [] := by unfold pS pA pX pY pL; rw [h]; exact ⟨rfl, rfl, rfl, rfl, rfl⟩
theorem p_yes {t : ByteArray} (h : ppB t = true) : pS t = rS t ∧ pA t = rA t ∧ pX t = rX t ∧ pY t = rY t ∧ pL t = rL t := by unfold pS pA pX pY pL; rw [h]; exact ⟨rfl, rfl, rfl, rfl, rfl⟩
/-- The words of a plot's text. -/
theorem pieces_last (b : UInt8) : ∀ (l cur : List UInt8), b ∉ l → pieces b l cur = [cur ++ l]
  | [], cur, _ => by simp [pieces]
  | c :: l, cur, h => by
    rw [pieces, if_neg (fun e => h (by simp [e])), pieces_last b l (cur ++ [c]) (fun e => h (List.mem_cons_of_mem _ e))]
    simp
theorem pieces_cut (b : UInt8) (m : List UInt8) : ∀ (l cur : List UInt8), b ∉ l → pieces b (l ++ b :: m) cur = (cur ++ l) :: pieces b m []
  | [], cur, _ => by simp [pieces]
  | c :: l, cur, h => by
    rw [List.cons_append, pieces, if_neg (fun e => h (by simp [e])), pieces_cut b m l (cur ++ [c]) (fun e => h (List.mem_cons_of_mem _ e))]
    simp
theorem dgc_no {xs : List Int} (h : ∀ z ∈ xs, 1 ≤ z ∧ z ≤ 9) : (32 : UInt8) ∉ xs.map dgc := fun hm => by
  obtain ⟨z, hz, e⟩ := List.mem_map.1 hm
  have h1 := h z hz
  have h2 := dgc_nat (z := z) (by omega) h1.2
  rw [e] at h2
  simp at h2
  omega
theorem words {s a x y : Int} {xs : List Int} {n : Nat} (hl : xs.length = n) (h : plB s a x y xs n = true) :
    pieces 32 (ptxT s a x y xs n).data.toList [] = [(txt s ++ ⟨#[58]⟩ : ByteArray).data.toList, (txt a).data.toList, [97, 116], (txt x ++ ⟨#[47]⟩ ++ txt y : ByteArray).data.toList, [98, 121], xs.map dgc] := by
  obtain ⟨hs, ha, hp, hn, hr⟩ := plB_yes h
  have e : (ptxT s a x y xs n).data.toList = (txt s ++ ⟨#[58]⟩ : ByteArray).data.toList ++ 32 :: ((txt a).data.toList ++ 32 :: ([97, 116] ++ 32 :: ((txt x ++ ⟨#[47]⟩ ++ txt y : ByteArray).data.toList ++ 32 :: ([98, 121] ++ 32 :: xs.map dgc)))) := by
    rw [ptx_list hl h, aid.str_app, aid.str_app, aid.str_app]
    simp
  have w0 : (32 : UInt8) ∉ (txt s ++ ⟨#[58]⟩ : ByteArray).data.toList := by
    rw [aid.str_app, List.mem_append]
    rintro (h1 | h1)
    · exact dig_no (txt_dig hs.1) (Or.inl (by decide)) h1
    · revert h1; decide
  have w1 := dig_no (txt_dig (n := a) (by omega)) (c := 32) (Or.inl (by decide))
  have w3 : (32 : UInt8) ∉ (txt x ++ ⟨#[47]⟩ ++ txt y : ByteArray).data.toList := by
    rw [aid.str_app, aid.str_app, List.mem_append, List.mem_append]
    rintro ((h1 | h1) | h1)
    · exact dig_no (txt_dig (n := x) (by omega)) (Or.inl (by decide)) h1
    · revert h1; decide
    · exact dig_no (txt_dig (n := y) (by omega)) (Or.inl (by decide)) h1
  rw [e, pieces_cut 32 _ _ _ w0, pieces_cut 32 _ _ _ w1, pieces_cut 32 _ _ _ (by decide), pieces_cut 32 _ _ _ w3, pieces_cut 32 _ _ _ (by decide), pieces_last 32 _ _ (dgc_no (ri_mem hl hr))]
  rfl
theorem places {x y : Int} (hx : 0 ≤ x) (hy : 0 ≤ y) : pieces 47 (txt x ++ ⟨#[47]⟩ ++ txt y : ByteArray).data.toList [] = [(txt x).data.toList, (txt y).data.toList] := by
  have e : (txt x ++ ⟨#[47]⟩ ++ txt y : ByteArray).data.toList = (txt x).data.toList ++ 47 :: (txt y).data.toList := by
    rw [aid.str_app, aid.str_app]; simp
  rw [e, pieces_cut 47 _ _ _ (dig_no (txt_dig hx) (Or.inl (by decide))), pieces_last 47 _ _ (dig_no (txt_dig hy) (Or.inl (by decide)))]
  rfl
end Go.Proofs.YtfigjfckelichaaGreatDoor.ptx

namespace Go.Proofs.YtfigjfckelichaaGreatDoor.trkr
open Go.RowKit Go.Proofs.YtfigjfckelichaaGreatDoor.num Go.Proofs.YtfigjfckelichaaGreatDoor.read Go.Proofs.YtfigjfckelichaaGreatDoor.split_ Go.Proofs.YtfigjfckelichaaGreatDoor.pos Go.Proofs.YtfigjfckelichaaGreatDoor.trk Go.Proofs.YtfigjfckelichaaGreatDoor.trkm Go.Proofs.YtfigjfckelichaaGreatDoor.trkp Go.Proofs.YtfigjfckelichaaGreatDoor.ptx

theorem hd_list' (i : Int) (k : Nat) (x y h : Int) : (hdT i k x y h).data.toList = (txt i).data.toList ++ 32 :: ((wd k).data.toList ++ 32 :: ([97, 116] ++ 32 :: ((txt x ++ ⟨#[44]⟩ ++ txt y : ByteArray).data.toList ++ 32 :: ([104, 105, 116, 115] ++ 32 :: (txt h).data.toList)))) := by
  unfold hdT
  simp only [aid.str_app]
  simp
theorem tl_zero {i s x y h l : Int} (hz : l = 0) : tlT i s x y h l = hdT i s.toNat x y h := by unfold tlT; rw [if_pos hz]
theorem tl_lost {i s x y h l : Int} (hz : ¬ l = 0) : tlT i s x y h l = hdT i s.toNat x y h ++ ⟨#[32, 108, 111, 115, 116, 32]⟩ ++ txt l := by unfold tlT; rw [if_neg hz]
theorem wd_no : ∀ k : Nat, (32 : UInt8) ∉ (wd k).data.toList ∧ (108 : UInt8) ∉ (wd k).data.toList
  | 0 => by decide
  | 1 => by decide
  | 2 => by decide
  | 3 => by decide
  | _ + 4 => by
    show (32 : UInt8) ∉ ([] : List UInt8) ∧ (108 : UInt8) ∉ ([] : List UInt8)
    simp
theorem place_no {x y : Int} (hx : 0 ≤ x) (hy : 0 ≤ y) : (32 : UInt8) ∉ (txt x ++ ⟨#[44]⟩ ++ txt y : ByteArray).data.toList ∧ (108 : UInt8) ∉ (txt x ++ ⟨#[44]⟩ ++ txt y : ByteArray).data.toList := by
  constructor <;>
  · rw [aid.str_app, aid.str_app, List.mem_append, List.mem_append]
    rintro ((h1 | h1) | h1)
    · first | exact dig_no (txt_dig (n := x) hx) (Or.inl (by decide)) h1 | exact dig_no (txt_dig (n := x) hx) (Or.inr (by decide)) h1
    · revert h1; decide
    · first | exact dig_no (txt_dig (n := y) hy) (Or.inl (by decide)) h1 | exact dig_no (txt_dig (n := y) hy) (Or.inr (by decide)) h1
/-- The six words ahead. -/
def six6 (i : Int) (k : Nat) (x y h : Int) : List (List UInt8) := [(txt i).data.toList, (wd k).data.toList, [97, 116], (txt x ++ ⟨#[44]⟩ ++ txt y : ByteArray).data.toList, [104, 105, 116, 115], (txt h).data.toList]
theorem words_hd {i x y h : Int} {k : Nat} (hi : 0 ≤ i) (hx : 0 ≤ x) (hy : 0 ≤ y) (hh : 0 ≤ h) : pieces 32 (hdT i k x y h).data.toList [] = six6 i k x y h := by
  rw [hd_list', pieces_cut 32 _ _ _ (dig_no (txt_dig hi) (Or.inl (by decide))), pieces_cut 32 _ _ _ (wd_no k).1, pieces_cut 32 _ _ _ (by decide), pieces_cut 32 _ _ _ (place_no hx hy).1, pieces_cut 32 _ _ _ (by decide), pieces_last 32 _ _ (dig_no (txt_dig hh) (Or.inl (by decide)))]
  rfl
theorem comma_cut {x y : Int} (hx : 0 ≤ x) : Lib.cut (txt x ++ ⟨#[44]⟩ ++ txt y : ByteArray).data.toList [44] = ((txt x).data.toList, (txt y).data.toList, true) := by
  have e : (txt x ++ ⟨#[44]⟩ ++ txt y : ByteArray).data.toList = (txt x).data.toList ++ ([44] ++ (txt y).data.toList) := by
    rw [aid.str_app, aid.str_app]; simp
  rw [e]
  exact cut_at (dig_no (txt_dig hx) (Or.inl (by decide)))
/-- Where the second byte of the word does not occur before it. -/
theorem index_at2 {c d : UInt8} {sep m : List UInt8} (hcd : d ≠ c) : ∀ {l : List UInt8}, d ∉ l → Lib.index (l ++ ((c :: d :: sep) ++ m)) (c :: d :: sep) = l.length
  | [], _ => by
    show Lib.index ((c :: d :: sep) ++ m) (c :: d :: sep) = 0
    rw [List.cons_append, Lib.index, if_pos]
    rw [← List.cons_append, List.isPrefixOf_iff_prefix]
    exact List.prefix_append _ _
  | b :: l, h => by
    have ih := index_at2 (sep := sep) (m := m) hcd (l := l) (fun e => h (List.mem_cons_of_mem _ e))
    have hn : ¬ (c :: d :: sep).isPrefixOf (b :: (l ++ ((c :: d :: sep) ++ m))) = true := by
      cases l with
      | nil => simp [List.isPrefixOf, hcd]
      | cons b2 l =>
        have : d ≠ b2 := fun e => h (by simp [e])
        simp [List.isPrefixOf, this]
    rw [List.cons_append, Lib.index, if_neg hn, ih, if_neg]
    · simp
    · first | omega | simp
theorem index_no {c d : UInt8} {sep : List UInt8} : ∀ {l : List UInt8}, d ∉ l → Lib.index l (c :: d :: sep) = -1
  | [], _ => by rfl
  | b :: l, h => by
    have ih := index_no (c := c) (sep := sep) (l := l) (fun e => h (List.mem_cons_of_mem _ e))
    have hn : ¬ (c :: d :: sep).isPrefixOf (b :: l) = true := by
      cases l with
      | nil => simp [List.isPrefixOf]
      | cons b2 l =>
        have : d ≠ b2 := fun e => h (by simp [e])
        simp [List.isPrefixOf, this]
    rw [Lib.index, if_neg hn, ih, if_pos (by decide)]
theorem cut_at2 {c d : UInt8} {sep l m : List UInt8} (hcd : d ≠ c) (h : d ∉ l) : Lib.cut (l ++ ((c :: d :: sep) ++ m)) (c :: d :: sep) = (l, m, true) := by
  unfold Lib.cut
  rw [index_at2 hcd h, if_pos (by omega)]
  have e : ((l.length : Int)).toNat = l.length := by omega
  rw [e, List.take_left, ← List.append_assoc, List.drop_left' (by simp)]
theorem cut_no {c d : UInt8} {sep l : List UInt8} (h : d ∉ l) : Lib.cut l (c :: d :: sep) = (l, [], false) := by
  unfold Lib.cut
  rw [index_no h, if_neg (by decide)]
theorem hd_no {i x y h : Int} {k : Nat} (hi : 0 ≤ i) (hx : 0 ≤ x) (hy : 0 ≤ y) (hh : 0 ≤ h) : (108 : UInt8) ∉ (hdT i k x y h).data.toList := by
  rw [hd_list']
  simp only [List.mem_append, List.mem_cons]
  rintro (h1 | h1 | h1 | h1 | h1 | h1 | h1 | h1 | h1 | h1 | h1)
  all_goals first
    | exact dig_no (txt_dig hi) (Or.inr (by decide)) h1
    | exact dig_no (txt_dig hh) (Or.inr (by decide)) h1
    | exact (wd_no k).2 h1
    | exact (place_no hx hy).2 h1
    | (revert h1; decide)
theorem lost_cut {i x y h l : Int} {k : Nat} (hi : 0 ≤ i) (hx : 0 ≤ x) (hy : 0 ≤ y) (hh : 0 ≤ h) :
    Lib.cut (hdT i k x y h ++ ⟨#[32, 108, 111, 115, 116, 32]⟩ ++ txt l : ByteArray).data.toList [32, 108, 111, 115, 116, 32] = ((hdT i k x y h).data.toList, (txt l).data.toList, true) := by
  have e : (hdT i k x y h ++ ⟨#[32, 108, 111, 115, 116, 32]⟩ ++ txt l : ByteArray).data.toList = (hdT i k x y h).data.toList ++ ((32 :: 108 :: [111, 115, 116, 32]) ++ (txt l).data.toList) := by
    rw [aid.str_app, aid.str_app, List.append_assoc]
  rw [e]
  exact cut_at2 (by decide) (hd_no hi hx hy hh)
theorem lost_no {i x y h : Int} {k : Nat} (hi : 0 ≤ i) (hx : 0 ≤ x) (hy : 0 ≤ y) (hh : 0 ≤ h) :
    Lib.cut (hdT i k x y h).data.toList [32, 108, 111, 115, 116, 32] = ((hdT i k x y h).data.toList, [], false) := cut_no (hd_no hi hx hy hh)

/-- What impl.readTrack reads. -/
def rB (t : ByteArray) : List UInt8 := (Lib.cut t.data.toList [32, 108, 111, 115, 116, 32]).1
def rO (t : ByteArray) : List UInt8 := (Lib.cut t.data.toList [32, 108, 111, 115, 116, 32]).2.1
def rW (t : ByteArray) : List (List UInt8) := pieces 32 (rB t) []
def rK (t : ByteArray) : Bool := decide ((rW t).length = 6)
def rP (t : ByteArray) : List UInt8 × List UInt8 × Bool := Lib.cut ((rW t).getD 3 []) [44]
def rI (t : ByteArray) : Int := if rK t then rdN ⟨((rW t).getD 0 []).toArray⟩ else 0
def rX (t : ByteArray) : Int := if rK t then rdN ⟨(rP t).1.toArray⟩ else 0
def rY (t : ByteArray) : Int := if rK t then rdN ⟨(rP t).2.1.toArray⟩ else 0
def rH (t : ByteArray) : Int := if rK t then rdN ⟨((rW t).getD 5 []).toArray⟩ else 0
def rL (t : ByteArray) : Int := if rK t then rdN ⟨(rO t).toArray⟩ else 0
def rS (t : ByteArray) : Int := if rK t then sw (rH t) (rL t) else 0
theorem rdN_empty : rdN ⟨#[]⟩ = 0 := by decide +kernel
/-- A track's line is read as the track. -/
theorem rd_text {i s x y h l : Int} {t : ByteArray} (hh : tkB i s x y h l = true) (ht : tlT i s x y h l = t) : rK t = true ∧ rI t = i ∧ rS t = s ∧ rX t = x ∧ rY t = y ∧ rH t = h ∧ rL t = l := by
  obtain ⟨hi, hp, h4, hl, -, hs⟩ := tkB_yes hh
  obtain ⟨hx, hy⟩ := pB_yes hp
  have E : rB t = (hdT i s.toNat x y h).data.toList ∧ rdN ⟨(rO t).toArray⟩ = l := by
    by_cases hz : l = 0
    · rw [tl_zero hz] at ht
      unfold rB rO
      rw [← ht, lost_no (by omega) hx.1 hy.1 (by omega)]
      exact ⟨rfl, rdN_empty.trans hz.symm⟩
    · rw [tl_lost hz] at ht
      unfold rB rO
      rw [← ht, lost_cut (by omega) hx.1 hy.1 (by omega)]
      exact ⟨rfl, (hgtt.rdN_txt (by omega) (by omega)).2⟩
  have EW : rW t = six6 i s.toNat x y h := by
    unfold rW
    rw [E.1]
    exact words_hd (by omega) hx.1 hy.1 (by omega)
  have EK : rK t = true := by unfold rK; rw [EW]; rfl
  have EP : rP t = ((txt x).data.toList, (txt y).data.toList, true) := by
    unfold rP; rw [EW]; exact comma_cut hx.1
  have EH : rH t = h := by unfold rH; rw [EK, EW]; exact (hgtt.rdN_txt (by omega) (by omega)).2
  have EL : rL t = l := by unfold rL; rw [EK]; exact E.2
  refine ⟨EK, ?_, ?_, ?_, ?_, EH, EL⟩
  · unfold rI; rw [EK, EW]; exact (hgtt.rdN_txt (by omega) (by omega)).2
  · unfold rS; rw [EK, EH, EL]; exact hs.symm
  · unfold rX; rw [EK, EP]; exact (hgtt.rdN_txt (by omega) (by omega)).2
  · unfold rY; rw [EK, EP]; exact (hgtt.rdN_txt (by omega) (by omega)).2
/-- Whether a text is a track's line; what ParseTrackLine returns. -/
def ptB (t : ByteArray) : Bool := tkB (rI t) (rS t) (rX t) (rY t) (rH t) (rL t) && ((tlT (rI t) (rS t) (rX t) (rY t) (rH t) (rL t)).toList == t.toList)
theorem pt_yes {t : ByteArray} (h : ptB t = true) : tkB (rI t) (rS t) (rX t) (rY t) (rH t) (rL t) = true ∧ tlT (rI t) (rS t) (rX t) (rY t) (rH t) (rL t) = t := by
  unfold ptB at h
  rw [Bool.and_eq_true] at h
  exact ⟨h.1, str_of h.2⟩
theorem pt_text {i s x y h l : Int} {t : ByteArray} (hh : tkB i s x y h l = true) (ht : tlT i s x y h l = t) : ptB t = true ∧ rI t = i ∧ rS t = s ∧ rX t = x ∧ rY t = y ∧ rH t = h ∧ rL t = l := by
  obtain ⟨-, h1, h2, h3, h4, h5, h6⟩ := rd_text hh ht
  refine ⟨?_, h1, h2, h3, h4, h5, h6⟩
  unfold ptB
  rw [h1, h2, h3, h4, h5, h6, hh, ht]
  simp
/-- What impl's comparison tells. -/
theorem pt_is (t : ByteArray) : ptB t = (tkB (rI t) (rS t) (rX t) (rY t) (rH t) (rL t) && ((tlV (rI t) (rS t) (rX t) (rY t) (rH t) (rL t)).toList == t.toList)) := by
  unfold ptB tlV
  cases tkB (rI t) (rS t) (rX t) (rY t) (rH t) (rL t) <;> rfl
def pI (t : ByteArray) : Int := if ptB t then rI t else 0
def pS (t : ByteArray) : Int := if ptB t then rS t else 0
def pX (t : ByteArray) : Int := if ptB t then rX t else 0
def pY (t : ByteArray) : Int := if ptB t then rY t else 0
def pH (t : ByteArray) : Int := if ptB t then rH t else 0
def pL (t : ByteArray) : Int := if ptB t then rL t else 0
theorem p_no {t : ByteArray} (h : ptB t = false) : pI t = 0 ∧ pS t = 0 ∧ pX t = 0 ∧ pY t = 0 ∧ pH t = 0 ∧ pL t = 0 := by unfold pI pS pX pY pH pL; rw [h]; exact ⟨rfl, rfl, rfl, rfl, rfl, rfl⟩
theorem p_yes {t : ByteArray} (h : ptB t = true) : pI t = rI t ∧ pS t = rS t ∧ pX t = rX t ∧ pY t = rY t ∧ pH t = rH t ∧ pL t = rL t := by unfold pI pS pX pY pH pL; rw [h]; exact ⟨rfl, rfl, rfl, rfl, rfl, rfl⟩
end Go.Proofs.YtfigjfckelichaaGreatDoor.trkr
