/- The number of a decimal text: plain mathematics, and the contracts of spec.l1Read, spec.ParseInt, impl.readDecimal and impl.ParseInt, for every string of at most 1048576 bytes. -/
import Derived.Test.YtedocpocfpopgaaDoorNum
import Derived.Test.YtedocpocfpopgaaDoorFmt
import Derived.Lib.Strings
import Derived.Lib.IndexBytes
namespace Go.Proofs.YtedocpocfpopgaaDoor.read
open Go.RowKit Go.Proofs.YtedocpocfpopgaaDoor.num

/-- The value of a list of digits. -/
def val (l : List UInt8) : Int := l.foldl (fun a c => 10 * a + ((c.toNat : Int) - 48)) 0
def allDig (l : List UInt8) : Prop := ∀ c ∈ l, (48 : Int) ≤ (c.toNat : Int) ∧ (c.toNat : Int) ≤ 57

theorem val_snoc (l : List UInt8) (c : UInt8) : val (l ++ [c]) = 10 * val l + ((c.toNat : Int) - 48) := by
  unfold val; rw [List.foldl_append]; rfl
theorem allDig_snoc {l : List UInt8} {c : UInt8} (h : allDig l) (h0 : (48 : Int) ≤ (c.toNat : Int)) (h1 : (c.toNat : Int) ≤ 57) : allDig (l ++ [c]) := by
  intro x hx
  rcases List.mem_append.1 hx with h' | h'
  · exact h x h'
  · simp at h'; subst h'; exact ⟨h0, h1⟩
theorem snoc_cases : ∀ l : List UInt8, l = [] ∨ ∃ r c, l = r ++ [c] := by
  intro l
  rcases List.eq_nil_or_concat l with h | ⟨r, c, h⟩
  · exact .inl h
  · exact .inr ⟨r, c, by simpa using h⟩
theorem val_bd : ∀ (n : Nat) (l : List UInt8), l.length = n → allDig l → 0 ≤ val l ∧ val l < 10 ^ n := by
  intro n
  induction n with
  | zero => intro l h _; rw [List.length_eq_zero_iff] at h; subst h; simp [val]
  | succ n ih =>
    intro l h hd
    rcases snoc_cases l with rfl | ⟨r, c, rfl⟩
    · simp at h
    · have h1 := ih r (by simpa using h) (fun x hx => hd x (List.mem_append_left _ hx))
      have h2 := hd c (by simp)
      rw [val_snoc, Int.pow_succ]
      omega
theorem val_six {l : List UInt8} (hl : l.length ≤ 6) (hd : allDig l) : 0 ≤ val l ∧ val l ≤ 999999 := by
  obtain ⟨h0, h1⟩ := val_bd _ l rfl hd
  have : (10 : Int) ^ l.length ≤ 10 ^ 6 := by
    have := Nat.pow_le_pow_right (n := 10) (by omega) hl
    exact_mod_cast this
  have e : (10 : Int) ^ 6 = 1000000 := by decide
  omega

theorem byte_digit (d : Nat) (h : d < 10) : (UInt8.ofNat (48 + d)).toNat = 48 + d := by
  rw [UInt8.toNat_ofNat']; omega
theorem dec_facts : ∀ u : Nat, val (Lib.decDigits u) = u ∧ allDig (Lib.decDigits u) := by
  intro u
  induction u using Nat.strongRecOn with
  | _ u ih =>
    rw [Lib.decDigits]
    split
    · rename_i h
      refine ⟨?_, fun c hc => ?_⟩
      · simp only [val, List.foldl_cons, List.foldl_nil]; rw [byte_digit u h]; omega
      · rw [List.mem_singleton] at hc; subst hc; rw [byte_digit u h]; omega
    · rename_i h
      obtain ⟨h1, h2⟩ := ih (u / 10) (by omega)
      have hb := byte_digit (u % 10) (by omega)
      refine ⟨?_, allDig_snoc h2 (by rw [hb]; omega) (by rw [hb]; omega)⟩
      rw [val_snoc, h1, hb]; omega
theorem dec_len : ∀ (k u : Nat), 1 ≤ k → u < 10 ^ k → 1 ≤ (Lib.decDigits u).length ∧ (Lib.decDigits u).length ≤ k := by
  intro k
  induction k with
  | zero => intro u h; omega
  | succ k ih =>
    intro u _ hu
    rw [Lib.decDigits]
    split
    · simp
    · rename_i h
      by_cases hk : k = 0
      · subst hk; simp at hu; omega
      · have := ih (u / 10) (by omega) (by rw [Nat.pow_succ] at hu; omega)
        simp; omega

/-- The number that a text can stand for. -/
def cand (l : List UInt8) : Int := if 1 < l.length ∧ l.head? = some 45 then -val (l.drop 1) else val l
def rdB (s : ByteArray) : Bool := decide (-999999 ≤ cand s.data.toList) && decide (cand s.data.toList ≤ 999999) && ((txt (cand s.data.toList)).toList == s.toList)
def rdN (s : ByteArray) : Int := if rdB s then cand s.data.toList else 0

theorem dig_not45 {l : List UInt8} (h : allDig l) : ¬ (45 : UInt8) ∈ l := fun hm => by
  have := (h 45 hm).1
  simp at this
theorem cand_txt (n : Int) (h0 : -999999 ≤ n) (h1 : n ≤ 999999) : cand (txt n).data.toList = n := by
  show cand (Lib.itoa n) = n
  unfold Lib.itoa cand
  by_cases h : n < 0
  · rw [if_pos h]
    have hl := dec_len 6 n.natAbs (by omega) (by omega)
    rw [if_pos ⟨by simp; omega, rfl⟩]
    simp only [List.drop_succ_cons, List.drop_zero]
    rw [(dec_facts _).1]; omega
  · rw [if_neg h]
    rw [if_neg, (dec_facts _).1]
    · omega
    · rintro ⟨_, hh⟩
      have := dig_not45 (dec_facts n.toNat).2
      exact this (List.mem_of_mem_head? hh)

/-- A text of a number in range is the text of its candidate. -/
theorem rd_of_txt {s : ByteArray} {n : Int} (h0 : -999999 ≤ n) (h1 : n ≤ 999999) (h : ((txt n).toList == s.toList) = true) : rdB s = true ∧ cand s.data.toList = n := by
  have e : txt n = s := aid.str_ext (by rw [beq_iff_eq, Lib.toList_data, Lib.toList_data] at h; exact h)
  have hc : cand s.data.toList = n := by rw [← e]; exact cand_txt n h0 h1
  refine ⟨?_, hc⟩
  unfold rdB
  rw [hc, h, decide_eq_true h0, decide_eq_true h1]; rfl
theorem rd_txt {s : ByteArray} (h : rdB s = true) : -999999 ≤ cand s.data.toList ∧ cand s.data.toList ≤ 999999 ∧ s = txt (cand s.data.toList) ∧ ((txt (cand s.data.toList)).toList == s.toList) = true := by
  unfold rdB at h
  simp only [Bool.and_eq_true, decide_eq_true_eq] at h
  obtain ⟨⟨h0, h1⟩, h2⟩ := h
  refine ⟨h0, h1, aid.str_ext ?_, h2⟩
  rw [beq_iff_eq, Lib.toList_data, Lib.toList_data] at h2
  exact h2.symm

theorem end_yes {s : ByteArray} {n : Int} (h : rdB s = true ∧ cand s.data.toList = n) : Ending.returned (.tuple #[.int .i64 n, .bool true]) = .returned (.tuple #[.int .i64 (rdN s), .bool (rdB s)]) := by
  unfold rdN; rw [h.1, h.2]; rfl
theorem end_no {s : ByteArray} (h : rdB s = false) : Ending.returned (.tuple #[.int .i64 0, .bool false]) = .returned (.tuple #[.int .i64 (rdN s), .bool (rdB s)]) := by
  unfold rdN; rw [h]; rfl

/-- What a readable text is made of: without a sign, only digits, one to six. -/
theorem rd_pos {s : ByteArray} (h : rdB s = true) (hp : ¬ (1 < s.data.toList.length ∧ s.data.toList.head? = some 45)) : allDig s.data.toList ∧ 1 ≤ s.data.toList.length ∧ s.data.toList.length ≤ 6 := by
  obtain ⟨h0, h1, he, _⟩ := rd_txt h
  generalize cand s.data.toList = n at *
  have hl : s.data.toList = Lib.itoa n := by rw [he]; rfl
  rw [hl] at hp ⊢
  unfold Lib.itoa at hp ⊢
  by_cases hn : n < 0
  · have := dec_len 6 n.natAbs (by omega) (by omega)
    rw [if_pos hn] at hp
    exact absurd ⟨by simp; omega, rfl⟩ hp
  · rw [if_neg hn]
    exact ⟨(dec_facts _).2, dec_len 6 _ (by omega) (by omega)⟩
theorem rd_neg {s : ByteArray} (h : rdB s = true) (hp : 1 < s.data.toList.length ∧ s.data.toList.head? = some 45) : allDig (s.data.toList.drop 1) ∧ 1 ≤ (s.data.toList.drop 1).length ∧ (s.data.toList.drop 1).length ≤ 6 := by
  obtain ⟨h0, h1, he, _⟩ := rd_txt h
  generalize cand s.data.toList = n at *
  have hl : s.data.toList = Lib.itoa n := by rw [he]; rfl
  rw [hl] at hp ⊢
  unfold Lib.itoa at hp ⊢
  by_cases hn : n < 0
  · rw [if_pos hn]
    simp only [List.drop_succ_cons, List.drop_zero]
    exact ⟨(dec_facts _).2, dec_len 6 _ (by omega) (by omega)⟩
  · rw [if_neg hn] at hp
    exact absurd (List.mem_of_mem_head? hp.2) (dig_not45 (dec_facts n.toNat).2)

theorem take_snoc (s : ByteArray) (k : Nat) (h : k < s.size) : s.data.toList.take (k + 1) = s.data.toList.take k ++ [s[k]] := by
  rw [List.take_succ_eq_append_getElem (by simpa using h)]; rfl
theorem take_all (s : ByteArray) (k : Nat) (h : s.size ≤ k) : s.data.toList.take k = s.data.toList := List.take_of_length_le (by simpa using h)
theorem dig_at {s : ByteArray} {k : Nat} (h : k < s.size) (hd : allDig s.data.toList) : (48 : Int) ≤ (s[k].toNat : Int) ∧ (s[k].toNat : Int) ≤ 57 :=
  hd _ (Array.mem_toList_iff.2 (Array.getElem_mem (xs := s.data) (i := k) h))
theorem size_list (s : ByteArray) : s.size = s.data.toList.length := by simp [← ByteArray.size_data]

/-- The loop's relation over a text t: the digits so far. -/
theorem step_ok {t : ByteArray} {k : Nat} (hk : k < t.size) (h6 : t.size ≤ 6) (hd : allDig (t.data.toList.take k)) (h0 : (48 : Int) ≤ (t[k].toNat : Int)) (h1 : (t[k].toNat : Int) ≤ 57) :
    allDig (t.data.toList.take (k + 1)) ∧ val (t.data.toList.take (k + 1)) = 10 * val (t.data.toList.take k) + ((t[k].toNat : Int) - 48) ∧ 0 ≤ val (t.data.toList.take k) ∧ val (t.data.toList.take k) ≤ 999999 := by
  rw [take_snoc t k hk, val_snoc]
  have := val_six (l := t.data.toList.take k) (by rw [List.length_take]; omega) hd
  exact ⟨allDig_snoc hd h0 h1, rfl, this.1, this.2⟩


theorem head_zero (s : ByteArray) (h : 0 < s.size) : s.data.toList.head? = some s[0] := by
  rw [List.head?_eq_getElem?]
  exact List.getElem?_eq_getElem (l := s.data.toList) (i := 0) (by rw [← size_list]; exact h)
theorem not_neg {s : ByteArray} (h : s.size ≤ 1 ∨ ∃ h0 : 0 < s.size, ((s[0].toNat : Int) == 45) = false) : ¬ (1 < s.data.toList.length ∧ s.data.toList.head? = some 45) := by
  rintro ⟨h1, h2⟩
  rcases h with h | ⟨h0, h⟩
  · rw [← size_list] at h1; omega
  · rw [head_zero s h0] at h2
    injection h2 with h2
    rw [h2] at h
    simp at h
theorem is_neg {s : ByteArray} (h1 : 1 < s.size) (h : ((s[0].toNat : Int) == 45) = true) : 1 < s.data.toList.length ∧ s.data.toList.head? = some 45 := by
  refine ⟨by rw [← size_list]; exact h1, ?_⟩
  rw [head_zero s (by omega)]
  congr 1
  simp only [beq_iff_eq] at h
  exact UInt8.toNat_inj.1 (by show _ = 45; omega)
theorem cand_pos {l : List UInt8} (h : ¬ (1 < l.length ∧ l.head? = some 45)) : cand l = val l := by unfold cand; rw [if_neg h]
theorem cand_neg {l : List UInt8} (h : 1 < l.length ∧ l.head? = some 45) : cand l = -val (l.drop 1) := by unfold cand; rw [if_pos h]

theorem bfalse {b : Bool} (h : ¬ b = true) : b = false := by simpa using h

set_option maxHeartbeats 1000000 in
theorem spec_pos (s : ByteArray) (w : World) (hp : s.size ≤ 1 ∨ ∃ h0 : 0 < s.size, ((s[0].toNat : Int) == 45) = false) :
    Calls Tryd.prog 46 #[.string s] w fun e w' => e = .returned (.tuple #[.int .i64 (rdN s), .bool (rdB s)]) ∧ ∃ j, w' = w.drewN j := by
  have hq := not_neg hp
  have hsl := size_list s
  have HP := Lib.hid (fun h => @rd_pos s h hq)
  have HC := Lib.hid (cand_pos hq)
  clear hq
  by_cases hl : 1 ≤ s.size ∧ s.size ≤ 6
  · obtain ⟨hl1, hl6⟩ := hl
    clear hsl
    have hin := fun w => in_yes (s.size : Int) 1 6 w (by omega) (by omega)
    rcases Nat.lt_or_ge 1 s.size with h1 | h1
    · have hp2 : ((s[0].toNat : Int) == 45) = false := by
        rcases hp with h | ⟨_, h⟩
        · omega
        · exact h
      clear hp
      go_enter Tryd.func46, Tryd.ntmps46
      go_wp2_with (go_at_call 77; refine (hin _).mono ?_; rintro e w' ⟨rfl, rfl⟩)
      go_loop [5, 6] (fun n i => ∃ k : Nat, k ≤ s.size ∧ i = .int .i64 k ∧ n = .int .i64 (val (s.data.toList.take k)) ∧ allDig (s.data.toList.take k)) (fun _ i => s.size - (intOf i).toNat)
      case atStart => exact ⟨0, Nat.zero_le _, rfl, rfl, fun c hc => by simp at hc⟩
      case round =>
        obtain ⟨k, hk, rfl, rfl, hd⟩ := hrel
        have HD := Lib.hid hd
        clear hd
        by_cases hlt : k < s.size
        · by_cases c0 : (s[k].toNat : Int) < 48
          · have HB := Lib.hid (end_no (s := s) (bfalse fun h => by have := (dig_at hlt (HP.out h).1).1; omega))
            go_wp2_with fail
            go_ret2
            exact ⟨HB.out, 0, rfl⟩
          · by_cases c1 : (57 : Int) < (s[k].toNat : Int)
            · have HB := Lib.hid (end_no (s := s) (bfalse fun h => by have := (dig_at hlt (HP.out h).1).2; omega))
              go_wp2_with fail
              go_ret2
              exact ⟨HB.out, 0, rfl⟩
            · obtain ⟨n1, n2, n3, n4⟩ := step_ok hlt hl6 HD.out (by omega) (by omega)
              have N1 := Lib.hid n1
              have N2 := Lib.hid n2
              clear n1 n2
              go_wp2_with fail
              go_round
              case rel => exact ⟨k + 1, by omega, by go_num, by rw [N2.out], N1.out⟩
              case measure => simp [intOf]; omega
        · obtain rfl : k = s.size := by omega
          have HX := Lib.hid (show cand s.data.toList = val (s.data.toList.take s.size) by rw [HC.out, take_all s _ (Nat.le_refl _)])
          obtain ⟨x0, x1⟩ := val_six (by rw [List.length_take]; omega) HD.out
          generalize val (s.data.toList.take s.size) = x at *
          have hn := num_any (x)
          cases hx : ((txt (x)).toList == s.toList)
          · have HB := Lib.hid (end_no (s := s) (bfalse fun h => by have h4 := (rd_txt h).2.2.2; rw [HX.out, hx] at h4; cases h4))
            go_wp2_with (go_at_call 86; refine (hn _ (by omega) (by omega) (by omega)).mono ?_; rintro e w' ⟨rfl, j, rfl⟩)
            go_ret2
            exact ⟨HB.out, _, rfl⟩
          · have HB := Lib.hid (end_yes (rd_of_txt (s := s) (n := x) (by omega) (by omega) hx))
            go_wp2_with (go_at_call 86; refine (hn _ (by omega) (by omega) (by omega)).mono ?_; rintro e w' ⟨rfl, j, rfl⟩)
            go_ret2
            exact ⟨HB.out, _, rfl⟩
    · clear hp
      go_enter Tryd.func46, Tryd.ntmps46
      go_wp2_with (go_at_call 77; refine (hin _).mono ?_; rintro e w' ⟨rfl, rfl⟩)
      go_loop [5, 6] (fun n i => ∃ k : Nat, k ≤ s.size ∧ i = .int .i64 k ∧ n = .int .i64 (val (s.data.toList.take k)) ∧ allDig (s.data.toList.take k)) (fun _ i => s.size - (intOf i).toNat)
      case atStart => exact ⟨0, Nat.zero_le _, rfl, rfl, fun c hc => by simp at hc⟩
      case round =>
        obtain ⟨k, hk, rfl, rfl, hd⟩ := hrel
        have HD := Lib.hid hd
        clear hd
        by_cases hlt : k < s.size
        · by_cases c0 : (s[k].toNat : Int) < 48
          · have HB := Lib.hid (end_no (s := s) (bfalse fun h => by have := (dig_at hlt (HP.out h).1).1; omega))
            go_wp2_with fail
            go_ret2
            exact ⟨HB.out, 0, rfl⟩
          · by_cases c1 : (57 : Int) < (s[k].toNat : Int)
            · have HB := Lib.hid (end_no (s := s) (bfalse fun h => by have := (dig_at hlt (HP.out h).1).2; omega))
              go_wp2_with fail
              go_ret2
              exact ⟨HB.out, 0, rfl⟩
            · obtain ⟨n1, n2, n3, n4⟩ := step_ok hlt hl6 HD.out (by omega) (by omega)
              have N1 := Lib.hid n1
              have N2 := Lib.hid n2
              clear n1 n2
              go_wp2_with fail
              go_round
              case rel => exact ⟨k + 1, by omega, by go_num, by rw [N2.out], N1.out⟩
              case measure => simp [intOf]; omega
        · obtain rfl : k = s.size := by omega
          have HX := Lib.hid (show cand s.data.toList = val (s.data.toList.take s.size) by rw [HC.out, take_all s _ (Nat.le_refl _)])
          obtain ⟨x0, x1⟩ := val_six (by rw [List.length_take]; omega) HD.out
          generalize val (s.data.toList.take s.size) = x at *
          have hn := num_any (x)
          cases hx : ((txt (x)).toList == s.toList)
          · have HB := Lib.hid (end_no (s := s) (bfalse fun h => by have h4 := (rd_txt h).2.2.2; rw [HX.out, hx] at h4; cases h4))
            go_wp2_with (go_at_call 86; refine (hn _ (by omega) (by omega) (by omega)).mono ?_; rintro e w' ⟨rfl, j, rfl⟩)
            go_ret2
            exact ⟨HB.out, _, rfl⟩
          · have HB := Lib.hid (end_yes (rd_of_txt (s := s) (n := x) (by omega) (by omega) hx))
            go_wp2_with (go_at_call 86; refine (hn _ (by omega) (by omega) (by omega)).mono ?_; rintro e w' ⟨rfl, j, rfl⟩)
            go_ret2
            exact ⟨HB.out, _, rfl⟩
  · have HB := Lib.hid (end_no (s := s) (bfalse fun h => by have := HP.out h; omega))
    have hin := fun w => in_no (s.size : Int) 1 6 w (by omega)
    clear hsl hl
    rcases Nat.lt_or_ge 1 s.size with h1 | h1
    · have hp2 : ((s[0].toNat : Int) == 45) = false := by
        rcases hp with h | ⟨_, h⟩
        · omega
        · exact h
      clear hp
      go_enter Tryd.func46, Tryd.ntmps46
      go_wp2_with (go_at_call 77; refine (hin _).mono ?_; rintro e w' ⟨rfl, rfl⟩)
      go_ret2
      exact ⟨HB.out, 0, rfl⟩
    · clear hp
      go_enter Tryd.func46, Tryd.ntmps46
      go_wp2_with (go_at_call 77; refine (hin _).mono ?_; rintro e w' ⟨rfl, rfl⟩)
      go_ret2
      exact ⟨HB.out, 0, rfl⟩

set_option maxHeartbeats 1000000 in
theorem spec_neg (s : ByteArray) (w : World) (h1 : 1 < s.size) (hp : ((s[0].toNat : Int) == 45) = true) :
    Calls Tryd.prog 46 #[.string s] w fun e w' => e = .returned (.tuple #[.int .i64 (rdN s), .bool (rdB s)]) ∧ ∃ j, w' = w.drewN j := by
  have hq := is_neg h1 hp
  obtain ⟨t, ht⟩ : ∃ t, s.extract 1 s.size = t := ⟨_, rfl⟩
  have hl2 : t.data.toList = s.data.toList.drop 1 := by rw [← ht, Lib.extract_to_end]
  have hsz : t.size + 1 = s.size := by rw [size_list t, hl2, List.length_drop, size_list s]; have := hq.1; omega
  have HP0 := fun h => @rd_neg s h hq
  have HC0 := cand_neg hq
  rw [← hl2] at HP0 HC0
  have HP := Lib.hid HP0
  have HC := Lib.hid HC0
  have hsl := size_list t
  have HT := Lib.hid ht
  have hsz2 : t.size < s.size := by omega
  have hsz3 : s.size ≤ t.size + 1 := by omega
  clear hq hl2 ht HP0 HC0 hsz
  by_cases hl : 1 ≤ t.size ∧ t.size ≤ 6
  · obtain ⟨hl1, hl6⟩ := hl
    clear hsl
    go_enter Tryd.func46, Tryd.ntmps46
    go_wp2_with (go_at_call 77; refine (in_yes _ _ _ _ (by omega) (by omega)).mono ?_; rintro e w' ⟨rfl, rfl⟩)
    rw [HT.out]
    go_loop [5, 6] (fun n i => ∃ k : Nat, k ≤ t.size ∧ i = .int .i64 k ∧ n = .int .i64 (val (t.data.toList.take k)) ∧ allDig (t.data.toList.take k)) (fun _ i => t.size - (intOf i).toNat)
    case atStart => exact ⟨0, Nat.zero_le _, rfl, rfl, fun c hc => by simp at hc⟩
    case round =>
      obtain ⟨k, hk, rfl, rfl, hd⟩ := hrel
      have HD := Lib.hid hd
      clear hd
      by_cases hlt : k < t.size
      · by_cases c0 : (t[k].toNat : Int) < 48
        · have HB := Lib.hid (end_no (s := s) (bfalse fun h => by have := (dig_at hlt (HP.out h).1).1; omega))
          go_wp2_with fail
          go_ret2
          exact ⟨HB.out, 0, rfl⟩
        · by_cases c1 : (57 : Int) < (t[k].toNat : Int)
          · have HB := Lib.hid (end_no (s := s) (bfalse fun h => by have := (dig_at hlt (HP.out h).1).2; omega))
            go_wp2_with fail
            go_ret2
            exact ⟨HB.out, 0, rfl⟩
          · obtain ⟨n1, n2, n3, n4⟩ := step_ok hlt hl6 HD.out (by omega) (by omega)
            have N1 := Lib.hid n1
            have N2 := Lib.hid n2
            clear n1 n2
            go_wp2_with fail
            go_round
            case rel => exact ⟨k + 1, by omega, by go_num, by rw [N2.out], N1.out⟩
            case measure => simp [intOf]; omega
      · obtain rfl : k = t.size := by omega
        have HX := Lib.hid (show cand s.data.toList = -val (t.data.toList.take t.size) by rw [HC.out, take_all t _ (Nat.le_refl _)])
        obtain ⟨x0, x1⟩ := val_six (by rw [List.length_take]; omega) HD.out
        generalize val (t.data.toList.take t.size) = x at *
        have hn := num_any (-x)
        cases hx : ((txt (-x)).toList == s.toList)
        · have HB := Lib.hid (end_no (s := s) (bfalse fun h => by have h4 := (rd_txt h).2.2.2; rw [HX.out, hx] at h4; cases h4))
          go_wp2_with (go_at_call 86; refine (hn _ (by omega) (by omega) (by omega)).mono ?_; rintro e w' ⟨rfl, j, rfl⟩)
          go_ret2
          exact ⟨HB.out, _, rfl⟩
        · have HB := Lib.hid (end_yes (rd_of_txt (s := s) (n := -x) (by omega) (by omega) hx))
          go_wp2_with (go_at_call 86; refine (hn _ (by omega) (by omega) (by omega)).mono ?_; rintro e w' ⟨rfl, j, rfl⟩)
          go_ret2
          exact ⟨HB.out, _, rfl⟩
  · have HB := Lib.hid (end_no (s := s) (bfalse fun h => by have := HP.out h; omega))
    clear hsl
    have hl' : t.size < 1 ∨ 6 < t.size := by omega
    clear hl
    go_enter Tryd.func46, Tryd.ntmps46
    go_wp2_with (go_at_call 77; refine (in_no _ _ _ _ (by omega)).mono ?_; rintro e w' ⟨rfl, rfl⟩)
    go_ret2
    exact ⟨HB.out, 0, rfl⟩
end Go.Proofs.YtedocpocfpopgaaDoor.read
