/- Chapter 3: SplitFlightName of spec and impl. -/
import Derived.Test.YtjfhkbpkiblkmaaDoorNamN
import Derived.Test.YtjfhkbpkiblkmaaDoorParse
import Derived.BigQuiet
import Derived.Deep.QuietTactic
namespace Go.Proofs.YtjfhkbpkiblkmaaDoor.naml
open Go.RowKit Go.Proofs.YtjfhkbpkiblkmaaDoor.good_ Go.Proofs.YtjfhkbpkiblkmaaDoor.bitsi Go.Proofs.YtjfhkbpkiblkmaaDoor.in_ Go.Proofs.YtjfhkbpkiblkmaaDoor.nam

/-- How many letters lead. -/
def lead (l : List UInt8) : Nat := (l.takeWhile ltr).length
theorem lead_le (l : List UInt8) : lead l ≤ l.length := by
  unfold lead
  exact (List.takeWhile_prefix (p := ltr) (l := l)).length_le
theorem lead_of {l : List UInt8} {k : Nat} (h : (l.take k).all ltr = true) (hk : k ≤ l.length) (he : k = l.length ∨ ∃ hk : k < l.length, ltr l[k] = false) : lead l = k := by
  unfold lead
  have e : l = l.take k ++ l.drop k := (List.take_append_drop k l).symm
  have h1 : l.takeWhile ltr = l.take k := by
    conv => lhs; rw [e]
    rw [List.takeWhile_append_of_pos (by simpa using h)]
    rcases he with he | ⟨hlt, he⟩
    · rw [List.drop_eq_nil_of_le (by omega)]; simp
    · rw [List.drop_eq_getElem_cons hlt, List.takeWhile_cons, he]; simp
  rw [h1, List.length_take, Nat.min_eq_left hk]
theorem lead_all (l : List UInt8) : (l.take (lead l)).all ltr = true := by
  unfold lead
  have : l.take (l.takeWhile ltr).length = l.takeWhile ltr := by
    conv => lhs; arg 2; rw [← List.takeWhile_append_dropWhile (p := ltr) (l := l)]
    exact List.take_left ..
  rw [this]
  exact List.all_takeWhile

/-- What follows the letters. -/
def rest (s : ByteArray) : ByteArray := s.extract (lead s.data.toList) s.size
/-- SplitFlightName's answer. -/
def sfB (s : ByteArray) : Bool := decide (1 ≤ lead s.data.toList ∧ lead s.data.toList ≤ 3) && (read.rdB (rest s) && decide (1 ≤ read.rdN (rest s) ∧ read.rdN (rest s) ≤ 9999))
def sfL (s : ByteArray) : ByteArray := if sfB s then s.extract 0 (lead s.data.toList) else ⟨#[]⟩
def sfN (s : ByteArray) : Int := if sfB s then read.rdN (rest s) else 0
theorem sf_no {s : ByteArray} (h : sfB s = false) : Ending.returned (.tuple #[.string ⟨#[]⟩, .int .i64 0, .bool false]) = .returned (.tuple #[.string (sfL s), .int .i64 (sfN s), .bool (sfB s)]) := by
  unfold sfL sfN; rw [h]; rfl
theorem sf_yes {s : ByteArray} (h : sfB s = true) : Ending.returned (.tuple #[.string (s.extract 0 (lead s.data.toList)), .int .i64 (read.rdN (rest s)), .bool true]) = .returned (.tuple #[.string (sfL s), .int .i64 (sfN s), .bool (sfB s)]) := by
  unfold sfL sfN; rw [h]; rfl
theorem sf_lead {s : ByteArray} (h : ¬ (1 ≤ lead s.data.toList ∧ lead s.data.toList ≤ 3)) : sfB s = false := by unfold sfB; rw [decide_eq_false h]; rfl
theorem sf_rd {s : ByteArray} (h : read.rdB (rest s) = false) : sfB s = false := by unfold sfB; rw [h]; simp
theorem sf_num {s : ByteArray} (h : ¬ (1 ≤ read.rdN (rest s) ∧ read.rdN (rest s) ≤ 9999)) : sfB s = false := by unfold sfB; rw [decide_eq_false h]; simp
theorem sf_all {s : ByteArray} (h1 : 1 ≤ lead s.data.toList ∧ lead s.data.toList ≤ 3) (h2 : read.rdB (rest s) = true) (h3 : 1 ≤ read.rdN (rest s) ∧ read.rdN (rest s) ≤ 9999) : sfB s = true := by
  unfold sfB; rw [decide_eq_true h1, h2, decide_eq_true h3]; rfl

theorem rest_list (s : ByteArray) : (rest s).data.toList = s.data.toList.drop (lead s.data.toList) := by
  unfold rest
  rw [sub_list]
  exact List.take_of_length_le (by rw [List.length_drop, len_list]; omega)
/-- The text of a small number has up to four digits. -/
theorem num_text {t : ByteArray} (h : read.rdB t = true) (h1 : 1 ≤ read.rdN t) (h2 : read.rdN t ≤ 9999) : read.allDig t.data.toList ∧ t.data.toList.length ≤ 4 ∧ num.txt (read.rdN t) = t := by
  have hn : read.rdN t = read.cand t.data.toList := by unfold read.rdN; rw [h]; rfl
  obtain ⟨_, _, hst, _⟩ := read.rd_txt h
  rw [← hn] at hst
  have hl : t.data.toList = Lib.decDigits (read.rdN t).toNat := by
    have e : t.data.toList = Lib.itoa (read.rdN t) := (congrArg (fun x : ByteArray => x.data.toList) hst).trans rfl
    rw [e]
    unfold Lib.itoa
    rw [if_neg (by omega)]
    try (congr 1; omega)
  have hd := read.dec_facts (read.rdN t).toNat
  have hlen := read.dec_len 4 (read.rdN t).toNat (by omega) (by omega)
  rw [← hl] at hd hlen
  exact ⟨hd.2, hlen.2, hst.symm⟩
theorem dig_nc {c : UInt8} (h : (48 : Int) ≤ (c.toNat : Int) ∧ (c.toNat : Int) ≤ 57) : nc c = true := (nc_iff c).2 (.inr h)
theorem ltr_nc {c : UInt8} (h : ltr c = true) : nc c = true := by unfold nc; rw [h]; rfl
/-- What is divided is a name. -/
theorem sf_name {s : ByteArray} (h1 : 1 ≤ lead s.data.toList ∧ lead s.data.toList ≤ 3) (h2 : read.rdB (rest s) = true) (h3 : 1 ≤ read.rdN (rest s) ∧ read.rdN (rest s) ≤ 9999) : nmB s = true := by
  obtain ⟨hd, hl, _⟩ := num_text h2 h3.1 h3.2
  rw [rest_list] at hd hl
  have hle := lead_le s.data.toList
  rw [List.length_drop] at hl
  unfold nmB nmL
  rw [decide_eq_true (by omega), Bool.true_and, ← List.take_append_drop (lead s.data.toList) s.data.toList, List.all_append, Bool.and_eq_true]
  refine ⟨?_, ?_⟩
  · rw [List.all_eq_true]
    intro c hc
    exact ltr_nc (List.all_eq_true.1 (lead_all s.data.toList) c hc)
  · rw [List.all_eq_true]
    intro c hc
    exact dig_nc (hd c hc)
theorem ltr_I (c : UInt8) : ltr c = nami.ltI (c.toNat : Nat) := by
  unfold ltr nami.ltI
  exact decide_eq_decide.2 (by omega)
theorem end_all {s : ByteArray} (h : (s.data.toList.take s.size).all ltr = true) : lead s.data.toList = s.size := lead_of h (by rw [len_list]; exact Nat.le_refl _) (.inl (len_list s).symm)
theorem end_at {s : ByteArray} {k : Nat} (h : (s.data.toList.take k).all ltr = true) (hk : k < s.size) (hn : ltr s[k] = false) : lead s.data.toList = k :=
  lead_of h (by rw [len_list]; omega) (.inr ⟨by rw [len_list]; exact hk, hn⟩)
theorem all_snoc {s : ByteArray} {k : Nat} (h : (s.data.toList.take k).all ltr = true) (hk : k < s.size) (hn : ltr s[k] = true) : (s.data.toList.take (k + 1)).all ltr = true := by
  rw [take_snoc s k hk, List.all_append, h]; simp [hn]
theorem lead_s (s : ByteArray) : lead s.data.toList ≤ s.size := by have := lead_le s.data.toList; rwa [len_list] at this
theorem rest_size (s : ByteArray) : (rest s).size ≤ s.size := by unfold rest; rw [ByteArray.size_extract]; omega



theorem not_at {s : ByteArray} {k : Nat} (hgo : ¬ ∃ h : k < s.size, ltr s[k] = true) (hlt : k < s.size) : ltr s[k] = false := by
  cases hl : ltr s[k]
  · rfl
  · exact absurd ⟨hlt, hl⟩ hgo
theorem lead_end {s : ByteArray} {k : Nat} (h : (s.data.toList.take k).all ltr = true) (hk : k ≤ s.size) (hgo : ¬ ∃ h : k < s.size, ltr s[k] = true) : lead s.data.toList = k := by
  rcases Nat.lt_or_ge k s.size with hlt | hge
  · exact end_at h hlt (not_at hgo hlt)
  · obtain rfl : k = s.size := by omega
    exact end_all h
theorem rest_at {s : ByteArray} {k : Nat} (h : lead s.data.toList = k) : rest s = s.extract k s.size := by unfold rest; rw [h]

set_option maxRecDepth 100000 in
set_option maxHeartbeats 1500000 in
theorem impl (s : ByteArray) (w : World) (hs : s.size ≤ 1048576) (ht : fmt.Tab w) :
    Calls Tryd.prog 30 #[.string s] w fun e w' => e = .returned (.tuple #[.string (sfL s), .int .i64 (sfN s), .bool (sfB s)]) ∧ Below w.heap.size w w' := by
  have HP := Lib.hid (parse.impl_any (rest s) w (by have := rest_size s; omega) ht)
  clear ht
  go_enter Tryd.func30, Tryd.ntmps30
  go_wp2_with fail
  go_loop [5] (fun i => ∃ k : Nat, k ≤ s.size ∧ i = .int .i64 k ∧ (s.data.toList.take k).all ltr = true) (fun i => s.size - (intOf i).toNat)
  case atStart => exact ⟨0, Nat.zero_le _, rfl, rfl⟩
  case round =>
    obtain ⟨k, hk, rfl, hok⟩ := hrel
    have HO := Lib.hid hok
    clear hok
    by_cases hgo : ∃ h : k < s.size, ltr s[k] = true
    · obtain ⟨hlt, hl⟩ := hgo
      have HS := Lib.hid (all_snoc HO.out hlt hl)
      have HL := Lib.hid (fun w => nami.isLetter (s[k].toNat : Nat) w)
      rw [ltr_I] at hl
      rw [hl] at HL
      have hb := byte_lt s[k]
      clear hl
      go_wp2_with fail
      refine (HL.out _).mono ?_
      rintro e w' ⟨rfl, rfl⟩
      go_wp2_with fail
      go_round
      case rel => exact ⟨k + 1, by omega, by go_num, HS.out⟩
      case measure => simp [intOf]; omega
    · have hlead := lead_end HO.out hk hgo
      have hrest := rest_at hlead
      rw [hrest] at HP
      by_cases c1 : k < 1
      · have d1 : decide ((k : Int) < 1) = true := decide_eq_true (by omega)
        have d1n : decide (k < 1) = true := decide_eq_true c1
        have HN := Lib.hid (sf_no (s := s) (sf_lead (by omega)))
        clear c1
        rcases Nat.lt_or_ge k s.size with hlt | hge
        · have hb := byte_lt s[k]
          have HL := Lib.hid (fun w => nami.isLetter (s[k].toNat : Nat) w)
          rw [← ltr_I, not_at hgo hlt] at HL
          clear hgo hlead hrest
          go_wp2_with fail
          refine (HL.out _).mono ?_
          rintro e w1 ⟨rfl, rfl⟩
          go_wp2_with fail
          go_ret3
          exact ⟨HN.out, Below.refl _ _⟩
        · have dk : decide ((k : Int) < (s.size : Int)) = false := decide_eq_false (by omega)
          have dkn : decide (k < s.size) = false := decide_eq_false (by omega)
          clear hgo hlead hrest
          go_wp2_with fail
          go_ret3
          exact ⟨HN.out, Below.refl _ _⟩

      · have d1 : decide ((k : Int) < 1) = false := decide_eq_false (by omega)
        have d1n : decide (k < 1) = false := decide_eq_false c1
        by_cases c2 : 3 < k
        · have d2 : decide ((3 : Int) < (k : Int)) = true := decide_eq_true (by omega)
          have d2n : decide (3 < k) = true := decide_eq_true c2
          have HN := Lib.hid (sf_no (s := s) (sf_lead (by omega)))
          clear c1 c2
          rcases Nat.lt_or_ge k s.size with hlt | hge
          · have hb := byte_lt s[k]
            have HL := Lib.hid (fun w => nami.isLetter (s[k].toNat : Nat) w)
            rw [← ltr_I, not_at hgo hlt] at HL
            clear hgo hlead hrest
            go_wp2_with fail
            refine (HL.out _).mono ?_
            rintro e w1 ⟨rfl, rfl⟩
            go_wp2_with fail
            go_ret3
            exact ⟨HN.out, Below.refl _ _⟩
          · have dk : decide ((k : Int) < (s.size : Int)) = false := decide_eq_false (by omega)
            have dkn : decide (k < s.size) = false := decide_eq_false (by omega)
            clear hgo hlead hrest
            go_wp2_with fail
            go_ret3
            exact ⟨HN.out, Below.refl _ _⟩

        · have d2 : decide ((3 : Int) < (k : Int)) = false := decide_eq_false (by omega)
          have d2n : decide (3 < k) = false := decide_eq_false c2
          cases c3 : read.rdB (rest s)
          · have HN := Lib.hid (sf_no (s := s) (sf_rd c3))
            rw [hrest] at c3
            rw [c3] at HP
            clear c1 c2 c3
            generalize read.rdN (s.extract k s.size) = n at *
            rcases Nat.lt_or_ge k s.size with hlt | hge
            · have hb := byte_lt s[k]
              have HL := Lib.hid (fun w => nami.isLetter (s[k].toNat : Nat) w)
              rw [← ltr_I, not_at hgo hlt] at HL
              clear hgo hlead hrest
              go_wp2_with fail
              refine (HL.out _).mono ?_
              rintro e w1 ⟨rfl, rfl⟩
              go_wp2_with fail
              (with_reducible refine HP.out.mono ?_)
              rintro e w2 ⟨rfl, hb2⟩
              go_wp2_with fail
              go_ret3
              exact ⟨HN.out, hb2⟩
            · have dk : decide ((k : Int) < (s.size : Int)) = false := decide_eq_false (by omega)
              have dkn : decide (k < s.size) = false := decide_eq_false (by omega)
              clear hgo hlead hrest
              go_wp2_with fail
              (with_reducible refine HP.out.mono ?_)
              rintro e w2 ⟨rfl, hb2⟩
              go_wp2_with fail
              go_ret3
              exact ⟨HN.out, hb2⟩

          · by_cases c4 : read.rdN (rest s) < 1
            · have HN := Lib.hid (sf_no (s := s) (sf_num (by omega)))
              rw [hrest] at c3 c4
              rw [c3] at HP
              have d4 : decide (read.rdN (s.extract k s.size) < 1) = true := decide_eq_true c4
              clear c1 c2 c3 c4
              generalize read.rdN (s.extract k s.size) = n at *
              rcases Nat.lt_or_ge k s.size with hlt | hge
              · have hb := byte_lt s[k]
                have HL := Lib.hid (fun w => nami.isLetter (s[k].toNat : Nat) w)
                rw [← ltr_I, not_at hgo hlt] at HL
                clear hgo hlead hrest
                go_wp2_with fail
                refine (HL.out _).mono ?_
                rintro e w1 ⟨rfl, rfl⟩
                go_wp2_with fail
                (with_reducible refine HP.out.mono ?_)
                rintro e w2 ⟨rfl, hb2⟩
                go_wp2_with fail
                go_ret3
                exact ⟨HN.out, hb2⟩
              · have dk : decide ((k : Int) < (s.size : Int)) = false := decide_eq_false (by omega)
                have dkn : decide (k < s.size) = false := decide_eq_false (by omega)
                clear hgo hlead hrest
                go_wp2_with fail
                (with_reducible refine HP.out.mono ?_)
                rintro e w2 ⟨rfl, hb2⟩
                go_wp2_with fail
                go_ret3
                exact ⟨HN.out, hb2⟩

            · by_cases c5 : 9999 < read.rdN (rest s)
              · have HN := Lib.hid (sf_no (s := s) (sf_num (by omega)))
                rw [hrest] at c3 c4 c5
                rw [c3] at HP
                have d4 : decide (read.rdN (s.extract k s.size) < 1) = false := decide_eq_false c4
                have d5 : decide (9999 < read.rdN (s.extract k s.size)) = true := decide_eq_true c5
                clear c1 c2 c3 c4 c5
                generalize read.rdN (s.extract k s.size) = n at *
                rcases Nat.lt_or_ge k s.size with hlt | hge
                · have hb := byte_lt s[k]
                  have HL := Lib.hid (fun w => nami.isLetter (s[k].toNat : Nat) w)
                  rw [← ltr_I, not_at hgo hlt] at HL
                  clear hgo hlead hrest
                  go_wp2_with fail
                  refine (HL.out _).mono ?_
                  rintro e w1 ⟨rfl, rfl⟩
                  go_wp2_with fail
                  (with_reducible refine HP.out.mono ?_)
                  rintro e w2 ⟨rfl, hb2⟩
                  go_wp2_with fail
                  go_ret3
                  exact ⟨HN.out, hb2⟩
                · have dk : decide ((k : Int) < (s.size : Int)) = false := decide_eq_false (by omega)
                  have dkn : decide (k < s.size) = false := decide_eq_false (by omega)
                  clear hgo hlead hrest
                  go_wp2_with fail
                  (with_reducible refine HP.out.mono ?_)
                  rintro e w2 ⟨rfl, hb2⟩
                  go_wp2_with fail
                  go_ret3
                  exact ⟨HN.out, hb2⟩

              · have hyes := sf_yes (s := s) (sf_all (by omega) c3 (by omega))
                rw [hlead, hrest] at hyes
                have HN := Lib.hid hyes
                rw [hrest] at c3 c4 c5
                rw [c3] at HP
                have d4 : decide (read.rdN (s.extract k s.size) < 1) = false := decide_eq_false c4
                have d5 : decide (9999 < read.rdN (s.extract k s.size)) = false := decide_eq_false c5
                clear c1 c2 c3 c4 c5 hyes
                generalize read.rdN (s.extract k s.size) = n at *
                rcases Nat.lt_or_ge k s.size with hlt | hge
                · have hb := byte_lt s[k]
                  have HL := Lib.hid (fun w => nami.isLetter (s[k].toNat : Nat) w)
                  rw [← ltr_I, not_at hgo hlt] at HL
                  clear hgo hlead hrest
                  go_wp2_with fail
                  refine (HL.out _).mono ?_
                  rintro e w1 ⟨rfl, rfl⟩
                  go_wp2_with fail
                  (with_reducible refine HP.out.mono ?_)
                  rintro e w2 ⟨rfl, hb2⟩
                  go_wp2_with fail
                  go_ret3
                  exact ⟨HN.out, hb2⟩
                · have dk : decide ((k : Int) < (s.size : Int)) = false := decide_eq_false (by omega)
                  have dkn : decide (k < s.size) = false := decide_eq_false (by omega)
                  clear hgo hlead hrest
                  go_wp2_with fail
                  (with_reducible refine HP.out.mono ?_)
                  rintro e w2 ⟨rfl, hb2⟩
                  go_wp2_with fail
                  go_ret3
                  exact ⟨HN.out, hb2⟩

end Go.Proofs.YtjfhkbpkiblkmaaDoor.naml
