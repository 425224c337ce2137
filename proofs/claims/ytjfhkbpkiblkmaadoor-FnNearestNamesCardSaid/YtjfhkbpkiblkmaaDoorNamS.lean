/- The contracts of chapter 3's functions of spec, in the words of plain mathematics (without lists of names). -/
import Derived.Test.YtjfhkbpkiblkmaaDoorBitsI
import Derived.Test.YtjfhkbpkiblkmaaDoorHexS
import Derived.Test.YtjfhkbpkiblkmaaDoorIn
import Derived.Test.YtjfhkbpkiblkmaaDoorNam
namespace Go.Proofs.YtjfhkbpkiblkmaaDoor.nams
open Go.RowKit Go.Proofs.YtjfhkbpkiblkmaaDoor.bin Go.Proofs.YtjfhkbpkiblkmaaDoor.good_ Go.Proofs.YtjfhkbpkiblkmaaDoor.bitsi Go.Proofs.YtjfhkbpkiblkmaaDoor.in_ Go.Proofs.YtjfhkbpkiblkmaaDoor.nam

theorem code (n : Int) (w : World) (h0 : 0 ≤ n) (h1 : n ≤ 255) :
    Calls Tryd.prog 54 #[.int .u8 n] w fun e w' => e = .returned (.int .i64 (coI n)) ∧ w = w' := by
  go_enter Tryd.func54, Tryd.ntmps54
  go_wp2
  all_goals go_ret
  all_goals refine ⟨aid.ret_int ?_, rfl⟩
  all_goals (try simp only [beq_iff_eq, beq_eq_false_iff_ne, ne_eq] at *)
  all_goals first
    | exact coI_1 (by omega) (by omega)
    | exact coI_2 (by omega) (by omega) (by omega)
    | exact coI_3 (by omega) (by omega)

theorem byte (n : Int) (w : World) :
    Calls Tryd.prog 51 #[.int .i64 n] w fun e w' => e = .returned (.int .u8 (loI n)) ∧ w = w' := by
  have h1 := fun w => l1In n 1 26 w
  have h2 := fun w => l1In n 48 57 w
  by_cases c1 : 1 ≤ n ∧ n ≤ 26
  · rw [show isIn n 1 26 = true from decide_eq_true c1] at h1
    have H1 := Lib.hid h1
    have HR := Lib.hid (fun r h => aid.ret_int (k := .u8) (loI_1 (r := r) c1 h))
    obtain ⟨c2, c3⟩ := c1
    clear h1 h2
    go_enter Tryd.func51, Tryd.ntmps51
    go_wp2_with fail
    refine (H1.out _).mono ?_
    rintro e w' ⟨rfl, rfl⟩
    go_wp2_with fail
    go_ret
    exact ⟨HR.out _ (by omega), rfl⟩
  · rw [show isIn n 1 26 = false from decide_eq_false c1] at h1
    have H1 := Lib.hid h1
    by_cases c2 : 48 ≤ n ∧ n ≤ 57
    · rw [show isIn n 48 57 = true from decide_eq_true c2] at h2
      have H2 := Lib.hid h2
      have HR := Lib.hid (aid.ret_int (k := .u8) (loI_2 c1 (.inl c2) rfl))
      obtain ⟨c3, c4⟩ := c2
      clear h1 h2 c1
      go_enter Tryd.func51, Tryd.ntmps51
      go_wp2_with fail
      refine (H1.out _).mono ?_
      rintro e w' ⟨rfl, rfl⟩
      go_wp2_with fail
      refine (H2.out _).mono ?_
      rintro e w' ⟨rfl, rfl⟩
      go_wp2_with fail
      go_ret
      exact ⟨HR.out, rfl⟩
    · rw [show isIn n 48 57 = false from decide_eq_false c2] at h2
      have H2 := Lib.hid h2
      by_cases c3 : n = 32
      · subst c3
        clear h1 h2 c1 c2
        go_enter Tryd.func51, Tryd.ntmps51
        go_wp2_with fail
        refine (H1.out _).mono ?_
        rintro e w' ⟨rfl, rfl⟩
        go_wp2_with fail
        refine (H2.out _).mono ?_
        rintro e w' ⟨rfl, rfl⟩
        go_wp2_with fail
        go_ret
        exact ⟨rfl, rfl⟩
      · have HR := Lib.hid (aid.ret_int (k := .u8) (loI_3 c1 (fun h => h.elim c2 c3)))
        have d : (n == 32) = false := beq_eq_false_iff_ne.2 c3
        clear h1 h2 c1 c2 c3
        go_enter Tryd.func51, Tryd.ntmps51
        go_wp2_with fail
        refine (H1.out _).mono ?_
        rintro e w' ⟨rfl, rfl⟩
        go_wp2_with fail
        refine (H2.out _).mono ?_
        rintro e w' ⟨rfl, rfl⟩
        go_wp2_with fail
        go_ret
        exact ⟨HR.out, rfl⟩

theorem lc_no {n : Int} (h : coI n < 0) : Ending.returned (.tuple #[.int .i64 0, .bool false]) = .returned (.tuple #[.int .i64 (lcV n), .bool (lcB n)]) := by
  unfold lcV lcB; rw [decide_eq_false (by omega)]; rfl
theorem lc_yes {n r : Int} (h : 0 ≤ coI n) (hr : r = coI n) : Ending.returned (.tuple #[.int .i64 r, .bool true]) = .returned (.tuple #[.int .i64 (lcV n), .bool (lcB n)]) := by
  unfold lcV lcB; rw [decide_eq_true h, hr]; rfl
theorem letterCode (n : Int) (w : World) (h0 : 0 ≤ n) (h1 : n ≤ 255) :
    Calls Tryd.prog 20 #[.int .u8 n] w fun e w' => e = .returned (.tuple #[.int .i64 (lcV n), .bool (lcB n)]) ∧ w = w' := by
  have HC := Lib.hid (fun w => code n w h0 h1)
  by_cases h : coI n < 0
  · have HN := Lib.hid (lc_no h)
    generalize coI n = v at *
    go_enter Tryd.func20, Tryd.ntmps20
    go_wp2_with (go_at_call 54; refine (HC.out _).mono ?_; rintro e w' ⟨rfl, rfl⟩)
    go_ret2
    exact ⟨HN.out, rfl⟩
  · have h2 : 0 ≤ coI n := by omega
    have HN := Lib.hid (lc_yes h2 rfl)
    generalize coI n = v at *
    clear h
    go_enter Tryd.func20, Tryd.ntmps20
    go_wp2_with (go_at_call 54; refine (HC.out _).mono ?_; rintro e w' ⟨rfl, rfl⟩)
    go_ret2
    exact ⟨HN.out, rfl⟩

theorem letterOf (n : Int) (w : World) :
    Calls Tryd.prog 23 #[.int .i64 n] w fun e w' => e = .returned (.tuple #[.int .u8 (loI n), .bool (lfB n)]) ∧ w = w' := by
  have HC := Lib.hid (fun w => byte n w)
  have hb := loI_bd n
  have HF := Lib.hid (show lfB n = decide (0 < loI n) from rfl)
  generalize lfB n = b at *
  generalize loI n = v at *
  obtain ⟨h1, h2⟩ := hb
  by_cases h : 0 < v
  · have HB := Lib.hid (show Ending.returned (.tuple #[.int .u8 v, .bool true]) = .returned (.tuple #[.int .u8 v, .bool b]) by rw [HF.out, decide_eq_true h])
    go_enter Tryd.func23, Tryd.ntmps23
    go_wp2_with (go_at_call 51; refine (HC.out _).mono ?_; rintro e w' ⟨rfl, rfl⟩)
    go_ret2
    exact ⟨HB.out, rfl⟩
  · have HB := Lib.hid (show Ending.returned (.tuple #[.int .u8 v, .bool false]) = .returned (.tuple #[.int .u8 v, .bool b]) by rw [HF.out, decide_eq_false h])
    have hd : decide (0 < v) = false := decide_eq_false h
    clear h
    go_enter Tryd.func23, Tryd.ntmps23
    go_wp2_with (go_at_call 51; refine (HC.out _).mono ?_; rintro e w' ⟨rfl, rfl⟩)
    go_ret2
    exact ⟨HB.out, rfl⟩

theorem nm_take {s : ByteArray} {k : Nat} (hk : k < s.size) (h : nc s[k] = false) : nmB s = false := by
  have : s.data.toList.all nc = false := by
    rw [List.all_eq_false]
    exact ⟨s[k], Array.mem_toList_iff.2 (Array.getElem_mem (xs := s.data) (i := k) hk), by rw [h]; decide⟩
  unfold nmB nmL
  rw [this]; simp
theorem nm_end {s : ByteArray} (h : (s.data.toList.take s.size).all nc = true) : nmB s = isIn s.size 1 8 := by
  rw [List.take_of_length_le (by simp)] at h
  unfold nmB nmL isIn
  rw [h, len_list, Bool.and_true]
  exact decide_eq_decide.2 (by omega)
theorem name (s : ByteArray) (w : World) (hs : s.size ≤ maxLen) :
    Calls Tryd.prog 40 #[.string s] w fun e w' => e = .returned (.bool (nmB s)) ∧ w = w' := by
  unfold maxLen at hs
  go_enter Tryd.func40, Tryd.ntmps40
  go_wp2
  go_loop [3] (fun i => ∃ k : Nat, k ≤ s.size ∧ i = .int .i64 k ∧ (s.data.toList.take k).all nc = true) (fun i => s.size - (intOf i).toNat)
  case atStart => exact ⟨0, Nat.zero_le _, rfl, rfl⟩
  case round =>
    obtain ⟨k, hk, rfl, hok⟩ := hrel
    have HO := Lib.hid hok
    clear hok
    by_cases hlt : k < s.size
    · have hb := byte_lt s[k]
      have hb0 : 0 ≤ (s[k].toNat : Int) := by omega
      have HC := Lib.hid (fun w => code (s[k].toNat : Nat) w hb0 (by omega))
      cases hn : nc s[k]
      · have HN := Lib.hid (aid.ret_bool (nm_take hlt hn).symm)
        by_cases h1 : coI (s[k].toNat : Nat) < 0
        · clear hn
          generalize coI (s[k].toNat : Nat) = v at *
          go_wp2_with (go_at_call 54; refine (HC.out _).mono ?_; rintro e w' ⟨rfl, rfl⟩)
          go_ret
          exact ⟨HN.out, rfl⟩
        · have h32 : (s[k].toNat : Int) = 32 := by
            have := (nc_coI s[k]).2
            rw [hn] at this
            exact Decidable.byContradiction fun hh => by have := this ⟨by omega, hh⟩; cases this
          have h2 : ((s[k].toNat : Int) == 32) = true := beq_iff_eq.2 h32
          have h3 : 0 ≤ coI (s[k].toNat : Nat) := by omega
          clear hn h1 h32
          generalize coI (s[k].toNat : Nat) = v at *
          go_wp2_with (go_at_call 54; refine (HC.out _).mono ?_; rintro e w' ⟨rfl, rfl⟩)
          go_ret
          exact ⟨HN.out, rfl⟩
      · obtain ⟨h3, h32⟩ := (nc_coI s[k]).1 hn
        have h2 : ((s[k].toNat : Int) == 32) = false := beq_eq_false_iff_ne.2 h32
        have HS := Lib.hid (show (s.data.toList.take (k + 1)).all nc = true by rw [take_snoc s k hlt, List.all_append, HO.out]; simp [hn])
        clear hn h32
        generalize coI (s[k].toNat : Nat) = v at *
        have hd : decide (v < 0) = false := decide_eq_false (by omega)
        clear h3
        go_wp2_with (go_at_call 54; refine (HC.out _).mono ?_; rintro e w' ⟨rfl, rfl⟩)
        go_round
        case rel => exact ⟨k + 1, by omega, by go_num, HS.out⟩
        case measure => simp [intOf]; omega
    · obtain rfl : k = s.size := by omega
      have HN := Lib.hid (aid.ret_bool (nm_end HO.out).symm)
      have HI := Lib.hid (fun w => l1In s.size 1 8 w)
      generalize isIn s.size 1 8 = b at *
      go_wp2_with fail
      refine (HI.out _).mono ?_
      rintro e w' ⟨rfl, rfl⟩
      go_wp2_with fail
      go_ret
      exact ⟨HN.out, rfl⟩

/-- The bits of the first k letters. -/
def nbK (s : ByteArray) (k : Nat) : ByteArray := ⟨(nbL s.data.toList k).toArray⟩
theorem nbK_size (s : ByteArray) (k : Nat) : (nbK s k).size = 6 * k := nbL_length s.data.toList k
theorem nbK_step (s : ByteArray) (k : Nat) (c : UInt8) (h : pd s.data.toList k = c) : nbK s k ++ ⟨(enc 2 6 (cv c)).toArray⟩ = nbK s (k + 1) := by
  subst h
  apply aid.str_ext
  rw [aid.str_app]
  rfl
theorem pd_s {s : ByteArray} {k : Nat} (h : k < s.size) : pd s.data.toList k = s[k] := by rw [pd_in (by rw [len_list]; exact h)]; rfl
theorem pd_e {s : ByteArray} {k : Nat} (h : ¬ k < s.size) : pd s.data.toList k = 32 := pd_out (by rw [len_list]; omega)
theorem of6 (c : UInt8) (w : World) : Calls Tryd.prog 57 #[.int .i64 (cv c : Nat), .int .i64 6] w fun e w' => e = .returned (.string ⟨(enc 2 6 (cv c)).toArray⟩) ∧ w = w' :=
  ofN (cv c) 6 w (by have := cv_lt c; omega) (by omega)
theorem code_of (c : UInt8) (w : World) (h : cc c = true) : Calls Tryd.prog 54 #[.int .u8 c.toNat] w fun e w' => e = .returned (.int .i64 (cv c : Nat)) ∧ w = w' := by
  rw [← coI_yes h]
  exact code _ w (by omega) (by have := c.toNat_lt; omega)
theorem bits (s : ByteArray) (w : World) (hn : nmB s = true) :
    Calls Tryd.prog 41 #[.string s] w fun e w' => e = .returned (.string (nbA s)) ∧ w = w' := by
  have HA := Lib.hid (fun k => pd_cc hn k)
  have hl := (nm_len hn).2
  rw [len_list] at hl
  clear hn
  go_enter Tryd.func41, Tryd.ntmps41
  go_wp2
  go_loop [3, 4] (fun t i => ∃ (k : Nat) (a : ByteArray), k ≤ 8 ∧ i = .int .i64 k ∧ t = .string a ∧ a = nbK s k) (fun _ i => 8 - (intOf i).toNat)
  case atStart => exact ⟨0, _, Nat.zero_le _, rfl, rfl, rfl⟩
  case round =>
    obtain ⟨k, a, hk, rfl, rfl, ha⟩ := hrel
    have HK := Lib.hid ha
    have hsz : a.size = 6 * k := by rw [ha, nbK_size]
    have hsz2 : a.size ≤ 48 := by omega
    clear ha hsz
    by_cases h8 : k < 8
    · by_cases hlt : k < s.size
      · have hcc := HA.out k
        rw [pd_s hlt] at hcc
        have HC := Lib.hid (fun w => code_of s[k] w hcc)
        have HO := Lib.hid (fun w => of6 s[k] w)
        have HT := Lib.hid (show a ++ ⟨(enc 2 6 (cv s[k])).toArray⟩ = nbK s (k + 1) by rw [HK.out]; exact nbK_step s k _ (pd_s hlt))
        have hz : (⟨(enc 2 6 (cv s[k])).toArray⟩ : ByteArray).size ≤ 6 := Nat.le_of_eq (enc_length 2 6 _)
        clear hcc
        generalize (⟨(enc 2 6 (cv s[k])).toArray⟩ : ByteArray) = u at *
        go_wp2_with (first
          | (go_at_call 54; refine (HC.out _).mono ?_; rintro e w' ⟨rfl, rfl⟩)
          | (go_at_call 57; refine (HO.out _).mono ?_; rintro e w' ⟨rfl, rfl⟩))
        go_round
        case rel => exact ⟨k + 1, _, by omega, by go_num, rfl, HT.out⟩
        case measure => simp [intOf]; omega
      · have HC := Lib.hid (fun w => (show Calls Tryd.prog 54 #[.int .u8 32] w fun e w' => e = .returned (.int .i64 (cv 32 : Nat)) ∧ w = w' from code_of 32 w cc_sp))
        have HO := Lib.hid (fun w => of6 32 w)
        have HT := Lib.hid (show a ++ ⟨(enc 2 6 (cv 32)).toArray⟩ = nbK s (k + 1) by rw [HK.out]; exact nbK_step s k _ (pd_e hlt))
        have hz : (⟨(enc 2 6 (cv 32)).toArray⟩ : ByteArray).size ≤ 6 := Nat.le_of_eq (enc_length 2 6 _)
        generalize (⟨(enc 2 6 (cv 32)).toArray⟩ : ByteArray) = u at *
        generalize cv 32 = v at *
        go_wp2_with (first
          | (go_at_call 54; refine (HC.out _).mono ?_; rintro e w' ⟨rfl, rfl⟩)
          | (go_at_call 57; refine (HO.out _).mono ?_; rintro e w' ⟨rfl, rfl⟩))
        go_round
        case rel => exact ⟨k + 1, _, by omega, by go_num, rfl, HT.out⟩
        case measure => simp [intOf]; omega
    · obtain rfl : k = 8 := by omega
      have HR := Lib.hid (aid.ret_str (show a = nbA s from HK.out))
      go_wp2
      go_ret
      exact ⟨HR.out, rfl⟩

theorem nb_no {s : ByteArray} (h : nmB s = false) : Ending.returned (.tuple #[.string ⟨#[]⟩, .bool false]) = .returned (.tuple #[.string (nbT s), .bool (nmB s)]) := str_no h
theorem nb_yes {s : ByteArray} (h : nmB s = true) : Ending.returned (.tuple #[.string (nbA s), .bool true]) = .returned (.tuple #[.string (nbT s), .bool (nmB s)]) := str_yes h rfl
theorem nameBits (s : ByteArray) (w : World) (hs : s.size ≤ maxLen) :
    Calls Tryd.prog 11 #[.string s] w fun e w' => e = .returned (.tuple #[.string (nbT s), .bool (nmB s)]) ∧ w = w' := by
  have hc := fun w => name s w hs
  cases hb : nmB s
  · have HN := Lib.hid (nb_no hb)
    rw [hb] at hc HN
    have HC := Lib.hid hc
    clear hc hb hs
    go_enter Tryd.func11, Tryd.ntmps11
    go_wp2_with (go_at_call 40; refine (HC.out _).mono ?_; rintro e w' ⟨rfl, rfl⟩)
    go_ret2
    exact ⟨HN.out, rfl⟩
  · have HN := Lib.hid (nb_yes hb)
    have HB := Lib.hid (fun w => bits s w hb)
    rw [hb] at hc HN
    have HC := Lib.hid hc
    clear hc hb hs
    go_enter Tryd.func11, Tryd.ntmps11
    go_wp2_with (first
      | (go_at_call 40; refine (HC.out _).mono ?_; rintro e w' ⟨rfl, rfl⟩)
      | (go_at_call 41; refine (HB.out _).mono ?_; rintro e w' ⟨rfl, rfl⟩))
    go_ret2
    exact ⟨HN.out, rfl⟩

theorem np_no {s : ByteArray} {p : Int} (h : npB s p = false) : Ending.returned (.tuple #[.int .i64 0, .bool false]) = .returned (.tuple #[.int .i64 (npV s p), .bool (npB s p)]) := int_no h
theorem np_yes {s : ByteArray} {p : Int} (h : npB s p = true) : Ending.returned (.tuple #[.int .i64 (dec 2 ((nbA s).extract (24 * p).toNat (24 * p + 24).toNat).data.toList : Nat), .bool true]) = .returned (.tuple #[.int .i64 (npV s p), .bool (npB s p)]) := int_yes h rfl
theorem part_size (s : ByteArray) (a b : Nat) : ((nbA s).extract a b).size ≤ 48 := by
  rw [ByteArray.size_extract, nbA_size]; omega
theorem namePart (s : ByteArray) (p : Int) (w : World) (hs : s.size ≤ maxLen) :
    Calls Tryd.prog 34 #[.string s, .int .i64 p] w fun e w' => e = .returned (.tuple #[.int .i64 (npV s p), .bool (npB s p)]) ∧ w = w' := by
  have hc := fun w => name s w hs
  cases hb : nmB s
  · have HN := Lib.hid (np_no (s := s) (p := p) (by unfold npB; rw [hb]; rfl))
    rw [hb] at hc
    have HC := Lib.hid hc
    clear hc hb hs
    go_enter Tryd.func34, Tryd.ntmps34
    go_wp2_with (go_at_call 40; refine (HC.out _).mono ?_; rintro e w' ⟨rfl, rfl⟩)
    go_ret2
    exact ⟨HN.out, rfl⟩
  · have HB := Lib.hid (fun w => bits s w hb)
    rw [hb] at hc
    have HC := Lib.hid hc
    have hi := fun w => l1In p 0 1 w
    by_cases hp : 0 ≤ p ∧ p ≤ 1
    · rw [show isIn p 0 1 = true from decide_eq_true hp] at hi
      have HI := Lib.hid hi
      have hz : (nbA s).size = 48 := nbA_size s
      have hy := np_yes (s := s) (p := p) (by unfold npB; rw [hb, decide_eq_true hp]; rfl)
      have hq : p = 0 ∨ p = 1 := by omega
      have h0 := number ((nbA s).extract (24 * p).toNat (24 * p + 24).toNat)
      rcases hq with rfl | rfl
      · have HY := Lib.hid (show Ending.returned (.tuple #[.int .i64 (dec 2 ((nbA s).extract 0 24).data.toList : Nat), .bool true]) = _ from hy)
        have HW := Lib.hid (fun w => number ((nbA s).extract 0 24) w (by have := part_size s 0 24; omega) (sub_ok (nbA_ok s) _ _))
        have hz2 : (24 : Int) ≤ ((nbA s).size : Int) := by omega
        have hz3 : (48 : Int) ≤ ((nbA s).size : Int) := by omega
        clear hc hb hs hi hp hy h0 hz
        generalize nbA s = t at *
        generalize dec 2 (t.extract 0 24).data.toList = v at *
        go_enter Tryd.func34, Tryd.ntmps34
        go_wp2_with (first
          | (go_at_call 40; refine (HC.out _).mono ?_; rintro e w' ⟨rfl, rfl⟩)
          | (go_at_call 56; refine (HI.out _).mono ?_; rintro e w' ⟨rfl, rfl⟩)
          | (go_at_call 41; refine (HB.out _).mono ?_; rintro e w' ⟨rfl, rfl⟩)
          | (go_at_call 52; refine (HW.out _).mono ?_; rintro e w' ⟨rfl, rfl⟩))
        go_ret2
        exact ⟨HY.out, rfl⟩
      · have HY := Lib.hid (show Ending.returned (.tuple #[.int .i64 (dec 2 ((nbA s).extract 24 48).data.toList : Nat), .bool true]) = _ from hy)
        have HW := Lib.hid (fun w => number ((nbA s).extract 24 48) w (by have := part_size s 24 48; omega) (sub_ok (nbA_ok s) _ _))
        have hz2 : (24 : Int) ≤ ((nbA s).size : Int) := by omega
        have hz3 : (48 : Int) ≤ ((nbA s).size : Int) := by omega
        clear hc hb hs hi hp hy h0 hz
        generalize nbA s = t at *
        generalize dec 2 (t.extract 24 48).data.toList = v at *
        go_enter Tryd.func34, Tryd.ntmps34
        go_wp2_with (first
          | (go_at_call 40; refine (HC.out _).mono ?_; rintro e w' ⟨rfl, rfl⟩)
          | (go_at_call 56; refine (HI.out _).mono ?_; rintro e w' ⟨rfl, rfl⟩)
          | (go_at_call 41; refine (HB.out _).mono ?_; rintro e w' ⟨rfl, rfl⟩)
          | (go_at_call 52; refine (HW.out _).mono ?_; rintro e w' ⟨rfl, rfl⟩))
        go_ret2
        exact ⟨HY.out, rfl⟩
    · rw [show isIn p 0 1 = false from decide_eq_false hp] at hi
      have HI := Lib.hid hi
      have HN := Lib.hid (np_no (s := s) (p := p) (by unfold npB; rw [decide_eq_false hp]; simp))
      clear hc hb hs hi hp
      go_enter Tryd.func34, Tryd.ntmps34
      go_wp2_with (first
        | (go_at_call 40; refine (HC.out _).mono ?_; rintro e w' ⟨rfl, rfl⟩)
        | (go_at_call 56; refine (HI.out _).mono ?_; rintro e w' ⟨rfl, rfl⟩))
      go_ret2
      exact ⟨HN.out, rfl⟩
end Go.Proofs.YtjfhkbpkiblkmaaDoor.nams
