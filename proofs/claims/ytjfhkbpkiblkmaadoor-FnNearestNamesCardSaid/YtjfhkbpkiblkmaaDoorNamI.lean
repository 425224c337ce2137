/- The contracts of chapter 3's functions of impl, in the words of plain mathematics (without lists of names). -/
import Derived.Test.YtjfhkbpkiblkmaaDoorBitsI
import Derived.Test.YtjfhkbpkiblkmaaDoorNam
import Derived.Test.YtjfhkbpkiblkmaaDoorShelf
import Derived.Test.YtjfhkbpkiblkmaaDoorOwn
import Derived.Lib.Repeat
namespace Go.Proofs.YtjfhkbpkiblkmaaDoor.nami
open Go.RowKit Go.Proofs.YtjfhkbpkiblkmaaDoor.bin Go.Proofs.YtjfhkbpkiblkmaaDoor.good_ Go.Proofs.YtjfhkbpkiblkmaaDoor.bitsi Go.Proofs.YtjfhkbpkiblkmaaDoor.nam Go.Proofs.YtjfhkbpkiblkmaaDoor.build_

def ltI (n : Int) : Bool := decide (65 ≤ n ∧ n ≤ 90)
def dgI (n : Int) : Bool := decide (48 ≤ n ∧ n ≤ 57)
theorem nc_I (c : UInt8) : nc c = (ltI (c.toNat : Nat) || dgI (c.toNat : Nat)) := by
  unfold nc ltr dig ltI dgI
  rw [decide_eq_decide.2 (show (65 ≤ c.toNat ∧ c.toNat ≤ 90) ↔ ((65 : Int) ≤ (c.toNat : Int) ∧ (c.toNat : Int) ≤ 90) by omega),
    decide_eq_decide.2 (show (48 ≤ c.toNat ∧ c.toNat ≤ 57) ↔ ((48 : Int) ≤ (c.toNat : Int) ∧ (c.toNat : Int) ≤ 57) by omega)]

theorem isLetter (x : Int) (w : World) :
    Calls Tryd.prog 42 #[.int .u8 x] w fun e w' => e = .returned (.bool (ltI x)) ∧ w = w' := by
  by_cases h1 : 65 ≤ x
  · have g1 : decide (65 ≤ x) = true := decide_eq_true h1
    by_cases h2 : x ≤ 90
    · have g2 : decide (x ≤ 90) = true := decide_eq_true h2
      have e : ltI x = true := decide_eq_true ⟨h1, h2⟩
      rw [e]
      clear h1 h2 e
      go_enter Tryd.func42, Tryd.ntmps42
      go_wp2
      go_ret
      exact ⟨rfl, rfl⟩
    · have g2 : decide (x ≤ 90) = false := decide_eq_false h2
      have e : ltI x = false := decide_eq_false (fun h => h2 h.2)
      rw [e]
      clear h1 h2 e
      go_enter Tryd.func42, Tryd.ntmps42
      go_wp2
      go_ret
      exact ⟨rfl, rfl⟩
  · have g1 : decide (65 ≤ x) = false := decide_eq_false h1
    have e : ltI x = false := decide_eq_false (fun h => h1 h.1)
    rw [e]
    clear h1 e
    go_enter Tryd.func42, Tryd.ntmps42
    go_wp2
    go_ret
    exact ⟨rfl, rfl⟩

theorem isDigit (x : Int) (w : World) :
    Calls Tryd.prog 43 #[.int .u8 x] w fun e w' => e = .returned (.bool (dgI x)) ∧ w = w' := by
  by_cases h1 : 48 ≤ x
  · have g1 : decide (48 ≤ x) = true := decide_eq_true h1
    by_cases h2 : x ≤ 57
    · have g2 : decide (x ≤ 57) = true := decide_eq_true h2
      have e : dgI x = true := decide_eq_true ⟨h1, h2⟩
      rw [e]
      clear h1 h2 e
      go_enter Tryd.func43, Tryd.ntmps43
      go_wp2
      go_ret
      exact ⟨rfl, rfl⟩
    · have g2 : decide (x ≤ 57) = false := decide_eq_false h2
      have e : dgI x = false := decide_eq_false (fun h => h2 h.2)
      rw [e]
      clear h1 h2 e
      go_enter Tryd.func43, Tryd.ntmps43
      go_wp2
      go_ret
      exact ⟨rfl, rfl⟩
  · have g1 : decide (48 ≤ x) = false := decide_eq_false h1
    have e : dgI x = false := decide_eq_false (fun h => h1 h.1)
    rw [e]
    clear h1 e
    go_enter Tryd.func43, Tryd.ntmps43
    go_wp2
    go_ret
    exact ⟨rfl, rfl⟩

theorem nm_at {s : ByteArray} {k : Nat} (hk : k < s.size) (h : nc s[k] = false) : nmB s = false := by
  have : s.data.toList.all nc = false := by
    rw [List.all_eq_false]
    exact ⟨s[k], Array.mem_toList_iff.2 (Array.getElem_mem (xs := s.data) (i := k) hk), by rw [h]; decide⟩
  unfold nmB nmL
  rw [this]; simp
theorem nm_size {s : ByteArray} (h : s.size < 1 ∨ 8 < s.size) : nmB s = false := by
  unfold nmB nmL
  rw [len_list, decide_eq_false (by omega)]; rfl
theorem nm_done {s : ByteArray} (h1 : 1 ≤ s.size) (h8 : s.size ≤ 8) (h : (s.data.toList.take s.size).all nc = true) : nmB s = true := by
  rw [List.take_of_length_le (by simp)] at h
  unfold nmB nmL
  rw [h, len_list, decide_eq_true (by omega)]; rfl
theorem isFlightName (s : ByteArray) (w : World) :
    Calls Tryd.prog 12 #[.string s] w fun e w' => e = .returned (.bool (nmB s)) ∧ w = w' := by
  by_cases h1 : s.size < 1
  · have d1 : decide ((s.size : Int) < 1) = true := decide_eq_true (by omega)
    have HN := Lib.hid (aid.ret_bool (nm_size (.inl h1)).symm)
    clear h1
    go_enter Tryd.func12, Tryd.ntmps12
    go_wp2_with fail
    go_ret
    exact ⟨HN.out, rfl⟩
  · have d1 : decide ((s.size : Int) < 1) = false := decide_eq_false (by omega)
    by_cases h8 : 8 < s.size
    · have d2 : decide ((8 : Int) < (s.size : Int)) = true := decide_eq_true (by omega)
      have HN := Lib.hid (aid.ret_bool (nm_size (.inr h8)).symm)
      clear h1 h8
      go_enter Tryd.func12, Tryd.ntmps12
      go_wp2_with fail
      go_ret
      exact ⟨HN.out, rfl⟩
    · have d2 : decide ((8 : Int) < (s.size : Int)) = false := decide_eq_false (by omega)
      have g1 : 1 ≤ s.size := by omega
      have g2 : s.size ≤ 8 := by omega
      clear h1 h8
      go_enter Tryd.func12, Tryd.ntmps12
      go_wp2_with fail
      clear d1 d2
      go_loop [14] (fun i => ∃ k : Nat, k ≤ s.size ∧ i = .int .i64 k ∧ (s.data.toList.take k).all nc = true) (fun i => s.size - (intOf i).toNat)
      case atStart => exact ⟨0, Nat.zero_le _, rfl, rfl⟩
      case round =>
        obtain ⟨k, hk, rfl, hok⟩ := hrel
        have HO := Lib.hid hok
        clear hok
        by_cases hlt : k < s.size
        · have hb := byte_lt s[k]
          have HL := Lib.hid (fun w => isLetter (s[k].toNat : Nat) w)
          have HD := Lib.hid (fun w => isDigit (s[k].toNat : Nat) w)
          have hnc := nc_I s[k]
          cases hl : ltI (s[k].toNat : Nat)
          · cases hd : dgI (s[k].toNat : Nat)
            · rw [hl, hd] at hnc
              have HN := Lib.hid (aid.ret_bool (nm_at hlt hnc).symm)
              rw [hl] at HL
              rw [hd] at HD
              clear hnc hl hd
              go_wp2_with (first
                | (go_at_call 42; refine (HL.out _).mono ?_; rintro e w' ⟨rfl, rfl⟩)
                | (go_at_call 43; refine (HD.out _).mono ?_; rintro e w' ⟨rfl, rfl⟩))
              go_ret
              exact ⟨HN.out, rfl⟩
            · rw [hl, hd] at hnc
              have HS := Lib.hid (show (s.data.toList.take (k + 1)).all nc = true by rw [take_snoc s k hlt, List.all_append, HO.out]; simp [hnc])
              rw [hl] at HL
              rw [hd] at HD
              clear hnc hl hd
              go_wp2_with (first
                | (go_at_call 42; refine (HL.out _).mono ?_; rintro e w' ⟨rfl, rfl⟩)
                | (go_at_call 43; refine (HD.out _).mono ?_; rintro e w' ⟨rfl, rfl⟩))
              go_round
              case rel => exact ⟨k + 1, by omega, by go_num, HS.out⟩
              case measure => simp [intOf]; omega
          · rw [hl] at hnc
            have HS := Lib.hid (show (s.data.toList.take (k + 1)).all nc = true by rw [take_snoc s k hlt, List.all_append, HO.out]; simp [hnc])
            rw [hl] at HL
            clear hnc hl
            go_wp2_with (first
              | (go_at_call 42; refine (HL.out _).mono ?_; rintro e w' ⟨rfl, rfl⟩)
              | (go_at_call 43; refine (HD.out _).mono ?_; rintro e w' ⟨rfl, rfl⟩))
            go_round
            case rel => exact ⟨k + 1, by omega, by go_num, HS.out⟩
            case measure => simp [intOf]; omega
        · obtain rfl : k = s.size := by omega
          have HN := Lib.hid (aid.ret_bool (nm_done g1 g2 HO.out).symm)
          go_wp2_with fail
          go_ret
          exact ⟨HN.out, rfl⟩

theorem and_fin : ∀ n : Fin 256, cc (UInt8.ofNat n.val) = true → bits .and .u8 (n.val : Nat) 63 = (cv (UInt8.ofNat n.val) : Nat) := by decide +kernel
theorem and_code {n : Int} (h0 : 0 ≤ n) (h1 : n ≤ 255) (h : 0 ≤ coI n) : bits .and .u8 n 63 = coI n := by
  obtain ⟨m, rfl⟩ := Int.eq_ofNat_of_zero_le h0
  have hm : m < 256 := by omega
  have a := coI_fin ⟨m, hm⟩
  have b := and_fin ⟨m, hm⟩
  simp only at a b
  rw [a] at h ⊢
  cases hc : cc (UInt8.ofNat m)
  · rw [hc] at h; simp at h
  · exact b hc
theorem coI_sp (n : Int) : 0 ≤ coI n ↔ (ltI n = true ∨ dgI n = true ∨ n = 32) := by
  unfold coI ltI dgI
  simp only [decide_eq_true_eq]
  split
  · omega
  · split <;> omega
theorem lc_no {n : Int} (h : ¬ 0 ≤ coI n) : Ending.returned (.tuple #[.int .i64 0, .bool false]) = .returned (.tuple #[.int .i64 (lcV n), .bool (lcB n)]) := by
  unfold lcV lcB; rw [decide_eq_false h]; rfl
theorem lc_yes {n r : Int} (h : 0 ≤ coI n) (hr : r = coI n) : Ending.returned (.tuple #[.int .i64 r, .bool true]) = .returned (.tuple #[.int .i64 (lcV n), .bool (lcB n)]) := by
  unfold lcV lcB; rw [decide_eq_true h, hr]; rfl
theorem letterCode (n : Int) (w : World) (h0 : 0 ≤ n) (h1 : n ≤ 255) :
    Calls Tryd.prog 19 #[.int .u8 n] w fun e w' => e = .returned (.tuple #[.int .i64 (lcV n), .bool (lcB n)]) ∧ w = w' := by
  have HL := Lib.hid (fun w => isLetter n w)
  have HD := Lib.hid (fun w => isDigit n w)
  have hsp := coI_sp n
  by_cases hy : 0 ≤ coI n
  · have ha := and_code h0 h1 hy
    have HY := Lib.hid (lc_yes hy rfl)
    have hb := (coI_bd n).2 h1
    have hq := hsp.1 hy
    generalize coI n = v at *
    cases hl : ltI n
    · rw [hl] at HL
      cases hd : dgI n
      · rw [hd] at HD
        have h32 : n = 32 := by rw [hl, hd] at hq; simpa using hq
        have h2 : (n != 32) = false := by subst h32; rfl
        clear hq hsp hl hd h32
        go_enter Tryd.func19, Tryd.ntmps19
        go_wp2_with (first
          | (go_at_call 42; refine (HL.out _).mono ?_; rintro e w' ⟨rfl, rfl⟩)
          | (go_at_call 43; refine (HD.out _).mono ?_; rintro e w' ⟨rfl, rfl⟩))
        go_ret2
        exact ⟨HY.out, rfl⟩
      · rw [hd] at HD
        clear hq hsp hl hd
        go_enter Tryd.func19, Tryd.ntmps19
        go_wp2_with (first
          | (go_at_call 42; refine (HL.out _).mono ?_; rintro e w' ⟨rfl, rfl⟩)
          | (go_at_call 43; refine (HD.out _).mono ?_; rintro e w' ⟨rfl, rfl⟩))
        go_ret2
        exact ⟨HY.out, rfl⟩
    · rw [hl] at HL
      clear hq hsp hl
      go_enter Tryd.func19, Tryd.ntmps19
      go_wp2_with (first
        | (go_at_call 42; refine (HL.out _).mono ?_; rintro e w' ⟨rfl, rfl⟩)
        | (go_at_call 43; refine (HD.out _).mono ?_; rintro e w' ⟨rfl, rfl⟩))
      go_ret2
      exact ⟨HY.out, rfl⟩
  · have HN := Lib.hid (lc_no hy)
    have hq := fun h => hy (hsp.2 h)
    have hl : ltI n = false := by cases h : ltI n; rfl; exact absurd (.inl h) hq
    have hd : dgI n = false := by cases h : dgI n; rfl; exact absurd (.inr (.inl h)) hq
    have h2 : (n != 32) = true := by rw [bne_iff_ne]; exact fun h => hq (.inr (.inr h))
    rw [hl] at HL
    rw [hd] at HD
    clear hq hsp hl hd hy
    go_enter Tryd.func19, Tryd.ntmps19
    go_wp2_with (first
      | (go_at_call 42; refine (HL.out _).mono ?_; rintro e w' ⟨rfl, rfl⟩)
      | (go_at_call 43; refine (HD.out _).mono ?_; rintro e w' ⟨rfl, rfl⟩))
    go_ret2
    exact ⟨HN.out, rfl⟩

theorem lf_no {n : Int} (h : loI n = 0) : Ending.returned (.tuple #[.int .u8 0, .bool false]) = .returned (.tuple #[.int .u8 (loI n), .bool (lfB n)]) := by
  unfold lfB; rw [h]; rfl
theorem lf_yes {n r : Int} (h : 0 < loI n) (hr : r = loI n) : Ending.returned (.tuple #[.int .u8 r, .bool true]) = .returned (.tuple #[.int .u8 (loI n), .bool (lfB n)]) := by
  unfold lfB; rw [decide_eq_true h, hr]
/-- The byte that impl tries for a code. -/
def tryI (n : Int) : Int := if n < 32 then n + 64 else n
theorem try_fin : ∀ n : Fin 64, lcB (tryI (n.val : Nat)) = lfB (n.val : Nat) ∧ (lfB (n.val : Nat) = true → tryI (n.val : Nat) = loI (n.val : Nat)) := by decide +kernel
theorem try_all {n : Int} (h0 : 0 ≤ n) (h1 : n ≤ 63) : lcB (tryI n) = lfB n ∧ (lfB n = true → tryI n = loI n) := by
  obtain ⟨m, rfl⟩ := Int.eq_ofNat_of_zero_le h0
  exact try_fin ⟨m, by omega⟩
theorem loI_out {n : Int} (h : n < 0 ∨ 63 < n) : loI n = 0 := by unfold loI; rw [if_neg (by omega), if_neg (by omega)]
theorem letterOf (n : Int) (w : World) :
    Calls Tryd.prog 21 #[.int .i64 n] w fun e w' => e = .returned (.tuple #[.int .u8 (loI n), .bool (lfB n)]) ∧ w = w' := by
  by_cases h0 : n < 0
  · have HN := Lib.hid (lf_no (loI_out (.inl h0)))
    have d0 : decide (n < 0) = true := decide_eq_true h0
    clear h0
    go_enter Tryd.func21, Tryd.ntmps21
    go_wp2_with fail
    go_ret2
    exact ⟨HN.out, rfl⟩
  · have d0 : decide (n < 0) = false := decide_eq_false h0
    by_cases h1 : 63 < n
    · have HN := Lib.hid (lf_no (loI_out (.inr h1)))
      have d1 : decide (63 < n) = true := decide_eq_true h1
      clear h0 h1
      go_enter Tryd.func21, Tryd.ntmps21
      go_wp2_with fail
      go_ret2
      exact ⟨HN.out, rfl⟩
    · have d1 : decide (63 < n) = false := decide_eq_false h1
      have g0 : 0 ≤ n := by omega
      have g1 : n ≤ 63 := by omega
      have ht := try_all g0 g1
      by_cases h32 : n < 32
      · have e1 : tryI n = n + 64 := if_pos h32
        rw [e1] at ht
        have HC := Lib.hid (fun w => letterCode (n + 64) w (by omega) (by omega))
        rw [ht.1] at HC
        have hh := ht.2
        generalize lcV (n + 64) = x at *
        cases hb : lfB n
        · have HN := Lib.hid (lf_no (n := n) (by have := loI_bd n; have h2 : ¬ 0 < loI n := of_decide_eq_false hb; omega))
          rw [hb] at HC HN
          clear h0 h1 hh ht e1 hb
          go_enter Tryd.func21, Tryd.ntmps21
          go_wp2_with (go_at_call 19; refine (HC.out _).mono ?_; rintro e w' ⟨rfl, rfl⟩)
          go_ret2
          exact ⟨HN.out, rfl⟩
        · have HN := Lib.hid (lf_yes (of_decide_eq_true hb) (hh hb))
          rw [hb] at HC HN
          clear h0 h1 hh ht e1 hb
          go_enter Tryd.func21, Tryd.ntmps21
          go_wp2_with (go_at_call 19; refine (HC.out _).mono ?_; rintro e w' ⟨rfl, rfl⟩)
          go_ret2
          exact ⟨HN.out, rfl⟩
      · have e1 : tryI n = n := if_neg h32
        have g2 : 32 ≤ n := by omega
        rw [e1] at ht
        have HC := Lib.hid (fun w => letterCode n w (by omega) (by omega))
        rw [ht.1] at HC
        have hh := ht.2
        generalize lcV n = x at *
        cases hb : lfB n
        · have HN := Lib.hid (lf_no (n := n) (by have := loI_bd n; have h2 : ¬ 0 < loI n := of_decide_eq_false hb; omega))
          rw [hb] at HC HN
          clear h0 h1 hh ht e1 hb h32
          go_enter Tryd.func21, Tryd.ntmps21
          go_wp2_with (go_at_call 19; refine (HC.out _).mono ?_; rintro e w' ⟨rfl, rfl⟩)
          go_ret2
          exact ⟨HN.out, rfl⟩
        · have HN := Lib.hid (lf_yes (of_decide_eq_true hb) (hh hb))
          rw [hb] at HC HN
          clear h0 h1 hh ht e1 hb h32
          go_enter Tryd.func21, Tryd.ntmps21
          go_wp2_with (go_at_call 19; refine (HC.out _).mono ?_; rintro e w' ⟨rfl, rfl⟩)
          go_ret2
          exact ⟨HN.out, rfl⟩

theorem holds_below {B b : Nat} {l : List UInt8} {w w' : World} (h : Holds B b l w) (hb : Below w.heap.size w w') : Holds B b l w' := by
  rcases h with ⟨h1, v, h2, h3, h4⟩ | ⟨h1, v, h2, h3, h4⟩
  · exact .inl ⟨h1, v, (hb.block b (Array.getElem?_eq_some_iff.1 h2).1).trans h2, own_.own_below h3 hb, h4⟩
  · exact .inr ⟨h1, v, (hb.block b (Array.getElem?_eq_some_iff.1 h2).1).trans h2, own_.own_below h3 hb, h4⟩
theorem rep32 : ∀ c, Lib.repeatL [32] c = List.replicate c 32
  | 0 => rfl
  | c + 1 => by rw [Lib.repeatL, rep32 c]; rfl
/-- A name with its spaces. -/
theorem padded (s : ByteArray) (h : s.size ≤ 8) : ∃ t p : ByteArray, t.data.toList = List.replicate (8 - s.size) 32 ∧ t.size ≤ 8 ∧ s ++ t = p ∧ p.size = 8 ∧ ∀ k (hk : k < p.size), p[k] = pd s.data.toList k := by
  have h1 : (⟨(List.replicate (8 - s.size) (32 : UInt8)).toArray⟩ : ByteArray).size = 8 - s.size := by
    show (List.replicate (8 - s.size) (32 : UInt8)).toArray.size = _
    simp
  refine ⟨⟨(List.replicate (8 - s.size) 32).toArray⟩, _, rfl, by omega, rfl, by rw [ByteArray.size_append, h1]; omega, fun k hk => ?_⟩
  have e : ∀ (p : ByteArray) (hk : k < p.size), p[k] = p.data.toList.getD k 32 := fun p hk => by
    rw [List.getD_eq_getElem?_getD, List.getElem?_eq_getElem (by rw [len_list]; exact hk)]; rfl
  rw [e, aid.str_app]
  unfold pd
  rw [List.getD_eq_getElem?_getD, List.getD_eq_getElem?_getD]
  show ((s.data.toList ++ List.replicate (8 - s.size) 32)[k]?).getD 32 = _
  rcases Nat.lt_or_ge k s.data.toList.length with hl | hl
  · rw [List.getElem?_append_left hl]
  · rw [List.getElem?_append_right hl, List.getElem?_eq_none hl, List.getElem?_replicate]
    split <;> rfl
theorem bits6 (c : UInt8) (w : World) : Calls Tryd.prog 37 #[.int .i64 (cv c : Nat), .int .i64 6] w
    fun e w' => e = .returned (.tuple #[.string ⟨(enc 2 6 (cv c)).toArray⟩, .bool true]) ∧ Below w.heap.size w w' := by
  have hc := cv_lt c
  have hb : bofB (cv c : Nat) 6 = true := by
    unfold bofB
    refine decide_eq_true ⟨by omega, by omega, by omega, ?_⟩
    show cv c < 2 ^ 6
    omega
  have := bitsOf (cv c : Nat) 6 w (by omega)
  unfold bofT at this
  rw [hb] at this
  exact this
theorem code_of (c : UInt8) (w : World) (h : cc c = true) : Calls Tryd.prog 19 #[.int .u8 c.toNat] w fun e w' => e = .returned (.tuple #[.int .i64 (cv c : Nat), .bool true]) ∧ w = w' := by
  have := letterCode (c.toNat : Nat) w (by omega) (by have := c.toNat_lt; omega)
  have hb : lcB (c.toNat : Nat) = true := by unfold lcB; rw [coI_yes h]; exact decide_eq_true (by omega)
  unfold lcV at this
  rw [hb, coI_yes h] at this
  exact this
theorem nb_no {s : ByteArray} (h : nmB s = false) : Ending.returned (.tuple #[.string ⟨#[]⟩, .bool false]) = .returned (.tuple #[.string (nbT s), .bool (nmB s)]) := str_no h
theorem nb_yes {s : ByteArray} (h : nmB s = true) : Ending.returned (.tuple #[.string (nbA s), .bool true]) = .returned (.tuple #[.string (nbT s), .bool (nmB s)]) := str_yes h rfl
theorem nbk_step (l : List UInt8) (k : Nat) (c : UInt8) (h : c = pd l k) : nbL l k ++ (⟨(enc 2 6 (cv c)).toArray⟩ : ByteArray).data.toList = nbL l (k + 1) := by subst h; rfl
theorem nameBits (s : ByteArray) (w : World) :
    Calls Tryd.prog 10 #[.string s] w fun e w' => e = .returned (.tuple #[.string (nbT s), .bool (nmB s)]) ∧ Below w.heap.size w w' := by
  have hn := fun w => isFlightName s w
  cases hb : nmB s
  · have HN := Lib.hid (nb_no hb)
    rw [hb] at hn HN
    have HC := Lib.hid hn
    clear hn hb
    go_enter Tryd.func10, Tryd.ntmps10
    go_wp2_with (go_at_call 12; refine (HC.out _).mono ?_; rintro e w' ⟨rfl, rfl⟩)
    go_ret2
    exact ⟨HN.out, Below.refl _ _⟩
  · have HY := Lib.hid (nb_yes hb)
    have HA := Lib.hid (fun k => pd_cc hb k)
    have hl := nm_len hb
    rw [len_list] at hl
    obtain ⟨hl1, hl8⟩ := hl
    obtain ⟨t, p, ht, ht8, hp, hp8, hpk⟩ := padded s hl8
    have hr : ∀ w, Calls Tryd.prog 36 #[.string ⟨#[32]⟩, .int .i64 (8 - (s.size : Int))] w fun e w' => e = .returned (.string t) ∧ Below w.heap.size w w' := fun w => by
      have := Tryd.strings_Repeat ⟨#[32]⟩ (8 - s.size) w (by omega) (by show 1 * (8 - s.size) ≤ _; omega)
      rw [show ((8 - s.size : Nat) : Int) = 8 - (s.size : Int) by omega, show (⟨#[32]⟩ : ByteArray).data.toList = [32] from rfl, rep32, ← ht] at this
      exact this
    rw [hb] at hn HY
    have HC := Lib.hid hn
    have HR := Lib.hid hr
    have HK := Lib.hid hpk
    have HZ := Lib.hid hp8
    have hps : p.size ≤ 8 := by omega
    clear hn hb hr ht hpk hp8 hl1
    go_enter Tryd.func10, Tryd.ntmps10
    go_wp2_with fail
    refine (HC.out _).mono ?_
    rintro e w' ⟨rfl, rfl⟩
    go_wp2_with fail
    refine (HR.out _).mono ?_
    rintro e w1 ⟨rfl, hb1⟩
    have H0 := fresh w1
    go_wp2_with fail
    clear hp
    go_loopw [22] (fun i wr => ∃ k : Nat, k ≤ p.size ∧ i = .int .i64 k ∧ Holds w1.heap.size w1.heap.size (nbL s.data.toList k) wr ∧ Below w1.heap.size w1 wr) (fun i _ => p.size - (intOf i).toNat)
    case atStart => exact ⟨0, Nat.zero_le _, rfl, H0, (Below.refl _ _).alloc (Nat.le_refl _) _⟩
    case round =>
      obtain ⟨k, hk, rfl, hh, hbw⟩ := hrel
      have HH := Lib.hid hh
      clear hh
      by_cases hlt : k < p.size
      · have hpd := HK.out k hlt
        have hcc := HA.out k
        rw [← hpd] at hcc
        have HCo := Lib.hid (fun w => code_of p[k] w hcc)
        have HB6 := Lib.hid (fun w => bits6 p[k] w)
        have HST := Lib.hid (nbk_step s.data.toList k _ hpd)
        have hz : (⟨(enc 2 6 (cv p[k])).toArray⟩ : ByteArray).size ≤ 6 := Nat.le_of_eq (enc_length 2 6 _)
        have hbl := byte_lt p[k]
        clear hpd hcc
        generalize (⟨(enc 2 6 (cv p[k])).toArray⟩ : ByteArray) = u at *
        generalize cv p[k] = v at *
        go_wp2_with fail
        refine (HCo.out _).mono ?_
        rintro e w2 ⟨rfl, rfl⟩
        go_wp2_with fail
        refine (HB6.out _).mono ?_
        rintro e w2 ⟨rfl, hb2⟩
        go_wp2_with fail
        have hh2 : Holds w1.heap.size w1.heap.size (nbL s.data.toList k) w2 := holds_below HH.out hb2
        refine (writeS w1.heap.size w1.heap.size (nbL s.data.toList k) u w2 hh2 (by rw [nbL_length]; omega) (by omega) (by have := hbw.size; have := hb2.size; omega)).mono ?_
        rintro e w3 ⟨rfl, h3, hb3⟩
        rw [HST.out] at h3
        have hb4 := (hbw.trans (hb2.mono hbw.size)).trans hb3
        clear HH hb2 hbw hb3 hh2 H0
        go_wp2_with fail
        go_roundw
        case rel => exact ⟨k + 1, by omega, by go_num, h3, hb4⟩
        case measure => simp [intOf]; omega
      · obtain rfl : k = 8 := by have := HZ.out; omega
        have ht := text w1.heap.size w1.heap.size (nbL s.data.toList 8) wr HH.out hbw.size
        have HT := Lib.hid ht
        clear ht
        have hb5 := hb1.trans (hbw.mono hb1.size)
        go_wp2_with fail
        refine HT.out.mono ?_
        rintro e w2 ⟨rfl, hb2⟩
        go_wp2_with fail
        go_ret2
        exact ⟨HY.out, hb5.trans (hb2.mono (by have := hb1.size; have := hbw.size; omega))⟩
end Go.Proofs.YtjfhkbpkiblkmaaDoor.nami
