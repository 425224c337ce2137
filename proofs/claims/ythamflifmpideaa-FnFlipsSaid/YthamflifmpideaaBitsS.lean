/- The contracts of chapter 2's functions of spec, in the same words as impl's. -/
import Derived.Test.YthamflifmpideaaHexS
import Derived.Test.YthamflifmpideaaIn
namespace Go.Proofs.Ythamflifmpideaa.bitss
open Go.RowKit Go.Proofs.Ythamflifmpideaa.bin Go.Proofs.Ythamflifmpideaa.good_ Go.Proofs.Ythamflifmpideaa.bitsi Go.Proofs.Ythamflifmpideaa.hexs Go.Proofs.Ythamflifmpideaa.in_

theorem isBits (s : ByteArray) (w : World) (hs : s.size ≤ maxLen) : Calls Try.prog 29 #[.string s] w fun e w' => e = .returned (.bool (rdB 2 64 s)) ∧ w = w' := by
  have HC := Lib.hid (fun w => good s w hs)
  generalize rdB 2 64 s = b at *
  go_enter Try.func29, Try.ntmps29
  go_wp2_with (go_at_call 46; refine (HC.out _).mono ?_; rintro e w' ⟨rfl, rfl⟩)
  go_ret
  exact ⟨rfl, rfl⟩

theorem wrap_pow_i {j : Nat} (h : 2 ^ j ≤ 1073741824) : IntKind.i64.wrap ((2 : Int) ^ j) = ((2 ^ j : Nat) : Int) := by
  have e : (2 : Int) ^ j = ((2 ^ j : Nat) : Int) := by simp
  rw [e]
  clear e
  generalize (2 : Nat) ^ j = p at *
  exact IntWalk.i64_in _ (by omega)

theorem bitsOf (n m : Int) (w : World) (hn : n ≤ 9223372036854775807) : Calls Try.prog 18 #[.int .i64 n, .int .i64 m] w
    fun e w' => e = .returned (.tuple #[.string (bofT n m), .bool (bofB n m)]) ∧ Below w.heap.size w w' := by
  have hi := fun w => l1In m 0 30 w
  by_cases h1 : 0 ≤ m ∧ m ≤ 30
  · have e1 : isIn m 0 30 = true := decide_eq_true h1
    rw [e1] at hi
    have HI := Lib.hid hi
    obtain ⟨k, rfl⟩ := Int.eq_ofNat_of_zero_le h1.1
    have hk : k ≤ 30 := by omega
    have hp : (2 : Nat) ^ k ≤ 2 ^ 30 := Nat.pow_le_pow_right (by omega) hk
    have hp0 : 0 < (2 : Nat) ^ k := Nat.pow_pos (by omega)
    have f1 : IntKind.u64.wrap (k : Int) = (k : Int) := IntWalk.u64_in _ (by omega)
    have f2 := wrap_pow_i (j := k) hp
    have f3 : ((k : Nat) : Int) ≤ 64 := by omega
    have f4 : IntKind.i64.wrap (((2 ^ k : Nat) : Int) - 1) = ((2 ^ k - 1 : Nat) : Int) := (IntWalk.i64_in _ (by omega)).trans (by omega)
    have HJ := Lib.hid (fun w => l1In n 0 ((2 ^ k - 1 : Nat) : Int) w)
    by_cases h2 : 0 ≤ n ∧ n ≤ ((2 ^ k - 1 : Nat) : Int)
    · have e2 : isIn n 0 ((2 ^ k - 1 : Nat) : Int) = true := decide_eq_true h2
      have HY := Lib.hid (bof_yes (n := n) (m := (k : Int)) (by unfold bofB; exact decide_eq_true (by rw [Int.toNat_natCast]; omega)))
      obtain ⟨a, rfl⟩ := Int.eq_ofNat_of_zero_le h2.1
      simp only [Int.toNat_natCast] at HY
      rw [e2] at HJ
      have HW := Lib.hid (fun w => ofN a k w hn (by omega))
      clear h1 h2 e1 e2 hi hp hp0 hk
      generalize (2 : Nat) ^ k - 1 = q at *
      generalize (2 : Nat) ^ k = p at f2 f4
      go_enter Try.func18, Try.ntmps18
      go_wp2_with fail
      refine (HI.out _).mono ?_
      rintro e w' ⟨rfl, rfl⟩
      go_wp2_with fail
      refine (HJ.out _).mono ?_
      rintro e w' ⟨rfl, rfl⟩
      go_wp2_with fail
      refine (HW.out _).mono ?_
      rintro e w' ⟨rfl, rfl⟩
      go_wp2_with fail
      go_ret2
      exact ⟨HY.out, Below.refl _ _⟩
    · have e2 : isIn n 0 ((2 ^ k - 1 : Nat) : Int) = false := decide_eq_false h2
      have HN := Lib.hid (bof_no (n := n) (m := (k : Int)) (by unfold bofB; exact decide_eq_false (by rw [Int.toNat_natCast]; omega)))
      rw [e2] at HJ
      clear h1 h2 e1 e2 hi hp hp0 hk
      generalize (2 : Nat) ^ k - 1 = q at *
      generalize (2 : Nat) ^ k = p at f2 f4
      go_enter Try.func18, Try.ntmps18
      go_wp2_with fail
      refine (HI.out _).mono ?_
      rintro e w' ⟨rfl, rfl⟩
      go_wp2_with fail
      refine (HJ.out _).mono ?_
      rintro e w' ⟨rfl, rfl⟩
      go_wp2_with fail
      go_ret2
      exact ⟨HN.out, Below.refl _ _⟩
  · have e1 : isIn m 0 30 = false := decide_eq_false h1
    rw [e1] at hi
    have HI := Lib.hid hi
    have HN := Lib.hid (bof_no (n := n) (m := m) (by unfold bofB; exact decide_eq_false (by omega)))
    clear h1 e1 hi
    go_enter Try.func18, Try.ntmps18
    go_wp2_with fail
    refine (HI.out _).mono ?_
    rintro e w' ⟨rfl, rfl⟩
    go_wp2_with fail
    go_ret2
    exact ⟨HN.out, Below.refl _ _⟩

theorem numberOf (s : ByteArray) (w : World) (hm : s.size ≤ maxLen) : Calls Try.prog 37 #[.string s] w
    fun e w' => e = .returned (.tuple #[.int .i64 (numV s), .bool (rdB 2 30 s)]) ∧ w = w' := by
  have hc := fun w => good s w hm
  have hp := rd_part (B := 2) (m := 30) (n := 64) (s := s) (by omega)
  cases hb : rdB 2 64 s
  · have HN := Lib.hid (num_no s (by rw [hp, hb]; rfl))
    rw [hb] at hc
    have HC := Lib.hid hc
    clear hc hp hb hm
    go_enter Try.func37, Try.ntmps37
    go_wp2_with (go_at_call 46; refine (HC.out _).mono ?_; rintro e w' ⟨rfl, rfl⟩)
    go_ret2
    exact ⟨HN.out, rfl⟩
  · rw [hb] at hc
    by_cases hs : s.size ≤ 30
    · have hd : decide ((30 : Int) < (s.size : Int)) = false := decide_eq_false (by omega)
      have HN := Lib.hid (num_yes s (by rw [hp, hb, decide_eq_true hs]; rfl) rfl)
      have HW := Lib.hid (fun w => number s w (by omega) (rd_ok hb).2)
      have HC := Lib.hid hc
      clear hc hp hb hs hm
      go_enter Try.func37, Try.ntmps37
      go_wp2_with (first
        | (go_at_call 46; refine (HC.out _).mono ?_; rintro e w' ⟨rfl, rfl⟩)
        | (go_at_call 53; refine (HW.out _).mono ?_; rintro e w' ⟨rfl, rfl⟩))
      go_ret2
      exact ⟨HN.out, rfl⟩
    · have hd : decide ((30 : Int) < (s.size : Int)) = true := decide_eq_true (by omega)
      have HN := Lib.hid (num_no s (by rw [hp, hb, decide_eq_false hs]; rfl))
      have HC := Lib.hid hc
      clear hc hp hb hs hm
      go_enter Try.func37, Try.ntmps37
      go_wp2_with (go_at_call 46; refine (HC.out _).mono ?_; rintro e w' ⟨rfl, rfl⟩)
      go_ret2
      exact ⟨HN.out, rfl⟩

theorem xorBits (a b : ByteArray) (w : World) (hma : a.size ≤ maxLen) (hmb : b.size ≤ maxLen) : Calls Try.prog 36 #[.string a, .string b] w
    fun e w' => e = .returned (.tuple #[.string (xorT a b), .bool (xorB a b)]) ∧ Below w.heap.size w w' := by
  have ha0 := fun w => good a w hma
  have hb0 := fun w => good b w hmb
  cases ha : rdB 2 64 a
  · have HN := Lib.hid (xor_no (a := a) (b := b) (by unfold xorB; rw [ha]; rfl))
    rw [ha] at ha0
    have HA := Lib.hid ha0
    clear ha ha0 hb0 hma hmb
    go_enter Try.func36, Try.ntmps36
    go_wp2_with fail
    refine (HA.out _).mono ?_
    rintro e w' ⟨rfl, rfl⟩
    go_wp2_with fail
    go_ret2
    exact ⟨HN.out, Below.refl _ _⟩
  · rw [ha] at ha0
    cases hb : rdB 2 64 b
    · have HN := Lib.hid (xor_no (a := a) (b := b) (by unfold xorB; rw [hb]; simp))
      rw [hb] at hb0
      have HA := Lib.hid ha0
      have HB := Lib.hid hb0
      clear ha ha0 hb hb0 hma hmb
      go_enter Try.func36, Try.ntmps36
      go_wp2_with fail
      refine (HA.out _).mono ?_
      rintro e w' ⟨rfl, rfl⟩
      go_wp2_with fail
      refine (HB.out _).mono ?_
      rintro e w' ⟨rfl, rfl⟩
      go_wp2_with fail
      go_ret2
      exact ⟨HN.out, Below.refl _ _⟩
    · rw [hb] at hb0
      by_cases hs : a.size = b.size
      · have d1 : ((a.size : Int) != (b.size : Int)) = false := by simp; omega
        have HY := Lib.hid (fun u h => xor_yes (u := u) (show xorB a b = true by unfold xorB; rw [ha, hb, decide_eq_true hs]; rfl) h)
        have HW := Lib.hid (fun w => l2Xor a b w hs (rd_ok ha).1)
        have HA := Lib.hid ha0
        have HB := Lib.hid hb0
        clear ha ha0 hb hb0 hma hmb hs
        go_enter Try.func36, Try.ntmps36
        go_wp2_with fail
        refine (HA.out _).mono ?_
        rintro e w' ⟨rfl, rfl⟩
        go_wp2_with fail
        refine (HB.out _).mono ?_
        rintro e w' ⟨rfl, rfl⟩
        go_wp2_with fail
        refine (HW.out _).mono ?_
        rintro e w' ⟨rfl, hbl⟩
        go_wp2_with fail
        go_ret2
        exact ⟨HY.out _ rfl, hbl⟩
      · have d1 : ((a.size : Int) != (b.size : Int)) = true := by simp; omega
        have HN := Lib.hid (xor_no (a := a) (b := b) (by unfold xorB; rw [decide_eq_false hs]; simp))
        have HA := Lib.hid ha0
        have HB := Lib.hid hb0
        clear ha ha0 hb hb0 hma hmb hs
        go_enter Try.func36, Try.ntmps36
        go_wp2_with fail
        refine (HA.out _).mono ?_
        rintro e w' ⟨rfl, rfl⟩
        go_wp2_with fail
        refine (HB.out _).mono ?_
        rintro e w' ⟨rfl, rfl⟩
        go_wp2_with fail
        go_ret2
        exact ⟨HN.out, Below.refl _ _⟩

theorem ones_no (s : ByteArray) (h : rdB 2 64 s = false) : Ending.returned (.tuple #[.int .i64 0, .bool false]) = .returned (.tuple #[.int .i64 (onesV s), .bool (rdB 2 64 s)]) := int_no h
theorem ones_yes (s : ByteArray) (h : rdB 2 64 s = true) : Ending.returned (.tuple #[.int .i64 (ones s.data.toList), .bool true]) = .returned (.tuple #[.int .i64 (onesV s), .bool (rdB 2 64 s)]) := int_yes h rfl
theorem countOnes (s : ByteArray) (w : World) (hm : s.size ≤ maxLen) : Calls Try.prog 38 #[.string s] w
    fun e w' => e = .returned (.tuple #[.int .i64 (onesV s), .bool (rdB 2 64 s)]) ∧ w = w' := by
  have hc := fun w => good s w hm
  have hno := ones_no s
  have hyes := ones_yes s
  cases hb : rdB 2 64 s
  · have HN := Lib.hid (hno hb)
    rw [hb] at hc HN
    have HC := Lib.hid hc
    clear hc hb hm hno hyes
    go_enter Try.func38, Try.ntmps38
    go_wp2_with (go_at_call 46; refine (HC.out _).mono ?_; rintro e w' ⟨rfl, rfl⟩)
    go_ret2
    exact ⟨HN.out, rfl⟩
  · have HN := Lib.hid (hyes hb)
    rw [hb] at hc HN
    have HC := Lib.hid hc
    have HW := Lib.hid (fun w => onesN s w (rd_ok hb).1)
    clear hc hb hm hno hyes
    go_enter Try.func38, Try.ntmps38
    go_wp2_with (first
      | (go_at_call 46; refine (HC.out _).mono ?_; rintro e w' ⟨rfl, rfl⟩)
      | (go_at_call 58; refine (HW.out _).mono ?_; rintro e w' ⟨rfl, rfl⟩))
    go_ret2
    exact ⟨HN.out, rfl⟩

theorem flipBit (s : ByteArray) (i : Int) (w : World) (hm : s.size ≤ maxLen) : Calls Try.prog 32 #[.string s, .int .i64 i] w
    fun e w' => e = .returned (.tuple #[.string (flipV s i), .bool (flipB s i)]) ∧ Below w.heap.size w w' := by
  have hc := fun w => good s w hm
  have e1 : IntKind.i64.wrap ((s.size : Int) - 1) = (s.size : Int) - 1 := IntWalk.i64_in _ (by unfold maxLen at hm; omega)
  cases hb : rdB 2 64 s
  · have HN := Lib.hid (flip_no (s := s) (i := i) (by unfold flipB; rw [hb]; rfl))
    rw [hb] at hc
    have HC := Lib.hid hc
    clear hc hb hm
    go_enter Try.func32, Try.ntmps32
    go_wp2_with (go_at_call 46; refine (HC.out _).mono ?_; rintro e w' ⟨rfl, rfl⟩)
    go_ret2
    exact ⟨HN.out, Below.refl _ _⟩
  · rw [hb] at hc
    have hin := fun w => l1In i 0 ((s.size : Int) - 1) w
    by_cases h1 : 0 ≤ i ∧ i ≤ (s.size : Int) - 1
    · have e2 : isIn i 0 ((s.size : Int) - 1) = true := decide_eq_true h1
      rw [e2] at hin
      have HI := Lib.hid hin
      have HY := Lib.hid (flip_yes (s := s) (i := i) (by unfold flipB; rw [hb, decide_eq_true (by omega)]; rfl) rfl)
      obtain ⟨k, rfl⟩ := Int.eq_ofNat_of_zero_le h1.1
      rw [Int.toNat_natCast] at HY
      have HW := Lib.hid (fun w => flipN s k w (rd_ok hb).1 (by omega))
      have HC := Lib.hid hc
      clear hc hb hm h1 e2 hin
      go_enter Try.func32, Try.ntmps32
      go_wp2_with fail
      refine (HC.out _).mono ?_
      rintro e w' ⟨rfl, rfl⟩
      go_wp2_with fail
      refine (HI.out _).mono ?_
      rintro e w' ⟨rfl, rfl⟩
      go_wp2_with fail
      refine (HW.out _).mono ?_
      rintro e w' ⟨rfl, j, rfl⟩
      go_wp2_with fail
      go_ret2
      exact ⟨HY.out, aid.below_drewN (Below.refl _ _) _⟩
    · have e2 : isIn i 0 ((s.size : Int) - 1) = false := decide_eq_false h1
      rw [e2] at hin
      have HI := Lib.hid hin
      have HN := Lib.hid (flip_no (s := s) (i := i) (by unfold flipB; rw [decide_eq_false (by omega)]; simp))
      have HC := Lib.hid hc
      clear hc hb hm h1 e2 hin
      go_enter Try.func32, Try.ntmps32
      go_wp2_with fail
      refine (HC.out _).mono ?_
      rintro e w' ⟨rfl, rfl⟩
      go_wp2_with fail
      refine (HI.out _).mono ?_
      rintro e w' ⟨rfl, rfl⟩
      go_wp2_with fail
      go_ret2
      exact ⟨HN.out, Below.refl _ _⟩

theorem hexOf (s : ByteArray) (w : World) (hm : s.size ≤ maxLen) : Calls Try.prog 22 #[.string s] w
    fun e w' => e = .returned (.tuple #[.string (hexT s), .bool (hexB s)]) ∧ w = w' := by
  have hc := fun w => good s w hm
  have e1 : ((s.size : Int)).tmod 4 = (s.size : Int) % 4 := by rw [Int.tmod_eq_emod_of_nonneg (by omega)]
  cases hb : rdB 2 64 s
  · have HN := Lib.hid (hex_no (s := s) (by unfold hexB; rw [hb]; rfl))
    rw [hb] at hc
    have HC := Lib.hid hc
    clear hc hb hm
    go_enter Try.func22, Try.ntmps22
    go_wp2_with (go_at_call 46; refine (HC.out _).mono ?_; rintro e w' ⟨rfl, rfl⟩)
    go_ret2
    exact ⟨HN.out, rfl⟩
  · rw [hb] at hc
    have HC := Lib.hid hc
    have hsz := (rd_ok hb).1
    by_cases h4 : s.size % 4 = 0
    · have d1 : ((s.size : Int) % 4 != 0) = false := by simp; omega
      have HY := Lib.hid (hex_yes (s := s) (by unfold hexB; rw [hb, decide_eq_true h4]; rfl))
      have HW := Lib.hid (fun w => l2Hex s w (rd_ok hb).1 h4 (rd_ok hb).2)
      clear hc hb hm h4
      go_enter Try.func22, Try.ntmps22
      go_wp2_with fail
      refine (HC.out _).mono ?_
      rintro e w' ⟨rfl, rfl⟩
      go_wp2_with fail
      refine (HW.out _).mono ?_
      rintro e w' ⟨rfl, rfl⟩
      go_wp2_with fail
      go_ret2
      exact ⟨HY.out, rfl⟩
    · have d1 : ((s.size : Int) % 4 != 0) = true := by simp; omega
      have HN := Lib.hid (hex_no (s := s) (by unfold hexB; rw [decide_eq_false h4]; simp))
      clear hc hb hm h4
      go_enter Try.func22, Try.ntmps22
      go_wp2_with (go_at_call 46; refine (HC.out _).mono ?_; rintro e w' ⟨rfl, rfl⟩)
      go_ret2
      exact ⟨HN.out, rfl⟩

theorem bitsFromHex (s : ByteArray) (w : World) (hm : s.size ≤ maxLen) : Calls Try.prog 24 #[.string s] w
    fun e w' => e = .returned (.tuple #[.string (unhexT s), .bool (rdB 16 16 s)]) ∧ Below w.heap.size w w' := by
  have HW := Lib.hid (fun w => l2FromHex s w hm)
  clear hm
  generalize unhexT s = t at *
  generalize rdB 16 16 s = b at *
  go_enter Try.func24, Try.ntmps24
  go_wp2_with (go_at_call 52; refine (HW.out _).mono ?_; rintro e w' ⟨rfl, hb⟩)
  go_ret2
  exact ⟨rfl, hb⟩

theorem fld_yes {s : ByteArray} {f m : Int} (h : fldB s f m = true) : Ending.returned (.tuple #[.int .i64 (dec 2 (s.extract f.toNat (f + m).toNat).data.toList), .bool true]) = .returned (.tuple #[.int .i64 (fldV s f m), .bool (fldB s f m)]) := int_yes h rfl
theorem fieldOf (s : ByteArray) (f m : Int) (w : World) (hm0 : s.size ≤ maxLen) (hf : f ≤ 9223372036854775807) : Calls Try.prog 27 #[.string s, .int .i64 f, .int .i64 m] w
    fun e w' => e = .returned (.tuple #[.int .i64 (fldV s f m), .bool (fldB s f m)]) ∧ w = w' := by
  have hc := fun w => good s w hm0
  unfold maxLen at hm0
  cases hb : rdB 2 64 s
  · have HN := Lib.hid (fld_no (s := s) (f := f) (m := m) (by unfold fldB; rw [hb]; rfl))
    rw [hb] at hc
    have HC := Lib.hid hc
    clear hc hb hm0 hf
    go_enter Try.func27, Try.ntmps27
    go_wp2_with (go_at_call 46; refine (HC.out _).mono ?_; rintro e w' ⟨rfl, rfl⟩)
    go_ret2
    exact ⟨HN.out, rfl⟩
  · rw [hb] at hc
    have HC := Lib.hid hc
    have hi := fun w => l1In m 1 30 w
    by_cases h1 : 1 ≤ m ∧ m ≤ 30
    · have e1 : isIn m 1 30 = true := decide_eq_true h1
      rw [e1] at hi
      have HI := Lib.hid hi
      have f1 : IntKind.i64.wrap ((s.size : Int) - m) = (s.size : Int) - m := IntWalk.i64_in _ (by omega)
      have hj := fun w => l1In f 0 ((s.size : Int) - m) w
      by_cases h2 : 0 ≤ f ∧ f ≤ (s.size : Int) - m
      · have e2 : isIn f 0 ((s.size : Int) - m) = true := decide_eq_true h2
        rw [e2] at hj
        have HJ := Lib.hid hj
        have HY := Lib.hid (fld_yes (s := s) (f := f) (m := m) (by unfold fldB; rw [hb, decide_eq_true (by omega)]; rfl))
        have HW := Lib.hid (fun w => number (s.extract f.toNat (f + m).toNat) w (by rw [sub_size _ _ _ (by omega)]; omega) (sub_ok (rd_ok hb).2 _ _))
        have g0 : 0 ≤ f := by omega
        have g1 : f ≤ f + m := by omega
        have g2 : f + m ≤ (s.size : Int) := by omega
        have g3 : IntKind.i64.wrap (f + m) = f + m := IntWalk.i64_in _ (by omega)
        clear h1 h2 e1 e2 hi hj hc hb
        generalize dec 2 (s.extract f.toNat (f + m).toNat).data.toList = v at HY HW
        go_enter Try.func27, Try.ntmps27
        go_wp2_with fail
        refine (HC.out _).mono ?_
        rintro e w' ⟨rfl, rfl⟩
        go_wp2_with fail
        refine (HI.out _).mono ?_
        rintro e w' ⟨rfl, rfl⟩
        go_wp2_with fail
        refine (HJ.out _).mono ?_
        rintro e w' ⟨rfl, rfl⟩
        go_wp2_with fail
        refine (HW.out _).mono ?_
        rintro e w' ⟨rfl, rfl⟩
        go_wp2_with fail
        go_ret2
        exact ⟨HY.out, rfl⟩
      · have e2 : isIn f 0 ((s.size : Int) - m) = false := decide_eq_false h2
        rw [e2] at hj
        have HJ := Lib.hid hj
        have HN := Lib.hid (fld_no (s := s) (f := f) (m := m) (by unfold fldB; rw [decide_eq_false (by omega)]; simp))
        clear h1 h2 e1 e2 hi hj hc hb
        go_enter Try.func27, Try.ntmps27
        go_wp2_with fail
        refine (HC.out _).mono ?_
        rintro e w' ⟨rfl, rfl⟩
        go_wp2_with fail
        refine (HI.out _).mono ?_
        rintro e w' ⟨rfl, rfl⟩
        go_wp2_with fail
        refine (HJ.out _).mono ?_
        rintro e w' ⟨rfl, rfl⟩
        go_wp2_with fail
        go_ret2
        exact ⟨HN.out, rfl⟩
    · have e1 : isIn m 1 30 = false := decide_eq_false h1
      rw [e1] at hi
      have HI := Lib.hid hi
      have HN := Lib.hid (fld_no (s := s) (f := f) (m := m) (by unfold fldB; rw [decide_eq_false (by omega)]; simp))
      clear h1 e1 hi hc hb
      go_enter Try.func27, Try.ntmps27
      go_wp2_with fail
      refine (HC.out _).mono ?_
      rintro e w' ⟨rfl, rfl⟩
      go_wp2_with fail
      refine (HI.out _).mono ?_
      rintro e w' ⟨rfl, rfl⟩
      go_wp2_with fail
      go_ret2
      exact ⟨HN.out, rfl⟩
end Go.Proofs.Ythamflifmpideaa.bitss
