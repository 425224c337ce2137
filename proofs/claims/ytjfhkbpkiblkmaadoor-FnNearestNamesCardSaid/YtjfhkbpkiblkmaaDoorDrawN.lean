/- The draws of spec for chapter 3's law of names: short strings, bytes and numbers in range, whatever the bytes are. -/
import Derived.Test.YtjfhkbpkiblkmaaDoorCurBits
import Derived.Test.YtjfhkbpkiblkmaaDoorNamS
import Derived.Test.YtjfhkbpkiblkmaaDoorGood
namespace Go.Proofs.YtjfhkbpkiblkmaaDoor.drawn
open Go.RowKit Go.Proofs.YtjfhkbpkiblkmaaDoor.cur Go.Proofs.YtjfhkbpkiblkmaaDoor.bin Go.Proofs.YtjfhkbpkiblkmaaDoor.good_ Go.Proofs.YtjfhkbpkiblkmaaDoor.bitsi Go.Proofs.YtjfhkbpkiblkmaaDoor.nam

def Str1 (k : Nat) (w : World) (e : Ending) (w' : World) : Prop := ∃ x : ByteArray, e = .returned (.string x) ∧ x.size ≤ k ∧ Below w.heap.size w w'
def Byte1 (w : World) (e : Ending) (w' : World) : Prop := ∃ x : Int, e = .returned (.int .u8 x) ∧ 0 ≤ x ∧ x ≤ 255 ∧ Below w.heap.size w w'
def Int1 (a b : Int) (w : World) (e : Ending) (w' : World) : Prop := ∃ x : Int, e = .returned (.int .i64 x) ∧ a ≤ x ∧ x ≤ b ∧ Below w.heap.size w w'
def Ints2 (a b : Int) (w : World) (e : Ending) (w' : World) : Prop := ∃ x y : Int, e = .returned (.tuple #[.int .i64 x, .int .i64 y]) ∧ a ≤ x ∧ x ≤ b ∧ a ≤ y ∧ y ≤ b ∧ Below w.heap.size w w'

set_option maxRecDepth 100000 in
set_option maxHeartbeats 1000000 in
theorem flightName (p m : Nat) (w : World) (h : Cur w p m) (hm : m ≤ 800000) :
    Calls Tryd.prog 46 #[.pointer (some ⟨p, 0, none⟩)] w (Str 9 p (m + 4) w) := by
  have HC := Lib.hid h
  clear h
  go_enter Tryd.func46, Tryd.ntmps46
  go_wp2_with fail
  refine (one p m 16 w HC.out (by omega) (by omega) (by omega)).mono ?_
  rintro e w1 ⟨b, rfl, hc1, hg1⟩
  have HC1 := Lib.hid hc1
  have HG1 := Lib.hid hg1
  clear hc1 hg1
  cases b
  · go_wp2_with fail
    refine (of_list 9 p (m + 2) 9 _ w1 HC1.out (by omega) (by omega) (by omega) rfl (by decide)).mono ?_
    rintro e w2 ⟨x, rfl, hx, hc2, hg2⟩
    have HX := Lib.hid hx
    have HC2 := Lib.hid hc2
    have HG2 := Lib.hid (grown_trans HG1.out hg2)
    clear hx hc2 hg2
    go_wp2_with fail
    go_ret
    exact ⟨x, rfl, HX.out, HC2.out, HG2.out⟩
  · go_wp2_with fail
    refine (of_list 9 p (m + 2) 5 _ w1 HC1.out (by omega) (by omega) (by omega) rfl (by decide)).mono ?_
    rintro e w2 ⟨x, rfl, hx, hc2, hg2⟩
    have HX := Lib.hid hx
    have HC2 := Lib.hid hc2
    have HG2 := Lib.hid (grown_trans HG1.out hg2)
    clear hx hc2 hg2
    go_wp2_with fail
    go_ret
    exact ⟨x, rfl, HX.out, HC2.out, HG2.out⟩

theorem isFlightName (A : Option Addr) (n c : Nat) (w : World) (hn : n ≤ 65536) (h : Bytes w w.heap.size A n) :
    Calls Tryd.prog 35 #[.slice A n c] w (Str1 9 w) := by
  have hc := Lib.hid (new_cur c (by omega) h)
  have hb0 : Below w.heap.size w (w.alloc (.cells #[.slice A n c, .int .i64 0, .int .u64 0] 65)) := (Below.refl _ _).alloc (Nat.le_refl _) _
  clear h
  go_enter Tryd.func35, Tryd.ntmps35
  go_wp2_with fail
  refine (flightName _ 0 _ hc.out (by omega)).mono ?_
  rintro e w1 ⟨x, rfl, hx, hc1, hg1⟩
  have hb1 := below_of_grown hb0 hg1
  clear hc1 hg1
  go_wp2_with fail
  go_ret
  exact ⟨x, rfl, hx, hb1⟩
theorem nameBits (A : Option Addr) (n c : Nat) (w : World) (hn : n ≤ 65536) (h : Bytes w w.heap.size A n) :
    Calls Tryd.prog 9 #[.slice A n c] w (Str1 9 w) := by
  have HC := Lib.hid (isFlightName A n c w hn h)
  clear h
  go_enter Tryd.func9, Tryd.ntmps9
  go_wp2_with fail
  refine HC.out.mono ?_
  rintro e w1 ⟨x, rfl, hx, hb1⟩
  go_wp2_with fail
  go_ret
  exact ⟨x, rfl, hx, hb1⟩

set_option maxRecDepth 100000 in
set_option maxHeartbeats 1000000 in
theorem letterCode (A : Option Addr) (n c : Nat) (w : World) (hn : n ≤ 65536) (h : Bytes w w.heap.size A n) :
    Calls Tryd.prog 18 #[.slice A n c] w (Byte1 w) := by
  have hc := Lib.hid (new_cur c (by omega) h)
  have hb0 : Below w.heap.size w (w.alloc (.cells #[.slice A n c, .int .i64 0, .int .u64 0] 65)) := (Below.refl _ _).alloc (Nat.le_refl _) _
  clear h
  have BW := Lib.hid (show ∀ x ∈ ([65, 90, 48, 57, 32, 77, 64, 91, 47, 58, 97, 0, 255] : List Int), 0 ≤ x ∧ x ≤ 255 by simp)
  go_enter Tryd.func18, Tryd.ntmps18
  go_wp2_with fail
  refine (among_at 0 255 _ 0 13 _ [65, 90, 48, 57, 32, 77, 64, 91, 47, 58, 97, 0, 255] _ _ hc.out (by omega) (by omega) (by omega) rfl rfl BW.out (World.size_alloc _ _)).mono ?_
  rintro e w1 ⟨r, rfl, r0, r1, hc1, hg1⟩
  have hb1 := below_of_grown hb0 hg1
  clear hc1 hg1
  go_wp2_with fail
  go_ret
  exact ⟨r, rfl, r0, r1, hb1⟩
set_option maxRecDepth 100000 in
set_option maxHeartbeats 1000000 in
theorem letterOf (A : Option Addr) (n c : Nat) (w : World) (hn : n ≤ 65536) (h : Bytes w w.heap.size A n) :
    Calls Tryd.prog 22 #[.slice A n c] w (Int1 (-1) 64 w) := by
  have hc := Lib.hid (new_cur c (by omega) h)
  have hb0 : Below w.heap.size w (w.alloc (.cells #[.slice A n c, .int .i64 0, .int .u64 0] 65)) := (Below.refl _ _).alloc (Nat.le_refl _) _
  clear h
  have BW := Lib.hid (show ∀ x ∈ ([0, 1, 26, 27, 31, 32, 33, 47, 48, 57, 58, 63, 64, -1, 13, 50] : List Int), -1 ≤ x ∧ x ≤ 64 by simp)
  go_enter Tryd.func22, Tryd.ntmps22
  go_wp2_with fail
  refine (among_at (-1) 64 _ 0 16 _ [0, 1, 26, 27, 31, 32, 33, 47, 48, 57, 58, 63, 64, -1, 13, 50] _ _ hc.out (by omega) (by omega) (by omega) rfl rfl BW.out (World.size_alloc _ _)).mono ?_
  rintro e w1 ⟨r, rfl, r0, r1, hc1, hg1⟩
  have hb1 := below_of_grown hb0 hg1
  clear hc1 hg1
  go_wp2_with fail
  go_ret
  exact ⟨r, rfl, r0, r1, hb1⟩

theorem flip_size (t : ByteArray) (i : Nat) (h : i < t.size) : (flipT t i).size = t.size := by
  unfold flipT
  have : (⟨#[fl (t.data.toList.getD i 0)]⟩ : ByteArray).size = 1 := rfl
  rw [ByteArray.size_append, ByteArray.size_append, this, ByteArray.size_extract, ByteArray.size_extract]
  omega
set_option maxRecDepth 100000 in
set_option maxHeartbeats 2000000 in
theorem parseNameBits (A : Option Addr) (n c : Nat) (w : World) (hn : n ≤ 65536) (h : Bytes w w.heap.size A n) :
    Calls Tryd.prog 16 #[.slice A n c] w (Str1 100 w) := by
  have hc := Lib.hid (new_cur c (by omega) h)
  have hb0 : Below w.heap.size w (w.alloc (.cells #[.slice A n c, .int .i64 0, .int .u64 0] 65)) := (Below.refl _ _).alloc (Nat.le_refl _) _
  clear h
  go_enter Tryd.func16, Tryd.ntmps16
  go_wp2_with fail
  refine (flightName _ 0 _ hc.out (by omega)).mono ?_
  rintro e w1 ⟨x, rfl, hx, hc1, hg1⟩
  have hb1 := below_of_grown hb0 hg1
  have HC1 := Lib.hid hc1
  clear hc1 hg1
  have HN := Lib.hid (fun w => nams.name x w (by unfold maxLen; omega))
  cases hnm : nmB x
  · rw [hnm] at HN
    clear hnm hx
    go_wp2_with fail
    refine (HN.out _).mono ?_
    rintro e w2 ⟨rfl, rfl⟩
    go_wp2_with fail
    refine (anyBits _ _ 48 _ HC1.out (by omega) (by omega)).mono ?_
    rintro e w2 ⟨y, rfl, hy, hc2, hg2⟩
    have hy2 : y.size ≤ 65 := hy
    have hb2 := below_of_grown hb1 hg2
    clear hc2 hg2 hy
    go_wp2_with fail
    go_ret
    exact ⟨y, rfl, by omega, hb2⟩
  · have HB := Lib.hid (fun w => nams.bits x w hnm)
    have hz : (nbA x).size = 48 := nbA_size x
    rw [hnm] at HN
    clear hnm hx
    generalize nbA x = t at *
    have HZ := Lib.hid hz
    have g1 : (48 : Int) ≤ (t.size : Int) := by omega
    have g2 : (t.size : Int) ≤ 48 := by omega
    have g3 : (6 : Int) ≤ (t.size : Int) := by omega
    clear hz
    go_wp2_with fail
    refine (HN.out _).mono ?_
    rintro e w2 ⟨rfl, rfl⟩
    go_wp2_with fail
    refine (HB.out _).mono ?_
    rintro e w2 ⟨rfl, rfl⟩
    go_wp2_with fail
    refine (pick _ _ 6 _ HC1.out (by omega) (by omega) (by omega)).mono ?_
    rintro e w2 ⟨q, rfl, q0, q1, hc2, hg2⟩
    have hb2 := below_of_grown hb1 hg2
    have HC2 := Lib.hid hc2
    clear hc2 hg2 HC1
    by_cases e0 : q = 0
    · subst e0
      go_wp2_with fail
      refine (pick _ _ 48 _ HC2.out (by omega) (by omega) (by omega)).mono ?_
      rintro e w3 ⟨r, rfl, r0, r1, hc3, hg3⟩
      have hb3 := below_of_grown hb2 hg3
      clear hc3 hg3
      obtain ⟨i, rfl⟩ := Int.eq_ofNat_of_zero_le r0
      have HF := Lib.hid (fun w => flipN t i w (by omega) (by have := HZ.out; omega))
      have HS := Lib.hid (show (flipT t i).size ≤ 100 by rw [flip_size t i (by have := HZ.out; omega), HZ.out]; omega)
      generalize flipT t i = u at *
      go_wp2_with fail
      refine (HF.out _).mono ?_
      rintro e w4 ⟨rfl, j, rfl⟩
      go_wp2_with fail
      go_ret
      exact ⟨u, rfl, HS.out, aid.below_drewN hb3 j⟩
    · have d0 : (q == 0) = false := beq_eq_false_iff_ne.2 e0
      by_cases e1 : q = 1
      · subst e1
        clear e0
        go_wp2_with fail
        go_quiet (fail)
        go_wp2_with fail
        go_ret
        exact ⟨_, rfl, by rw [ByteArray.size_append, ByteArray.size_extract, ByteArray.size_extract]; have := HZ.out; omega, aid.below_drewN hb2 _⟩
      · have d1 : (q == 1) = false := beq_eq_false_iff_ne.2 e1
        by_cases e2 : q = 2
        · subst e2
          clear e0 e1
          go_wp2_with fail
          refine (pick _ _ 2 _ HC2.out (by omega) (by omega) (by omega)).mono ?_
          rintro e w3 ⟨r, rfl, r0, r1, hc3, hg3⟩
          have hb3 := below_of_grown hb2 hg3
          clear hc3 hg3
          have g4 : r ≤ (t.size : Int) := by omega
          go_wp2_with fail
          go_ret
          exact ⟨_, rfl, by rw [ByteArray.size_extract]; have := HZ.out; omega, hb3⟩
        · have d2 : (q == 2) = false := beq_eq_false_iff_ne.2 e2
          clear e0 e1 e2
          go_wp2_with fail
          go_ret
          exact ⟨t, rfl, by have := HZ.out; omega, hb2⟩

theorem half_dec {t : ByteArray} (ho : ok 2 t.data.toList = true) (a b : Nat) (h : b ≤ t.size) (h2 : b - a ≤ 24) : dec 2 (t.extract a b).data.toList < 16777216 := by
  have h1 := sub_ok ho a b
  have h3 := dec_lt 2 _ h1
  rw [len_list, sub_size _ _ _ h] at h3
  have h4 : (2 : Nat) ^ (b - a) ≤ 2 ^ 24 := Nat.pow_le_pow_right (by omega) h2
  have h5 : (2 : Nat) ^ 24 = 16777216 := by decide +kernel
  omega
set_option maxRecDepth 100000 in
set_option maxHeartbeats 2000000 in
theorem joinNameParts (A : Option Addr) (n c : Nat) (w : World) (hn : n ≤ 65536) (h : Bytes w w.heap.size A n) :
    Calls Tryd.prog 24 #[.slice A n c] w (Ints2 (-1) 16777216 w) := by
  have hc := Lib.hid (new_cur c (by omega) h)
  have hb0 : Below w.heap.size w (w.alloc (.cells #[.slice A n c, .int .i64 0, .int .u64 0] 65)) := (Below.refl _ _).alloc (Nat.le_refl _) _
  clear h
  have BW := Lib.hid (show ∀ x ∈ ([0, -1, 16777215, 16777216] : List Int), -1 ≤ x ∧ x ≤ 16777216 by simp)
  go_enter Tryd.func24, Tryd.ntmps24
  go_wp2_with fail
  refine (flightName _ 0 _ hc.out (by omega)).mono ?_
  rintro e w1 ⟨x, rfl, hx, hc1, hg1⟩
  have hb1 := below_of_grown hb0 hg1
  have HC1 := Lib.hid hc1
  clear hc1 hg1
  have HN := Lib.hid (fun w => nams.name x w (by unfold maxLen; omega))
  cases hnm : nmB x
  · rw [hnm] at HN
    clear hnm hx
    go_wp2_with fail
    refine (HN.out _).mono ?_
    rintro e w2 ⟨rfl, rfl⟩
    go_wp2_with fail
    refine (among_new (-1) 16777216 _ _ 4 [0, -1, 16777215, 16777216] _ _ HC1.out (by omega) (by omega) (by omega) rfl rfl BW.out).mono ?_
    rintro e w2 ⟨r, rfl, r0, r1, hc2, hg2⟩
    have hb2 := below_of_grown hb1 hg2
    have HC2 := Lib.hid hc2
    clear hc2 hg2
    go_wp2_with fail
    refine (pick _ _ 1000 _ HC2.out (by omega) (by omega) (by omega)).mono ?_
    rintro e w3 ⟨q, rfl, q0, q1, hc3, hg3⟩
    have hb3 := below_of_grown hb2 hg3
    clear hc3 hg3
    go_wp2_with fail
    go_ret2
    exact ⟨r, q, rfl, r0, r1, by omega, by omega, hb3⟩
  · have HB := Lib.hid (fun w => nams.bits x w hnm)
    have hz : (nbA x).size = 48 := nbA_size x
    have ho := nbA_ok x
    rw [hnm] at HN
    clear hnm hx
    generalize nbA x = t at *
    have h1 := half_dec ho 0 24 (by omega) (by omega)
    have h2 := half_dec ho 24 t.size (by omega) (by omega)
    have HD1 := Lib.hid (fun w d => aid.quiet_left (number (t.extract 0 24) (World.drewN w d) (by rw [sub_size _ _ _ (by omega)]; omega) (sub_ok ho _ _)))
    have HD2 := Lib.hid (fun w d => aid.quiet_left (number (t.extract 24 t.size) (World.drewN w d) (by rw [sub_size _ _ _ (by omega)]; omega) (sub_ok ho _ _)))
    have g1 : (24 : Int) ≤ (t.size : Int) := by omega
    clear hz ho
    generalize dec 2 (t.extract 0 24).data.toList = u1 at *
    generalize dec 2 (t.extract 24 t.size).data.toList = u2 at *
    go_wp2_with fail
    refine (HN.out _).mono ?_
    rintro e w2 ⟨rfl, rfl⟩
    go_wp2_with fail
    refine (one _ _ 8 _ HC1.out (by omega) (by omega) (by omega)).mono ?_
    rintro e w2 ⟨b, rfl, hc2, hg2⟩
    have hb2 := below_of_grown hb1 hg2
    have HC2 := Lib.hid hc2
    clear hc2 hg2 HC1
    cases b
    · go_wp2_with fail
      refine (HB.out _).mono ?_
      rintro e w3 ⟨rfl, rfl⟩
      go_wp2_with fail
      go_quiet (first
        | (go_at_call 52; first | (with_reducible exact HD1.out _ _) | (with_reducible exact HD2.out _ _)))
      go_wp2_with fail
      go_ret2
      exact ⟨_, _, rfl, by omega, by omega, by omega, by omega, aid.below_drewN hb2 _⟩
    · go_wp2_with fail
      refine (among_new (-1) 16777216 _ _ 4 [0, -1, 16777215, 16777216] _ _ HC2.out (by omega) (by omega) (by omega) rfl rfl BW.out).mono ?_
      rintro e w3 ⟨r, rfl, r0, r1, hc3, hg3⟩
      have hb3 := below_of_grown hb2 hg3
      have HC3 := Lib.hid hc3
      clear hc3 hg3 HC2
      go_wp2_with fail
      refine (pick _ _ 1000 _ HC3.out (by omega) (by omega) (by omega)).mono ?_
      rintro e w4 ⟨q, rfl, q0, q1, hc4, hg4⟩
      have hb4 := below_of_grown hb3 hg4
      clear hc4 hg4
      go_wp2_with fail
      go_ret2
      exact ⟨r, q, rfl, r0, r1, by omega, by omega, hb4⟩
end Go.Proofs.YtjfhkbpkiblkmaaDoor.drawn
