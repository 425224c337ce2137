/- The draws of spec for chapter 4's laws: strings of at most 65 bytes and two ints in range, whatever the bytes are. -/
import Derived.Test.YtdededldoamifaaDrawB
import Derived.Test.YtdededldoamifaaParS
import Derived.Test.YtdededldoamifaaParR
namespace Go.Proofs.Ytdededldoamifaa.drawq
open Go.RowKit Go.Proofs.Ytdededldoamifaa.cur Go.Proofs.Ytdededldoamifaa.bin Go.Proofs.Ytdededldoamifaa.good_ Go.Proofs.Ytdededldoamifaa.par Go.Proofs.Ytdededldoamifaa.drawb

/-- The bytes s may be cut, spoilt or made longer: the end of 'coded'. -/
def Short (x : ByteArray) : Prop := x.size ≤ 65

set_option maxHeartbeats 1000000 in
theorem coded (p m : Nat) (w : World) (h : Cur w p m) (hm : m ≤ 500000) :
    Calls Try.prog 62 #[.pointer (some ⟨p, 0, none⟩)] w (StrQ Short p (m + 400) w) := by
  have HC := Lib.hid h
  clear h
  go_enter Try.func62, Try.ntmps62
  go_wp2_with fail
  refine (cur.bits p m 30 w HC.out (by omega) (by omega)).mono ?_
  rintro e w1 ⟨x, rfl, hx, hc1, hg1⟩
  have HC1 := Lib.hid (hc1.more (m' := m + 70) (by omega))
  have HG1 := Lib.hid hg1
  have hxs := hx.1
  have HA := Lib.hid (fun w => pars.add4 x w (by omega) hx.2)
  have hz : (x ++ parL x).size ≤ 42 ∧ 12 ≤ (x ++ parL x).size := by
    have : (parL x).size = 12 := enc_length 2 12 _
    rw [ByteArray.size_append]
    omega
  clear hc1 hg1 hx hxs HC
  generalize x ++ parL x = t at *
  go_wp2_with fail
  refine (HA.out _).mono ?_
  rintro e w2 ⟨rfl, rfl⟩
  go_wp2_with fail
  refine (among_new 0 3 p (m + 70) 8 [0, 0, 1, 1, 1, 2, 2, 3] _ w1 HC1.out (by omega) (by omega) (by omega) rfl rfl (by decide)).mono ?_
  rintro e w2 ⟨r, rfl, r0, r1, hc2, hg2⟩
  obtain ⟨q0, rfl⟩ := Int.eq_ofNat_of_zero_le r0
  have HC2 := Lib.hid hc2
  have HG2 := Lib.hid (grown_trans HG1.out hg2)
  have HZ := Lib.hid hz
  clear hc2 hg2 HC1 HG1 HA hz
  go_wp2_with fail
  go_loopw [3, 4] (fun s n wr => ∃ (q : Nat) (z : ByteArray), q ≤ 3 ∧ n = .int .i64 q ∧ s = .string z ∧ z.size ≤ 42 ∧ 12 ≤ z.size ∧ Cur wr p (m + 80 + 2 * (3 - q)) ∧ w.grownBy wr (some p)) (fun _ n _ => (intOf n).toNat)
  case atStart => exact ⟨q0, t, by omega, rfl, rfl, HZ.out.1, HZ.out.2, HC2.out.more (by omega), HG2.out⟩
  case round =>
    obtain ⟨q, z, hq, rfl, rfl, hz1, hz2, hc3, hg3⟩ := hrel
    have HC3 := Lib.hid hc3
    have HG3 := Lib.hid hg3
    clear hc3 hg3 HC2 HG2 HZ
    have hz3 : (12 : Int) ≤ (z.size : Int) := by omega
    have hz4 : (z.size : Int) ≤ 42 := by omega
    by_cases hlt : 0 < q
    · have hlt2 : (0 : Int) < (q : Int) := by omega
      go_wp2_with fail
      refine (pick p (m + 80 + 2 * (3 - q)) (z.size : Int) wr HC3.out (by omega) (by omega) (by omega)).mono ?_
      rintro e w4 ⟨i, rfl, i0, i1, hc4, hg4⟩
      obtain ⟨k, rfl⟩ := Int.eq_ofNat_of_zero_le i0
      have hk : k < z.size := by omega
      have HC4 := Lib.hid (hc4.more (m' := m + 80 + 2 * (3 - (q - 1))) (by omega))
      have HG4 := Lib.hid (grown_trans HG3.out hg4)
      have HF := Lib.hid (fun w => flipN z k w (by omega) hk)
      have HS := Lib.hid (parr.flip_size hk)
      clear hc4 hg4 HC3 HG3
      generalize flipT z k = u at *
      go_wp2_with fail
      refine (HF.out _).mono ?_
      rintro e w5 ⟨rfl, j, rfl⟩
      go_wp2_with fail
      go_roundw
      case rel => exact ⟨q - 1, u, by omega, by go_num, rfl, by rw [HS.out]; exact hz1, by rw [HS.out]; exact hz2, cur_drewN HC4.out j, grown_drewN HG4.out j⟩
      case measure => simp [intOf]; omega
    · obtain rfl : q = 0 := by omega
      have HC5 := Lib.hid (HC3.out.more (m' := m + 90) (by omega))
      clear HC3
      go_wp2_with fail
      refine (pick p (m + 90) 24 wr HC5.out (by omega) (by omega) (by omega)).mono ?_
      rintro e w4 ⟨i, rfl, i0, i1, hc4, hg4⟩
      have HC4 := Lib.hid hc4
      have HG4 := Lib.hid (grown_trans HG3.out hg4)
      clear hc4 hg4 HC5 HG3
      by_cases hi0 : i = 0
      · subst hi0
        go_wp2_with fail
        refine (pick p (m + 92) 13 w4 HC4.out (by omega) (by omega) (by omega)).mono ?_
        rintro e w5 ⟨v, rfl, v0, v1, hc5, hg5⟩
        obtain ⟨k, rfl⟩ := Int.eq_ofNat_of_zero_le v0
        have HC5 := Lib.hid (hc5.more (m' := m + 400) (by omega))
        have HG5 := Lib.hid (grown_trans HG4.out hg5)
        have hkz : (k : Int) ≤ (z.size : Int) := by omega
        have HS := Lib.hid (show Short (z.extract 0 k) by unfold Short; rw [ByteArray.size_extract]; omega)
        clear hc5 hg5 HC4 HG4 v0 v1
        go_wp2_with fail
        go_ret
        exact ⟨_, rfl, HS.out, HC5.out, HG5.out⟩
      · have d0 : (i == 0) = false := by simpa using hi0
        by_cases hi1 : i = 1
        · subst hi1
          go_wp2_with fail
          refine (spoilt p (m + 92) z ⟨#[48, 49, 50]⟩ w4 HC4.out (by omega) (by omega) (by decide) (by decide)).mono ?_
          rintro e w5 ⟨y, rfl, hy, hc5, hg5⟩
          have HC5 := Lib.hid (hc5.more (m' := m + 400) (by omega))
          have HG5 := Lib.hid (grown_trans HG4.out hg5)
          have HS := Lib.hid (show Short y from Nat.le_trans hy (by omega))
          clear hc5 hg5 HC4 HG4 hy
          go_wp2_with fail
          go_ret
          exact ⟨y, rfl, HS.out, HC5.out, HG5.out⟩
        · have d1 : (i == 1) = false := by simpa using hi1
          by_cases hi2 : i = 2
          · subst hi2
            go_wp2_with fail
            go_loopw [3] (fun s wr => ∃ z : ByteArray, s = .string z ∧ z.size ≤ 65 ∧ Cur wr p (m + 140 + 2 * z.size) ∧ w.grownBy wr (some p)) (fun s _ => 65 - szOf s)
            case atStart => exact ⟨z, rfl, by omega, HC4.out.more (by omega), HG4.out⟩
            case round =>
              obtain ⟨z, rfl, hz, hc6, hg6⟩ := hrel
              have HC6 := Lib.hid hc6
              have HG6 := Lib.hid hg6
              clear hc6 hg6 HC4 HG4
              go_wp2_with fail
              refine (pick p (m + 140 + 2 * z.size) 2 _ HC6.out (by omega) (by omega) (by omega)).mono ?_
              rintro e w7 ⟨r, rfl, r0, r1, hc7, hg7⟩
              have HC7 := Lib.hid hc7
              have HG7 := Lib.hid (grown_trans HG6.out hg7)
              clear hc7 hg7 HC6 HG6
              by_cases hlt : (z.size : Int) < 64 + r
              · have HZ := Lib.hid (show ((⟨#[48]⟩ : ByteArray) ++ z).size = z.size + 1 by rw [ByteArray.size_append, Nat.add_comm]; rfl)
                go_wp2_with fail
                go_roundw
                case rel => exact ⟨_, rfl, by rw [HZ.out]; omega, by rw [HZ.out]; exact HC7.out.more (by omega), HG7.out⟩
                case measure =>
                  have := HZ.out
                  show 65 - ((⟨#[48]⟩ : ByteArray) ++ z).size < 65 - z.size
                  omega
              · have hge : 64 + r ≤ (z.size : Int) := by omega
                go_wp2_with fail
                go_ret
                exact ⟨z, rfl, hz, HC7.out.more (by omega), HG7.out⟩
          · have d2 : (i == 2) = false := by simpa using hi2
            have HS := Lib.hid (show Short z from Nat.le_trans hz1 (by omega))
            go_wp2_with fail
            go_ret
            exact ⟨z, rfl, HS.out, HC4.out.more (by omega), HG4.out⟩

theorem isSound (A : Option Addr) (n c : Nat) (w : World) (hn : n ≤ 65536) (h : Bytes w w.heap.size A n) :
    Calls Try.prog 44 #[.slice A n c] w (Str1 65 w) := by
  have hc := Lib.hid (new_cur c (by omega) h)
  have hb0 : Below w.heap.size w (w.alloc (.cells #[.slice A n c, .int .i64 0, .int .u64 0] 57)) := (Below.refl _ _).alloc (Nat.le_refl _) _
  clear h
  go_enter Try.func44, Try.ntmps44
  go_wp2_with fail
  refine (coded _ 0 _ hc.out (by omega)).mono ?_
  rintro e w1 ⟨x, rfl, hx, hc1, hg1⟩
  have hb1 := below_of_grown hb0 hg1
  clear hc1 hg1
  have hx2 : x.size ≤ 65 := hx
  clear hx
  go_wp2_with fail
  go_ret
  exact ⟨x, rfl, hx2, hb1⟩

theorem syndromeOf (A : Option Addr) (n c : Nat) (w : World) (hn : n ≤ 65536) (h : Bytes w w.heap.size A n) :
    Calls Try.prog 23 #[.slice A n c] w (Str1 65 w) := by
  have HI := Lib.hid (isSound A n c w hn h)
  clear h
  go_enter Try.func23, Try.ntmps23
  go_wp2_with fail
  refine HI.out.mono ?_
  rintro e w1 ⟨x, rfl, hx, hb⟩
  go_wp2_with fail
  go_ret
  exact ⟨x, rfl, hx, hb⟩
theorem repairBit (A : Option Addr) (n c : Nat) (w : World) (hn : n ≤ 65536) (h : Bytes w w.heap.size A n) :
    Calls Try.prog 21 #[.slice A n c] w (Str1 65 w) := by
  have HI := Lib.hid (isSound A n c w hn h)
  clear h
  go_enter Try.func21, Try.ntmps21
  go_wp2_with fail
  refine HI.out.mono ?_
  rintro e w1 ⟨x, rfl, hx, hb⟩
  go_wp2_with fail
  go_ret
  exact ⟨x, rfl, hx, hb⟩

set_option maxHeartbeats 1000000 in
theorem parityOf (A : Option Addr) (n c : Nat) (w : World) (hn : n ≤ 65536) (h : Bytes w w.heap.size A n) :
    Calls Try.prog 32 #[.slice A n c] w (Str1 65 w) := by
  have hc := Lib.hid (new_cur c (by omega) h)
  have hb0 : Below w.heap.size w (w.alloc (.cells #[.slice A n c, .int .i64 0, .int .u64 0] 57)) := (Below.refl _ _).alloc (Nat.le_refl _) _
  clear h
  go_enter Try.func32, Try.ntmps32
  go_wp2_with fail
  refine (anyBits _ 0 30 _ hc.out (by omega) (by omega)).mono ?_
  rintro e w1 ⟨x, rfl, hx, hc1, hg1⟩
  have hb1 := below_of_grown hb0 hg1
  have HC1 := Lib.hid hc1
  have hx2 : x.size ≤ 65 := hx
  clear hc1 hg1 hx
  go_wp2_with fail
  refine (one _ _ 24 _ HC1.out (by omega) (by omega) (by omega)).mono ?_
  rintro e w2 ⟨b, rfl, hc2, hg2⟩
  have HB2 := Lib.hid (below_of_grown hb1 hg2)
  have HC2 := Lib.hid (hc2.more (m' := 410) (by omega))
  clear hc2 hg2 HC1 hb1 hb0
  cases b
  · go_wp2_with fail
    go_ret
    exact ⟨x, rfl, hx2, HB2.out⟩
  · go_wp2_with fail
    go_loopw [4] (fun s wr => ∃ z : ByteArray, s = .string z ∧ z.size ≤ 65 ∧ Cur wr w.heap.size (410 + 2 * z.size) ∧ Below w.heap.size w wr) (fun s _ => 65 - szOf s)
    case atStart => exact ⟨x, rfl, hx2, HC2.out.more (by omega), HB2.out⟩
    case round =>
      obtain ⟨z, rfl, hz, hc6, hb6⟩ := hrel
      have HC6 := Lib.hid hc6
      have HB6 := Lib.hid hb6
      clear hc6 hb6 HC2 HB2
      go_wp2_with fail
      refine (pick _ (410 + 2 * z.size) 2 _ HC6.out (by omega) (by omega) (by omega)).mono ?_
      rintro e w7 ⟨r, rfl, r0, r1, hc7, hg7⟩
      have HC7 := Lib.hid hc7
      have HB7 := Lib.hid (below_of_grown HB6.out hg7)
      clear hc7 hg7 HC6 HB6
      by_cases hlt : (z.size : Int) < 52 + r
      · have HZ := Lib.hid (show (z ++ (⟨#[48]⟩ : ByteArray)).size = z.size + 1 by rw [ByteArray.size_append]; rfl)
        go_wp2_with fail
        go_roundw
        case rel => exact ⟨_, rfl, by rw [HZ.out]; omega, by rw [HZ.out]; exact HC7.out.more (by omega), HB7.out⟩
        case measure =>
          have := HZ.out
          show 65 - (z ++ (⟨#[48]⟩ : ByteArray)).size < 65 - z.size
          omega
      · have hge : 52 + r ≤ (z.size : Int) := by omega
        go_wp2_with fail
        go_ret
        exact ⟨z, rfl, hz, HB7.out⟩

theorem addParity (A : Option Addr) (n c : Nat) (w : World) (hn : n ≤ 65536) (h : Bytes w w.heap.size A n) :
    Calls Try.prog 14 #[.slice A n c] w (Str1 65 w) := by
  have HI := Lib.hid (parityOf A n c w hn h)
  clear h
  go_enter Try.func14, Try.ntmps14
  go_wp2_with fail
  refine HI.out.mono ?_
  rintro e w1 ⟨x, rfl, hx, hb⟩
  go_wp2_with fail
  go_ret
  exact ⟨x, rfl, hx, hb⟩

set_option maxHeartbeats 1000000 in
theorem patternOf (A : Option Addr) (n c : Nat) (w : World) (hn : n ≤ 65536) (h : Bytes w w.heap.size A n) :
    Calls Try.prog 30 #[.slice A n c] w (Ints2 11 65 (-1) 66 w) := by
  have hc := Lib.hid (new_cur c (by omega) h)
  have hb0 : Below w.heap.size w (w.alloc (.cells #[.slice A n c, .int .i64 0, .int .u64 0] 57)) := (Below.refl _ _).alloc (Nat.le_refl _) _
  clear h
  have BW := Lib.hid (show ∀ x ∈ ([12, 20, 44, 56, 64, 11, 65] : List Int), 11 ≤ x ∧ x ≤ 65 by simp)
  go_enter Try.func30, Try.ntmps30
  go_wp2_with fail
  refine (among_at 11 65 _ 0 7 _ [12, 20, 44, 56, 64, 11, 65] _ _ hc.out (by omega) (by omega) (by omega) rfl rfl BW.out (World.size_alloc _ _)).mono ?_
  rintro e w1 ⟨r, rfl, r0, r1, hc1, hg1⟩
  have hb1 := below_of_grown hb0 hg1
  have HC1 := Lib.hid hc1
  clear hc1 hg1
  go_wp2_with fail
  refine (pick _ 2 (r + 2) w1 HC1.out (by omega) (by omega) (by omega)).mono ?_
  rintro e w2 ⟨q, rfl, q0, q1, hc2, hg2⟩
  have hb2 := below_of_grown hb1 hg2
  clear hc2 hg2 HC1
  go_wp2_with fail
  go_ret2
  exact ⟨r, _, rfl, r0, r1, by omega, by omega, hb2⟩
end Go.Proofs.Ytdededldoamifaa.drawq
