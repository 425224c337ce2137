/- The draws of spec for chapter 2's laws: numbers in range, strings of bounded size, whatever the bytes are. -/
import Derived.Test.YthamflifmpideaaCurBits
import Derived.Test.YthamflifmpideaaBitsS
import Derived.Test.YthamflifmpideaaHexS
namespace Go.Proofs.Ythamflifmpideaa.drawb
open Go.RowKit Go.Proofs.Ythamflifmpideaa.cur Go.Proofs.Ythamflifmpideaa.bin Go.Proofs.Ythamflifmpideaa.good_ Go.Proofs.Ythamflifmpideaa.bitsi Go.Proofs.Ythamflifmpideaa.hexs

def Str1 (k : Nat) (w : World) (e : Ending) (w' : World) : Prop := ∃ x : ByteArray, e = .returned (.string x) ∧ x.size ≤ k ∧ Below w.heap.size w w'
def Ints2 (a b c d : Int) (w : World) (e : Ending) (w' : World) : Prop := ∃ x y : Int, e = .returned (.tuple #[.int .i64 x, .int .i64 y]) ∧ a ≤ x ∧ x ≤ b ∧ c ≤ y ∧ y ≤ d ∧ Below w.heap.size w w'
def StrInt (k : Nat) (a b : Int) (w : World) (e : Ending) (w' : World) : Prop := ∃ (x : ByteArray) (y : Int), e = .returned (.tuple #[.string x, .int .i64 y]) ∧ x.size ≤ k ∧ a ≤ y ∧ y ≤ b ∧ Below w.heap.size w w'
def StrInts (k : Nat) (a b c d : Int) (w : World) (e : Ending) (w' : World) : Prop := ∃ (x : ByteArray) (y z : Int), e = .returned (.tuple #[.string x, .int .i64 y, .int .i64 z]) ∧ x.size ≤ k ∧ a ≤ y ∧ y ≤ b ∧ c ≤ z ∧ z ≤ d ∧ Below w.heap.size w w'

set_option maxHeartbeats 1000000 in
theorem bitsOf (A : Option Addr) (n c : Nat) (w : World) (hn : n ≤ 65536) (h : Bytes w w.heap.size A n) :
    Calls Try.prog 15 #[.slice A n c] w (Ints2 (-1) 1073741824 (-1) 31 w) := by
  have hc := Lib.hid (new_cur c (by omega) h)
  have hb0 : Below w.heap.size w (w.alloc (.cells #[.slice A n c, .int .i64 0, .int .u64 0] 49)) := (Below.refl _ _).alloc (Nat.le_refl _) _
  clear h
  have BW := Lib.hid (show ∀ x ∈ ([0, 1, 5, 200, 4095, 1048576, 1073741823, 1073741824, -1] : List Int), -1 ≤ x ∧ x ≤ 1073741824 by simp)
  have BW2 := Lib.hid (show ∀ x ∈ ([0, 1, 3, 8, 12, 21, 30, 31, -1] : List Int), -1 ≤ x ∧ x ≤ 31 by simp)
  go_enter Try.func15, Try.ntmps15
  go_wp2_with fail
  refine (among_at (-1) 1073741824 _ 0 9 _ [0, 1, 5, 200, 4095, 1048576, 1073741823, 1073741824, -1] _ _ hc.out (by omega) (by omega) (by omega) rfl rfl BW.out (World.size_alloc _ _)).mono ?_
  rintro e w1 ⟨r, rfl, r0, r1, hc1, hg1⟩
  have hb1 := below_of_grown hb0 hg1
  have HC1 := Lib.hid hc1
  clear hc1 hg1
  go_wp2_with fail
  refine (among_new (-1) 31 _ 2 9 [0, 1, 3, 8, 12, 21, 30, 31, -1] _ w1 HC1.out (by omega) (by omega) (by omega) rfl rfl BW2.out).mono ?_
  rintro e w2 ⟨q, rfl, q0, q1, hc2, hg2⟩
  have hb2 := below_of_grown hb1 hg2
  clear hc2 hg2 HC1
  go_wp2_with fail
  go_ret2
  exact ⟨r, q, rfl, r0, r1, q0, q1, hb2⟩

set_option maxHeartbeats 1000000 in
theorem flipBit (A : Option Addr) (n c : Nat) (w : World) (hn : n ≤ 65536) (h : Bytes w w.heap.size A n) :
    Calls Try.prog 30 #[.slice A n c] w (StrInt 65 (-1) 66 w) := by
  have hc := Lib.hid (new_cur c (by omega) h)
  have hb0 : Below w.heap.size w (w.alloc (.cells #[.slice A n c, .int .i64 0, .int .u64 0] 49)) := (Below.refl _ _).alloc (Nat.le_refl _) _
  clear h
  go_enter Try.func30, Try.ntmps30
  go_wp2_with fail
  refine (anyBits _ 0 20 _ hc.out (by omega) (by omega)).mono ?_
  rintro e w1 ⟨x, rfl, hx, hc1, hg1⟩
  have hb1 := below_of_grown hb0 hg1
  have HC1 := Lib.hid hc1
  clear hc1 hg1
  have hx2 : x.size ≤ 65 := hx
  clear hx
  go_wp2_with fail
  refine (pick _ _ ((x.size : Int) + 2) _ HC1.out (by omega) (by omega) (by omega)).mono ?_
  rintro e w2 ⟨q, rfl, q0, q1, hc2, hg2⟩
  have hb2 := below_of_grown hb1 hg2
  clear hc2 hg2 HC1
  go_wp2_with fail
  go_ret2
  exact ⟨x, _, rfl, hx2, by omega, by omega, hb2⟩

set_option maxHeartbeats 1000000 in
theorem fieldOf (A : Option Addr) (n c : Nat) (w : World) (hn : n ≤ 65536) (h : Bytes w w.heap.size A n) :
    Calls Try.prog 25 #[.slice A n c] w (StrInts 65 (-1) 65 0 31 w) := by
  have hc := Lib.hid (new_cur c (by omega) h)
  have hb0 : Below w.heap.size w (w.alloc (.cells #[.slice A n c, .int .i64 0, .int .u64 0] 49)) := (Below.refl _ _).alloc (Nat.le_refl _) _
  clear h
  go_enter Try.func25, Try.ntmps25
  go_wp2_with fail
  refine (anyBits _ 0 40 _ hc.out (by omega) (by omega)).mono ?_
  rintro e w1 ⟨x, rfl, hx, hc1, hg1⟩
  have hb1 := below_of_grown hb0 hg1
  have HC1 := Lib.hid hc1
  clear hc1 hg1
  have hx2 : x.size ≤ 65 := hx
  clear hx
  go_wp2_with fail
  refine (pick _ _ ((x.size : Int) + 1) _ HC1.out (by omega) (by omega) (by omega)).mono ?_
  rintro e w2 ⟨q, rfl, q0, q1, hc2, hg2⟩
  have hb2 := below_of_grown hb1 hg2
  have HC2 := Lib.hid hc2
  clear hc2 hg2 HC1
  go_wp2_with fail
  refine (pick _ _ 9 _ HC2.out (by omega) (by omega) (by omega)).mono ?_
  rintro e w3 ⟨v, rfl, v0, v1, hc3, hg3⟩
  have hb3 := below_of_grown hb2 hg3
  have HC3 := Lib.hid hc3
  clear hc3 hg3 HC2
  obtain ⟨u, hu, u0, u1⟩ : ∃ u : Int, v.tdiv 8 = u ∧ 0 ≤ u ∧ u ≤ 1 := ⟨v / 8, by rw [Int.tdiv_eq_ediv_of_nonneg v0], by omega, by omega⟩
  have hu2 : v / 8 = u := by rw [← hu, Int.tdiv_eq_ediv_of_nonneg v0]
  have hu3 : IntKind.i64.wrap u = u := IntWalk.i64_in _ (by omega)
  go_wp2_with fail
  refine (among_new 0 31 _ _ 7 [1, 2, 4, 8, 30, 31, 0] _ w3 HC3.out (by omega) (by omega) (by omega) rfl rfl (by decide)).mono ?_
  rintro e w4 ⟨p, rfl, p0, p1, hc4, hg4⟩
  have hb4 := below_of_grown hb3 hg4
  clear hc4 hg4 HC3
  go_wp2_with fail
  go_ret3
  exact ⟨x, _, p, rfl, hx2, by omega, by omega, p0, p1, hb4⟩

set_option maxHeartbeats 1000000 in
theorem hexOf (A : Option Addr) (n c : Nat) (w : World) (hn : n ≤ 65536) (h : Bytes w w.heap.size A n) :
    Calls Try.prog 19 #[.slice A n c] w (Str1 65 w) := by
  have hc := Lib.hid (new_cur c (by omega) h)
  have hb0 : Below w.heap.size w (w.alloc (.cells #[.slice A n c, .int .i64 0, .int .u64 0] 49)) := (Below.refl _ _).alloc (Nat.le_refl _) _
  clear h
  go_enter Try.func19, Try.ntmps19
  go_wp2_with fail
  refine (anyBits _ 0 30 _ hc.out (by omega) (by omega)).mono ?_
  rintro e w1 ⟨x, rfl, hx, hc1, hg1⟩
  have hb1 := below_of_grown hb0 hg1
  have HC1 := Lib.hid hc1
  clear hc1 hg1
  have hx2 : x.size ≤ 65 := hx
  clear hx
  have hgd := good x w1 (by unfold maxLen; omega)
  cases hb : rdB 2 64 x
  · rw [hb] at hgd
    have HGD := Lib.hid hgd
    clear hgd hb
    go_wp2_with fail
    refine HGD.out.mono ?_
    rintro e w2 ⟨rfl, rfl⟩
    go_wp2_with fail
    go_ret
    exact ⟨x, rfl, hx2, hb1⟩
  · rw [hb] at hgd
    have HGD := Lib.hid hgd
    clear hgd hb
    go_wp2_with fail
    refine HGD.out.mono ?_
    rintro e w2 ⟨rfl, rfl⟩
    go_wp2_with fail
    refine (one _ _ 2 _ HC1.out (by omega) (by omega) (by omega)).mono ?_
    rintro e w2 ⟨b, rfl, hc2, hg2⟩
    have hb2 := below_of_grown hb1 hg2
    clear hc2 hg2 HC1
    cases b
    · go_wp2_with fail
      go_ret
      exact ⟨x, rfl, hx2, hb2⟩
    · obtain ⟨q, hq⟩ : ∃ q : Nat, q = x.size / 4 := ⟨_, rfl⟩
      have e1 : ((x.size : Int)).tdiv 4 = (q : Int) := by rw [Int.tdiv_eq_ediv_of_nonneg (by omega)]; omega
      have e2 : (x.size : Int) / 4 = (q : Int) := by omega
      have e3 : IntKind.i64.wrap (q : Int) = (q : Int) := IntWalk.i64_in _ (by omega)
      have e4 : (4 * q : Nat) ≤ x.size := by omega
      have e5 : ((q : Int)) * 4 ≤ (x.size : Int) := by omega
      have e6 : 4 * (q : Int) ≤ (x.size : Int) := by omega
      have HZ := Lib.hid (fun b => show (x.extract 0 b).size ≤ 65 by rw [ByteArray.size_extract]; omega)
      clear hq
      go_wp2_with fail
      go_ret
      exact ⟨_, rfl, HZ.out _, hb2⟩

def Str2 (k : Nat) (w : World) (e : Ending) (w' : World) : Prop := ∃ x y : ByteArray, e = .returned (.tuple #[.string x, .string y]) ∧ x.size ≤ k ∧ y.size ≤ k ∧ Below w.heap.size w w'

set_option maxHeartbeats 1000000 in
theorem xorBits (A : Option Addr) (n c : Nat) (w : World) (hn : n ≤ 65536) (h : Bytes w w.heap.size A n) :
    Calls Try.prog 35 #[.slice A n c] w (Str2 65 w) := by
  have hc := Lib.hid (new_cur c (by omega) h)
  have hb0 : Below w.heap.size w (w.alloc (.cells #[.slice A n c, .int .i64 0, .int .u64 0] 49)) := (Below.refl _ _).alloc (Nat.le_refl _) _
  clear h
  go_enter Try.func35, Try.ntmps35
  go_wp2_with fail
  refine (anyBits _ 0 20 _ hc.out (by omega) (by omega)).mono ?_
  rintro e w1 ⟨x, rfl, hx, hc1, hg1⟩
  have hb1 := below_of_grown hb0 hg1
  have HC1 := Lib.hid hc1
  clear hc1 hg1
  have hx2 : x.size ≤ 65 := hx
  have hx3 : (x.size : Int) ≤ 65 := by omega
  clear hx
  go_wp2_with fail
  go_loopw [6] (fun s wr => ∃ y : ByteArray, s = .string y ∧ y.size ≤ x.size ∧ Cur wr w.heap.size (400 + 2 * y.size) ∧ Below w.heap.size w wr) (fun s _ => x.size - szOf s)
  case atStart => exact ⟨⟨#[]⟩, rfl, Nat.zero_le _, HC1.out, hb1⟩
  case round =>
    obtain ⟨y, rfl, hy, hc2, hb2⟩ := hrel
    have HC2 := Lib.hid hc2
    have HB2 := Lib.hid hb2
    clear hc2 hb2 HC1 hb1 hb0
    have hy2 : (y.size : Int) ≤ 65 := by omega
    by_cases hlt : y.size < x.size
    · have hlt2 : (y.size : Int) < (x.size : Int) := by omega
      go_wp2_with fail
      refine (of_newQ Bit _ (400 + 2 * y.size) 2 [⟨#[48]⟩, ⟨#[49]⟩] _ _ HC2.out (by omega) (by omega) (by omega) rfl rfl bit_list).mono ?_
      rintro e w3 ⟨z, rfl, hz, hc3, hg3⟩
      have hzs := hz.1
      have HS := Lib.hid (show (y ++ z).size = y.size + 1 by rw [ByteArray.size_append, hzs])
      have HC3 := Lib.hid hc3
      have HB3 := Lib.hid (below_of_grown HB2.out hg3)
      clear hc3 hg3 hz
      go_wp2_with fail
      go_roundw
      case rel => exact ⟨_, rfl, by rw [HS.out]; omega, by rw [HS.out]; exact HC3.out.more (by omega), HB3.out⟩
      case measure =>
        have := HS.out
        show x.size - (y ++ z).size < x.size - y.size
        omega
    · have hge : (x.size : Int) ≤ (y.size : Int) := by omega
      go_wp2_with fail
      refine (one _ (400 + 2 * y.size) 8 _ HC2.out (by omega) (by omega) (by omega)).mono ?_
      rintro e w4 ⟨b, rfl, hc4, hg4⟩
      have HC4 := Lib.hid hc4
      have HB4 := Lib.hid (below_of_grown HB2.out hg4)
      clear hc4 hg4
      cases b
      · go_wp2_with fail
        go_ret2
        exact ⟨x, y, rfl, hx2, by omega, HB4.out⟩
      · go_wp2_with fail
        refine (anyBits _ _ 20 _ HC4.out (by omega) (by omega)).mono ?_
        rintro e w5 ⟨z, rfl, hz, hc5, hg5⟩
        have HB5 := Lib.hid (below_of_grown HB4.out hg5)
        have hz2 : z.size ≤ 65 := hz
        clear hc5 hg5 hz
        go_wp2_with fail
        go_ret2
        exact ⟨x, z, rfl, hx2, hz2, HB5.out⟩

set_option maxHeartbeats 1000000 in
theorem bitsFromHex (A : Option Addr) (n c : Nat) (w : World) (hn : n ≤ 65536) (h : Bytes w w.heap.size A n) :
    Calls Try.prog 23 #[.slice A n c] w (Str1 17 w) := by
  have hc := Lib.hid (new_cur c (by omega) h)
  have hb0 : Below w.heap.size w (w.alloc (.cells #[.slice A n c, .int .i64 0, .int .u64 0] 49)) := (Below.refl _ _).alloc (Nat.le_refl _) _
  clear h
  go_enter Try.func23, Try.ntmps23
  go_wp2_with fail
  refine (cur.bits _ 0 40 _ hc.out (by omega) (by omega)).mono ?_
  rintro e w1 ⟨x, rfl, hx, hc1, hg1⟩
  have hb1 := below_of_grown hb0 hg1
  have HC1 := Lib.hid hc1
  clear hc1 hg1
  have hx2 : x.size ≤ 40 := hx.1
  obtain ⟨q, hq⟩ : ∃ q : Nat, q = x.size / 4 := ⟨_, rfl⟩
  have e1 : ((x.size : Int)).tdiv 4 = (q : Int) := by rw [Int.tdiv_eq_ediv_of_nonneg (by omega)]; omega
  have e2 : (x.size : Int) / 4 = (q : Int) := by omega
  have e3 : IntKind.i64.wrap (q : Int) = (q : Int) := IntWalk.i64_in _ (by omega)
  have e5 : ((q : Int)) * 4 ≤ (x.size : Int) := by omega
  have e6 : 4 * (q : Int) ≤ (x.size : Int) := by omega
  obtain ⟨T, hT, hTs⟩ : ∃ T : ByteArray, (∀ w, Calls Try.prog 48 #[.string (x.extract 0 (q * 4))] w fun e w' => e = .returned (.string T) ∧ w = w') ∧ T.size ≤ 10 := by
    refine ⟨_, fun w => l2Hex (x.extract 0 (q * 4)) w (by rw [ByteArray.size_extract]; omega) (by rw [ByteArray.size_extract]; omega) (sub_ok hx.2 _ _), ?_⟩
    show (enc 16 ((x.extract 0 (q * 4)).size / 4) (dec 2 (x.extract 0 (q * 4)).data.toList)).toArray.size ≤ 10
    rw [List.size_toArray, enc_length, ByteArray.size_extract]
    omega
  have HT := Lib.hid hT
  clear hx hq hT
  go_wp2_with fail
  refine (HT.out _).mono ?_
  rintro e w2 ⟨rfl, rfl⟩
  clear HT
  go_wp2_with fail
  refine (one _ 82 4 _ HC1.out (by omega) (by omega) (by omega)).mono ?_
  rintro e w3 ⟨b, rfl, hc3, hg3⟩
  have HC3 := Lib.hid hc3
  have HB3 := Lib.hid (below_of_grown hb1 hg3)
  clear hc3 hg3 HC1 hb1 hb0
  have hTi : (T.size : Int) ≤ 10 := by omega
  cases b
  · go_wp2_with fail
    refine (one _ 84 24 _ HC3.out (by omega) (by omega) (by omega)).mono ?_
    rintro e w5 ⟨b, rfl, hc5, hg5⟩
    have HC5 := Lib.hid (hc5.more (m' := 200) (by omega))
    have HB5 := Lib.hid (below_of_grown HB3.out hg5)
    clear hc5 hg5 HC3 HB3
    cases b
    · go_wp2_with fail
      go_ret
      exact ⟨T, rfl, by omega, HB5.out⟩
    · go_wp2_with fail
      go_loopw [4] (fun s wr => ∃ z : ByteArray, s = .string z ∧ z.size ≤ 17 ∧ Cur wr w.heap.size (200 + 2 * z.size) ∧ Below w.heap.size w wr) (fun s _ => 17 - szOf s)
      case atStart => exact ⟨T, rfl, by omega, HC5.out.more (by omega), HB5.out⟩
      case round =>
        obtain ⟨z, rfl, hz, hc6, hb6⟩ := hrel
        have HC6 := Lib.hid hc6
        have HB6 := Lib.hid hb6
        clear hc6 hb6 HC5 HB5
        go_wp2_with fail
        refine (pick _ (200 + 2 * z.size) 2 _ HC6.out (by omega) (by omega) (by omega)).mono ?_
        rintro e w7 ⟨r, rfl, r0, r1, hc7, hg7⟩
        have HC7 := Lib.hid hc7
        have HB7 := Lib.hid (below_of_grown HB6.out hg7)
        clear hc7 hg7 HC6 HB6
        by_cases hlt : (z.size : Int) < 16 + r
        · have HZ := Lib.hid (show (z ++ (⟨#[70]⟩ : ByteArray)).size = z.size + 1 by rw [ByteArray.size_append]; rfl)
          go_wp2_with fail
          go_roundw
          case rel => exact ⟨_, rfl, by rw [HZ.out]; omega, by rw [HZ.out]; exact HC7.out.more (by omega), HB7.out⟩
          case measure =>
            have := HZ.out
            show 17 - (z ++ (⟨#[70]⟩ : ByteArray)).size < 17 - z.size
            omega
        · have hge : 16 + r ≤ (z.size : Int) := by omega
          go_wp2_with fail
          go_ret
          exact ⟨z, rfl, hz, HB7.out⟩
  · go_wp2_with fail
    refine (spoilt _ 84 T ⟨#[48, 65, 97, 71]⟩ _ HC3.out (by omega) (by omega) (by decide) (by decide)).mono ?_
    rintro e w4 ⟨y, rfl, hy, hc4, hg4⟩
    have hy2 : y.size ≤ T.size + 1 := hy
    have HC4 := Lib.hid hc4
    have HB4 := Lib.hid (below_of_grown HB3.out hg4)
    clear hc4 hg4 HC3 HB3 hy
    go_wp2_with fail
    refine (one _ 90 24 _ HC4.out (by omega) (by omega) (by omega)).mono ?_
    rintro e w5 ⟨b, rfl, hc5, hg5⟩
    have HC5 := Lib.hid (hc5.more (m' := 200) (by omega))
    have HB5 := Lib.hid (below_of_grown HB4.out hg5)
    clear hc5 hg5 HC4 HB4
    cases b
    · go_wp2_with fail
      go_ret
      exact ⟨y, rfl, by omega, HB5.out⟩
    · go_wp2_with fail
      go_loopw [4] (fun s wr => ∃ z : ByteArray, s = .string z ∧ z.size ≤ 17 ∧ Cur wr w.heap.size (200 + 2 * z.size) ∧ Below w.heap.size w wr) (fun s _ => 17 - szOf s)
      case atStart => exact ⟨y, rfl, by omega, HC5.out.more (by omega), HB5.out⟩
      case round =>
        obtain ⟨z, rfl, hz, hc6, hb6⟩ := hrel
        have HC6 := Lib.hid hc6
        have HB6 := Lib.hid hb6
        clear hc6 hb6 HC5 HB5
        go_wp2_with fail
        refine (pick _ (200 + 2 * z.size) 2 _ HC6.out (by omega) (by omega) (by omega)).mono ?_
        rintro e w7 ⟨r, rfl, r0, r1, hc7, hg7⟩
        have HC7 := Lib.hid hc7
        have HB7 := Lib.hid (below_of_grown HB6.out hg7)
        clear hc7 hg7 HC6 HB6
        by_cases hlt : (z.size : Int) < 16 + r
        · have HZ := Lib.hid (show (z ++ (⟨#[70]⟩ : ByteArray)).size = z.size + 1 by rw [ByteArray.size_append]; rfl)
          go_wp2_with fail
          go_roundw
          case rel => exact ⟨_, rfl, by rw [HZ.out]; omega, by rw [HZ.out]; exact HC7.out.more (by omega), HB7.out⟩
          case measure =>
            have := HZ.out
            show 17 - (z ++ (⟨#[70]⟩ : ByteArray)).size < 17 - z.size
            omega
        · have hge : 16 + r ≤ (z.size : Int) := by omega
          go_wp2_with fail
          go_ret
          exact ⟨z, rfl, hz, HB7.out⟩
end Go.Proofs.Ythamflifmpideaa.drawb
