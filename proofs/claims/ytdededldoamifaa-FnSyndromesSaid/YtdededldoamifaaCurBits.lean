/- The reader of choices, on: bit strings (bits), spoilt strings (spoilt), and texts that are mostly bit strings (anyBits). -/
import Derived.Test.YtdededldoamifaaCurInt
import Derived.Test.YtdededldoamifaaBin
import Derived.BigQuiet
import Derived.Deep.QuietTactic
namespace Go.Proofs.Ytdededldoamifaa.cur
open Go.RowKit Go.Proofs.Ytdededldoamifaa.bin

theorem grown_drewN {w w' : World} {r : Option Nat} (h : w.grownBy w' r) (k : Nat) : w.grownBy (w'.drewN k) r := ⟨h.os, h.tape, h.output, h.size, h.block⟩
theorem cur_drewN {w : World} {p m : Nat} (h : Cur w p m) (k : Nat) : Cur (w.drewN k) p m := h.keep (aid.below_drewN (Below.refl _ _) k)
def szOf : Value → Nat
  | .string x => x.size
  | _ => 0

/-- One digit 0 or 1. -/
def Bit (x : ByteArray) : Prop := x.size = 1 ∧ ok 2 x.data.toList = true
theorem bit_list : ∀ x ∈ ([⟨#[48]⟩, ⟨#[49]⟩] : List ByteArray), Bit x := by
  intro x hx
  simp at hx
  rcases hx with rfl | rfl
  · exact ⟨rfl, by decide⟩
  · exact ⟨rfl, by decide⟩
def Bits (n : Nat) (x : ByteArray) : Prop := x.size ≤ n ∧ ok 2 x.data.toList = true
theorem bit_add {x y : ByteArray} (hx : ok 2 x.data.toList = true) (hy : Bit y) : ok 2 (x ++ y).data.toList = true ∧ (x ++ y).size = x.size + 1 := by
  refine ⟨?_, ?_⟩
  · rw [aid.str_app, ok_app, hx, hy.2]; rfl
  · rw [ByteArray.size_append, hy.1]

set_option maxHeartbeats 1000000 in
theorem bits (p m n : Nat) (w : World) (h : Cur w p m) (hm : m ≤ 800000) (hn : (n : Int) ≤ 1000) :
    Calls Try.prog 67 #[.pointer (some ⟨p, 0, none⟩), .int .i64 n] w (StrQ (Bits n) p (m + 2 + 2 * n) w) := by
  have hx := Lib.hid (pick p m ((n : Int) + 1) w h (by omega) (by omega) (by omega))
  clear h
  go_enter Try.func67, Try.ntmps67
  go_wp2_with fail
  refine hx.out.mono ?_
  rintro e w1 ⟨r, rfl, r0, r1, hc1, hg1⟩
  obtain ⟨q, rfl⟩ := Int.eq_ofNat_of_zero_le r0
  have hq : (q : Int) ≤ (n : Int) := by omega
  have HC1 := Lib.hid hc1
  have HG1 := Lib.hid hg1
  clear hc1 hg1 r0 r1 hx
  go_wp2_with fail
  go_loopw [5, 6] (fun s k wr => ∃ (j : Nat) (x : ByteArray), k = .int .i64 j ∧ s = .string x ∧ x.size + j = q ∧ ok 2 x.data.toList = true ∧ Cur wr p (m + 2 + 2 * x.size) ∧ w.grownBy wr (some p)) (fun _ k _ => (intOf k).toNat)
  case atStart => exact ⟨q, ⟨#[]⟩, rfl, rfl, Nat.zero_add _, rfl, HC1.out, HG1.out⟩
  case round =>
    obtain ⟨j, x, rfl, rfl, hj, hok, hc, hg⟩ := hrel
    have HO := Lib.hid hok
    have HC := Lib.hid hc
    have HG := Lib.hid hg
    clear hok hc hg
    by_cases hlt : 0 < j
    · have h1 : (0 : Int) < (j : Int) := by omega
      have hxs : (x.size : Int) ≤ 1000 := by omega
      go_wp2_with fail
      refine (of_newQ Bit p (m + 2 + 2 * x.size) 2 [⟨#[48]⟩, ⟨#[49]⟩] _ wr HC.out (by omega) (by omega) (by omega) rfl rfl bit_list).mono ?_
      rintro e w2 ⟨y, rfl, hy, hc2, hg2⟩
      obtain ⟨ho2, hs2⟩ := bit_add HO.out hy
      have hys := hy.1
      have HO2 := Lib.hid ho2
      have HS2 := Lib.hid hs2
      have HC2 := Lib.hid hc2
      have HG2 := Lib.hid (grown_trans HG.out hg2)
      clear hc2 hg2 ho2 hs2 hy
      go_wp2_with fail
      go_roundw
      case rel => exact ⟨j - 1, x ++ y, by go_num, rfl, by rw [HS2.out]; omega, HO2.out, by rw [HS2.out]; exact HC2.out.more (by omega), HG2.out⟩
      case measure => simp [intOf]; omega
    · have h1 : (j : Int) ≤ 0 := by omega
      have HR := Lib.hid (show Bits n x from ⟨by omega, HO.out⟩)
      have HM := Lib.hid (HC.out.more (m' := m + 2 + 2 * n) (by omega))
      go_wp2_with fail
      go_ret
      exact ⟨x, rfl, HR.out, HM.out, HG.out⟩

theorem cut_size (t : ByteArray) (i : Nat) (hi : i < t.size) (x : ByteArray) (hx : x.size = 1) :
    (t.extract 0 i ++ x ++ t.extract i t.size).size ≤ t.size + 1 ∧ (t.extract 0 i ++ x ++ t.extract (i + 1) t.size).size ≤ t.size + 1 ∧ (t.extract 0 i ++ t.extract (i + 1) t.size).size ≤ t.size + 1 := by
  simp only [ByteArray.size_append, ByteArray.size_extract, hx]
  omega

theorem empty_iff (t : ByteArray) : t.toList.isEmpty = decide (t.size = 0) := by
  rw [ByteArray.toList_eq]
  obtain ⟨⟨l⟩⟩ := t
  cases l <;> simp [← ByteArray.size_data]

set_option maxHeartbeats 1000000 in
theorem spoilt (p m : Nat) (t u : ByteArray) (w : World) (h : Cur w p m) (hm : m ≤ 800000) (ht : (t.size : Int) ≤ 1000) (hu : (u.size : Int) ≤ 100) (hu0 : (1 : Int) ≤ (u.size : Int)) :
    Calls Try.prog 68 #[.pointer (some ⟨p, 0, none⟩), .string t, .string u] w (StrQ (fun x => x.size ≤ t.size + 1) p (m + 6) w) := by
  have HC := Lib.hid h
  clear h
  by_cases h0 : t.size = 0
  · have he : t.toList.isEmpty = true := by rw [empty_iff]; exact decide_eq_true h0
    have HS := Lib.hid (show (u.extract 0 1).size ≤ t.size + 1 by rw [ByteArray.size_extract]; omega)
    clear h0
    go_enter Try.func68, Try.ntmps68
    go_wp2_with fail
    go_ret
    exact ⟨_, rfl, HS.out, HC.out.more (by omega), World.grownBy.refl w _⟩
  · have he : t.toList.isEmpty = false := by rw [empty_iff]; exact decide_eq_false h0
    have ht0 : (1 : Int) ≤ (t.size : Int) := by omega
    clear h0
    go_enter Try.func68, Try.ntmps68
    go_wp2_with fail
    refine (pick p m (t.size : Int) w HC.out (by omega) (by omega) (by omega)).mono ?_
    rintro e w1 ⟨r, rfl, r0, r1, hc1, hg1⟩
    obtain ⟨i, rfl⟩ := Int.eq_ofNat_of_zero_le r0
    have HC1 := Lib.hid hc1
    have HG1 := Lib.hid hg1
    clear hc1 hg1 HC r0
    go_wp2_with fail
    refine (pick p (m + 2) (u.size : Int) w1 HC1.out (by omega) (by omega) (by omega)).mono ?_
    rintro e w2 ⟨q, rfl, q0, q1, hc2, hg2⟩
    obtain ⟨j, rfl⟩ := Int.eq_ofNat_of_zero_le q0
    have HC2 := Lib.hid hc2
    have HG2 := Lib.hid (grown_trans HG1.out hg2)
    clear hc2 hg2 HC1 HG1 q0
    have e1 : (j : Int) ≤ (u.size : Int) := by omega
    have e2 : (1 : Int) ≤ ((u.extract j u.size).size : Int) := by rw [ByteArray.size_extract]; omega
    have HX := Lib.hid (show ((u.extract j u.size).extract 0 1).size = 1 by rw [ByteArray.size_extract, ByteArray.size_extract]; omega)
    go_wp2_with fail
    generalize (u.extract j u.size).extract 0 1 = y at *
    refine (pick p (m + 4) 3 w2 HC2.out (by omega) (by omega) (by omega)).mono ?_
    rintro e w3 ⟨v, rfl, v0, v1, hc3, hg3⟩
    have HC3 := Lib.hid hc3
    have HG3 := Lib.hid (grown_trans HG2.out hg3)
    clear hc3 hg3 HC2 HG2 e1 e2
    have hi : (i : Int) ≤ (t.size : Int) := by omega
    have hi1 : (i : Int) + 1 ≤ (t.size : Int) := by omega
    have hi2 : IntKind.i64.wrap ((i : Int) + 1) = (i : Int) + 1 := IntWalk.i64_in _ (by omega)
    obtain ⟨s1, s2, s3⟩ := cut_size t i (by omega) y HX.out
    have S1 := Lib.hid s1
    have S2 := Lib.hid s2
    have S3 := Lib.hid s3
    clear s1 s2 s3
    have hys : y.size = 1 := HX.out
    obtain rfl | rfl | rfl : v = 0 ∨ v = 1 ∨ v = 2 := by omega
    · clear v0 v1
      go_wp2_with fail
      go_quiet (fail)
      go_wp2_with fail
      go_ret
      exact ⟨_, rfl, S1.out, cur_drewN HC3.out _, grown_drewN HG3.out _⟩
    · clear v0 v1
      go_wp2_with fail
      go_quiet (fail)
      go_wp2_with fail
      go_ret
      exact ⟨_, rfl, S2.out, cur_drewN HC3.out _, grown_drewN HG3.out _⟩
    · clear v0 v1
      go_wp2_with fail
      go_quiet (fail)
      go_wp2_with fail
      go_ret
      exact ⟨_, rfl, S3.out, cur_drewN HC3.out _, grown_drewN HG3.out _⟩

set_option maxHeartbeats 1000000 in
theorem anyBits (p m n : Nat) (w : World) (h : Cur w p m) (hm : m ≤ 500000) (hn : (n : Int) ≤ 64) :
    Calls Try.prog 55 #[.pointer (some ⟨p, 0, none⟩), .int .i64 n] w (StrQ (fun x => x.size ≤ 65) p (m + 400) w) := by
  have HC := Lib.hid h
  clear h
  go_enter Try.func55, Try.ntmps55
  go_wp2_with fail
  refine (bits p m n w HC.out (by omega) (by omega)).mono ?_
  rintro e w1 ⟨x, rfl, hx, hc1, hg1⟩
  have hxs := hx.1
  have HC1 := Lib.hid (hc1.more (m' := m + 130) (by omega))
  have HG1 := Lib.hid hg1
  clear hc1 hg1 hx HC
  go_wp2_with fail
  refine (one p (m + 130) 12 w1 HC1.out (by omega) (by omega) (by omega)).mono ?_
  rintro e w2 ⟨b, rfl, hc2, hg2⟩
  have HC2 := Lib.hid hc2
  have HG2 := Lib.hid (grown_trans HG1.out hg2)
  clear hc2 hg2 HC1 HG1
  have hxi : (x.size : Int) ≤ 64 := by omega
  cases b
  · go_wp2_with fail
    refine (one p (m + 132) 24 w2 HC2.out (by omega) (by omega) (by omega)).mono ?_
    rintro e w3 ⟨b, rfl, hc3, hg3⟩
    have hxz : x.size ≤ 65 := by omega
    have HC3 := Lib.hid (hc3.more (m' := m + 140) (by omega))
    have HG3 := Lib.hid (grown_trans HG2.out hg3)
    clear hc3 hg3 HC2 HG2 hxi hxs
    cases b
    · go_wp2_with fail
      go_ret
      exact ⟨x, rfl, hxz, HC3.out.more (by omega), HG3.out⟩
    · go_wp2_with fail
      go_loopw [5] (fun s wr => ∃ z : ByteArray, s = .string z ∧ z.size ≤ 65 ∧ Cur wr p (m + 140 + 2 * z.size) ∧ w.grownBy wr (some p)) (fun s _ => 65 - szOf s)
      case atStart => exact ⟨x, rfl, hxz, HC3.out.more (by omega), HG3.out⟩
      case round =>
        obtain ⟨z, rfl, hz, hc4, hg4⟩ := hrel
        have HC4 := Lib.hid hc4
        have HG4 := Lib.hid hg4
        clear hc4 hg4 HC3 HG3
        go_wp2_with fail
        refine (pick p (m + 140 + 2 * z.size) 2 _ HC4.out (by omega) (by omega) (by omega)).mono ?_
        rintro e w5 ⟨r, rfl, r0, r1, hc5, hg5⟩
        have HC5 := Lib.hid hc5
        have HG5 := Lib.hid (grown_trans HG4.out hg5)
        clear hc5 hg5 HC4 HG4
        by_cases hlt : (z.size : Int) < 64 + r
        · have hzs : (z ++ (⟨#[49]⟩ : ByteArray)).size = z.size + 1 := by rw [ByteArray.size_append]; rfl
          have HZ := Lib.hid hzs
          clear hzs
          go_wp2_with fail
          go_roundw
          case rel => exact ⟨_, rfl, by rw [HZ.out]; omega, by rw [HZ.out]; exact HC5.out.more (by omega), HG5.out⟩
          case measure =>
            have := HZ.out
            show 65 - (z ++ (⟨#[49]⟩ : ByteArray)).size < 65 - z.size
            omega
        · have hge : 64 + r ≤ (z.size : Int) := by omega
          go_wp2_with fail
          go_ret
          exact ⟨z, rfl, hz, HC5.out.more (by omega), HG5.out⟩
  · go_wp2_with fail
    refine (spoilt p (m + 132) x ⟨#[48, 49, 50, 97]⟩ w2 HC2.out (by omega) (by omega) (by decide) (by decide)).mono ?_
    rintro e w7 ⟨y, rfl, hy, hc7, hg7⟩
    have hyz : y.size ≤ 65 := by omega
    have HC7 := Lib.hid hc7
    have HG7 := Lib.hid (grown_trans HG2.out hg7)
    clear hc7 hg7 HC2 HG2 hxi hxs hy
    go_wp2_with fail
    refine (one p (m + 138) 24 w7 HC7.out (by omega) (by omega) (by omega)).mono ?_
    rintro e w3 ⟨b, rfl, hc3, hg3⟩
    have HC3 := Lib.hid (hc3.more (m' := m + 140) (by omega))
    have HG3 := Lib.hid (grown_trans HG7.out hg3)
    clear hc3 hg3 HC7 HG7
    cases b
    · go_wp2_with fail
      go_ret
      exact ⟨y, rfl, hyz, HC3.out.more (by omega), HG3.out⟩
    · go_wp2_with fail
      go_loopw [5] (fun s wr => ∃ z : ByteArray, s = .string z ∧ z.size ≤ 65 ∧ Cur wr p (m + 140 + 2 * z.size) ∧ w.grownBy wr (some p)) (fun s _ => 65 - szOf s)
      case atStart => exact ⟨y, rfl, hyz, HC3.out.more (by omega), HG3.out⟩
      case round =>
        obtain ⟨z, rfl, hz, hc4, hg4⟩ := hrel
        have HC4 := Lib.hid hc4
        have HG4 := Lib.hid hg4
        clear hc4 hg4 HC3 HG3
        go_wp2_with fail
        refine (pick p (m + 140 + 2 * z.size) 2 _ HC4.out (by omega) (by omega) (by omega)).mono ?_
        rintro e w5 ⟨r, rfl, r0, r1, hc5, hg5⟩
        have HC5 := Lib.hid hc5
        have HG5 := Lib.hid (grown_trans HG4.out hg5)
        clear hc5 hg5 HC4 HG4
        by_cases hlt : (z.size : Int) < 64 + r
        · have hzs : (z ++ (⟨#[49]⟩ : ByteArray)).size = z.size + 1 := by rw [ByteArray.size_append]; rfl
          have HZ := Lib.hid hzs
          clear hzs
          go_wp2_with fail
          go_roundw
          case rel => exact ⟨_, rfl, by rw [HZ.out]; omega, by rw [HZ.out]; exact HC5.out.more (by omega), HG5.out⟩
          case measure =>
            have := HZ.out
            show 65 - (z ++ (⟨#[49]⟩ : ByteArray)).size < 65 - z.size
            omega
        · have hge : 64 + r ≤ (z.size : Int) := by omega
          go_wp2_with fail
          go_ret
          exact ⟨z, rfl, hz, HC5.out.more (by omega), HG5.out⟩
end Go.Proofs.Ytdededldoamifaa.cur
