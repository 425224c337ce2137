/- spec's RepairBit, PatternOf and WeakestFlips. -/
import Derived.Test.YtdjcbfeilkepmaaParS
import Derived.Test.YtdjcbfeilkepmaaParB
import Derived.Test.YtdjcbfeilkepmaaIn
import Derived.Test.YtdjcbfeilkepmaaOwn
import Derived.Lib.Strings
import Derived.OwnWalk
import Derived.Maps.AppendAt
import Derived.WalkSpells
import Derived.Outline
namespace Go.Proofs.Ytdjcbfeilkepmaa.parr
open Go.RowKit Go.Proofs.Ytdjcbfeilkepmaa.bin Go.Proofs.Ytdjcbfeilkepmaa.pop_ Go.Proofs.Ytdjcbfeilkepmaa.good_ Go.Proofs.Ytdjcbfeilkepmaa.par Go.Proofs.Ytdjcbfeilkepmaa.pars Go.Proofs.Ytdjcbfeilkepmaa.in_

/-- A bit string with one bit flipped. -/
theorem flip_size {s : ByteArray} {k : Nat} (hk : k < s.size) : (flipT s k).size = s.size := by
  have h := bitsi.flip_list s k hk
  have h2 := congrArg List.length h
  rw [List.length_set, par.len_list, par.len_list] at h2
  exact h2
theorem flip_dec {s : ByteArray} {k : Nat} (hs : rdB 2 64 s = true) (hk : k < s.size) : ok 2 (flipT s k).data.toList = true ∧ dec 2 (flipT s k).data.toList = dec 2 s.data.toList ^^^ 2 ^ (s.size - 1 - k) := by
  have ht := bitsi.flip_text k hs hk
  have hv := dec_lt 2 _ (bitsi.rd_ok hs).2
  rw [par.len_list] at hv
  have hx : dec 2 s.data.toList ^^^ 2 ^ (s.size - 1 - k) < 2 ^ s.size := Nat.xor_lt_two_pow hv (Nat.pow_lt_pow_right (by omega) (by omega))
  rw [← ht]
  exact ⟨ok_enc 2 (by omega) (by omega) _ _, dec_enc 2 (by omega) (by omega) _ _ hx⟩
theorem flip_snd {s : ByteArray} {k : Nat} (hs : sndB s = true) (hk : k < s.size) : sndB (flipT s k) = true := by
  have h := snd_of hs
  have h2 := bitsi.rd_ok h.1
  refine snd_yes ?_ (by rw [flip_size hk]; exact h.2)
  unfold rdB
  rw [flip_size hk, (flip_dec h.1 hk).1, decide_eq_true h2.1]
  rfl
theorem flip_syn {s : ByteArray} {k : Nat} (hs : sndB s = true) (hk : k < s.size) : syn (flipT s k) = syn s ^^^ pat (s.size - 1 - k) := by
  unfold syn
  rw [(flip_dec (snd_of hs).1 hk).2, red_flip]

theorem ne0 {n : Nat} (h : n ≠ 0) : ((n : Int) == 0) = false := by simp; omega

theorem repair4 (s : ByteArray) (w : World) (hs : sndB s = true) :
    Calls Try.prog 165 #[.string s] w fun e w' => e = .returned (.tuple #[.string (repT s), .int .i64 (repI s), .bool (repB s)]) ∧ Below w.heap.size w w' := by
  have HS := Lib.hid (fun w => synOf hs w)
  have h64 : s.size ≤ 64 := (bitsi.rd_ok (snd_of hs).1).1
  by_cases h0 : syn s = 0
  · have HY := Lib.hid (rep_yes0 hs h0)
    rw [h0] at HS
    clear hs h0
    go_enter Try.func165, Try.ntmps165
    go_wp2_with fail
    refine (HS.out _).mono ?_
    rintro e w' ⟨rfl, j, rfl⟩
    go_wp2_with fail
    go_ret3
    exact ⟨HY.out, aid.below_drewN (Below.refl _ _) _⟩
  · have e0 := ne0 h0
    have H0 := Lib.hid h0
    have HSB := Lib.hid hs
    have HF := Lib.hid (fun k w hk => flipN s k w h64 hk)
    have HG := Lib.hid (fun k (hk : k < s.size) w => synOf (flip_snd hs hk) w)
    have HV := Lib.hid (fun k (hk : k < s.size) => flip_syn hs hk)
    have HYE := Lib.hid (fun k hk hp => rep_yes1 (k := k) hs h0 hk hp h64)
    have HNE := Lib.hid (fun hh => rep_no2 (s := s) h0 hh)
    clear h0 hs
    generalize syn s = v at *
    go_enter Try.func165, Try.ntmps165
    go_wp2_with fail
    refine (HS.out _).mono ?_
    rintro e w' ⟨rfl, j0, rfl⟩
    go_wp2_with fail
    go_loopw [5, 6] (fun i _ wr => ∃ k j : Nat, k ≤ s.size ∧ i = .int .i64 k ∧ wr = w.drewN j ∧ ∀ i, i < k → pat (s.size - 1 - i) ≠ v) (fun i _ _ => s.size - (intOf i).toNat)
    case atStart => exact ⟨0, j0, Nat.zero_le _, rfl, rfl, fun i hi => absurd hi (Nat.not_lt_zero _)⟩
    case round =>
      obtain ⟨k, j, hk, rfl, rfl, hno⟩ := hrel
      have HO := Lib.hid hno
      clear hno
      by_cases hlt : k < s.size
      · have hlt2 : (k : Int) < (s.size : Int) := by omega
        have hsy := HV.out k hlt
        have HG2 := Lib.hid (HG.out k hlt)
        have HF2 := Lib.hid (fun w => HF.out k w hlt)
        rw [hsy] at HG2
        by_cases hp : pat (s.size - 1 - k) = v
        · have HE := Lib.hid (HYE.out k hlt hp)
          rw [hp, Nat.xor_self] at HG2
          clear hsy hp
          generalize flipT s k = t at *
          go_wp2_with fail
          refine (HF2.out _).mono ?_
          rintro e w1 ⟨rfl, j1, rfl⟩
          go_wp2_with fail
          refine (HG2.out _).mono ?_
          rintro e w1 ⟨rfl, j2, rfl⟩
          go_wp2_with fail
          go_ret3
          exact ⟨HE.out, aid.below_drewN (Below.refl _ _) _⟩
        · have hx0 : v ^^^ pat (s.size - 1 - k) ≠ 0 := fun e => hp ((xor_zero_iff _ _).1 e).symm
          have e1 := ne0 hx0
          have HS2 := Lib.hid (show ∀ i, i < k + 1 → pat (s.size - 1 - i) ≠ v from fun i hi => by
            by_cases hik : i < k
            · exact HO.out i hik
            · obtain rfl : i = k := by omega
              exact hp)
          clear hsy hp hx0
          generalize v ^^^ pat (s.size - 1 - k) = x at *
          generalize flipT s k = t at *
          go_wp2_with fail
          refine (HF2.out _).mono ?_
          rintro e w1 ⟨rfl, j1, rfl⟩
          go_wp2_with fail
          refine (HG2.out _).mono ?_
          rintro e w1 ⟨rfl, j2, rfl⟩
          go_wp2_with fail
          go_roundw
          case rel => exact ⟨k + 1, _, by omega, by go_num, rfl, HS2.out⟩
          case measure => simp [intOf]; omega
      · obtain rfl : k = s.size := by omega
        have HE := Lib.hid (HNE.out (has_not (fun j hj => by
          have := HO.out (s.size - 1 - j) (by omega)
          rwa [show s.size - 1 - (s.size - 1 - j) = j by omega] at this)))
        go_wp2_with fail
        go_ret3
        exact ⟨HE.out, aid.below_drewN (Below.refl _ _) _⟩

/-- The bit string with the bit i alone. -/
def sg (i : Nat) : Nat → List UInt8
  | 0 => []
  | k + 1 => sg i k ++ [if k = i then 49 else 48]
theorem sg_length (i : Nat) : ∀ k, (sg i k).length = k
  | 0 => rfl
  | k + 1 => by rw [sg, List.length_append, sg_length i k]; rfl
theorem sg_ok (i : Nat) : ∀ k, ok 2 (sg i k) = true
  | 0 => rfl
  | k + 1 => by
    rw [sg, ok_snoc, sg_ok i k]
    split <;> decide
theorem sg_dec (i : Nat) : ∀ k, dec 2 (sg i k) = if i < k then 2 ^ (k - 1 - i) else 0
  | 0 => rfl
  | k + 1 => by
    rw [sg, dec_snoc, sg_dec i k]
    by_cases h1 : k = i
    · subst h1
      rw [if_pos rfl, if_neg (by omega), if_pos (by omega), show k + 1 - 1 - k = 0 by omega]
      decide
    · rw [if_neg h1, show dv 48 = 0 from by decide]
      by_cases h2 : i < k
      · rw [if_pos h2, if_pos (by omega), show k + 1 - 1 - i = (k - 1 - i) + 1 by omega, Nat.pow_succ]
        omega
      · rw [if_neg h2, if_neg (by omega)]
def sgT (i k : Nat) : ByteArray := ⟨(sg i k).toArray⟩
theorem sgT_size (i k : Nat) : (sgT i k).size = k := sg_length i k
theorem sgT_step1 (i k : Nat) (h : k = i) : sgT i k ++ ⟨#[49]⟩ = sgT i (k + 1) := by
  apply aid.str_ext
  rw [aid.str_app]
  show sg i k ++ [49] = sg i k ++ [if k = i then 49 else 48]
  rw [if_pos h]
theorem sgT_step0 (i k : Nat) (h : k ≠ i) : sgT i k ++ ⟨#[48]⟩ = sgT i (k + 1) := by
  apply aid.str_ext
  rw [aid.str_app]
  show sg i k ++ [48] = sg i k ++ [if k = i then 49 else 48]
  rw [if_neg h]
theorem sgT_snd {i k : Nat} (h12 : 12 ≤ k) (h64 : k ≤ 64) : sndB (sgT i k) = true := by
  refine snd_yes ?_ (by rw [sgT_size]; exact h12)
  unfold rdB
  rw [sgT_size, show ok 2 (sgT i k).data.toList = true from sg_ok i k, decide_eq_true h64]
  rfl
theorem sgT_syn {i k : Nat} (h : i < k) : syn (sgT i k) = pat (k - 1 - i) := by
  unfold syn
  rw [show dec 2 (sgT i k).data.toList = 2 ^ (k - 1 - i) from (sg_dec i k).trans (if_pos h)]
  rfl

end Go.Proofs.Ytdjcbfeilkepmaa.parr
