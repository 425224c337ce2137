/- spec's RepairBit, PatternOf and WeakestFlips. -/
import Derived.Test.YtdededldoamifaaParS
import Derived.Test.YtdededldoamifaaParB
import Derived.Test.YtdededldoamifaaIn
import Derived.Test.YtdededldoamifaaOwn
import Derived.Lib.Strings
import Derived.OwnWalk
import Derived.Maps.AppendAt
import Derived.WalkSpells
import Derived.Outline
namespace Go.Proofs.Ytdededldoamifaa.parr
open Go.RowKit Go.Proofs.Ytdededldoamifaa.bin Go.Proofs.Ytdededldoamifaa.pop_ Go.Proofs.Ytdededldoamifaa.good_ Go.Proofs.Ytdededldoamifaa.par Go.Proofs.Ytdededldoamifaa.pars Go.Proofs.Ytdededldoamifaa.in_

/-- A bit string with one bit flipped. -/
theorem flip_size {s : ByteArray} {k : Nat} (hk : k < s.size) : (flipT s k).size = s.size := by
  have h := bitsi.flip_list s k hk
  have h2 := congrArg List.length h
  rw [List.length_set, par.len_list, par.len_list] at h2
  exact h2
theorem flip_dec {s : ByteArray} {k : Nat} (hs : rdB 2 64 s = true) (hk : k < s.size) : ok 2 (flipT s k).data.toList = true ∧ dec 2 (flipT s k).data.toList = dec 2 s.data.toList ^^^ 2 ^ (s.size - 1 - k) := by
  have ht := bitsi.flip_text k hs hk
  have hv := dec_lt 2 _ (bitsi.rd_ok hs).2
  rw [par.len_list] at hv
  have hx : dec 2 s.data.toList ^^^ 2 ^ (s.size - 1 - k) < 2 ^ s.size := Nat.xor_lt_two_pow hv (Nat.pow_lt_pow_right (by omega) (by omega))
  rw [← ht]
  exact ⟨ok_enc 2 (by omega) (by omega) _ _, dec_enc 2 (by omega) (by omega) _ _ hx⟩
theorem flip_snd {s : ByteArray} {k : Nat} (hs : sndB s = true) (hk : k < s.size) : sndB (flipT s k) = true := by
  have h := snd_of hs
  have h2 := bitsi.rd_ok h.1
  refine snd_yes ?_ (by rw [flip_size hk]; exact h.2)
  unfold rdB
  rw [flip_size hk, (flip_dec h.1 hk).1, decide_eq_true h2.1]
  rfl
theorem flip_syn {s : ByteArray} {k : Nat} (hs : sndB s = true) (hk : k < s.size) : syn (flipT s k) = syn s ^^^ pat (s.size - 1 - k) := by
  unfold syn
  rw [(flip_dec (snd_of hs).1 hk).2, red_flip]

theorem ne0 {n : Nat} (h : n ≠ 0) : ((n : Int) == 0) = false := by simp; omega

theorem repair4 (s : ByteArray) (w : World) (hs : sndB s = true) :
    Calls Try.prog 46 #[.string s] w fun e w' => e = .returned (.tuple #[.string (repT s), .int .i64 (repI s), .bool (repB s)]) ∧ Below w.heap.size w w' := by
  have HS := Lib.hid (fun w => synOf hs w)
  have h64 : s.size ≤ 64 := (bitsi.rd_ok (snd_of hs).1).1
  by_cases h0 : syn s = 0
  · have HY := Lib.hid (rep_yes0 hs h0)
    rw [h0] at HS
    clear hs h0
    go_enter Try.func46, Try.ntmps46
    go_wp2_with fail
    refine (HS.out _).mono ?_
    rintro e w' ⟨rfl, j, rfl⟩
    go_wp2_with fail
    go_ret3
    exact ⟨HY.out, aid.below_drewN (Below.refl _ _) _⟩
  · have e0 := ne0 h0
    have H0 := Lib.hid h0
    have HSB := Lib.hid hs
    have HF := Lib.hid (fun k w hk => flipN s k w h64 hk)
    have HG := Lib.hid (fun k (hk : k < s.size) w => synOf (flip_snd hs hk) w)
    have HV := Lib.hid (fun k (hk : k < s.size) => flip_syn hs hk)
    have HYE := Lib.hid (fun k hk hp => rep_yes1 (k := k) hs h0 hk hp h64)
    have HNE := Lib.hid (fun hh => rep_no2 (s := s) h0 hh)
    clear h0 hs
    generalize syn s = v at *
    go_enter Try.func46, Try.ntmps46
    go_wp2_with fail
    refine (HS.out _).mono ?_
    rintro e w' ⟨rfl, j0, rfl⟩
    go_wp2_with fail
    go_loopw [5, 6] (fun i _ wr => ∃ k j : Nat, k ≤ s.size ∧ i = .int .i64 k ∧ wr = w.drewN j ∧ ∀ i, i < k → pat (s.size - 1 - i) ≠ v) (fun i _ _ => s.size - (intOf i).toNat)
    case atStart => exact ⟨0, j0, Nat.zero_le _, rfl, rfl, fun i hi => absurd hi (Nat.not_lt_zero _)⟩
    case round =>
      obtain ⟨k, j, hk, rfl, rfl, hno⟩ := hrel
      have HO := Lib.hid hno
      clear hno
      by_cases hlt : k < s.size
      · have hlt2 : (k : Int) < (s.size : Int) := by omega
        have hsy := HV.out k hlt
        have HG2 := Lib.hid (HG.out k hlt)
        have HF2 := Lib.hid (fun w => HF.out k w hlt)
        rw [hsy] at HG2
        by_cases hp : pat (s.size - 1 - k) = v
        · have HE := Lib.hid (HYE.out k hlt hp)
          rw [hp, Nat.xor_self] at HG2
          clear hsy hp
          generalize flipT s k = t at *
          go_wp2_with fail
          refine (HF2.out _).mono ?_
          rintro e w1 ⟨rfl, j1, rfl⟩
          go_wp2_with fail
          refine (HG2.out _).mono ?_
          rintro e w1 ⟨rfl, j2, rfl⟩
          go_wp2_with fail
          go_ret3
          exact ⟨HE.out, aid.below_drewN (Below.refl _ _) _⟩
        · have hx0 : v ^^^ pat (s.size - 1 - k) ≠ 0 := fun e => hp ((xor_zero_iff _ _).1 e).symm
          have e1 := ne0 hx0
          have HS2 := Lib.hid (show ∀ i, i < k + 1 → pat (s.size - 1 - i) ≠ v from fun i hi => by
            by_cases hik : i < k
            · exact HO.out i hik
            · obtain rfl : i = k := by omega
              exact hp)
          clear hsy hp hx0
          generalize v ^^^ pat (s.size - 1 - k) = x at *
          generalize flipT s k = t at *
          go_wp2_with fail
          refine (HF2.out _).mono ?_
          rintro e w1 ⟨rfl, j1, rfl⟩
          go_wp2_with fail
          refine (HG2.out _).mono ?_
          rintro e w1 ⟨rfl, j2, rfl⟩
          go_wp2_with fail
          go_roundw
          case rel => exact ⟨k + 1, _, by omega, by go_num, rfl, HS2.out⟩
          case measure => simp [intOf]; omega
      · obtain rfl : k = s.size := by omega
        have HE := Lib.hid (HNE.out (has_not (fun j hj => by
          have := HO.out (s.size - 1 - j) (by omega)
          rwa [show s.size - 1 - (s.size - 1 - j) = j by omega] at this)))
        go_wp2_with fail
        go_ret3
        exact ⟨HE.out, aid.below_drewN (Below.refl _ _) _⟩

theorem repairBit (s : ByteArray) (w : World) (hm : s.size ≤ maxLen) :
    Calls Try.prog 22 #[.string s] w fun e w' => e = .returned (.tuple #[.string (repT s), .int .i64 (repI s), .bool (repB s)]) ∧ Below w.heap.size w w' := by
  have hc := fun w => good4 s w hm
  cases hb : sndB s
  · have HN := Lib.hid (rep_no1 hb)
    rw [hb] at hc
    have HC := Lib.hid hc
    clear hc hb hm
    go_enter Try.func22, Try.ntmps22
    go_wp2_with fail
    refine (HC.out _).mono ?_
    rintro e w' ⟨rfl, rfl⟩
    go_wp2_with fail
    go_ret3
    exact ⟨HN.out, Below.refl _ _⟩
  · have HR := Lib.hid (fun w => repair4 s w hb)
    rw [hb] at hc
    have HC := Lib.hid hc
    clear hc hb hm
    generalize repT s = t at *
    generalize repI s = i at *
    generalize repB s = b at *
    go_enter Try.func22, Try.ntmps22
    go_wp2_with fail
    refine (HC.out _).mono ?_
    rintro e w' ⟨rfl, rfl⟩
    go_wp2_with fail
    refine (HR.out _).mono ?_
    rintro e w' ⟨rfl, hbl⟩
    go_wp2_with fail
    go_ret3
    exact ⟨rfl, hbl⟩

/-- The bit string with the bit i alone. -/
def sg (i : Nat) : Nat → List UInt8
  | 0 => []
  | k + 1 => sg i k ++ [if k = i then 49 else 48]
theorem sg_length (i : Nat) : ∀ k, (sg i k).length = k
  | 0 => rfl
  | k + 1 => by rw [sg, List.length_append, sg_length i k]; rfl
theorem sg_ok (i : Nat) : ∀ k, ok 2 (sg i k) = true
  | 0 => rfl
  | k + 1 => by
    rw [sg, ok_snoc, sg_ok i k]
    split <;> decide
theorem sg_dec (i : Nat) : ∀ k, dec 2 (sg i k) = if i < k then 2 ^ (k - 1 - i) else 0
  | 0 => rfl
  | k + 1 => by
    rw [sg, dec_snoc, sg_dec i k]
    by_cases h1 : k = i
    · subst h1
      rw [if_pos rfl, if_neg (by omega), if_pos (by omega), show k + 1 - 1 - k = 0 by omega]
      decide
    · rw [if_neg h1, show dv 48 = 0 from by decide]
      by_cases h2 : i < k
      · rw [if_pos h2, if_pos (by omega), show k + 1 - 1 - i = (k - 1 - i) + 1 by omega, Nat.pow_succ]
        omega
      · rw [if_neg h2, if_neg (by omega)]
def sgT (i k : Nat) : ByteArray := ⟨(sg i k).toArray⟩
theorem sgT_size (i k : Nat) : (sgT i k).size = k := sg_length i k
theorem sgT_step1 (i k : Nat) (h : k = i) : sgT i k ++ ⟨#[49]⟩ = sgT i (k + 1) := by
  apply aid.str_ext
  rw [aid.str_app]
  show sg i k ++ [49] = sg i k ++ [if k = i then 49 else 48]
  rw [if_pos h]
theorem sgT_step0 (i k : Nat) (h : k ≠ i) : sgT i k ++ ⟨#[48]⟩ = sgT i (k + 1) := by
  apply aid.str_ext
  rw [aid.str_app]
  show sg i k ++ [48] = sg i k ++ [if k = i then 49 else 48]
  rw [if_neg h]
theorem sgT_snd {i k : Nat} (h12 : 12 ≤ k) (h64 : k ≤ 64) : sndB (sgT i k) = true := by
  refine snd_yes ?_ (by rw [sgT_size]; exact h12)
  unfold rdB
  rw [sgT_size, show ok 2 (sgT i k).data.toList = true from sg_ok i k, decide_eq_true h64]
  rfl
theorem sgT_syn {i k : Nat} (h : i < k) : syn (sgT i k) = pat (k - 1 - i) := by
  unfold syn
  rw [show dec 2 (sgT i k).data.toList = 2 ^ (k - 1 - i) from (sg_dec i k).trans (if_pos h)]
  rfl

theorem single (n i : Nat) (w : World) (hn : n ≤ 64) :
    Calls Try.prog 50 #[.int .i64 n, .int .i64 i] w fun e w' => e = .returned (.string (sgT i n)) ∧ w = w' := by
  have hni : (n : Int) ≤ 64 := by omega
  go_enter Try.func50, Try.ntmps50
  go_wp2_with fail
  go_loop [5, 6] (fun t k => ∃ (j : Nat) (a : ByteArray), j ≤ n ∧ k = .int .i64 j ∧ t = .string a ∧ a = sgT i j ∧ a.size = j) (fun _ k => n - (intOf k).toNat)
  case atStart => exact ⟨0, _, Nat.zero_le _, rfl, rfl, rfl, rfl⟩
  case round =>
    obtain ⟨k, a, hk, rfl, rfl, ha, hsz⟩ := hrel
    have HA := Lib.hid ha
    clear ha
    by_cases hlt : k < n
    · have hlt2 : (k : Int) < (n : Int) := by omega
      by_cases hki : k = i
      · have h1 : ((k : Int) == (i : Int)) = true := by simp [hki]
        have HS := Lib.hid (show a ++ ⟨#[49]⟩ = sgT i (k + 1) by rw [HA.out, sgT_step1 i k hki])
        have HZ := Lib.hid (show (a ++ (⟨#[49]⟩ : ByteArray)).size = k + 1 by rw [HS.out, sgT_size])
        clear hki
        go_wp2_with fail
        go_round
        case rel => exact ⟨k + 1, _, by omega, by go_num, rfl, HS.out, HZ.out⟩
        case measure => simp [intOf]; omega
      · have h1 : ((k : Int) == (i : Int)) = false := by simp; omega
        have HS := Lib.hid (show a ++ ⟨#[48]⟩ = sgT i (k + 1) by rw [HA.out, sgT_step0 i k hki])
        have HZ := Lib.hid (show (a ++ (⟨#[48]⟩ : ByteArray)).size = k + 1 by rw [HS.out, sgT_size])
        clear hki
        go_wp2_with fail
        go_round
        case rel => exact ⟨k + 1, _, by omega, by go_num, rfl, HS.out, HZ.out⟩
        case measure => simp [intOf]; omega
    · obtain rfl : k = n := by omega
      have HR := Lib.hid (aid.ret_str HA.out)
      go_wp2_with fail
      go_ret
      exact ⟨HR.out, rfl⟩

theorem patternOf (l i : Int) (w : World) (hl : -9223372036854775808 ≤ l ∧ l ≤ 9223372036854775807) :
    Calls Try.prog 31 #[.int .i64 l, .int .i64 i] w fun e w' => e = .returned (.tuple #[.string (ptT l i), .bool (ptB l i)]) ∧ Below w.heap.size w w' := by
  have hi1 := fun w => l1In l 12 64 w
  by_cases h1 : 12 ≤ l ∧ l ≤ 64
  · rw [show isIn l 12 64 = true from decide_eq_true h1] at hi1
    have HI1 := Lib.hid hi1
    have f1 : IntKind.i64.wrap (l - 1) = l - 1 := IntWalk.i64_in _ (by omega)
    have hi2 := fun w => l1In i 0 (l - 1) w
    by_cases h2 : 0 ≤ i ∧ i ≤ l - 1
    · rw [show isIn i 0 (l - 1) = true from decide_eq_true h2] at hi2
      have HI2 := Lib.hid hi2
      obtain ⟨n, rfl⟩ := Int.eq_ofNat_of_zero_le (show 0 ≤ l by omega)
      obtain ⟨k, rfl⟩ := Int.eq_ofNat_of_zero_le h2.1
      have HS := Lib.hid (fun w => single n k w (by omega))
      have hsn : sndB (sgT k n) = true := sgT_snd (by omega) (by omega)
      have hsy : syn (sgT k n) = pat (n - 1 - k) := sgT_syn (by omega)
      have hg := fun w => synOf hsn w
      rw [hsy] at hg
      have HG := Lib.hid hg
      have hpk : pat (n - 1 - k) < 4096 := red_lt 64 _
      have HO := Lib.hid (fun w => ofN (pat (n - 1 - k)) 12 w (by omega) (by omega))
      have HO2 := Lib.hid (show ∀ w : World, Calls Try.prog 47 #[.int .i64 (pat (n - 1 - k) : Nat), .int .i64 12] w fun e w' => e = .returned (.string ⟨(enc 2 12 (pat (n - 1 - k))).toArray⟩) ∧ w = w' from HO.out)
      have HY := Lib.hid (pt_yes (l := (n : Int)) (i := (k : Int)) (decide_eq_true (by omega)) (j := n - 1 - k) (by omega))
      clear hi1 hi2 h1 h2 hsn hsy hg hpk HO hl
      generalize pat (n - 1 - k) = v at *
      generalize sgT k n = t at *
      generalize (⟨(enc 2 12 v).toArray⟩ : ByteArray) = u at *
      go_enter Try.func31, Try.ntmps31
      go_wp2_with fail
      refine (HI1.out _).mono ?_
      rintro e w1 ⟨rfl, rfl⟩
      go_wp2_with fail
      refine (HI2.out _).mono ?_
      rintro e w1 ⟨rfl, rfl⟩
      go_wp2_with fail
      refine (HS.out _).mono ?_
      rintro e w1 ⟨rfl, rfl⟩
      go_wp2_with fail
      refine (HG.out _).mono ?_
      rintro e w1 ⟨rfl, j, rfl⟩
      go_wp2_with fail
      refine (HO2.out _).mono ?_
      rintro e w1 ⟨rfl, rfl⟩
      go_wp2_with fail
      go_ret2
      exact ⟨HY.out, aid.below_drewN (Below.refl _ _) _⟩
    · rw [show isIn i 0 (l - 1) = false from decide_eq_false h2] at hi2
      have HI2 := Lib.hid hi2
      have HN := Lib.hid (pt_no (l := l) (i := i) (decide_eq_false (by omega)))
      clear hi1 hi2 h1 h2 hl
      go_enter Try.func31, Try.ntmps31
      go_wp2_with fail
      refine (HI1.out _).mono ?_
      rintro e w1 ⟨rfl, rfl⟩
      go_wp2_with fail
      refine (HI2.out _).mono ?_
      rintro e w1 ⟨rfl, rfl⟩
      go_wp2_with fail
      go_ret2
      exact ⟨HN.out, Below.refl _ _⟩
  · rw [show isIn l 12 64 = false from decide_eq_false h1] at hi1
    have HI1 := Lib.hid hi1
    have HN := Lib.hid (pt_no (l := l) (i := i) (decide_eq_false (by omega)))
    clear hi1 h1 hl
    go_enter Try.func31, Try.ntmps31
    go_wp2_with fail
    refine (HI1.out _).mono ?_
    rintro e w1 ⟨rfl, rfl⟩
    go_wp2_with fail
    go_ret2
    exact ⟨HN.out, Below.refl _ _⟩
end Go.Proofs.Ytdededldoamifaa.parr
