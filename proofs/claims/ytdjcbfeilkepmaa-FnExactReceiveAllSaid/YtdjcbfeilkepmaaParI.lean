/- impl's parity: reduceBits, readSyndrome and the functions over them. -/
import Derived.Test.YtdjcbfeilkepmaaDigits
import Derived.Test.YtdjcbfeilkepmaaPar
namespace Go.Proofs.Ytdjcbfeilkepmaa.pari
open Go.RowKit Go.Proofs.Ytdjcbfeilkepmaa.bin Go.Proofs.Ytdjcbfeilkepmaa.pop_ Go.Proofs.Ytdjcbfeilkepmaa.good_ Go.Proofs.Ytdjcbfeilkepmaa.digits_ Go.Proofs.Ytdjcbfeilkepmaa.par

theorem reduce (v : Nat) (w : World) (hv : (v : Int) < 18446744073709551616) :
    Calls Try.prog 217 #[.int .u64 v] w fun e w' => e = .returned (.int .u64 (red 64 v)) ∧ w = w' := by
  go_enter Try.func217, Try.ntmps217
  go_wp2_with fail
  go_loop [0] (fun z => ∃ u : Nat, z = .int .u64 u ∧ (u : Int) < 18446744073709551616 ∧ red 64 u = red 64 v) (fun z => (intOf z).toNat)
  case atStart => exact ⟨v, rfl, hv, rfl⟩
  case round =>
    obtain ⟨u, rfl, hu, hr⟩ := hrel
    have HR := Lib.hid hr
    have hl := fun w => Try.bits_Len64 (u : Int) w (by omega) (by omega)
    rw [Int.toNat_natCast] at hl
    have hu2 : u < 18446744073709551616 := by omega
    clear hr hv
    by_cases h12 : Lib.bitLen u ≤ 12
    · have HE := Lib.hid (show Ending.returned (.int .u64 (u : Int)) = .returned (.int .u64 ((red 64 v : Nat) : Int)) by rw [← HR.out, end_left hu2 h12])
      have d1 : decide ((12 : Int) < (Lib.bitLen u : Int)) = false := decide_eq_false (by omega)
      have HL := Lib.hid hl
      clear hl h12 hu hu2
      generalize Lib.bitLen u = n at *
      go_wp2_with fail
      refine (HL.out _).mono ?_
      rintro e w' ⟨rfl, rfl⟩
      go_wp2_with fail
      go_ret
      exact ⟨HE.out, rfl⟩
    · obtain ⟨j, hj⟩ : ∃ j, Lib.bitLen u = j + 13 := ⟨Lib.bitLen u - 13, by omega⟩
      obtain ⟨s1, s2, s3, s4⟩ := step_left hu2 hj
      rw [hj] at hl
      have d1 : decide ((12 : Int) < ((j + 13 : Nat) : Int)) = true := decide_eq_true (by omega)
      have f1 : IntKind.i64.wrap (((j + 13 : Nat) : Int) - 12) = ((j + 1 : Nat) : Int) := (IntWalk.i64_in _ (by omega)).trans (by omega)
      have f2 : IntKind.i64.wrap (((j + 1 : Nat) : Int) - 1) = (j : Int) := (IntWalk.i64_in _ (by omega)).trans (by omega)
      have f3 : IntKind.u64.wrap (6159 * 2 ^ j) = ((6159 * 2 ^ j : Nat) : Int) := by
        have e : ((6159 * 2 ^ j : Nat) : Int) = 6159 * (2 : Int) ^ j := by simp
        rw [← e]
        exact IntWalk.u64_in _ (by omega)
      have f4 := xor_nat u (6159 * 2 ^ j) hu2 s4
      have HS := Lib.hid (s2.trans HR.out)
      have HL := Lib.hid hl
      have f5 : (j : Int) ≤ 64 := by omega
      clear hl h12 hj
      generalize 6159 * 2 ^ j = p at *
      generalize u ^^^ p = x at *
      generalize j + 13 = n at *
      generalize j + 1 = m at *
      go_wp2_with fail
      refine (HL.out _).mono ?_
      rintro e w' ⟨rfl, rfl⟩
      go_wp2_with fail
      refine (HL.out _).mono ?_
      rintro e w' ⟨rfl, rfl⟩
      go_wp2_with fail
      go_round
      case rel => exact ⟨x, rfl, by omega, HS.out⟩
      case measure => simp [intOf]; omega

theorem rs_no {s : ByteArray} (h : sndB s = false) : Ending.returned (.tuple #[.int .u64 0, .bool false]) = .returned (.tuple #[.int .u64 (rsV s), .bool (sndB s)]) := by unfold rsV; rw [h]; rfl
theorem rs_yes {s : ByteArray} (h : sndB s = true) : Ending.returned (.tuple #[.int .u64 (syn s), .bool true]) = .returned (.tuple #[.int .u64 (rsV s), .bool (sndB s)]) := by unfold rsV; rw [h]; rfl
theorem snd_no1 {s : ByteArray} (h : rdB 2 64 s = false) : sndB s = false := by unfold sndB; rw [h]; rfl
theorem snd_no2 {s : ByteArray} (h : ¬ 12 ≤ s.size) : sndB s = false := by unfold sndB; rw [decide_eq_false h]; simp
theorem rdV_yes {B m : Nat} {s : ByteArray} (h : rdB B m s = true) : rdV B m s = dec B s.data.toList := by unfold rdV; rw [h]; rfl
theorem rd_ok {B m : Nat} {s : ByteArray} (h : rdB B m s = true) : s.size ≤ m ∧ ok B s.data.toList = true := by
  unfold rdB at h
  simpa using h
theorem dec_size {s : ByteArray} {m : Nat} (h : rdB 2 m s = true) : dec 2 s.data.toList < 2 ^ m := by
  have hl := dec_lt 2 s.data.toList (rd_ok h).2
  have hl2 : (2 : Nat) ^ s.data.toList.length ≤ 2 ^ m := Nat.pow_le_pow_right (by omega) (by rw [len_list]; exact (rd_ok h).1)
  omega

theorem readSyn (s : ByteArray) (w : World) :
    Calls Try.prog 198 #[.string s] w fun e w' => e = .returned (.tuple #[.int .u64 (rsV s), .bool (sndB s)]) ∧ w = w' := by
  have hc := fun w => read2 s w
  cases hb : rdB 2 64 s
  · have HN := Lib.hid (rs_no (snd_no1 hb))
    rw [hb] at hc
    have HC := Lib.hid hc
    clear hc hb
    generalize rdV 2 64 s = v at *
    go_enter Try.func198, Try.ntmps198
    go_wp2_with (go_at_call 196; refine (HC.out _).mono ?_; rintro e w' ⟨rfl, rfl⟩)
    go_ret2
    exact ⟨HN.out, rfl⟩
  · rw [hb, rdV_yes hb] at hc
    have hv := dec_size hb
    by_cases h12 : 12 ≤ s.size
    · have HY := Lib.hid (rs_yes (snd_yes hb h12))
      have d1 : decide ((s.size : Int) < 12) = false := decide_eq_false (by omega)
      have HR := Lib.hid (fun w => reduce (dec 2 s.data.toList) w (by omega))
      have HC := Lib.hid hc
      unfold syn at HY
      clear hc hb h12 hv
      generalize dec 2 s.data.toList = v at *
      generalize red 64 v = r at *
      go_enter Try.func198, Try.ntmps198
      go_wp2_with fail
      refine (HC.out _).mono ?_
      rintro e w' ⟨rfl, rfl⟩
      go_wp2_with fail
      refine (HR.out _).mono ?_
      rintro e w' ⟨rfl, rfl⟩
      go_wp2_with fail
      go_ret2
      exact ⟨HY.out, rfl⟩
    · have HN := Lib.hid (rs_no (snd_no2 h12))
      have d1 : decide ((s.size : Int) < 12) = true := decide_eq_true (by omega)
      have HC := Lib.hid hc
      clear hc hb h12 hv
      generalize dec 2 s.data.toList = v at *
      go_enter Try.func198, Try.ntmps198
      go_wp2_with (go_at_call 196; refine (HC.out _).mono ?_; rintro e w' ⟨rfl, rfl⟩)
      go_ret2
      exact ⟨HN.out, rfl⟩

theorem par_no {s : ByteArray} (h : rdB 2 52 s = false) : Ending.returned (.tuple #[.string ⟨#[]⟩, .bool false]) = .returned (.tuple #[.string (parT s), .bool (rdB 2 52 s)]) := by unfold parT; rw [h]; rfl
theorem par_yes {s : ByteArray} (h : rdB 2 52 s = true) : Ending.returned (.tuple #[.string (parL s), .bool true]) = .returned (.tuple #[.string (parT s), .bool (rdB 2 52 s)]) := by unfold parT; rw [h]; rfl
theorem rd_part {B m n : Nat} {s : ByteArray} (h : m ≤ n) : rdB B m s = (rdB B n s && decide (s.size ≤ m)) := by
  unfold rdB
  by_cases h1 : s.size ≤ m
  · rw [decide_eq_true h1, decide_eq_true (by omega)]; simp
  · rw [decide_eq_false h1]; simp

theorem add_no {s : ByteArray} (h : rdB 2 52 s = false) : Ending.returned (.tuple #[.string ⟨#[]⟩, .bool false]) = .returned (.tuple #[.string (addT s), .bool (rdB 2 52 s)]) := by unfold addT; rw [h]; rfl
theorem add_yes {s : ByteArray} (h : rdB 2 52 s = true) : Ending.returned (.tuple #[.string (s ++ parL s), .bool true]) = .returned (.tuple #[.string (addT s), .bool (rdB 2 52 s)]) := by unfold addT; rw [h]; rfl
theorem parL_size (s : ByteArray) : (parL s).size = 12 := enc_length 2 12 _
theorem snd_end {s : ByteArray} (h : sndB s = true) : Ending.returned (.tuple #[.bool (decide ((syn s : Int) = 0)), .bool true]) = .returned (.tuple #[.bool (sndV s), .bool (sndB s)]) := by
  unfold sndV
  rw [h]
  simp
theorem snd_endn {s : ByteArray} (h : sndB s = false) : Ending.returned (.tuple #[.bool false, .bool false]) = .returned (.tuple #[.bool (sndV s), .bool (sndB s)]) := by
  unfold sndV
  rw [h]
  simp
theorem syn_no {s : ByteArray} (h : sndB s = false) : Ending.returned (.tuple #[.string ⟨#[]⟩, .bool false]) = .returned (.tuple #[.string (synT s), .bool (sndB s)]) := by unfold synT; rw [h]; rfl
theorem syn_yes {s : ByteArray} (h : sndB s = true) : Ending.returned (.tuple #[.string ⟨(enc 2 12 (syn s)).toArray⟩, .bool true]) = .returned (.tuple #[.string (synT s), .bool (sndB s)]) := by unfold synT; rw [h]; rfl
theorem str_no {s : ByteArray} (h : sndV s = false) : Ending.returned (.tuple #[.string ⟨#[]⟩, .bool false]) = .returned (.tuple #[.string (strT s), .bool (sndV s)]) := by unfold strT; rw [h]; rfl
theorem str_yes {s : ByteArray} (h : sndV s = true) : Ending.returned (.tuple #[.string (s.extract 0 (s.size - 12)), .bool true]) = .returned (.tuple #[.string (strT s), .bool (sndV s)]) := by unfold strT; rw [h]; rfl
end Go.Proofs.Ytdjcbfeilkepmaa.pari
