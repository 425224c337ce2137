/- spec's parity: l4Parity, l4Syndrome and the functions over them. -/
import Derived.Test.YtdjcbfeilkepmaaPop
import Derived.Test.YtdjcbfeilkepmaaGood
import Derived.Test.YtdjcbfeilkepmaaPar
import Derived.Test.YtdjcbfeilkepmaaBitsI
import Derived.BigQuiet
import Derived.Deep.QuietTactic
namespace Go.Proofs.Ytdjcbfeilkepmaa.pars
open Go.RowKit Go.Proofs.Ytdjcbfeilkepmaa.bin Go.Proofs.Ytdjcbfeilkepmaa.pop_ Go.Proofs.Ytdjcbfeilkepmaa.good_ Go.Proofs.Ytdjcbfeilkepmaa.par

theorem xor_nat_i (x y : Nat) (hx : x < 9223372036854775808) (hy : y < 9223372036854775808) : bits .xor .i64 (x : Int) (y : Int) = ((x ^^^ y : Nat) : Int) := by
  have e : bits .xor .i64 (x : Int) (y : Int) = IntKind.i64.wrap ((BitVec.ofInt 64 (x : Int) ^^^ BitVec.ofInt 64 (y : Int)).toNat : Int) := rfl
  rw [e, BitVec.toNat_xor, BitVec.ofInt_natCast, BitVec.ofInt_natCast, BitVec.toNat_ofNat, BitVec.toNat_ofNat, Nat.mod_eq_of_lt (by omega), Nat.mod_eq_of_lt (by omega)]
  have := Nat.xor_lt_two_pow (n := 63) hx hy
  exact IntWalk.i64_in _ (by omega)
theorem dv49 {c : UInt8} (h : c = 49) : dv c = 1 := by rw [h]; decide
theorem dv48 {c : UInt8} (hd : dv c < 2) (h : c ≠ 49) : dv c = 0 := by
  rcases (bit_iff c).1 hd with h1 | h1
  · have : c = 48 := UInt8.toNat_inj.1 h1
    rw [this]; decide
  · exact absurd (UInt8.toNat_inj.1 h1) h
theorem sh_low {r b : Nat} (h : 2 * r + b < 4096) : sh r b = 2 * r + b := by unfold sh cut; rw [if_pos h]
theorem sh_high {r b : Nat} (h : ¬ 2 * r + b < 4096) : sh r b = (2 * r + b) ^^^ 6159 := by unfold sh cut; rw [if_neg h]

set_option maxHeartbeats 1000000 in
theorem parity (s : ByteArray) (w : World) (hs : s.size ≤ 52) (ho : ok 2 s.data.toList = true) :
    Calls Try.prog 212 #[.string s] w fun e w' => e = .returned (.int .i64 ((red 64 (dec 2 s.data.toList * 4096) : Nat) : Int)) ∧ w = w' := by
  have HE := Lib.hid (rest_end s hs ho)
  have HO := Lib.hid ho
  have hs2 : (s.size : Int) ≤ 52 := by omega
  clear ho
  go_enter Try.func212, Try.ntmps212
  go_wp2_with fail
  go_loop [3, 4, 5] (fun z i _ => ∃ k r : Nat, k ≤ s.size + 12 ∧ i = .int .i64 k ∧ z = .int .i64 r ∧ r = rest s k ∧ r < 4096) (fun _ i _ => s.size + 12 - (intOf i).toNat)
  case atStart => exact ⟨0, 0, Nat.zero_le _, rfl, rfl, rfl, by omega⟩
  case round =>
    obtain ⟨k, r, hk, rfl, rfl, hr, hr2⟩ := hrel
    have HR := Lib.hid hr
    clear hr
    by_cases hlt12 : k < s.size + 12
    · have hl12 : (k : Int) < (s.size : Int) + 12 := by omega
      by_cases hlt : k < s.size
      · have hb := byte_lt s[k]
        have hst := rest_bit hlt HO.out
        have hd := ok_get hlt HO.out
        have dl : decide ((k : Int) < (s.size : Int)) = true := decide_eq_true (by omega)
        by_cases h49 : s[k] = 49
        · rw [dv49 h49, ← HR.out] at hst
          have h2 : ((s[k].toNat : Int) == 49) = true := by rw [h49]; rfl
          clear h49 hd
          by_cases hlow : 2 * r + 1 < 4096
          · have HS := Lib.hid (show 2 * r + 1 = rest s (k + 1) by rw [hst, sh_low hlow])
            have d2 : decide ((4096 : Int) ≤ 2 * (r : Int) + 1) = false := decide_eq_false (by omega)
            clear hst
            go_wp2_with fail
            go_round
            case rel => exact ⟨k + 1, 2 * r + 1, by omega, by go_num, by go_num, HS.out, by omega⟩
            case measure => simp [intOf]; omega
          · have HS := Lib.hid (show (2 * r + 1) ^^^ 6159 = rest s (k + 1) by rw [hst, sh_high hlow])
            have d2 : decide ((4096 : Int) ≤ 2 * (r : Int) + 1) = true := decide_eq_true (by omega)
            have hx : bits .xor .i64 (2 * (r : Int) + 1) 6159 = (((2 * r + 1) ^^^ 6159 : Nat) : Int) := xor_nat_i (2 * r + 1) 6159 (by omega) (by omega)
            have hxl : (2 * r + 1) ^^^ 6159 < 4096 := by rw [HS.out]; exact rest_lt _ _
            have hxw : IntKind.i64.wrap (((2 * r + 1) ^^^ 6159 : Nat) : Int) = (((2 * r + 1) ^^^ 6159 : Nat) : Int) := IntWalk.i64_in _ (by omega)
            clear hst
            generalize (2 * r + 1) ^^^ 6159 = x at *
            go_wp2_with fail
            go_round
            case rel => exact ⟨k + 1, x, by omega, by go_num, rfl, HS.out, by omega⟩
            case measure => simp [intOf]; omega
        · rw [dv48 hd h49, ← HR.out] at hst
          have h2 := ne49 h49
          clear h49 hd
          by_cases hlow : 2 * r + 0 < 4096
          · have HS := Lib.hid (show 2 * r = rest s (k + 1) by rw [hst, sh_low hlow, Nat.add_zero])
            have d2 : decide ((4096 : Int) ≤ 2 * (r : Int)) = false := decide_eq_false (by omega)
            clear hst
            go_wp2_with fail
            go_round
            case rel => exact ⟨k + 1, 2 * r, by omega, by go_num, by go_num, HS.out, by omega⟩
            case measure => simp [intOf]; omega
          · have HS := Lib.hid (show (2 * r + 0) ^^^ 6159 = rest s (k + 1) by rw [hst, sh_high hlow])
            have d2 : decide ((4096 : Int) ≤ 2 * (r : Int)) = true := decide_eq_true (by omega)
            have hx : bits .xor .i64 (2 * (r : Int)) 6159 = (((2 * r + 0) ^^^ 6159 : Nat) : Int) := xor_nat_i (2 * r + 0) 6159 (by omega) (by omega)
            have hxl : (2 * r + 0) ^^^ 6159 < 4096 := by rw [HS.out]; exact rest_lt _ _
            have hxw : IntKind.i64.wrap (((2 * r + 0) ^^^ 6159 : Nat) : Int) = (((2 * r + 0) ^^^ 6159 : Nat) : Int) := IntWalk.i64_in _ (by omega)
            clear hst
            generalize (2 * r + 0) ^^^ 6159 = x at *
            go_wp2_with fail
            go_round
            case rel => exact ⟨k + 1, x, by omega, by go_num, rfl, HS.out, by omega⟩
            case measure => simp [intOf]; omega
      · have hst := rest_zero (s := s) (i := k) (by omega) hlt12
        rw [← HR.out] at hst
        have dl : decide ((k : Int) < (s.size : Int)) = false := decide_eq_false (by omega)
        have dn : decide (k < s.size) = false := decide_eq_false hlt
        by_cases hlow : 2 * r + 0 < 4096
        · have HS := Lib.hid (show 2 * r = rest s (k + 1) by rw [hst, sh_low hlow, Nat.add_zero])
          have d2 : decide ((4096 : Int) ≤ 2 * (r : Int)) = false := decide_eq_false (by omega)
          clear hst
          go_wp2_with fail
          go_round
          case rel => exact ⟨k + 1, 2 * r, by omega, by go_num, by go_num, HS.out, by omega⟩
          case measure => simp [intOf]; omega
        · have HS := Lib.hid (show (2 * r + 0) ^^^ 6159 = rest s (k + 1) by rw [hst, sh_high hlow])
          have d2 : decide ((4096 : Int) ≤ 2 * (r : Int)) = true := decide_eq_true (by omega)
          have hx : bits .xor .i64 (2 * (r : Int)) 6159 = (((2 * r + 0) ^^^ 6159 : Nat) : Int) := xor_nat_i (2 * r + 0) 6159 (by omega) (by omega)
          have hxl : (2 * r + 0) ^^^ 6159 < 4096 := by rw [HS.out]; exact rest_lt _ _
          have hxw : IntKind.i64.wrap (((2 * r + 0) ^^^ 6159 : Nat) : Int) = (((2 * r + 0) ^^^ 6159 : Nat) : Int) := IntWalk.i64_in _ (by omega)
          clear hst
          generalize (2 * r + 0) ^^^ 6159 = x at *
          go_wp2_with fail
          go_round
          case rel => exact ⟨k + 1, x, by omega, by go_num, rfl, HS.out, by omega⟩
          case measure => simp [intOf]; omega
    · obtain rfl : k = s.size + 12 := by omega
      have HX := Lib.hid (aid.ret_int (k := .i64) (show (r : Int) = ((red 64 (dec 2 s.data.toList * 4096) : Nat) : Int) by rw [HR.out, HE.out]))
      have dl : decide (((s.size + 12 : Nat) : Int) < (s.size : Int) + 12) = false := decide_eq_false (by omega)
      go_wp2_with fail
      go_ret
      exact ⟨HX.out, rfl⟩

open Go.Proofs.Ytdjcbfeilkepmaa.bitsi in
theorem part1 (s : ByteArray) : (s.extract 0 (s.size - 12)).data.toList = s.data.toList.take (s.size - 12) := by
  rw [sub_list, List.drop_zero, Nat.sub_zero]
open Go.Proofs.Ytdjcbfeilkepmaa.bitsi in
theorem part2 (s : ByteArray) : (s.extract (s.size - 12) s.size).data.toList = s.data.toList.drop (s.size - 12) := by
  rw [sub_list, List.take_of_length_le]
  rw [List.length_drop, par.len_list]
  exact Nat.le_refl _

theorem syndrome (s : ByteArray) (w : World) (hs : s.size ≤ 64) (h12 : 12 ≤ s.size) (ho : ok 2 s.data.toList = true) :
    Calls Try.prog 191 #[.string s] w fun e w' => e = .returned (.int .i64 (syn s : Nat)) ∧ ∃ j, w' = w.drewN j := by
  have hp := fun w d => aid.quiet_left (parity (s.extract 0 (s.size - 12)) (World.drewN w d) (by rw [bitsi.sub_size _ _ _ (by omega)]; omega) (bitsi.sub_ok ho _ _))
  have hn := fun w d => aid.quiet_left (number (s.extract (s.size - 12) s.size) (World.drewN w d) (by rw [bitsi.sub_size _ _ _ (by omega)]; omega) (bitsi.sub_ok ho _ _))
  have hx := syn_parts s hs h12 ho
  rw [← part1 s, ← part2 s] at hx
  have b1 := red_lt 64 (dec 2 (s.extract 0 (s.size - 12)).data.toList * 4096)
  have b2 := dec_lt 2 _ (bitsi.sub_ok ho (s.size - 12) s.size)
  rw [len_list, bitsi.sub_size _ _ _ (Nat.le_refl _), show s.size - (s.size - 12) = 12 by omega, show 2 ^ 12 = 4096 from rfl] at b2
  have f1 : IntKind.i64.wrap ((s.size : Int) - 12) = ((s.size - 12 : Nat) : Int) := (IntWalk.i64_in _ (by omega)).trans (by omega)
  have f2 : ((s.size - 12 : Nat) : Int) ≤ (s.size : Int) := by omega
  generalize s.size - 12 = n at *
  generalize red 64 (dec 2 (s.extract 0 n).data.toList * 4096) = x at *
  generalize dec 2 (s.extract n s.size).data.toList = y at *
  have f3 := xor_nat_i x y (by omega) (by omega)
  have HX := Lib.hid (aid.ret_int (k := .i64) (show ((x ^^^ y : Nat) : Int) = (syn s : Nat) by rw [hx]; rfl))
  have hl : x ^^^ y < 4096 := xor_under (n := 12) b1 b2
  have f4 : IntKind.i64.wrap ((x ^^^ y : Nat) : Int) = ((x ^^^ y : Nat) : Int) := IntWalk.i64_in _ (by omega)
  have HP := Lib.hid hp
  have HN := Lib.hid hn
  clear hp hn hx b1 b2 ho hl
  generalize x ^^^ y = z at *
  go_enter Try.func191, Try.ntmps191
  go_wp2_with fail
  go_quiet (first
    | (go_at_call 212; with_reducible exact HP.out _ _)
    | (go_at_call 193; with_reducible exact HN.out _ _))
  go_wp2_with fail
  go_ret
  exact ⟨HX.out, _, rfl⟩

theorem par_no {s : ByteArray} (h : rdB 2 52 s = false) : Ending.returned (.tuple #[.string ⟨#[]⟩, .bool false]) = .returned (.tuple #[.string (parT s), .bool (rdB 2 52 s)]) := by unfold parT; rw [h]; rfl
theorem par_yes {s : ByteArray} (h : rdB 2 52 s = true) : Ending.returned (.tuple #[.string (parL s), .bool true]) = .returned (.tuple #[.string (parT s), .bool (rdB 2 52 s)]) := by unfold parT; rw [h]; rfl
theorem add_no {s : ByteArray} (h : rdB 2 52 s = false) : Ending.returned (.tuple #[.string ⟨#[]⟩, .bool false]) = .returned (.tuple #[.string (addT s), .bool (rdB 2 52 s)]) := by unfold addT; rw [h]; rfl
theorem add_yes {s : ByteArray} (h : rdB 2 52 s = true) : Ending.returned (.tuple #[.string (s ++ parL s), .bool true]) = .returned (.tuple #[.string (addT s), .bool (rdB 2 52 s)]) := by unfold addT; rw [h]; rfl

theorem synOf {s : ByteArray} (h : sndB s = true) (w : World) :
    Calls Try.prog 191 #[.string s] w fun e w' => e = .returned (.int .i64 (syn s : Nat)) ∧ ∃ j, w' = w.drewN j :=
  syndrome s w (bitsi.rd_ok (snd_of h).1).1 (snd_of h).2 (bitsi.rd_ok (snd_of h).1).2
theorem snd_endn {s : ByteArray} (h : sndB s = false) : Ending.returned (.tuple #[.bool false, .bool false]) = .returned (.tuple #[.bool (sndV s), .bool (sndB s)]) := by
  unfold sndV
  rw [h]
  rfl
theorem snd_end {s : ByteArray} {b : Bool} (h : sndB s = true) (hb : decide (syn s = 0) = b) : Ending.returned (.tuple #[.bool b, .bool true]) = .returned (.tuple #[.bool (sndV s), .bool (sndB s)]) := by
  unfold sndV
  rw [h, hb]
  rfl
theorem syn_no {s : ByteArray} (h : sndB s = false) : Ending.returned (.tuple #[.string ⟨#[]⟩, .bool false]) = .returned (.tuple #[.string (synT s), .bool (sndB s)]) := by unfold synT; rw [h]; rfl
theorem syn_yes {s : ByteArray} (h : sndB s = true) : Ending.returned (.tuple #[.string ⟨(enc 2 12 (syn s)).toArray⟩, .bool true]) = .returned (.tuple #[.string (synT s), .bool (sndB s)]) := by unfold synT; rw [h]; rfl
theorem str_no {s : ByteArray} (h : sndV s = false) : Ending.returned (.tuple #[.string ⟨#[]⟩, .bool false]) = .returned (.tuple #[.string (strT s), .bool (sndV s)]) := by unfold strT; rw [h]; rfl
theorem str_yes {s : ByteArray} (h : sndV s = true) : Ending.returned (.tuple #[.string (s.extract 0 (s.size - 12)), .bool true]) = .returned (.tuple #[.string (strT s), .bool (sndV s)]) := by unfold strT; rw [h]; rfl

end Go.Proofs.Ytdjcbfeilkepmaa.pars
