/- The contracts of impl.readDecimal, impl.ParseInt and spec.ParseInt, for every string of at most 1048576 bytes. -/
import Derived.Test.YtedocpocfpopgaaDoorRead
import Derived.WalkMore
import Derived.Outline
namespace Go.Proofs.YtedocpocfpopgaaDoor.parse
open Go.RowKit Go.Proofs.YtedocpocfpopgaaDoor.num Go.Proofs.YtedocpocfpopgaaDoor.read

set_option maxHeartbeats 1000000 in
theorem read_pos (s : ByteArray) (w : World) (h : rdB s = true) (hq : ¬ (1 < s.data.toList.length ∧ s.data.toList.head? = some 45)) :
    Calls Tryd.prog 109 #[.string s] w fun e w' => e = .returned (.int .i64 (cand s.data.toList)) ∧ w = w' := by
  obtain ⟨hd, hl1, hl6⟩ := rd_pos h hq
  have HC := Lib.hid (cand_pos hq)
  have HD := Lib.hid hd
  rw [← size_list] at hl1 hl6
  clear h hq hd
  go_enter Tryd.func109, Tryd.ntmps109
  go_wp2
  go_step3
  go_wp2
  go_step3
  go_wp2
  go_loop [3, 4, 9] (fun n g i => ∃ k : Nat, k ≤ s.size ∧ i = .int .i64 k ∧ n = .int .i64 (val (s.data.toList.take k)) ∧ g = .int .i64 1) (fun _ _ i => s.size - (intOf i).toNat)
  case atStart => exact ⟨0, Nat.zero_le _, rfl, rfl, rfl⟩
  case round =>
    obtain ⟨k, hk, rfl, rfl, rfl⟩ := hrel
    by_cases hlt : k < s.size
    · obtain ⟨d0, d1⟩ := dig_at hlt HD.out
      obtain ⟨_, n2, n3, n4⟩ := step_ok hlt hl6 (fun c hc => HD.out c (List.mem_of_mem_take hc)) d0 d1
      have N2 := Lib.hid n2
      clear n2
      go_wp2
      go_round
      case rel => exact ⟨k + 1, by omega, by go_num, by rw [N2.out], rfl⟩
      case measure => simp [intOf]; omega
    · obtain rfl : k = s.size := by omega
      have HX := Lib.hid (show cand s.data.toList = val (s.data.toList.take s.size) by rw [HC.out, take_all s _ (Nat.le_refl _)])
      obtain ⟨x0, x1⟩ := val_six (l := s.data.toList.take s.size) (by rw [List.length_take]; omega) (fun c hc => HD.out c (List.mem_of_mem_take hc))
      generalize val (s.data.toList.take s.size) = x at *
      go_wp2
      go_ret
      exact ⟨aid.ret_int HX.out.symm, rfl⟩

theorem tail_at {s : ByteArray} {k : Nat} (h0 : 1 ≤ k) (h : k < s.size) : (s.data.toList.take (k + 1)).drop 1 = (s.data.toList.take k).drop 1 ++ [s[k]] ∧ s[k] ∈ s.data.toList.drop 1 := by
  refine ⟨?_, ?_⟩
  · rw [take_snoc s k h, List.drop_append_of_le_length (by rw [List.length_take, ← size_list]; omega)]
  · rw [List.mem_iff_getElem?]
    refine ⟨k - 1, ?_⟩
    rw [List.getElem?_drop, show 1 + (k - 1) = k by omega]
    exact List.getElem?_eq_getElem (l := s.data.toList) (i := k) (by rw [← size_list]; exact h)
/-- The value of the first k bytes but the first. -/
def tv (s : ByteArray) (k : Nat) : Int := val ((s.data.toList.take k).drop 1)

theorem step_neg {s : ByteArray} {k : Nat} (h0 : 1 ≤ k) (h : k < s.size) (h7 : s.size ≤ 7) (hd : allDig (s.data.toList.drop 1)) :
    (48 : Int) ≤ (s[k].toNat : Int) ∧ (s[k].toNat : Int) ≤ 57 ∧ tv s (k + 1) = 10 * tv s k + ((s[k].toNat : Int) - 48) ∧ 0 ≤ tv s k ∧ tv s k ≤ 999999 := by
  obtain ⟨e1, e2⟩ := tail_at h0 h
  have hb := val_six (l := (s.data.toList.take k).drop 1) (by rw [List.length_drop, List.length_take]; omega) (fun c hc => hd c (by
    rw [List.drop_take] at hc; exact List.mem_of_mem_take hc))
  exact ⟨(hd _ e2).1, (hd _ e2).2, by unfold tv; rw [e1, val_snoc], hb.1, hb.2⟩

set_option maxHeartbeats 1000000 in
theorem read_neg (s : ByteArray) (w : World) (h : rdB s = true) (hq : 1 < s.data.toList.length ∧ s.data.toList.head? = some 45) :
    Calls Tryd.prog 109 #[.string s] w fun e w' => e = .returned (.int .i64 (cand s.data.toList)) ∧ w = w' := by
  obtain ⟨hd, hl1, hl6⟩ := rd_neg h hq
  have HC := Lib.hid (cand_neg hq)
  have HD := Lib.hid hd
  rw [List.length_drop, ← size_list] at hl6
  have h7 : s.size ≤ 7 := by omega
  have h1 : 1 < s.size := by rw [size_list]; exact hq.1
  have hz := hq.2
  rw [head_zero s (by omega)] at hz
  have hz2 : s[0] = 45 := by injection hz
  have hz3 : ((s[0].toNat : Int) == 45) = true := by rw [hz2]; rfl
  clear h hq hd hl1 hl6 hz hz2
  go_enter Tryd.func109, Tryd.ntmps109
  go_wp2
  go_step3
  go_wp2
  go_step3
  go_wp2
  go_loop [3, 4, 9] (fun n g i => ∃ k : Nat, k ≤ s.size ∧ i = .int .i64 k ∧ ((k = 0 ∧ n = .int .i64 0 ∧ g = .int .i64 1) ∨ (1 ≤ k ∧ n = .int .i64 (tv s k) ∧ g = .int .i64 (-1)))) (fun _ _ i => s.size - (intOf i).toNat)
  case atStart => exact ⟨0, Nat.zero_le _, rfl, .inl ⟨rfl, rfl, rfl⟩⟩
  case round =>
    obtain ⟨k, hk, rfl, hr⟩ := hrel
    rcases hr with ⟨rfl, rfl, rfl⟩ | ⟨hk1, rfl, rfl⟩
    · go_wp2
      go_round
      case rel => exact ⟨1, by omega, by go_num, .inr ⟨by omega, by unfold tv; rw [List.drop_eq_nil_of_le (by rw [List.length_take]; omega)]; rfl, rfl⟩⟩
      case measure => simp [intOf]; omega
    · by_cases hlt : k < s.size
      · obtain ⟨d0, d1, n2, n3, n4⟩ := step_neg hk1 hlt h7 HD.out
        have N2 := Lib.hid n2
        have hz4 := Lib.hid hz3
        clear n2 hz3
        go_wp2
        go_round
        case rel => exact ⟨k + 1, by omega, by go_num, .inr ⟨by omega, by rw [N2.out], rfl⟩⟩
        case measure => simp [intOf]; omega
      · obtain rfl : k = s.size := by omega
        have HX := Lib.hid (show cand s.data.toList = -tv s s.size by unfold tv; rw [HC.out, take_all s _ (Nat.le_refl _)])
        obtain ⟨x0, x1⟩ : 0 ≤ tv s s.size ∧ tv s s.size ≤ 999999 := val_six (l := (s.data.toList.take s.size).drop 1) (by rw [List.length_drop, List.length_take]; omega) (fun c hc => HD.out c (by rw [List.drop_take] at hc; exact List.mem_of_mem_take hc))
        generalize tv s s.size = x at *
        clear hz3
        go_wp2
        go_ret
        exact ⟨aid.ret_int HX.out.symm, rfl⟩

set_option maxHeartbeats 1000000 in
theorem read_any (s : ByteArray) (w : World) (hs : s.size ≤ 1048576) :
    Calls Tryd.prog 109 #[.string s] w fun e w' => ∃ n : Int, e = .returned (.int .i64 n) ∧ -9999999 ≤ n ∧ n ≤ 9999999 ∧ w = w' := by
  go_enter Tryd.func109, Tryd.ntmps109
  go_wp2
  go_step3
  go_wp2
  go_step3
  go_wp2
  go_loop [3, 4, 9] (fun n g i => ∃ (k : Nat) (x : Int), k ≤ s.size ∧ i = .int .i64 k ∧ 0 ≤ x ∧ x ≤ 9999999 ∧ n = .int .i64 x ∧ (g = .int .i64 1 ∨ g = .int .i64 (-1))) (fun _ _ i => s.size - (intOf i).toNat)
  case atStart => exact ⟨0, 0, Nat.zero_le _, rfl, by omega, by omega, rfl, .inl rfl⟩
  case round =>
    obtain ⟨k, x, hk, rfl, x0, x1, rfl, hg⟩ := hrel
    rcases hg with rfl | rfl
    all_goals
      by_cases hlt : k < s.size
      · by_cases hm : (s[k].toNat : Int) = 45 ∧ k = 0
        · obtain ⟨hm, rfl⟩ := hm
          have hm2 : ((s[0].toNat : Int) == 45) = true := by simpa using hm
          clear hm
          go_wp2
          go_round
          case rel => exact ⟨1, x, by omega, by go_num, x0, x1, rfl, .inr rfl⟩
          case measure => simp [intOf]; omega
        · by_cases hd : (48 : Int) ≤ (s[k].toNat : Int) ∧ (s[k].toNat : Int) ≤ 57 ∧ x ≤ 999999
          · obtain ⟨d0, d1, d2⟩ := hd
            clear hm
            go_wp2
            go_round
            case rel => exact ⟨k + 1, _, by omega, by go_num, by omega, by omega, rfl, by first | exact .inl rfl | exact .inr rfl⟩
            case measure => simp [intOf]; omega
          · by_cases c0 : (s[k].toNat : Int) < 48
            · by_cases c4 : (s[k].toNat : Int) = 45
              · have k0 : 1 ≤ k := by
                  rcases Nat.eq_zero_or_pos k with h | h
                  · exact absurd ⟨c4, h⟩ hm
                  · exact h
                have c5 : ((s[k].toNat : Int) == 45) = true := by simpa using c4
                have c6 : ((k : Int) == 0) = false := by simp; omega
                clear hm hd c4
                go_wp2
                first | go_ret | (rw [Exit.noGoto_ret]; go_ret)
                exact ⟨_, rfl, by omega, by omega, rfl⟩
              · clear hm hd
                go_wp2
                first | go_ret | (rw [Exit.noGoto_ret]; go_ret)
                exact ⟨_, rfl, by omega, by omega, rfl⟩
            · by_cases c1 : (57 : Int) < (s[k].toNat : Int)
              · clear hm hd
                go_wp2
                first | go_ret | (rw [Exit.noGoto_ret]; go_ret)
                exact ⟨_, rfl, by omega, by omega, rfl⟩
              · have c2 : 999999 < x := by omega
                clear hm hd
                go_wp2
                first | go_ret | (rw [Exit.noGoto_ret]; go_ret)
                exact ⟨_, rfl, by omega, by omega, rfl⟩
      · go_wp2
        go_ret
        exact ⟨_, rfl, by omega, by omega, rfl⟩

theorem impl_any (s : ByteArray) (w : World) (hs : s.size ≤ 1048576) (ht : fmt.Tab w) :
    Calls Tryd.prog 89 #[.string s] w fun e w' => e = .returned (.tuple #[.int .i64 (rdN s), .bool (rdB s)]) ∧ Below w.heap.size w w' := by
  cases hb : rdB s
  · have HB := Lib.hid (end_no hb)
    rw [hb] at HB
    have hr := Lib.hid (fun w => read_any s w hs)
    have hK := Lib.hid (fun (n : Int) (h0 : -999999 ≤ n) (h1 : n ≤ 999999) => show ((txt n).toList == s.toList) = false from bfalse fun h => by rw [(rd_of_txt h0 h1 h).1] at hb; cases hb)
    have hf := Lib.hid (fun n h1 h2 => fmt.format_yes n w h1 h2 ht)
    clear hb ht
    go_enter Tryd.func89, Tryd.ntmps89
    go_wp2_with (go_at_call 109; refine (hr.out _).mono ?_; rintro e w' ⟨n, rfl, b0, b1, rfl⟩)
    by_cases hn : n < -999999 ∨ 999999 < n
    · go_wp2_with (go_at_call 91; refine (fmt.format_no n _ hn).mono ?_; rintro e w' ⟨rfl, rfl⟩)
      go_ret2
      exact ⟨HB.out, Below.refl _ _⟩
    · have hx := hK.out n (by omega) (by omega)
      have hff := hf.out n (by omega) (by omega)
      generalize txt n = y at *
      go_wp2_with (go_at_call 91; refine hff.mono ?_; rintro e w' ⟨rfl, hbl⟩)
      go_ret2
      exact ⟨HB.out, hbl⟩
  · obtain ⟨c0, c1, hst, hx⟩ := rd_txt hb
    clear hst
    have HB := Lib.hid (end_yes (s := s) ⟨hb, rfl⟩)
    rw [hb] at HB
    have hr : ∀ w, Calls Tryd.prog 109 #[.string s] w fun e w' => e = .returned (.int .i64 (cand s.data.toList)) ∧ w = w' := by
      intro w
      by_cases hq : 1 < s.data.toList.length ∧ s.data.toList.head? = some 45
      · exact read_neg s w hb hq
      · exact read_pos s w hb hq
    clear hb
    generalize cand s.data.toList = n at *
    have hf := Lib.hid (fmt.format_yes n w (by omega) (by omega) ht)
    clear ht
    generalize txt n = y at *
    go_enter Tryd.func89, Tryd.ntmps89
    go_wp2_with (go_at_call 109; refine (hr _).mono ?_; rintro e w' ⟨rfl, rfl⟩)
    go_wp2_with (go_at_call 91; refine hf.out.mono ?_; rintro e w' ⟨rfl, hbl⟩)
    go_ret2
    exact ⟨HB.out, hbl⟩
end Go.Proofs.YtedocpocfpopgaaDoor.parse
