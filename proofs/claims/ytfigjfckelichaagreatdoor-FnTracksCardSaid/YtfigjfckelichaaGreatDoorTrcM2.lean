/- What the card of FnTracks gives a walk: six variables; a world that meets them. -/
import Derived.Test.YtfigjfckelichaaGreatDoorTrcM1
import Derived.WalkMore
import Derived.Outline
import Derived.RangeFuncBox
import Derived.RangeFuncLeaves
import Derived.RangeFuncWrites
import Derived.Shelf.Abstract
import Derived.WalkKit
import Derived.OwnWalkIn
import Derived.TacticsInMore
import Derived.LoopNIn
import Derived.LoopIn
import Derived.Maps.AppendAt
import Derived.BigRegionIn
import Derived.RangeFuncNested
import Derived.Test.YtfigjfckelichaaGreatDoorShelf
import Derived.Test.YtfigjfckelichaaGreatDoorAtS
import Derived.OwnWalk
import Derived.Test.YtfigjfckelichaaGreatDoorTrkS
import Derived.Test.YtfigjfckelichaaGreatDoorTailH
import Derived.Deep.CutRange
import Derived.Test.YtfigjfckelichaaGreatDoorErL
import Derived.Lib.LaidTab

/- The contracts of impl.readDecimal, impl.ParseInt and spec.ParseInt, for every string of at most 1048576 bytes. -/
namespace Go.Proofs.YtfigjfckelichaaGreatDoor.parse
open Go.RowKit Go.Proofs.YtfigjfckelichaaGreatDoor.num Go.Proofs.YtfigjfckelichaaGreatDoor.read

set_option maxHeartbeats 1000000 in
theorem read_pos (s : ByteArray) (w : World) (h : rdB s = true) (hq : ¬ (1 < s.data.toList.length ∧ s.data.toList.head? = some 45)) :
    Calls Tryz.prog 106 #[.string s] w fun e w' => e = .returned (.int .i64 (cand s.data.toList)) ∧ w = w' := by
  obtain ⟨hd, hl1, hl6⟩ := rd_pos h hq
  have HC := Lib.hid (cand_pos hq)
  have HD := Lib.hid hd
  rw [← size_list] at hl1 hl6
  clear h hq hd
  go_enter Tryz.func106, Tryz.ntmps106
  go_wp2
  go_step3
  go_wp2
  go_step3
  go_wp2
  go_loop [3, 4, 9] (fun n g i => ∃ k : Nat, k ≤ s.size ∧ i = .int .i64 k ∧ n = .int .i64 (val (s.data.toList.take k)) ∧ g = .int .i64 1) (fun _ _ i => s.size - (intOf i).toNat)
  case atStart => exact ⟨0, Nat.zero_le _, rfl, rfl, rfl⟩
  case round =>
    obtain ⟨k, hk, rfl, rfl, rfl⟩ := hrel
    by_cases hlt : k < s.size
    · obtain ⟨d0, d1⟩ := dig_at hlt HD.out
      obtain ⟨_, n2, n3, n4⟩ := step_ok hlt hl6 (fun c hc => HD.out c (List.mem_of_mem_take hc)) d0 d1
      have N2 := Lib.hid n2
      clear n2
      go_wp2
      go_round
      case rel => exact ⟨k + 1, by omega, by go_num, by rw [N2.out], rfl⟩
      case measure => simp [intOf]; omega
    · obtain rfl : k = s.size := by omega
      have HX := Lib.hid (show cand s.data.toList = val (s.data.toList.take s.size) by rw [HC.out, take_all s _ (Nat.le_refl _)])
      obtain ⟨x0, x1⟩ := val_six (l := s.data.toList.take s.size) (by rw [List.length_take]; omega) (fun c hc => HD.out c (List.mem_of_mem_take hc))
      generalize val (s.data.toList.take s.size) = x at *
      go_wp2
      go_ret
      exact ⟨aid.ret_int HX.out.symm, rfl⟩

theorem tail_at {s : ByteArray} {k : Nat} (h0 : 1 ≤ k) (h : k < s.size) : (s.data.toList.take (k + 1)).drop 1 = (s.data.toList.take k).drop 1 ++ [s[k]] ∧ s[k] ∈ s.data.toList.drop 1 := by
  refine ⟨?_, ?_⟩
  · rw [take_snoc s k h, List.drop_append_of_le_length (by rw [List.length_take, ← size_list]; omega)]
  · rw [List.mem_iff_getElem?]
    refine ⟨k - 1, ?_⟩
    rw [List.getElem?_drop, show 1 + (k - 1) = k by omega]
    exact List.getElem?_eq_getElem (l := s.data.toList) (i := k) (by rw [← size_list]; exact h)
/-- The value of the first k bytes but the first. -/
def tv (s : ByteArray) (k : Nat) : Int := val ((s.data.toList.take k).drop 1)

theorem step_neg {s : ByteArray} {k : Nat} (h0 : 1 ≤ k) (h : k < s.size) (h7 : s.size ≤ 7) (hd : allDig (s.data.toList.drop 1)) :
    (48 : Int) ≤ (s[k].toNat : Int) ∧ (s[k].toNat : Int) ≤ 57 ∧ tv s (k + 1) = 10 * tv s k + ((s[k].toNat : Int) - 48) ∧ 0 ≤ tv s k ∧ tv s k ≤ 999999 := by
  obtain ⟨e1, e2⟩ := tail_at h0 h
  have hb := val_six (l := (s.data.toList.take k).drop 1) (by rw [List.length_drop, List.length_take]; omega) (fun c hc => hd c (by
    rw [List.drop_take] at hc; exact List.mem_of_mem_take hc))
  exact ⟨(hd _ e2).1, (hd _ e2).2, by unfold tv; rw [e1, val_snoc], hb.1, hb.2⟩

set_option maxHeartbeats 1000000 in
theorem read_neg (s : ByteArray) (w : World) (h : rdB s = true) (hq : 1 < s.data.toList.length ∧ s.data.toList.head? = some 45) :
    Calls Tryz.prog 106 #[.string s] w fun e w' => e = .returned (.int .i64 (cand s.data.toList)) ∧ w = w' := by
  obtain ⟨hd, hl1, hl6⟩ := rd_neg h hq
  have HC := Lib.hid (cand_neg hq)
  have HD := Lib.hid hd
  rw [List.length_drop, ← size_list] at hl6
  have h7 : s.size ≤ 7 := by omega
  have h1 : 1 < s.size := by rw [size_list]; exact hq.1
  have hz := hq.2
  rw [head_zero s (by omega)] at hz
  have hz2 : s[0] = 45 := by injection hz
  have hz3 : ((s[0].toNat : Int) == 45) = true := by rw [hz2]; rfl
  clear h hq hd hl1 hl6 hz hz2
  go_enter Tryz.func106, Tryz.ntmps106
  go_wp2
  go_step3
  go_wp2
  go_step3
  go_wp2
  go_loop [3, 4, 9] (fun n g i => ∃ k : Nat, k ≤ s.size ∧ i = .int .i64 k ∧ ((k = 0 ∧ n = .int .i64 0 ∧ g = .int .i64 1) ∨ (1 ≤ k ∧ n = .int .i64 (tv s k) ∧ g = .int .i64 (-1)))) (fun _ _ i => s.size - (intOf i).toNat)
  case atStart => exact ⟨0, Nat.zero_le _, rfl, .inl ⟨rfl, rfl, rfl⟩⟩
  case round =>
    obtain ⟨k, hk, rfl, hr⟩ := hrel
    rcases hr with ⟨rfl, rfl, rfl⟩ | ⟨hk1, rfl, rfl⟩
    · go_wp2
      go_round
      case rel => exact ⟨1, by omega, by go_num, .inr ⟨by omega, by unfold tv; rw [List.drop_eq_nil_of_le (by rw [List.length_take]; omega)]; rfl, rfl⟩⟩
      case measure => simp [intOf]; omega
    · by_cases hlt : k < s.size
      · obtain ⟨d0, d1, n2, n3, n4⟩ := step_neg hk1 hlt h7 HD.out
        have N2 := Lib.hid n2
        have hz4 := Lib.hid hz3
        clear n2 hz3
        go_wp2
        go_round
        case rel => exact ⟨k + 1, by omega, by go_num, .inr ⟨by omega, by rw [N2.out], rfl⟩⟩
        case measure => simp [intOf]; omega
      · obtain rfl : k = s.size := by omega
        have HX := Lib.hid (show cand s.data.toList = -tv s s.size by unfold tv; rw [HC.out, take_all s _ (Nat.le_refl _)])
        obtain ⟨x0, x1⟩ : 0 ≤ tv s s.size ∧ tv s s.size ≤ 999999 := val_six (l := (s.data.toList.take s.size).drop 1) (by rw [List.length_drop, List.length_take]; omega) (fun c hc => HD.out c (by rw [List.drop_take] at hc; exact List.mem_of_mem_take hc))
        generalize tv s s.size = x at *
        clear hz3
        go_wp2
        go_ret
        exact ⟨aid.ret_int HX.out.symm, rfl⟩

set_option maxHeartbeats 1000000 in
theorem read_any (s : ByteArray) (w : World) (hs : s.size ≤ 1048576) :
    Calls Tryz.prog 106 #[.string s] w fun e w' => ∃ n : Int, e = .returned (.int .i64 n) ∧ -9999999 ≤ n ∧ n ≤ 9999999 ∧ w = w' := by
  go_enter Tryz.func106, Tryz.ntmps106
  go_wp2
  go_step3
  go_wp2
  go_step3
  go_wp2
  go_loop [3, 4, 9] (fun n g i => ∃ (k : Nat) (x : Int), k ≤ s.size ∧ i = .int .i64 k ∧ 0 ≤ x ∧ x ≤ 9999999 ∧ n = .int .i64 x ∧ (g = .int .i64 1 ∨ g = .int .i64 (-1))) (fun _ _ i => s.size - (intOf i).toNat)
  case atStart => exact ⟨0, 0, Nat.zero_le _, rfl, by omega, by omega, rfl, .inl rfl⟩
  case round =>
    obtain ⟨k, x, hk, rfl, x0, x1, rfl, hg⟩ := hrel
    rcases hg with rfl | rfl
    all_goals
      by_cases hlt : k < s.size
      · by_cases hm : (s[k].toNat : Int) = 45 ∧ k = 0
        · obtain ⟨hm, rfl⟩ := hm
          have hm2 : ((s[0].toNat : Int) == 45) = true := by simpa using hm
          clear hm
          go_wp2
          go_round
          case rel => exact ⟨1, x, by omega, by go_num, x0, x1, rfl, .inr rfl⟩
          case measure => simp [intOf]; omega
        · by_cases hd : (48 : Int) ≤ (s[k].toNat : Int) ∧ (s[k].toNat : Int) ≤ 57 ∧ x ≤ 999999
          · obtain ⟨d0, d1, d2⟩ := hd
            clear hm
            go_wp2
            go_round
            case rel => exact ⟨k + 1, _, by omega, by go_num, by omega, by omega, rfl, by first | exact .inl rfl | exact .inr rfl⟩
            case measure => simp [intOf]; omega
          · by_cases c0 : (s[k].toNat : Int) < 48
            · by_cases c4 : (s[k].toNat : Int) = 45
              · have k0 : 1 ≤ k := by
                  rcases Nat.eq_zero_or_pos k with h | h
                  · exact absurd ⟨c4, h⟩ hm
                  · exact h
                have c5 : ((s[k].toNat : Int) == 45) = true := by simpa using c4
                have c6 : ((k : Int) == 0) = false := by simp; omega
                clear hm hd c4
                go_wp2
                first | go_ret | (rw [Exit.noGoto_ret]; go_ret)
                exact ⟨_, rfl, by omega, by omega, rfl⟩
              · clear hm hd
                go_wp2
                first | go_ret | (rw [Exit.noGoto_ret]; go_ret)
                exact ⟨_, rfl, by omega, by omega, rfl⟩
            · by_cases c1 : (57 : Int) < (s[k].toNat : Int)
              · clear hm hd
                go_wp2
                first | go_ret | (rw [Exit.noGoto_ret]; go_ret)
                exact ⟨_, rfl, by omega, by omega, rfl⟩
              · have c2 : 999999 < x := by omega
                clear hm hd
                go_wp2
                first | go_ret | (rw [Exit.noGoto_ret]; go_ret)
                exact ⟨_, rfl, by omega, by omega, rfl⟩
      · go_wp2
        go_ret
        exact ⟨_, rfl, by omega, by omega, rfl⟩

theorem impl_any (s : ByteArray) (w : World) (hs : s.size ≤ 1048576) (ht : fmt.Tab w) :
    Calls Tryz.prog 75 #[.string s] w fun e w' => e = .returned (.tuple #[.int .i64 (rdN s), .bool (rdB s)]) ∧ Below w.heap.size w w' := by
  cases hb : rdB s
  · have HB := Lib.hid (end_no hb)
    rw [hb] at HB
    have hr := Lib.hid (fun w => read_any s w hs)
    have hK := Lib.hid (fun (n : Int) (h0 : -999999 ≤ n) (h1 : n ≤ 999999) => show ((txt n).toList == s.toList) = false from bfalse fun h => by rw [(rd_of_txt h0 h1 h).1] at hb; cases hb)
    have hf := Lib.hid (fun n h1 h2 => fmt.format_yes n w h1 h2 ht)
    clear hb ht
    go_enter Tryz.func75, Tryz.ntmps75
    go_wp2_with (go_at_call 106; refine (hr.out _).mono ?_; rintro e w' ⟨n, rfl, b0, b1, rfl⟩)
    by_cases hn : n < -999999 ∨ 999999 < n
    · go_wp2_with (go_at_call 31; refine (fmt.format_no n _ hn).mono ?_; rintro e w' ⟨rfl, rfl⟩)
      go_ret2
      exact ⟨HB.out, Below.refl _ _⟩
    · have hx := hK.out n (by omega) (by omega)
      have hff := hf.out n (by omega) (by omega)
      generalize txt n = y at *
      go_wp2_with (go_at_call 31; refine hff.mono ?_; rintro e w' ⟨rfl, hbl⟩)
      go_ret2
      exact ⟨HB.out, hbl⟩
  · obtain ⟨c0, c1, hst, hx⟩ := rd_txt hb
    clear hst
    have HB := Lib.hid (end_yes (s := s) ⟨hb, rfl⟩)
    rw [hb] at HB
    have hr : ∀ w, Calls Tryz.prog 106 #[.string s] w fun e w' => e = .returned (.int .i64 (cand s.data.toList)) ∧ w = w' := by
      intro w
      by_cases hq : 1 < s.data.toList.length ∧ s.data.toList.head? = some 45
      · exact read_neg s w hb hq
      · exact read_pos s w hb hq
    clear hb
    generalize cand s.data.toList = n at *
    have hf := Lib.hid (fmt.format_yes n w (by omega) (by omega) ht)
    clear ht
    generalize txt n = y at *
    go_enter Tryz.func75, Tryz.ntmps75
    go_wp2_with (go_at_call 106; refine (hr _).mono ?_; rintro e w' ⟨rfl, rfl⟩)
    go_wp2_with (go_at_call 31; refine hf.out.mono ?_; rintro e w' ⟨rfl, hbl⟩)
    go_ret2
    exact ⟨HB.out, hbl⟩
end Go.Proofs.YtfigjfckelichaaGreatDoor.parse

/- impl.SplitString at a separator of one byte: the iterator impl.partsBetween yields the pieces in order, and the loop over it collects them in new memory. -/
namespace Go.Proofs.YtfigjfckelichaaGreatDoor.iter
open Go.RowKit Go.Shelf Go.Proofs.YtfigjfckelichaaGreatDoor.split_

attribute [local go_sem] Oper.semAt_some

/-- The two boxed variables of the iterator lie as they lay. -/
def Kp (B1 B2 : Nat) (W W' : World) : Prop := W'.heap[B1]? = W.heap[B1]? ∧ W'.heap[B2]? = W.heap[B2]?
theorem kp_t {B1 B2 : Nat} {A B C : World} (h : Kp B1 B2 A B) (k : Kp B1 B2 B C) : Kp B1 B2 A C := ⟨k.1.trans h.1, k.2.trans h.2⟩
theorem kp_b {B1 B2 : Nat} {w : World} (h1 : B1 < w.heap.size) (h2 : B2 < w.heap.size) (W : World) (l : Nat) (o o' : Obj) (hl : w.heap.size ≤ l) (h : W.heap[l]? = some o) (_ : o.isCells = false) (_ : o.isWalk = false) : Kp B1 B2 W (W.putObj l o') := by
  have hs : l < W.heap.size := (Array.getElem?_eq_some_iff.1 h).1
  have hg := grownBy_putObj' W l o'
  exact ⟨hg.block B1 (by omega) (by intro e; injection e with e; omega), hg.block B2 (by omega) (by intro e; injection e with e; omega)⟩
theorem Kp.box1 {B1 B2 : Nat} {W W' : World} {t : TypeId} {v : Value} (h : Kp B1 B2 W W') (b : Boxed W B1 t v) : Boxed W' B1 t v := h.1.trans b
theorem Kp.box2 {B1 B2 : Nat} {W W' : World} {t : TypeId} {v : Value} (h : Kp B1 B2 W W') (b : Boxed W B2 t v) : Boxed W' B2 t v := h.2.trans b

theorem inv_more {b : UInt8} {s : ByteArray} {k f : Nat} {xs : List ByteArray} (h : Inv b s k f xs) : xs.length < (pieces b s.data.toList []).length := by
  unfold split_.Inv at h
  rw [← h, List.length_append, List.length_map]
  have : ∀ l cur, 0 < (pieces b l cur).length := by
    intro l
    induction l with
    | nil => intro cur; simp [pieces]
    | cons c l ih => intro cur; unfold pieces; split; · simp
                     · exact ih _
  have := this (s.data.toList.drop k) ((s.data.toList.take k).drop f)
  omega

set_option maxRecDepth 100000 in
set_option maxHeartbeats 2000000 in
theorem all1_in (n : Nat) (hn : 1 ≤ n) (l B1 B2 : Nat) (s : ByteArray) (b : UInt8) (hs : s.size ≤ 1048576) (J Jx : List ByteArray → World → Prop)
    (hY : ∀ pre x W, J pre W → pre.length < (pieces b s.data.toList []).length → YieldAt Fence.wide (n - 1) Tryz.prog l #[.string x] W fun e W' =>
      (e = .returned (.bool true) ∧ J (pre ++ [x]) W' ∧ Kp B1 B2 W W') ∨ (e = .returned (.bool false) ∧ Jx (pre ++ [x]) W'))
    (W : World) (hJd : ∀ pre W, J pre W → J pre W.drew) (hb1 : Boxed W B1 9 (.string s)) (hb2 : Boxed W B2 5 (.int .u8 b.toNat)) (h0 : J [] W) :
    CallsIn Fence.wide n Tryz.prog 116 #[.func (.yield l) #[] #[], .pointer (some ⟨B1, 0, none⟩), .pointer (some ⟨B2, 0, none⟩)] W fun e W' => (∃ v, e = .returned v) ∧
      ((∃ ys : List ByteArray, ys.map (·.data.toList) = pieces b s.data.toList [] ∧ J ys W') ∨ (∃ pre : List ByteArray, True ∧ Jx pre W')) := by
  refine callsIn_of_wp Tryz.func116 rfl trivial ?_ rfl
  simp only [Tryz.ntmps116, List.size_toArray, List.length_cons, List.length_nil, Nat.reduceAdd, Nat.reduceSub, Array.replicate_succ, Array.replicate_zero, List.push_toArray, List.append_toArray, List.nil_append, List.cons_append]
  have hc1 := hb1.cell
  gi_wp2
  clear hc1
  gi_loopw [4, 8] (fun st i wr => ∃ (k f : Nat) (pre : List ByteArray), k ≤ s.size ∧ f ≤ k ∧ i = .int .i64 k ∧ st = .int .i64 f ∧ Inv b s k f pre ∧ Boxed wr B1 9 (.string s) ∧ Boxed wr B2 5 (.int .u8 b.toNat) ∧ J pre wr)
    (fun _ i _ => s.size - (intOf i).toNat)
  case atStart => exact ⟨0, 0, [], Nat.zero_le _, Nat.le_refl _, rfl, rfl, inv_start b s, hb1, hb2, h0⟩
  case round =>
    obtain ⟨k, f, pre, hk, hf, rfl, rfl, hinv, hx1, hx2, hJs⟩ := hrel
    have hc1 := hx1.cell
    have hc2 := hx2.cell
    have HI := Lib.hid hinv
    clear hinv hb1 hb2 h0
    by_cases hlt : k < s.size
    · have hlt2 : (k : Int) < (s.size : Int) := by omega
      cases he : ((s[k].toNat : Int) == (b.toNat : Int))
      · have hne : ((s[k].toNat : Int) != (b.toNat : Int)) = true := by rw [bne, he]; rfl
        have HN := Lib.hid (inv_pass HI.out hf hlt he)
        clear he
        gi_wp2
        gi_region
        gi_wp2
        go_roundw
        case rel => exact ⟨k + 1, f, pre, by omega, by omega, by go_num, rfl, HN.out, hx1, hx2, hJd _ _ hJs⟩
        case measure => simp [intOf]; omega
      · have hne : ((s[k].toNat : Int) != (b.toNat : Int)) = false := by rw [bne, he]; rfl
        have HN := Lib.hid (inv_cut HI.out hlt he)
        obtain ⟨fn, tmps, assign, body, hy, hR⟩ := hY pre (s.extract f k) wr.drew (hJd _ _ hJs) (inv_more HI.out)
        clear he
        gi_wp2
        gi_region
        gi_wp2
        refine hR.mono ?_
        rintro e W3 (⟨rfl, hJ3, hk3⟩ | ⟨rfl, hJx3⟩)
        · have hz1 := hk3.box1 hx1
          have hz2 := hk3.box2 hx2
          gi_wp2
          go_roundw
          case rel => exact ⟨k + 1, k + 1, pre ++ [s.extract f k], by omega, by omega, by go_num, by go_num, HN.out, hz1, hz2, hJ3⟩
          case measure => simp [intOf]; omega
        · gi_wp2
          refine bodyPost_ret (results_none rfl _ _ _) rfl ?_
          exact ⟨⟨_, rfl⟩, .inr ⟨_, trivial, hJx3⟩⟩
    · have HN := Lib.hid (inv_end HI.out (by omega))
      obtain ⟨fn, tmps, assign, body, hy, hR⟩ := hY pre (s.extract f s.size) wr hJs (inv_more HI.out)
      gi_wp2
      refine hR.mono ?_
      rintro e W3 (⟨rfl, hJ3, hk3⟩ | ⟨rfl, hJx3⟩)
      · gi_wp2
        go_end0
        exact ⟨⟨_, rfl⟩, .inl ⟨_, HN.out, hJ3⟩⟩
      · gi_wp2
        go_end0
        exact ⟨⟨_, rfl⟩, .inr ⟨_, trivial, hJx3⟩⟩

set_option maxHeartbeats 1000000 in
theorem all_in (n : Nat) (s : ByteArray) (b : UInt8) (w : World) :
    CallsIn Fence.wide n Tryz.prog 105 #[.string s, .int .u8 b.toNat] w fun e w' => e = .returned (.func (.func 116) #[] #[.pointer (some ⟨w.heap.size, 0, none⟩), .pointer (some ⟨w.heap.size + 1, 0, none⟩)]) ∧ w' = (w.alloc (.cells #[.string s] 9)).alloc (.cells #[.int .u8 b.toNat] 5) := by
  refine callsIn_of_wp Tryz.func105 rfl trivial ?_ rfl
  simp only [Tryz.ntmps105, List.size_toArray, List.length_cons, List.length_nil, Nat.reduceAdd, Nat.reduceSub, Array.replicate_succ, Array.replicate_zero, List.push_toArray, List.append_toArray, List.nil_append, List.cons_append]
  gi_wp2
  go_ret
  exact ⟨rfl, rfl⟩

theorem abide_drew {β : Type} {B : Nat} {J : β → World → Prop} (h : AbidesFrom B J) (x : β) (W : World) (hj : J x W) : J x W.drew :=
  h x W W.drew none hj ⟨rfl, rfl, rfl, Nat.le_refl _, fun _ _ _ => rfl⟩ (fun r e => by cases e)

theorem all_stops (n : Nat) (hn : 1 ≤ n) (B1 B2 : Nat) (s : ByteArray) (b : UInt8) (hs : s.size ≤ 1048576) (w : World) (h1 : Boxed w B1 9 (.string s)) (h2 : Boxed w B2 5 (.int .u8 b.toNat)) :
    SeqStopsK Fence.wide n Tryz.prog 116 #[.pointer (some ⟨B1, 0, none⟩), .pointer (some ⟨B2, 0, none⟩)] (fun x : ByteArray => #[Value.string x]) (Kp B1 B2) (fun ys => ys.map (·.data.toList) = pieces b s.data.toList []) (fun _ => True) (pieces b s.data.toList []).length w := fun l J Jx W hW hJ _ hY h0 =>
  all1_in n hn l B1 B2 s b hs J Jx hY W (fun pre W hj => abide_drew hJ pre W hj) ((hW.block B1 h1.lt).trans h1) ((hW.block B2 h2.lt).trans h2) h0
end Go.Proofs.YtfigjfckelichaaGreatDoor.iter

/- impl.SplitString at every string and separator. -/
namespace Go.Proofs.YtfigjfckelichaaGreatDoor.splitimpl
open Go.RowKit Go.Shelf Go.Proofs.YtfigjfckelichaaGreatDoor.split_ Go.Proofs.YtfigjfckelichaaGreatDoor.iter

attribute [local go_sem] Oper.semAt_some

theorem infoStr : (Tryz.prog.info? 9).map (fun i => (i.zero, i.size, i.bytes)) = some (some (.string ⟨#[]⟩), 1, 16) := by kernel_rfl

theorem impl_no (s sep : ByteArray) (w : World) (h : 4000 < (s.size : Int) ∨ ((sep.size : Int) == 1) = false) :
    Calls Tryz.prog 74 #[.string s, .string sep] w fun e w' => e = .returned (.tuple #[.slice none 0 0, .bool false]) ∧ w = w' := by
  by_cases h1 : 4000 < (s.size : Int)
  · clear h
    go_enter Tryz.func74, Tryz.ntmps74
    go_wp2
    go_ret2
    exact ⟨rfl, rfl⟩
  · have h2 : ((sep.size : Int) == 1) = false := h.resolve_left h1
    have h3 : ((sep.size : Int) != 1) = true := by rw [bne, h2]; rfl
    clear h
    go_enter Tryz.func74, Tryz.ntmps74
    go_wp2
    go_ret2
    exact ⟨rfl, rfl⟩

set_option maxRecDepth 100000 in
set_option maxHeartbeats 2000000 in
theorem impl_in (s sep : ByteArray) (w : World) (h : (s.size : Int) ≤ 4000) (h0 : 0 < sep.size) (h1 : ((sep.size : Int) == 1) = true) :
    CallsIn Fence.wide 3 Tryz.prog 74 #[.string s, .string sep] w fun e W' => ∃ (v : Value) (xs : List ByteArray), e = .returned (.tuple #[v, .bool true]) ∧ W'.ownsRow w.heap.size 9 1 v xs.length (xs.map Value.string) ∧ Below w.heap.size w W' ∧ xs.map (·.data.toList) = pieces sep[0] s.data.toList [] := by
  obtain ⟨i0, hi, hz0, hz1, hz2⟩ := info_parts infoStr
  have h3 : ((sep.size : Int) != 1) = false := by rw [bne, h1]; rfl
  clear h1
  have hd : decide ((4000 : Int) < (s.size : Int)) = false := by simpa using h
  have hall := all_in (3 - 1) s sep[0]
  generalize hbb : sep[0] = b at hall
  refine callsIn_of_wp_marks Tryz.func74 rfl trivial ?_ rfl
  simp only [Tryz.ntmps74, List.size_toArray, List.length_cons, List.length_nil, Nat.reduceAdd, Nat.reduceSub, Array.replicate_succ, Array.replicate_zero, List.push_toArray, List.append_toArray, List.nil_append, List.cons_append]
  gi_wp2_with (refine ⟨trivial, ?_⟩; gi_at_call 105; refine (hall _).mono ?_; rintro e w' ⟨rfl, rfl⟩)
  have bO := Boxed.new w 111 (.slice none 0 0)
  have bS := Boxed.new (w.alloc (.cells #[.slice none 0 0] 111)) 9 (.string s)
  have bB := Boxed.new ((w.alloc (.cells #[.slice none 0 0] 111)).alloc (.cells #[.string s] 9)) 5 (.int .u8 b.toNat)
  simp only [World.size_alloc] at bS bB
  have hB0 : Below w.heap.size w (((w.alloc (.cells #[.slice none 0 0] 111)).alloc (.cells #[.string s] 9)).alloc (.cells #[.int .u8 b.toNat] 5)) := (((Below.refl _ w).alloc (Nat.le_refl _) _).alloc (by simp) _).alloc (by simp; omega) _
  have hlen := pieces_length b s.data.toList []
  have hsl : s.data.toList.length = s.size := by simp [← ByteArray.size_data]
  have hN : (pieces b s.data.toList []).length ≤ 4001 := by omega
  refine wpIn_rangeFunc_ownG rfl (by omega) (gf := 116) (lb := #[.pointer (some ⟨w.heap.size + 1, 0, none⟩), .pointer (some ⟨w.heap.size + 1 + 1, 0, none⟩)]) rfl trivial (enters_of Tryz.func116 (by kernel_rfl) rfl)
    (all_stops (3 - 1) (by omega) (w.heap.size + 1) (w.heap.size + 1 + 1) s b (by omega) _ (bS.alloc _) bB) kp_t (kp_b (by simp) (by simp)) (Below.refl _ _) (fun _ => rfl)
    (fun pre W => (∃ v, Boxed W w.heap.size 111 v ∧ W.ownsRow (w.heap.size + 3) 9 1 v pre.length (pre.map Value.string) ∧ True) ∧ Below w.heap.size w W ∧ Boxed W (w.heap.size + 1 + 1) 5 (.int .u8 b.toNat))
    (fun _ _ _ => False)
    (OwnFrom.and (Own.from (holdsRow_own (w.heap.size + 3) w.heap.size 111 9 1 (fun pre : List ByteArray => pre.length) (fun pre => pre.map Value.string) (fun _ _ => True)) _) (OwnFrom.and (ownFrom_below (Nat.le_refl _) (by simp; omega)) (Own.from (boxed_own (w.heap.size + 1 + 1) 5 (fun _ => Value.int .u8 b.toNat)) _)))
    (fun _ _ _ _ _ hs _ _ => hs)
    ⟨⟨_, (bO.alloc _).alloc _, World.ownsRow_nil _ _ _ _, trivial⟩, hB0, bB⟩
    (fun x => { tmps := #[.string s, .string sep, undef, undef, .slice none 0 0, .bool false, .pointer (some ⟨w.heap.size, 0, none⟩), .string x, .string s, .int .i64 s.size, .bool false, .bool false, .string sep, .int .i64 sep.size, .bool false, .bool false, .string s, .string sep, .int .u8 b.toNat, .func (.func 116) #[] #[.pointer (some ⟨w.heap.size + 1, 0, none⟩), .pointer (some ⟨w.heap.size + 1 + 1, 0, none⟩)], .string x, undef, undef, undef, undef, undef], defers := [] }) ?assign ?body ?done ?stop
  case assign =>
    intro l x W K hK
    gi_wp2
    exact hK
  case body =>
    rintro l pre x W ⟨⟨v, hv, hrow, _⟩, hB, hbx⟩ hlt
    have hc := hv.cell
    have hsz := hB.size
    have hbl := hbx.lt
    have hrg := own_.row_ge hrow
    gi_wp2_with (gi_at_builtin; refine wpListIn_append_own _ rfl _ _ 111 rfl (w.heap.size + 3) 9 i0 (.string ⟨#[]⟩) 1 16 Tryz.underlying111 hi hz0 hz1 hz2 rfl (by decide) _ _ _ rfl (hrow.alloc _) ⟨W.heap.size, 0, none⟩ 1 1 [.string x] rfl rfl (cell_one_new _ _ _) (by simp [Value.oneCell']) (by unfold maxLen; omega) (by omega) (by simp; omega) ?_; intro v' w1 hown' hgrow _; obtain ⟨g', cap', rfl⟩ := ownsRow_succ hown'; obtain ⟨hv1, hv2, hr2, hk2, hb2⟩ := hv.appended (n₀ := w.heap.size) (by decide) (own_.own_base hrow (by omega)) hsz (Nat.le_refl _) (own_.own_base hown' (by omega)) hgrow; have hc1 := hv1.cell; have hf1 := hv1.frozen)
    have hr3 := ownsRow_setCell_below hown' (a := ⟨w.heap.size, 0, none⟩) (by simp) (.slice (some ⟨g', 0, none⟩) (pre.length + 1) cap')
    have hk : Kp (w.heap.size + 1) (w.heap.size + 1 + 1) W (w1.setCell ⟨w.heap.size, 0, none⟩ (.slice (some ⟨g', 0, none⟩) (pre.length + 1) cap')) := by
      refine ⟨?_, ?_⟩
      · refine (Below.heap_setCell _ _ _ _ (by simp)).trans ((hgrow.block _ (by simp; omega) (fun e => by have := hrg _ e.symm; omega)).trans (Below.heap_alloc _ _ _ (by omega)))
      · refine (Below.heap_setCell _ _ _ _ (by simp; omega)).trans ((hgrow.block _ (by simp; omega) (fun e => by have := hrg _ e.symm; omega)).trans (Below.heap_alloc _ _ _ (by omega)))
    exact ⟨hk2.from _, hk, ⟨_, hv2, by simpa using hr3, trivial⟩, hB.trans hb2, hk.box2 hbx⟩
  case done =>
    rintro D ys W hD hys ⟨⟨v, hv, hrow, _⟩, hB, hbx⟩ hK
    have hc := hv.cell
    gi_wp2
    refine ⟨by simp, .inl ⟨_, _, rfl, run_takeDeferred hK, ?_⟩⟩
    refine ⟨_, results_tmp2 rfl _ _ _, v, ys, rfl, own_.own_base (ownsRow_putObj hrow _ hK rfl) (by omega), hB.trans (belowK_b (w := w) (Nat.le_refl _) W D _ _ (by simp at hD; omega) hK rfl rfl), ?_⟩
    exact hys
  case stop =>
    rintro D c pre W _ _ h _
    exact h.elim

theorem impl_yes (s sep : ByteArray) (w : World) (h : (s.size : Int) ≤ 4000) (h0 : 0 < sep.size) (h1 : ((sep.size : Int) == 1) = true) :
    Calls Tryz.prog 74 #[.string s, .string sep] w fun e W' => ∃ (v : Value) (xs : List ByteArray), e = .returned (.tuple #[v, .bool true]) ∧ W'.ownsRow w.heap.size 9 1 v xs.length (xs.map Value.string) ∧ Below w.heap.size w W' ∧ xs.map (·.data.toList) = pieces sep[0] s.data.toList [] :=
  (callsIn_wide (n := 3)).1 (impl_in s sep w h h0 h1)
end Go.Proofs.YtfigjfckelichaaGreatDoor.splitimpl

/- Reading a track's line: impl's readTrack, ParseTrackLine. -/
namespace Go.Proofs.YtfigjfckelichaaGreatDoor.trka
open Go.RowKit Go.Proofs.YtfigjfckelichaaGreatDoor.num Go.Proofs.YtfigjfckelichaaGreatDoor.read Go.Proofs.YtfigjfckelichaaGreatDoor.ats Go.Proofs.YtfigjfckelichaaGreatDoor.split_ Go.Proofs.YtfigjfckelichaaGreatDoor.pos Go.Proofs.YtfigjfckelichaaGreatDoor.trk Go.Proofs.YtfigjfckelichaaGreatDoor.trkm Go.Proofs.YtfigjfckelichaaGreatDoor.trkp Go.Proofs.YtfigjfckelichaaGreatDoor.trkr

/-- internal/bytealg.MaxLen holds some int. -/
def Mx (w : World) : Prop := ∃ m, w.cell? ⟨3, 0, none⟩ = some (.int .i64 m)
theorem mx_on {w w' : World} (h : Mx w) (hb : Below w.heap.size w w') : Mx w' := by
  obtain ⟨m, hm⟩ := h
  exact ⟨m, (hb.cell (World.block_lt_of_cell? _ _ hm)).trans hm⟩
theorem cut_any (s sep : ByteArray) (w : World) (hs : s.size ≤ 1048576) (hm : Mx w) :
    Calls Tryz.prog 73 #[.string s, .string sep] w fun e w' => e = .returned (.tuple #[.string ⟨(Lib.cut s.data.toList sep.data.toList).1.toArray⟩, .string ⟨(Lib.cut s.data.toList sep.data.toList).2.1.toArray⟩, .bool (Lib.cut s.data.toList sep.data.toList).2.2]) ∧ ∃ n, w' = w.drewN n := by
  obtain ⟨m, hm⟩ := hm
  exact Tryz.strings_Cut s sep m w (by omega) hm
theorem cut_le (l sep : List UInt8) : (Lib.cut l sep).1.length ≤ l.length ∧ (Lib.cut l sep).2.1.length ≤ l.length := by
  unfold Lib.cut
  split
  · refine ⟨?_, ?_⟩
    · show (l.take _).length ≤ _
      rw [List.length_take]; omega
    · show (l.drop _).length ≤ _
      rw [List.length_drop]; omega
  · exact ⟨Nat.le_refl _, Nat.zero_le _⟩
theorem sz_of (l : List UInt8) : (⟨l.toArray⟩ : ByteArray).size = l.length := rfl
theorem six {xs : List ByteArray} (h : xs.length = 6) : ∃ a b c d e f, xs = [a, b, c, d, e, f] := by
  match xs, h with
  | [a, b, c, d, e, f], _ => exact ⟨a, b, c, d, e, f, rfl⟩
theorem pieces_size (b : UInt8) : ∀ (l cur x : List UInt8), x ∈ pieces b l cur → x.length ≤ cur.length + l.length
  | [], cur, x, h => by
    simp [pieces] at h
    subst h
    omega
  | c :: l, cur, x, h => by
    rw [pieces] at h
    by_cases e : c = b
    · rw [if_pos e] at h
      rcases List.mem_cons.1 h with rfl | h
      · simp only [List.length_cons]; omega
      · have := pieces_size b l [] x h
        simp only [List.length_nil, List.length_cons] at *
        omega
    · rw [if_neg e] at h
      have := pieces_size b l (cur ++ [c]) x h
      simp only [List.length_append, List.length_cons, List.length_nil] at *
      omega
theorem own_strs {w : World} {B e n : Nat} {v : Value} {xs : List ByteArray} (h : w.ownsRow B e 1 v n (xs.map Value.string)) : ∃ A c, v = .slice A n c := by
  rcases h.2 with ⟨rfl, h0⟩ | ⟨g, cap, cur, rfl, _⟩
  · exact ⟨_, _, by rw [h0]⟩
  · exact ⟨_, _, rfl⟩
theorem strs_at {w : World} {B e n c : Nat} {A : Option Addr} {xs : List ByteArray} (h : w.ownsRow B e 1 (.slice A n c) n (xs.map Value.string)) (h0 : 0 < n) : ∃ g, A = some ⟨g, 0, none⟩ ∧ B ≤ g ∧ g < w.heap.size ∧ ∀ k x, xs[k]? = some x → w.cell? ⟨g, k, none⟩ = some (.string x) := by
  rcases h.2 with ⟨_, e⟩ | ⟨g, cap, cur, hv, hB, hh, _⟩
  · omega
  · injection hv with hA
    subst hA
    refine ⟨g, rfl, hB, (Array.getElem?_eq_some_iff.1 hh).1, fun k x hx => ?_⟩
    have h2 := h.cells (g := g) rfl k (.string x) (by rw [List.getElem?_map, hx]; rfl)
    rw [Addr.add_lit] at h2
    simpa using h2
theorem tabW_on {w w' : World} (h : Tab w) (hb : Below w.heap.size w w') : Tab w' := fun k hk => (hb.cell (World.block_lt_of_cell? _ _ (h k hk))).trans (h k hk)
/-- A line is short. -/
theorem wd_len : ∀ k : Nat, (wd k).data.toList.length ≤ 9
  | 0 => by decide
  | 1 => by decide
  | 2 => by decide
  | 3 => by decide
  | _ + 4 => by
    show ([] : List UInt8).length ≤ 9
    decide
theorem tl_size {i s x y h l : Int} (hv : tkB i s x y h l = true) : (tlT i s x y h l).size ≤ 60 := by
  obtain ⟨hi, hp, hh, hl, -, -⟩ := tkB_yes hv
  obtain ⟨hx, hy⟩ := pB_yes hp
  have a1 := (ptx.txt_len (n := i) (by omega) (by omega)).2
  have a2 := (ptx.txt_len (n := x) (by omega) (by omega)).2
  have a3 := (ptx.txt_len (n := y) (by omega) (by omega)).2
  have a4 := (ptx.txt_len (n := h) (by omega) (by omega)).2
  have a5 := (ptx.txt_len (n := l) (by omega) (by omega)).2
  have a6 := wd_len s.toNat
  have e : (hdT i s.toNat x y h).data.toList.length = (txt i).data.toList.length + 1 + ((wd s.toNat).data.toList.length + 1 + (2 + 1 + ((txt x).data.toList.length + 1 + (txt y).data.toList.length + 1 + (4 + 1 + (txt h).data.toList.length)))) := by
    rw [hd_list']
    simp only [aid.str_app, List.length_append, List.length_cons, List.length_nil]
    have : (⟨#[44]⟩ : ByteArray).data.toList.length = 1 := rfl
    omega
  rw [← ptx.len_list]
  by_cases hz : l = 0
  · rw [tl_zero hz, e]; omega
  · rw [tl_lost hz, aid.str_app, aid.str_app, List.length_append, List.length_append, e]
    show _ + 6 + _ ≤ 60
    omega
theorem pt_size {t : ByteArray} (h : ptB t = true) : t.size ≤ 60 := by
  obtain ⟨h1, h2⟩ := pt_yes h
  have := tl_size h1
  rw [h2] at this
  exact this
theorem r_no {t : ByteArray} (h : rK t = false) : rI t = 0 ∧ rS t = 0 ∧ rX t = 0 ∧ rY t = 0 ∧ rH t = 0 ∧ rL t = 0 := by
  unfold rI rS rX rY rH rL; rw [h]; exact ⟨rfl, rfl, rfl, rfl, rfl, rfl⟩
theorem r_yes {t : ByteArray} {x0 x1 x2 x3 x4 x5 : ByteArray} (hx : [x0, x1, x2, x3, x4, x5].map (·.data.toList) = rW t) :
    rI t = rdN x0 ∧ rX t = rdN ⟨(Lib.cut x3.data.toList [44]).1.toArray⟩ ∧ rY t = rdN ⟨(Lib.cut x3.data.toList [44]).2.1.toArray⟩ ∧ rH t = rdN x5 ∧ rL t = rdN ⟨(rO t).toArray⟩ ∧ rS t = sw (rdN x5) (rdN ⟨(rO t).toArray⟩) := by
  have hk : rK t = true := by unfold rK; rw [← hx]; rfl
  have e0 : rI t = rdN x0 := by unfold rI; rw [hk, ← hx]; rfl
  have e1 : rX t = rdN ⟨(Lib.cut x3.data.toList [44]).1.toArray⟩ := by unfold rX rP; rw [hk, ← hx]; rfl
  have e2 : rY t = rdN ⟨(Lib.cut x3.data.toList [44]).2.1.toArray⟩ := by unfold rY rP; rw [hk, ← hx]; rfl
  have e3 : rH t = rdN x5 := by unfold rH; rw [hk, ← hx]; rfl
  have e4 : rL t = rdN ⟨(rO t).toArray⟩ := by unfold rL; rw [hk]; rfl
  exact ⟨e0, e1, e2, e3, e4, by unfold rS; rw [hk, e3, e4]; rfl⟩

set_option maxRecDepth 100000 in
set_option maxHeartbeats 4000000 in
theorem readLong (t : ByteArray) (w : World) (hs : t.size ≤ 1048576) (hm : Mx w) (h4 : ¬ (((rB t).length : Nat) : Int) ≤ 4000) :
    Calls Tryz.prog 32 #[.string t] w fun e w' => e = .returned (.agg #[.int .i64 0, .int .i64 0, .int .i64 0, .int .i64 0, .int .i64 0, .int .i64 0]) ∧ Below w.heap.size w w' := by
  have K1 := Lib.hid (fun (W : World) (hb : Below w.heap.size w W) => show Calls Tryz.prog 73 #[.string t, .string ⟨#[32, 108, 111, 115, 116, 32]⟩] W (fun e w' => e = .returned (.tuple #[.string ⟨(rB t).toArray⟩, .string ⟨(rO t).toArray⟩, .bool (Lib.cut t.data.toList [32, 108, 111, 115, 116, 32]).2.2]) ∧ ∃ n, w' = W.drewN n) from cut_any t ⟨#[32, 108, 111, 115, 116, 32]⟩ W hs (mx_on hm hb))
  have HS := Lib.hid (fun W => splitimpl.impl_no ⟨(rB t).toArray⟩ ⟨#[32]⟩ W (Or.inl (by show 4000 < ((rB t).length : Int); omega)))
  have Z0 := Lib.hid (newS 25 #[.int .i64 0, .int .i64 0, .int .i64 0, .int .i64 0, .int .i64 0, .int .i64 0] w)
  clear hs hm h4
  generalize (Lib.cut t.data.toList [32, 108, 111, 115, 116, 32]).2.2 = b1 at *
  generalize (⟨(rB t).toArray⟩ : ByteArray) = bf at *
  generalize (⟨(rO t).toArray⟩ : ByteArray) = lo at *
  go_enter Tryz.func32, Tryz.ntmps32
  go_wp2_with fail
  generalize w.alloc (.cells #[.int .i64 0, .int .i64 0, .int .i64 0, .int .i64 0, .int .i64 0, .int .i64 0] 25) = W0 at *
  refine (K1.out W0 Z0.out.1).mono ?_
  rintro e wx ⟨rfl, j1, rfl⟩
  have Z1 := Lib.hid (Z0.out.drewN j1)
  generalize W0.drewN j1 = W1 at *
  clear Z0 K1
  go_wp2_with fail
  refine (HS.out W1).mono ?_
  rintro e wx ⟨rfl, rfl⟩
  have z0 : W1.cell? ⟨w.heap.size, 0, none⟩ = some (.int .i64 0) := Z1.out.cell 0
  have zf0 := Z1.out.frozen 0
  have z1 : W1.cell? ⟨w.heap.size, 1, none⟩ = some (.int .i64 0) := Z1.out.cell 1
  have zf1 := Z1.out.frozen 1
  have z2 : W1.cell? ⟨w.heap.size, 2, none⟩ = some (.int .i64 0) := Z1.out.cell 2
  have zf2 := Z1.out.frozen 2
  have z3 : W1.cell? ⟨w.heap.size, 3, none⟩ = some (.int .i64 0) := Z1.out.cell 3
  have zf3 := Z1.out.frozen 3
  have z4 : W1.cell? ⟨w.heap.size, 4, none⟩ = some (.int .i64 0) := Z1.out.cell 4
  have zf4 := Z1.out.frozen 4
  have z5 : W1.cell? ⟨w.heap.size, 5, none⟩ = some (.int .i64 0) := Z1.out.cell 5
  have zf5 := Z1.out.frozen 5
  have HE := Lib.hid ((((((Z1.out.set 0 (.int .i64 0)).set 1 (.int .i64 0)).set 2 (.int .i64 0)).set 3 (.int .i64 0)).set 4 (.int .i64 0)).set 5 (.int .i64 0))
  go_wp2_with fail
  have hl := HE.out.load Tryz.underlying25 rfl (by kernel_rfl)
  refine bodyPost_ret (v := .agg #[.int .i64 0, .int .i64 0, .int .i64 0, .int .i64 0, .int .i64 0, .int .i64 0]) ?_ rfl ⟨rfl, HE.out.1⟩
  rw [results_cell1 rfl]
  simp [asAddr, Result.andThen, hl]

set_option maxRecDepth 100000 in
set_option maxHeartbeats 8000000 in
theorem readTrack (t : ByteArray) (w : World) (hs : t.size ≤ 1048576) (ht : fmt.Tab w) (hm : Mx w) (h4 : (((rB t).length : Nat) : Int) ≤ 4000) :
    Calls Tryz.prog 32 #[.string t] w fun e w' => e = .returned (.agg #[.int .i64 (rI t), .int .i64 (rS t), .int .i64 (rX t), .int .i64 (rY t), .int .i64 (rH t), .int .i64 (rL t)]) ∧ Below w.heap.size w w' := by
  have hle := cut_le t.data.toList [32, 108, 111, 115, 116, 32]
  rw [ptx.len_list] at hle
  have K1 := Lib.hid (fun (W : World) (hb : Below w.heap.size w W) => show Calls Tryz.prog 73 #[.string t, .string ⟨#[32, 108, 111, 115, 116, 32]⟩] W (fun e w' => e = .returned (.tuple #[.string ⟨(rB t).toArray⟩, .string ⟨(rO t).toArray⟩, .bool (Lib.cut t.data.toList [32, 108, 111, 115, 116, 32]).2.2]) ∧ ∃ n, w' = W.drewN n) from cut_any t ⟨#[32, 108, 111, 115, 116, 32]⟩ W hs (mx_on hm hb))
  have HS := Lib.hid (fun W => splitimpl.impl_yes ⟨(rB t).toArray⟩ ⟨#[32]⟩ W h4 (by decide) (by decide))
  have HM := Lib.hid (fun (W : World) (hb : Below w.heap.size w W) => mx_on hm hb)
  have HT := Lib.hid (fun (W : World) (hb : Below w.heap.size w W) => fmt.tab_on ht hb)
  have hlo : (⟨(rO t).toArray⟩ : ByteArray).size ≤ 1048576 := by rw [sz_of]; exact Nat.le_trans hle.2 hs
  have R4 := Lib.hid (fun (W : World) (hb : Below w.heap.size w W) => parse.impl_any ⟨(rO t).toArray⟩ W hlo (HT.out W hb))
  have Z0 := Lib.hid (newS 25 #[.int .i64 0, .int .i64 0, .int .i64 0, .int .i64 0, .int .i64 0, .int .i64 0] w)
  have HRN := Lib.hid (fun (h : rK t = false) => r_no h)
  have HRY := Lib.hid (fun (x0 x1 x2 x3 x4 x5 : ByteArray) (hx : [x0, x1, x2, x3, x4, x5].map (·.data.toList) = rW t) => r_yes hx)
  have HRK := Lib.hid (fun (xs : List ByteArray) (hx : xs.map (·.data.toList) = rW t) => show rK t = decide (xs.length = 6) by unfold rK; rw [← hx, List.length_map])
  have HSZ := Lib.hid (fun (xs : List ByteArray) (hx : xs.map (·.data.toList) = rW t) (x : ByteArray) (hm : x ∈ xs) => show x.size ≤ 1048576 by
    have h1 : x.data.toList ∈ rW t := by rw [← hx]; exact List.mem_map.2 ⟨x, hm, rfl⟩
    have h2 := pieces_size 32 _ _ _ h1
    rw [ptx.len_list] at h2
    have h3 : (rB t).length ≤ t.size := hle.1
    have h5 : ([] : List UInt8).length = 0 := rfl
    omega)
  clear hs ht hm h4 hlo hle
  generalize (Lib.cut t.data.toList [32, 108, 111, 115, 116, 32]).2.2 = b1 at *
  have HW := Lib.hid (show pieces 32 (⟨(rB t).toArray⟩ : ByteArray).data.toList [] = rW t from rfl)
  generalize hbf : (⟨(rB t).toArray⟩ : ByteArray) = bf at *
  generalize (⟨(rO t).toArray⟩ : ByteArray) = lo at *
  clear hbf
  go_enter Tryz.func32, Tryz.ntmps32
  go_wp2_with fail
  generalize w.alloc (.cells #[.int .i64 0, .int .i64 0, .int .i64 0, .int .i64 0, .int .i64 0, .int .i64 0] 25) = W0 at *
  refine (K1.out W0 Z0.out.1).mono ?_
  rintro e wx ⟨rfl, j1, rfl⟩
  have Z1 := Lib.hid (Z0.out.drewN j1)
  generalize W0.drewN j1 = W1 at *
  clear Z0 K1
  go_wp2_with fail
  refine (HS.out W1).mono ?_
  rintro e W2 ⟨v, xs, rfl, hown, hb, hpc⟩
  have hpw : xs.map (·.data.toList) = rW t := hpc.trans HW.out
  have Z2 := Lib.hid (Z1.out.old hb)
  have hK := HRK.out xs hpw
  have hsz := HSZ.out xs hpw
  obtain ⟨A, c, rfl⟩ := own_strs hown
  clear hb Z1 HS hpc
  by_cases h6 : xs.length = 6
  rotate_left
  · have q2 : ((xs.length : Int) != 6) = true := by simp; omega
    rw [decide_eq_false h6] at hK
    have HN := Lib.hid (HRN.out hK)
    generalize xs.length = xl at *
    clear hown hpw hsz hK
    have z0 : W2.cell? ⟨w.heap.size, 0, none⟩ = some (.int .i64 0) := Z2.out.cell 0
    have zf0 := Z2.out.frozen 0
    have z1 : W2.cell? ⟨w.heap.size, 1, none⟩ = some (.int .i64 0) := Z2.out.cell 1
    have zf1 := Z2.out.frozen 1
    have z2 : W2.cell? ⟨w.heap.size, 2, none⟩ = some (.int .i64 0) := Z2.out.cell 2
    have zf2 := Z2.out.frozen 2
    have z3 : W2.cell? ⟨w.heap.size, 3, none⟩ = some (.int .i64 0) := Z2.out.cell 3
    have zf3 := Z2.out.frozen 3
    have z4 : W2.cell? ⟨w.heap.size, 4, none⟩ = some (.int .i64 0) := Z2.out.cell 4
    have zf4 := Z2.out.frozen 4
    have z5 : W2.cell? ⟨w.heap.size, 5, none⟩ = some (.int .i64 0) := Z2.out.cell 5
    have zf5 := Z2.out.frozen 5
    have HE := Lib.hid ((((((Z2.out.set 0 (.int .i64 0)).set 1 (.int .i64 0)).set 2 (.int .i64 0)).set 3 (.int .i64 0)).set 4 (.int .i64 0)).set 5 (.int .i64 0))
    go_wp2_with fail
    have hl := HE.out.load Tryz.underlying25 rfl (by kernel_rfl)
    refine bodyPost_ret (v := .agg #[.int .i64 0, .int .i64 0, .int .i64 0, .int .i64 0, .int .i64 0, .int .i64 0]) ?_ rfl ⟨by rw [HN.out.1, HN.out.2.1, HN.out.2.2.1, HN.out.2.2.2.1, HN.out.2.2.2.2.1, HN.out.2.2.2.2.2], HE.out.1⟩
    rw [results_cell1 rfl]
    simp [asAddr, Result.andThen, hl]
  obtain ⟨x0, x1, x2, x3, x4, x5, rfl⟩ := six h6
  obtain ⟨gw, rfl, hgB, hgw, hcw⟩ := strs_at hown (show 0 < [x0, x1, x2, x3, x4, x5].length by rw [h6]; omega)
  have HY := Lib.hid (HRY.out x0 x1 x2 x3 x4 x5 hpw)
  have k0 := hcw 0 x0 rfl
  have k3 := hcw 3 x3 rfl
  have k5 := hcw 5 x5 rfl
  have z0 := hsz x0 (by simp)
  have z3 := hsz x3 (by simp)
  have z5 := hsz x5 (by simp)
  have hc3 := cut_le x3.data.toList [44]
  rw [ptx.len_list] at hc3
  have R0 := Lib.hid (fun (W : World) (hb : Below w.heap.size w W) => parse.impl_any x0 W z0 (HT.out W hb))
  have R3 := Lib.hid (fun (W : World) (hb : Below w.heap.size w W) => parse.impl_any x5 W z5 (HT.out W hb))
  have R1 := Lib.hid (fun (W : World) (hb : Below w.heap.size w W) => parse.impl_any ⟨(Lib.cut x3.data.toList [44]).1.toArray⟩ W (by rw [sz_of]; omega) (HT.out W hb))
  have R2 := Lib.hid (fun (W : World) (hb : Below w.heap.size w W) => parse.impl_any ⟨(Lib.cut x3.data.toList [44]).2.1.toArray⟩ W (by rw [sz_of]; omega) (HT.out W hb))
  have K3 := Lib.hid (fun (W : World) (hb : Below w.heap.size w W) => show Calls Tryz.prog 73 #[.string x3, .string ⟨#[44]⟩] W (fun e w' => e = .returned (.tuple #[.string ⟨(Lib.cut x3.data.toList [44]).1.toArray⟩, .string ⟨(Lib.cut x3.data.toList [44]).2.1.toArray⟩, .bool (Lib.cut x3.data.toList [44]).2.2]) ∧ ∃ n, w' = W.drewN n) from cut_any x3 ⟨#[44]⟩ W z3 (HM.out W hb))
  have HSW := Lib.hid (fun W => trki.stateWith (rdN x5) (rdN lo) W)
  clear hown hcw hsz h6 hpw hK z0 z3 z5 hc3 HRN HRY HRK HSZ HM HT HW
  simp only [List.length_cons, List.length_nil, Nat.zero_add, Nat.reduceAdd]
  generalize (⟨(Lib.cut x3.data.toList [44]).1.toArray⟩ : ByteArray) = sx at *
  generalize (⟨(Lib.cut x3.data.toList [44]).2.1.toArray⟩ : ByteArray) = sy at *
  generalize (Lib.cut x3.data.toList [44]).2.2 = b2 at *
  generalize rdB x0 = d0 at *
  generalize rdB sx = d1 at *
  generalize rdB sy = d2 at *
  generalize rdB x5 = d3 at *
  generalize rdB lo = d4 at *
  generalize rdN x0 = nI at *
  generalize rdN sx = nX at *
  generalize rdN sy = nY at *
  generalize rdN x5 = nH at *
  generalize rdN lo = nL at *
  generalize sw nH nL = nS at *
  go_wp2_with fail
  refine (K3.out W2 Z2.out.1).mono ?_
  rintro e wx ⟨rfl, j2, rfl⟩
  have Z3 := Lib.hid (Z2.out.drewN j2)
  have BX := Lib.hid (aid.below_drewN (Below.refl W2.heap.size W2) j2)
  generalize W2.drewN j2 = W3 at *
  clear Z2 K3 k3
  have ZA := Lib.hid (Z3.out.alloc (.cells #[.int .i64 0, .int .i64 0, .int .i64 0, .int .i64 0, .int .i64 0, .int .i64 0] 25))
  have PA := Lib.hid (Z3.out.next 25 #[.int .i64 0, .int .i64 0, .int .i64 0, .int .i64 0, .int .i64 0, .int .i64 0])
  have hne := Z3.out.2.2.1
  have BA := Lib.hid (BX.out.alloc BX.out.size (.cells #[.int .i64 0, .int .i64 0, .int .i64 0, .int .i64 0, .int .i64 0, .int .i64 0] 25))
  have hbp := BX.out.size
  clear Z3 BX
  go_upto_region 7 with fail
  generalize W3.alloc (.cells #[.int .i64 0, .int .i64 0, .int .i64 0, .int .i64 0, .int .i64 0, .int .i64 0] 25) = V0 at *
  generalize W3.heap.size = bp at *
  have k0' : V0.cell? ⟨gw, 0, none⟩ = some (.string x0) := (BA.out.cell (p := ⟨gw, 0, none⟩) hgw).trans k0
  go_wp2_with fail
  refine (R0.out V0 ZA.out.1).mono ?_
  rintro e U0 ⟨rfl, hb⟩
  have PB0 := Lib.hid (PA.out.old hb)
  have ZB0 := Lib.hid (ZA.out.old hb)
  have BB0 := Lib.hid (BA.out.trans (hb.mono BA.out.size))
  clear hb ZA PA BA k0'
  have c0 : U0.cell? ⟨bp, 0, none⟩ = some (.int .i64 0) := PB0.out.cell 0
  have cf0 := PB0.out.frozen 0
  have c1 : U0.cell? ⟨bp, 1, none⟩ = some (.int .i64 0) := PB0.out.cell 1
  have cf1 := PB0.out.frozen 1
  have c2 : U0.cell? ⟨bp, 2, none⟩ = some (.int .i64 0) := PB0.out.cell 2
  have cf2 := PB0.out.frozen 2
  have c3 : U0.cell? ⟨bp, 3, none⟩ = some (.int .i64 0) := PB0.out.cell 3
  have cf3 := PB0.out.frozen 3
  have c4 : U0.cell? ⟨bp, 4, none⟩ = some (.int .i64 0) := PB0.out.cell 4
  have cf4 := PB0.out.frozen 4
  have c5 : U0.cell? ⟨bp, 5, none⟩ = some (.int .i64 0) := PB0.out.cell 5
  have cf5 := PB0.out.frozen 5
  have PC0 := Lib.hid (show AtS 25 #[.int .i64 nI, .int .i64 0, .int .i64 0, .int .i64 0, .int .i64 0, .int .i64 0] w (U0.setCell ⟨bp, 0, none⟩ (.int .i64 nI)) bp from PB0.out.set 0 (.int .i64 nI))
  have ZC0 := Lib.hid (ZB0.out.other (b' := bp) (Nat.le_of_lt hne) (Nat.ne_of_lt hne) 0 (.int .i64 nI))
  have BC0 := Lib.hid (BB0.out.setCell (p := ⟨bp, 0, none⟩) hbp (.int .i64 nI))
  go_upto_region 8 with fail
  clear PB0 ZB0 BB0
  clear c0 cf0 c1 cf1 c2 cf2 c3 cf3 c4 cf4 c5 cf5
  generalize U0.setCell ⟨bp, 0, none⟩ (.int .i64 nI) = V1 at *
  go_wp2_with fail
  refine (R1.out V1 ZC0.out.1).mono ?_
  rintro e U1 ⟨rfl, hb⟩
  have PB1 := Lib.hid (PC0.out.old hb)
  have ZB1 := Lib.hid (ZC0.out.old hb)
  have BB1 := Lib.hid (BC0.out.trans (hb.mono BC0.out.size))
  clear hb ZC0 PC0 BC0
  have c0 : U1.cell? ⟨bp, 0, none⟩ = some (.int .i64 nI) := PB1.out.cell 0
  have cf0 := PB1.out.frozen 0
  have c1 : U1.cell? ⟨bp, 1, none⟩ = some (.int .i64 0) := PB1.out.cell 1
  have cf1 := PB1.out.frozen 1
  have c2 : U1.cell? ⟨bp, 2, none⟩ = some (.int .i64 0) := PB1.out.cell 2
  have cf2 := PB1.out.frozen 2
  have c3 : U1.cell? ⟨bp, 3, none⟩ = some (.int .i64 0) := PB1.out.cell 3
  have cf3 := PB1.out.frozen 3
  have c4 : U1.cell? ⟨bp, 4, none⟩ = some (.int .i64 0) := PB1.out.cell 4
  have cf4 := PB1.out.frozen 4
  have c5 : U1.cell? ⟨bp, 5, none⟩ = some (.int .i64 0) := PB1.out.cell 5
  have cf5 := PB1.out.frozen 5
  have PC1 := Lib.hid (show AtS 25 #[.int .i64 nI, .int .i64 0, .int .i64 nX, .int .i64 0, .int .i64 0, .int .i64 0] w (U1.setCell ⟨bp, 2, none⟩ (.int .i64 nX)) bp from PB1.out.set 2 (.int .i64 nX))
  have ZC1 := Lib.hid (ZB1.out.other (b' := bp) (Nat.le_of_lt hne) (Nat.ne_of_lt hne) 2 (.int .i64 nX))
  have BC1 := Lib.hid (BB1.out.setCell (p := ⟨bp, 2, none⟩) hbp (.int .i64 nX))
  go_upto_region 9 with fail
  clear PB1 ZB1 BB1
  clear c0 cf0 c1 cf1 c2 cf2 c3 cf3 c4 cf4 c5 cf5
  generalize U1.setCell ⟨bp, 2, none⟩ (.int .i64 nX) = V2 at *
  go_wp2_with fail
  refine (R2.out V2 ZC1.out.1).mono ?_
  rintro e U2 ⟨rfl, hb⟩
  have PB2 := Lib.hid (PC1.out.old hb)
  have ZB2 := Lib.hid (ZC1.out.old hb)
  have BB2 := Lib.hid (BC1.out.trans (hb.mono BC1.out.size))
  clear hb ZC1 PC1 BC1
  have c0 : U2.cell? ⟨bp, 0, none⟩ = some (.int .i64 nI) := PB2.out.cell 0
  have cf0 := PB2.out.frozen 0
  have c1 : U2.cell? ⟨bp, 1, none⟩ = some (.int .i64 0) := PB2.out.cell 1
  have cf1 := PB2.out.frozen 1
  have c2 : U2.cell? ⟨bp, 2, none⟩ = some (.int .i64 nX) := PB2.out.cell 2
  have cf2 := PB2.out.frozen 2
  have c3 : U2.cell? ⟨bp, 3, none⟩ = some (.int .i64 0) := PB2.out.cell 3
  have cf3 := PB2.out.frozen 3
  have c4 : U2.cell? ⟨bp, 4, none⟩ = some (.int .i64 0) := PB2.out.cell 4
  have cf4 := PB2.out.frozen 4
  have c5 : U2.cell? ⟨bp, 5, none⟩ = some (.int .i64 0) := PB2.out.cell 5
  have cf5 := PB2.out.frozen 5
  have PC2 := Lib.hid (show AtS 25 #[.int .i64 nI, .int .i64 0, .int .i64 nX, .int .i64 nY, .int .i64 0, .int .i64 0] w (U2.setCell ⟨bp, 3, none⟩ (.int .i64 nY)) bp from PB2.out.set 3 (.int .i64 nY))
  have ZC2 := Lib.hid (ZB2.out.other (b' := bp) (Nat.le_of_lt hne) (Nat.ne_of_lt hne) 3 (.int .i64 nY))
  have BC2 := Lib.hid (BB2.out.setCell (p := ⟨bp, 3, none⟩) hbp (.int .i64 nY))
  go_upto_region 10 with fail
  clear PB2 ZB2 BB2
  clear c0 cf0 c1 cf1 c2 cf2 c3 cf3 c4 cf4 c5 cf5
  generalize U2.setCell ⟨bp, 3, none⟩ (.int .i64 nY) = V3 at *
  have k5' : V3.cell? ⟨gw, 5, none⟩ = some (.string x5) := (BC2.out.cell (p := ⟨gw, 5, none⟩) hgw).trans k5
  go_wp2_with fail
  refine (R3.out V3 ZC2.out.1).mono ?_
  rintro e U3 ⟨rfl, hb⟩
  have PB3 := Lib.hid (PC2.out.old hb)
  have ZB3 := Lib.hid (ZC2.out.old hb)
  have BB3 := Lib.hid (BC2.out.trans (hb.mono BC2.out.size))
  clear hb ZC2 PC2 BC2 k5'
  have c0 : U3.cell? ⟨bp, 0, none⟩ = some (.int .i64 nI) := PB3.out.cell 0
  have cf0 := PB3.out.frozen 0
  have c1 : U3.cell? ⟨bp, 1, none⟩ = some (.int .i64 0) := PB3.out.cell 1
  have cf1 := PB3.out.frozen 1
  have c2 : U3.cell? ⟨bp, 2, none⟩ = some (.int .i64 nX) := PB3.out.cell 2
  have cf2 := PB3.out.frozen 2
  have c3 : U3.cell? ⟨bp, 3, none⟩ = some (.int .i64 nY) := PB3.out.cell 3
  have cf3 := PB3.out.frozen 3
  have c4 : U3.cell? ⟨bp, 4, none⟩ = some (.int .i64 0) := PB3.out.cell 4
  have cf4 := PB3.out.frozen 4
  have c5 : U3.cell? ⟨bp, 5, none⟩ = some (.int .i64 0) := PB3.out.cell 5
  have cf5 := PB3.out.frozen 5
  have PC3 := Lib.hid (show AtS 25 #[.int .i64 nI, .int .i64 0, .int .i64 nX, .int .i64 nY, .int .i64 nH, .int .i64 0] w (U3.setCell ⟨bp, 4, none⟩ (.int .i64 nH)) bp from PB3.out.set 4 (.int .i64 nH))
  have ZC3 := Lib.hid (ZB3.out.other (b' := bp) (Nat.le_of_lt hne) (Nat.ne_of_lt hne) 4 (.int .i64 nH))
  have BC3 := Lib.hid (BB3.out.setCell (p := ⟨bp, 4, none⟩) hbp (.int .i64 nH))
  go_upto_region 11 with fail
  clear PB3 ZB3 BB3
  clear c0 cf0 c1 cf1 c2 cf2 c3 cf3 c4 cf4 c5 cf5
  generalize U3.setCell ⟨bp, 4, none⟩ (.int .i64 nH) = V4 at *
  go_wp2_with fail
  refine (R4.out V4 ZC3.out.1).mono ?_
  rintro e U4 ⟨rfl, hb⟩
  have PB4 := Lib.hid (PC3.out.old hb)
  have ZB4 := Lib.hid (ZC3.out.old hb)
  have BB4 := Lib.hid (BC3.out.trans (hb.mono BC3.out.size))
  clear hb ZC3 PC3 BC3
  have c0 : U4.cell? ⟨bp, 0, none⟩ = some (.int .i64 nI) := PB4.out.cell 0
  have cf0 := PB4.out.frozen 0
  have c1 : U4.cell? ⟨bp, 1, none⟩ = some (.int .i64 0) := PB4.out.cell 1
  have cf1 := PB4.out.frozen 1
  have c2 : U4.cell? ⟨bp, 2, none⟩ = some (.int .i64 nX) := PB4.out.cell 2
  have cf2 := PB4.out.frozen 2
  have c3 : U4.cell? ⟨bp, 3, none⟩ = some (.int .i64 nY) := PB4.out.cell 3
  have cf3 := PB4.out.frozen 3
  have c4 : U4.cell? ⟨bp, 4, none⟩ = some (.int .i64 nH) := PB4.out.cell 4
  have cf4 := PB4.out.frozen 4
  have c5 : U4.cell? ⟨bp, 5, none⟩ = some (.int .i64 0) := PB4.out.cell 5
  have cf5 := PB4.out.frozen 5
  have PC4 := Lib.hid (show AtS 25 #[.int .i64 nI, .int .i64 0, .int .i64 nX, .int .i64 nY, .int .i64 nH, .int .i64 nL] w (U4.setCell ⟨bp, 5, none⟩ (.int .i64 nL)) bp from PB4.out.set 5 (.int .i64 nL))
  have ZC4 := Lib.hid (ZB4.out.other (b' := bp) (Nat.le_of_lt hne) (Nat.ne_of_lt hne) 5 (.int .i64 nL))
  have BC4 := Lib.hid (BB4.out.setCell (p := ⟨bp, 5, none⟩) hbp (.int .i64 nL))
  go_upto_region 12 with fail
  clear PB4 ZB4 BB4
  clear c0 cf0 c1 cf1 c2 cf2 c3 cf3 c4 cf4 c5 cf5
  generalize U4.setCell ⟨bp, 5, none⟩ (.int .i64 nL) = V5 at *
  have c0 : V5.cell? ⟨bp, 0, none⟩ = some (.int .i64 nI) := PC4.out.cell 0
  have cf0 := PC4.out.frozen 0
  have c1 : V5.cell? ⟨bp, 1, none⟩ = some (.int .i64 0) := PC4.out.cell 1
  have cf1 := PC4.out.frozen 1
  have c2 : V5.cell? ⟨bp, 2, none⟩ = some (.int .i64 nX) := PC4.out.cell 2
  have cf2 := PC4.out.frozen 2
  have c3 : V5.cell? ⟨bp, 3, none⟩ = some (.int .i64 nY) := PC4.out.cell 3
  have cf3 := PC4.out.frozen 3
  have c4 : V5.cell? ⟨bp, 4, none⟩ = some (.int .i64 nH) := PC4.out.cell 4
  have cf4 := PC4.out.frozen 4
  have c5 : V5.cell? ⟨bp, 5, none⟩ = some (.int .i64 nL) := PC4.out.cell 5
  have cf5 := PC4.out.frozen 5
  go_wp2_with fail
  refine (HSW.out V5).mono ?_
  rintro e wx ⟨rfl, rfl⟩
  have PD := Lib.hid (show AtS 25 #[.int .i64 nI, .int .i64 nS, .int .i64 nX, .int .i64 nY, .int .i64 nH, .int .i64 nL] w (V5.setCell ⟨bp, 1, none⟩ (.int .i64 nS)) bp from PC4.out.set 1 (.int .i64 nS))
  have ZD := Lib.hid (ZC4.out.other (b' := bp) (Nat.le_of_lt hne) (Nat.ne_of_lt hne) 1 (.int .i64 nS))
  go_upto_region 13 with fail
  clear c0 cf0 c1 cf1 c2 cf2 c3 cf3 c4 cf4 c5 cf5
  clear ZC4 PC4 BC4
  generalize V5.setCell ⟨bp, 1, none⟩ (.int .i64 nS) = V6 at *
  have c0 : V6.cell? ⟨bp, 0, none⟩ = some (.int .i64 nI) := PD.out.cell 0
  have cf0 := PD.out.frozen 0
  have c1 : V6.cell? ⟨bp, 1, none⟩ = some (.int .i64 nS) := PD.out.cell 1
  have cf1 := PD.out.frozen 1
  have c2 : V6.cell? ⟨bp, 2, none⟩ = some (.int .i64 nX) := PD.out.cell 2
  have cf2 := PD.out.frozen 2
  have c3 : V6.cell? ⟨bp, 3, none⟩ = some (.int .i64 nY) := PD.out.cell 3
  have cf3 := PD.out.frozen 3
  have c4 : V6.cell? ⟨bp, 4, none⟩ = some (.int .i64 nH) := PD.out.cell 4
  have cf4 := PD.out.frozen 4
  have c5 : V6.cell? ⟨bp, 5, none⟩ = some (.int .i64 nL) := PD.out.cell 5
  have cf5 := PD.out.frozen 5
  have z0 : V6.cell? ⟨w.heap.size, 0, none⟩ = some (.int .i64 0) := ZD.out.cell 0
  have zf0 := ZD.out.frozen 0
  have z1 : V6.cell? ⟨w.heap.size, 1, none⟩ = some (.int .i64 0) := ZD.out.cell 1
  have zf1 := ZD.out.frozen 1
  have z2 : V6.cell? ⟨w.heap.size, 2, none⟩ = some (.int .i64 0) := ZD.out.cell 2
  have zf2 := ZD.out.frozen 2
  have z3 : V6.cell? ⟨w.heap.size, 3, none⟩ = some (.int .i64 0) := ZD.out.cell 3
  have zf3 := ZD.out.frozen 3
  have z4 : V6.cell? ⟨w.heap.size, 4, none⟩ = some (.int .i64 0) := ZD.out.cell 4
  have zf4 := ZD.out.frozen 4
  have z5 : V6.cell? ⟨w.heap.size, 5, none⟩ = some (.int .i64 0) := ZD.out.cell 5
  have zf5 := ZD.out.frozen 5
  have HE := Lib.hid ((((((ZD.out.set 0 (.int .i64 nI)).set 1 (.int .i64 nS)).set 2 (.int .i64 nX)).set 3 (.int .i64 nY)).set 4 (.int .i64 nH)).set 5 (.int .i64 nL))
  go_wp2_with fail
  have hl := HE.out.load Tryz.underlying25 rfl (by kernel_rfl)
  refine bodyPost_ret (v := .agg #[.int .i64 nI, .int .i64 nS, .int .i64 nX, .int .i64 nY, .int .i64 nH, .int .i64 nL]) ?_ rfl ⟨by rw [HY.out.1, HY.out.2.1, HY.out.2.2.1, HY.out.2.2.2.1, HY.out.2.2.2.2.1, HY.out.2.2.2.2.2], HE.out.1⟩
  rw [results_cell1 rfl]
  simp [asAddr, Result.andThen, hl]

set_option maxRecDepth 100000 in
set_option maxHeartbeats 8000000 in
theorem parseWith (t : ByteArray) (vI vS vX vY vH vL : Int) (w : World) (ht : fmt.Tab w) (hw : Tab w)
    (HR : ∀ W, Below w.heap.size w W → Calls Tryz.prog 32 #[.string t] W fun e w' => e = .returned (.agg #[.int .i64 vI, .int .i64 vS, .int .i64 vX, .int .i64 vY, .int .i64 vH, .int .i64 vL]) ∧ Below W.heap.size W w')
    (hN : (tkB vI vS vX vY vH vL && ((tlV vI vS vX vY vH vL).toList == t.toList)) = false → ptB t = false) (hY : (tkB vI vS vX vY vH vL && ((tlV vI vS vX vY vH vL).toList == t.toList)) = true → ptB t = true ∧ rI t = vI ∧ rS t = vS ∧ rX t = vX ∧ rY t = vY ∧ rH t = vH ∧ rL t = vL) :
    Calls Tryz.prog 8 #[.string t] w fun e w' => e = .returned (.tuple #[.agg #[.int .i64 (pI t), .int .i64 (pS t), .int .i64 (pX t), .int .i64 (pY t), .int .i64 (pH t), .int .i64 (pL t)], .bool (ptB t)]) ∧ Below w.heap.size w w' := by
  have RP := Lib.hid HR
  have TT := Lib.hid (fun (W : World) (hb : Below w.heap.size w W) => trackLineI vI vS vX vY vH vL W (fmt.tab_on ht hb) (tabW_on hw hb))
  have HNo := Lib.hid (fun (h : (tkB vI vS vX vY vH vL && ((tlV vI vS vX vY vH vL).toList == t.toList)) = false) => show pI t = 0 ∧ pS t = 0 ∧ pX t = 0 ∧ pY t = 0 ∧ pH t = 0 ∧ pL t = 0 ∧ ptB t = false from ⟨(p_no (hN h)).1, (p_no (hN h)).2.1, (p_no (hN h)).2.2.1, (p_no (hN h)).2.2.2.1, (p_no (hN h)).2.2.2.2.1, (p_no (hN h)).2.2.2.2.2, hN h⟩)
  have HYe := Lib.hid (fun (h : (tkB vI vS vX vY vH vL && ((tlV vI vS vX vY vH vL).toList == t.toList)) = true) => show pI t = vI ∧ pS t = vS ∧ pX t = vX ∧ pY t = vY ∧ pH t = vH ∧ pL t = vL ∧ ptB t = true from by
    obtain ⟨h0, h1, h2, h3, h4, h5, h6⟩ := hY h
    obtain ⟨g1, g2, g3, g4, g5, g6⟩ := p_yes h0
    exact ⟨g1.trans h1, g2.trans h2, g3.trans h3, g4.trans h4, g5.trans h5, g6.trans h6, h0⟩)
  have Z0 := Lib.hid (newS 25 #[.int .i64 0, .int .i64 0, .int .i64 0, .int .i64 0, .int .i64 0, .int .i64 0] w)
  clear HR hN hY ht hw
  generalize tlV vI vS vX vY vH vL = u at *
  generalize tkB vI vS vX vY vH vL = q at *
  go_enter Tryz.func8, Tryz.ntmps8
  go_wp2_with fail
  generalize w.alloc (.cells #[.int .i64 0, .int .i64 0, .int .i64 0, .int .i64 0, .int .i64 0, .int .i64 0] 25) = W0 at *
  refine (RP.out W0 Z0.out.1).mono ?_
  rintro e W1 ⟨rfl, hb⟩
  have Z1 := Lib.hid ((Z0.out.old hb).alloc (.cells #[.int .i64 vI, .int .i64 vS, .int .i64 vX, .int .i64 vY, .int .i64 vH, .int .i64 vL] 25))
  have P1 := Lib.hid ((Z0.out.old hb).next 25 #[.int .i64 vI, .int .i64 vS, .int .i64 vX, .int .i64 vY, .int .i64 vH, .int .i64 vL])
  clear hb Z0 RP
  go_upto_region 2 with fail
  generalize W1.alloc (.cells #[.int .i64 vI, .int .i64 vS, .int .i64 vX, .int .i64 vY, .int .i64 vH, .int .i64 vL] 25) = W2 at *
  generalize W1.heap.size = bp at *
  have c0 : W2.cell? ⟨bp, 0, none⟩ = some (.int .i64 vI) := P1.out.cell 0
  have cf0 := P1.out.frozen 0
  have c1 : W2.cell? ⟨bp, 1, none⟩ = some (.int .i64 vS) := P1.out.cell 1
  have cf1 := P1.out.frozen 1
  have c2 : W2.cell? ⟨bp, 2, none⟩ = some (.int .i64 vX) := P1.out.cell 2
  have cf2 := P1.out.frozen 2
  have c3 : W2.cell? ⟨bp, 3, none⟩ = some (.int .i64 vY) := P1.out.cell 3
  have cf3 := P1.out.frozen 3
  have c4 : W2.cell? ⟨bp, 4, none⟩ = some (.int .i64 vH) := P1.out.cell 4
  have cf4 := P1.out.frozen 4
  have c5 : W2.cell? ⟨bp, 5, none⟩ = some (.int .i64 vL) := P1.out.cell 5
  have cf5 := P1.out.frozen 5
  go_wp2_with fail
  refine (TT.out W2 Z1.out.1).mono ?_
  rintro e W3 ⟨rfl, hb⟩
  have ZQ := Lib.hid (Z1.out.old hb)
  have PQ := Lib.hid (P1.out.old hb)
  clear c0 cf0 c1 cf1 c2 cf2 c3 cf3 c4 cf4 c5 cf5
  clear hb Z1 P1 TT
  cases q
  · have HN := Lib.hid (HNo.out rfl)
    have z0 : W3.cell? ⟨w.heap.size, 0, none⟩ = some (.int .i64 0) := ZQ.out.cell 0
    have zf0 := ZQ.out.frozen 0
    have z1 : W3.cell? ⟨w.heap.size, 1, none⟩ = some (.int .i64 0) := ZQ.out.cell 1
    have zf1 := ZQ.out.frozen 1
    have z2 : W3.cell? ⟨w.heap.size, 2, none⟩ = some (.int .i64 0) := ZQ.out.cell 2
    have zf2 := ZQ.out.frozen 2
    have z3 : W3.cell? ⟨w.heap.size, 3, none⟩ = some (.int .i64 0) := ZQ.out.cell 3
    have zf3 := ZQ.out.frozen 3
    have z4 : W3.cell? ⟨w.heap.size, 4, none⟩ = some (.int .i64 0) := ZQ.out.cell 4
    have zf4 := ZQ.out.frozen 4
    have z5 : W3.cell? ⟨w.heap.size, 5, none⟩ = some (.int .i64 0) := ZQ.out.cell 5
    have zf5 := ZQ.out.frozen 5
    have HE := Lib.hid ((((((ZQ.out.set 0 (.int .i64 0)).set 1 (.int .i64 0)).set 2 (.int .i64 0)).set 3 (.int .i64 0)).set 4 (.int .i64 0)).set 5 (.int .i64 0))
    go_wp2_with fail
    have hl := HE.out.load Tryz.underlying25 rfl (by kernel_rfl)
    refine bodyPost_ret (v := .tuple #[.agg #[.int .i64 0, .int .i64 0, .int .i64 0, .int .i64 0, .int .i64 0, .int .i64 0], .bool false]) ?_ rfl ⟨by rw [HN.out.1, HN.out.2.1, HN.out.2.2.1, HN.out.2.2.2.1, HN.out.2.2.2.2.1, HN.out.2.2.2.2.2.1, HN.out.2.2.2.2.2.2], HE.out.1⟩
    rw [results_cell_tmp rfl]
    simp [asAddr, Result.andThen, hl]
  · cases hc : (u.toList == t.toList)
    · have HN := Lib.hid (HNo.out (by rw [hc]; rfl))
      have z0 : W3.cell? ⟨w.heap.size, 0, none⟩ = some (.int .i64 0) := ZQ.out.cell 0
      have zf0 := ZQ.out.frozen 0
      have z1 : W3.cell? ⟨w.heap.size, 1, none⟩ = some (.int .i64 0) := ZQ.out.cell 1
      have zf1 := ZQ.out.frozen 1
      have z2 : W3.cell? ⟨w.heap.size, 2, none⟩ = some (.int .i64 0) := ZQ.out.cell 2
      have zf2 := ZQ.out.frozen 2
      have z3 : W3.cell? ⟨w.heap.size, 3, none⟩ = some (.int .i64 0) := ZQ.out.cell 3
      have zf3 := ZQ.out.frozen 3
      have z4 : W3.cell? ⟨w.heap.size, 4, none⟩ = some (.int .i64 0) := ZQ.out.cell 4
      have zf4 := ZQ.out.frozen 4
      have z5 : W3.cell? ⟨w.heap.size, 5, none⟩ = some (.int .i64 0) := ZQ.out.cell 5
      have zf5 := ZQ.out.frozen 5
      have HE := Lib.hid ((((((ZQ.out.set 0 (.int .i64 0)).set 1 (.int .i64 0)).set 2 (.int .i64 0)).set 3 (.int .i64 0)).set 4 (.int .i64 0)).set 5 (.int .i64 0))
      go_wp2_with fail
      have hl := HE.out.load Tryz.underlying25 rfl (by kernel_rfl)
      refine bodyPost_ret (v := .tuple #[.agg #[.int .i64 0, .int .i64 0, .int .i64 0, .int .i64 0, .int .i64 0, .int .i64 0], .bool false]) ?_ rfl ⟨by rw [HN.out.1, HN.out.2.1, HN.out.2.2.1, HN.out.2.2.2.1, HN.out.2.2.2.2.1, HN.out.2.2.2.2.2.1, HN.out.2.2.2.2.2.2], HE.out.1⟩
      rw [results_cell_tmp rfl]
      simp [asAddr, Result.andThen, hl]
    · have HY := Lib.hid (HYe.out (by rw [hc]; rfl))
      have c0 : W3.cell? ⟨bp, 0, none⟩ = some (.int .i64 vI) := PQ.out.cell 0
      have cf0 := PQ.out.frozen 0
      have c1 : W3.cell? ⟨bp, 1, none⟩ = some (.int .i64 vS) := PQ.out.cell 1
      have cf1 := PQ.out.frozen 1
      have c2 : W3.cell? ⟨bp, 2, none⟩ = some (.int .i64 vX) := PQ.out.cell 2
      have cf2 := PQ.out.frozen 2
      have c3 : W3.cell? ⟨bp, 3, none⟩ = some (.int .i64 vY) := PQ.out.cell 3
      have cf3 := PQ.out.frozen 3
      have c4 : W3.cell? ⟨bp, 4, none⟩ = some (.int .i64 vH) := PQ.out.cell 4
      have cf4 := PQ.out.frozen 4
      have c5 : W3.cell? ⟨bp, 5, none⟩ = some (.int .i64 vL) := PQ.out.cell 5
      have cf5 := PQ.out.frozen 5
      have z0 : W3.cell? ⟨w.heap.size, 0, none⟩ = some (.int .i64 0) := ZQ.out.cell 0
      have zf0 := ZQ.out.frozen 0
      have z1 : W3.cell? ⟨w.heap.size, 1, none⟩ = some (.int .i64 0) := ZQ.out.cell 1
      have zf1 := ZQ.out.frozen 1
      have z2 : W3.cell? ⟨w.heap.size, 2, none⟩ = some (.int .i64 0) := ZQ.out.cell 2
      have zf2 := ZQ.out.frozen 2
      have z3 : W3.cell? ⟨w.heap.size, 3, none⟩ = some (.int .i64 0) := ZQ.out.cell 3
      have zf3 := ZQ.out.frozen 3
      have z4 : W3.cell? ⟨w.heap.size, 4, none⟩ = some (.int .i64 0) := ZQ.out.cell 4
      have zf4 := ZQ.out.frozen 4
      have z5 : W3.cell? ⟨w.heap.size, 5, none⟩ = some (.int .i64 0) := ZQ.out.cell 5
      have zf5 := ZQ.out.frozen 5
      have HE := Lib.hid ((((((ZQ.out.set 0 (.int .i64 vI)).set 1 (.int .i64 vS)).set 2 (.int .i64 vX)).set 3 (.int .i64 vY)).set 4 (.int .i64 vH)).set 5 (.int .i64 vL))
      go_wp2_with fail
      have hl := HE.out.load Tryz.underlying25 rfl (by kernel_rfl)
      refine bodyPost_ret (v := .tuple #[.agg #[.int .i64 vI, .int .i64 vS, .int .i64 vX, .int .i64 vY, .int .i64 vH, .int .i64 vL], .bool true]) ?_ rfl ⟨by rw [HY.out.1, HY.out.2.1, HY.out.2.2.1, HY.out.2.2.2.1, HY.out.2.2.2.2.1, HY.out.2.2.2.2.2.1, HY.out.2.2.2.2.2.2], HE.out.1⟩
      rw [results_cell_tmp rfl]
      simp [asAddr, Result.andThen, hl]

theorem parseTrackLineI (t : ByteArray) (w : World) (hs : t.size ≤ 1048576) (ht : fmt.Tab w) (hw : Tab w) (hm : Mx w) :
    Calls Tryz.prog 8 #[.string t] w fun e w' => e = .returned (.tuple #[.agg #[.int .i64 (pI t), .int .i64 (pS t), .int .i64 (pX t), .int .i64 (pY t), .int .i64 (pH t), .int .i64 (pL t)], .bool (ptB t)]) ∧ Below w.heap.size w w' := by
  by_cases h4 : (((rB t).length : Nat) : Int) ≤ 4000
  · exact parseWith t (rI t) (rS t) (rX t) (rY t) (rH t) (rL t) w ht hw (fun W hb => readTrack t W hs (fmt.tab_on ht hb) (mx_on hm hb) h4) (fun h => (pt_is t).trans h) (fun h => ⟨(pt_is t).trans h, rfl, rfl, rfl, rfl, rfl, rfl⟩)
  · have hle := (cut_le t.data.toList [32, 108, 111, 115, 116, 32]).1
    rw [ptx.len_list] at hle
    have h60 : ptB t = false := by
      cases h : ptB t
      · rfl
      · have h1 := pt_size h
        have h2 : (rB t).length ≤ t.size := hle
        omega
    exact parseWith t 0 0 0 0 0 0 w ht hw (fun W hb => readLong t W hs (mx_on hm hb) h4) (fun _ => h60) (fun h => by rw [show tkB 0 0 0 0 0 0 = false from rfl, Bool.false_and] at h; cases h)
end Go.Proofs.YtfigjfckelichaaGreatDoor.trka

/- spec's TrackLine. -/
namespace Go.Proofs.YtfigjfckelichaaGreatDoor.trkq
open Go.RowKit Go.Proofs.YtfigjfckelichaaGreatDoor.num Go.Proofs.YtfigjfckelichaaGreatDoor.ints Go.Proofs.YtfigjfckelichaaGreatDoor.lst Go.Proofs.YtfigjfckelichaaGreatDoor.in_ Go.Proofs.YtfigjfckelichaaGreatDoor.ats Go.Proofs.YtfigjfckelichaaGreatDoor.pos Go.Proofs.YtfigjfckelichaaGreatDoor.trk Go.Proofs.YtfigjfckelichaaGreatDoor.trkm Go.Proofs.YtfigjfckelichaaGreatDoor.trkp Go.Proofs.YtfigjfckelichaaGreatDoor.tailh
set_option linter.unusedSimpArgs false

theorem at_five {T : TypeId} {a b c d e f : Value} {w W : World} {p : Nat} (h : ats.AtS T #[a, b, c, d, e, f] w W p) : W.cell? ⟨p, 5, none⟩ = some f := h.cell 5
def wordsC : Array Value := #[.string (wd 0), .string (wd 1), .string (wd 2), .string (wd 3)]
/-- A block holds the words. -/
def Wd (W : World) (b : Nat) : Prop := b < W.heap.size ∧ ∀ k, k < 4 → W.cell? ⟨b, k, none⟩ = some (.string (wd k))
theorem Wd.old {W W' : World} {b : Nat} (h : Wd W b) (hb : Below W.heap.size W W') : Wd W' b :=
  ⟨Nat.lt_of_lt_of_le h.1 hb.size, fun k hk => (hb.cell (p := ⟨b, k, none⟩) h.1).trans (h.2 k hk)⟩
theorem words_at : ∀ k, k < 4 → wordsC[k]? = some (.string (wd k))
  | 0, _ => rfl
  | 1, _ => rfl
  | 2, _ => rfl
  | 3, _ => rfl
theorem wd_new (W : World) : Wd (W.alloc (.cells wordsC 9)) W.heap.size :=
  ⟨by rw [World.size_alloc]; omega, fun k hk => by
    rw [cell_of_row _ _ k wordsC 9 (0, 0) (heap_alloc_new W _)]
    exact words_at k hk⟩
theorem words14 (w : World) : Calls Tryz.prog 78 #[] w fun e w' => e = .returned (.slice (some ⟨w.heap.size, 0, none⟩) 4 4) ∧ Below w.heap.size w w' ∧ Wd w' w.heap.size := by
  have hw : wordsC = #[.string ⟨#[]⟩, .string ⟨#[110, 101, 119]⟩, .string ⟨#[99, 111, 110, 102, 105, 114, 109, 101, 100]⟩, .string ⟨#[99, 111, 97, 115, 116, 105, 110, 103]⟩] := rfl
  have HW := Lib.hid hw
  have HN := Lib.hid (wd_new w)
  have HB := Lib.hid ((Below.refl w.heap.size w).alloc (Nat.le_refl _) (.cells wordsC 9))
  rw [hw] at HN HB
  clear hw
  go_enter Tryz.func78, Tryz.ntmps78
  go_wp2_with fail
  go_ret
  exact ⟨rfl, HB.out, HN.out⟩
theorem num_below (n : Int) (w : World) (h0 : 0 ≤ n) (h1 : n ≤ 99999) : Calls Tryz.prog 77 #[.int .i64 n] w fun e w' => e = .returned (.string (txt n)) ∧ Below w.heap.size w w' :=
  (num_any n w (by omega) (by omega) (by omega)).mono fun _ _ ⟨e, j, hj⟩ => ⟨e, hj ▸ aid.below_drewN (Below.refl _ _) j⟩

set_option maxRecDepth 100000 in
set_option maxHeartbeats 64000000 in
theorem line14 (i : Int) (k : Nat) (x y h l : Int) (w : World) (hv : tkB i (k : Int) x y h l = true) (k3 : k ≤ 3) :
    Calls Tryz.prog 34 #[.agg #[.int .i64 i, .int .i64 (k : Int), .int .i64 x, .int .i64 y, .int .i64 h, .int .i64 l]] w fun e w' => e = .returned (.string (tlT i (k : Int) x y h l)) ∧ Below w.heap.size w w' := by
  obtain ⟨hi, hp, hh, hl, -, -⟩ := tkB_yes hv
  obtain ⟨hx, hy⟩ := pB_yes hp
  have H2 := Lib.hid (fun (W : World) => num_below i W (by omega) (by omega))
  have H13 := Lib.hid (fun (W : World) => num_below x W (by omega) (by omega))
  have H18 := Lib.hid (fun (W : World) => num_below y W (by omega) (by omega))
  have H23 := Lib.hid (fun (W : World) => num_below h W (by omega) (by omega))
  have H9 := Lib.hid (fun (W : World) => num_below l W (by omega) (by omega))
  have z1 := txt_size i (by omega) (by omega)
  have z2 := txt_size x (by omega) (by omega)
  have z3 := txt_size y (by omega) (by omega)
  have z4 := txt_size h (by omega) (by omega)
  have z5 := txt_size l (by omega) (by omega)
  have z6 := wd_size k
  have HKW := Lib.hid (show k < 4 by omega)
  have kk0 : (0 : Int) ≤ (k : Int) := by omega
  have kk : (k : Int) < 4 := by omega
  have HD := Lib.hid (show hdT i k x y h = txt i ++ ⟨#[32]⟩ ++ wd k ++ ⟨#[32, 97, 116, 32]⟩ ++ txt x ++ ⟨#[44]⟩ ++ txt y ++ ⟨#[32, 104, 105, 116, 115, 32]⟩ ++ txt h from rfl)
  have HT0 := Lib.hid (fun (hz : l = 0) => show hdT i k x y h = tlT i (k : Int) x y h l by unfold tlT; rw [if_pos hz]; rfl)
  have HT1 := Lib.hid (fun (hz : ¬ l = 0) => show hdT i k x y h ++ ⟨#[32, 108, 111, 115, 116, 32]⟩ ++ txt l = tlT i (k : Int) x y h l by unfold tlT; rw [if_neg hz]; rfl)
  have HZ := Lib.hid (show (hdT i k x y h).size ≤ 120 by
    rw [HD.out]
    simp only [ByteArray.size_append]
    have e1 : (⟨#[32]⟩ : ByteArray).size = 1 := rfl
    have e2 : (⟨#[32, 97, 116, 32]⟩ : ByteArray).size = 4 := rfl
    have e3 : (⟨#[44]⟩ : ByteArray).size = 1 := rfl
    have e4 : (⟨#[32, 104, 105, 116, 115, 32]⟩ : ByteArray).size = 6 := rfl
    omega)
  have HLN := Lib.hid (show 0 ≤ l from hl.1)
  have HWK := Lib.hid (rfl : wd k = wd k)
  clear hv hi hp hh hl hx hy k3
  generalize txt i = t1 at *
  generalize txt x = t2 at *
  generalize txt y = t3 at *
  generalize txt h = t4 at *
  generalize txt l = t5 at *
  generalize hwk : wd k = wk at *
  have HWK := Lib.hid hwk
  clear hwk
  generalize hdT i k x y h = hd at *
  generalize tlT i (k : Int) x y h l = R at *
  have P0 := Lib.hid (newS 25 #[.int .i64 i, .int .i64 (k : Int), .int .i64 x, .int .i64 y, .int .i64 h, .int .i64 l] w)
  go_enter Tryz.func34, Tryz.ntmps34
  go_upto_region 1 with fail
  generalize w.alloc (.cells #[.int .i64 i, .int .i64 (k : Int), .int .i64 x, .int .i64 y, .int .i64 h, .int .i64 l] 25) = W0 at *
  have Q0 := Lib.hid P0.out
  have HM := Lib.hid (show ∀ W, Below w.heap.size w W → Below w.heap.size w W from fun _ h => h)
  have y0 : ¬ 9223372036854775807 < t1.size + 1 := by omega
  have y1 : ¬ 9223372036854775807 < t1.size + 1 + wk.size := by omega
  have y2 : ¬ 9223372036854775807 < t1.size + 1 + wk.size + 4 := by omega
  have y3 : ¬ 9223372036854775807 < t1.size + 1 + wk.size + 4 + t2.size := by omega
  have y4 : ¬ 9223372036854775807 < t1.size + 1 + wk.size + 4 + t2.size + 1 := by omega
  have y5 : ¬ 9223372036854775807 < t1.size + 1 + wk.size + 4 + t2.size + 1 + t3.size := by omega
  have y6 : ¬ 9223372036854775807 < t1.size + 1 + wk.size + 4 + t2.size + 1 + t3.size + 6 := by omega
  have y7 : ¬ 9223372036854775807 < t1.size + 1 + wk.size + 4 + t2.size + 1 + t3.size + 6 + t4.size := by omega
  go_cut [3] from 4 to 28 (fun v wx => v = .string hd ∧ ats.AtS 25 #[.int .i64 i, .int .i64 (k : Int), .int .i64 x, .int .i64 y, .int .i64 h, .int .i64 l] w wx w.heap.size)
  case first =>
    have HSd := Lib.hid (show World.cell? W0.drew ⟨w.heap.size, 0, none⟩ = some (.int .i64 i) ∧ World.cell? W0.drew ⟨w.heap.size, 1, none⟩ = some (.int .i64 (k : Int)) ∧ World.cell? W0.drew ⟨w.heap.size, 2, none⟩ = some (.int .i64 x) ∧ World.cell? W0.drew ⟨w.heap.size, 3, none⟩ = some (.int .i64 y) ∧ World.cell? W0.drew ⟨w.heap.size, 4, none⟩ = some (.int .i64 h) from ⟨P0.out.drew.cell 0, P0.out.drew.cell 1, P0.out.drew.cell 2, P0.out.drew.cell 3, P0.out.drew.cell 4⟩)
    refine wp_region_tail (S := fun w' => World.cell? w' ⟨w.heap.size, 0, none⟩ = some (.int .i64 i) ∧ World.cell? w' ⟨w.heap.size, 1, none⟩ = some (.int .i64 (k : Int)) ∧ World.cell? w' ⟨w.heap.size, 2, none⟩ = some (.int .i64 x) ∧ World.cell? w' ⟨w.heap.size, 3, none⟩ = some (.int .i64 y) ∧ World.cell? w' ⟨w.heap.size, 4, none⟩ = some (.int .i64 h)) 25 (by kernel_rfl) HSd.out (fun hHeld => ?_)
    try simp only [Act.put, List.getElem_toArray, List.getElem_cons_succ, List.getElem_cons_zero, List.setIfInBounds_toArray, List.set_cons_succ, List.set_cons_zero]
    refine wpAnyE_take (i := 0) (v := ?vqz0) rfl (by decide +kernel) (fun _ _ _ h => h) (Or.inl ⟨by kernel_rfl, ?hqz0⟩) (by assumption) ?rqz0
    case hqz0 =>
      intro wS hSw
      obtain ⟨h0_, h1_, h2_, h3_, h4_⟩ := hSw
      go_simp
      try with_reducible rfl
    try simp only [Act.put, List.getElem_toArray, List.getElem_cons_succ, List.getElem_cons_zero, List.setIfInBounds_toArray, List.set_cons_succ, List.set_cons_zero]
    refine wpAnyE_take (i := 1) (v := ?vqz1) rfl (by decide +kernel) (fun _ _ _ h => h) (Or.inl ⟨by kernel_rfl, ?hqz1⟩) (by assumption) ?rqz1
    case hqz1 =>
      intro wS hSw
      obtain ⟨h0_, h1_, h2_, h3_, h4_⟩ := hSw
      go_simp
      try with_reducible rfl
    try simp only [Act.put, List.getElem_toArray, List.getElem_cons_succ, List.getElem_cons_zero, List.setIfInBounds_toArray, List.set_cons_succ, List.set_cons_zero]
    refine wpAnyE_take (i := 5) (v := ?vqz5) rfl (by decide +kernel) (fun _ _ _ h => h) (Or.inl ⟨by kernel_rfl, ?hqz5⟩) (by assumption) ?rqz5
    case hqz5 =>
      intro wS hSw
      obtain ⟨h0_, h1_, h2_, h3_, h4_⟩ := hSw
      go_simp
      try with_reducible rfl
    try simp only [Act.put, List.getElem_toArray, List.getElem_cons_succ, List.getElem_cons_zero, List.setIfInBounds_toArray, List.set_cons_succ, List.set_cons_zero]
    refine wpAnyE_take (i := 6) (v := ?vqz6) rfl (by decide +kernel) (fun _ _ _ h => h) (Or.inl ⟨by kernel_rfl, ?hqz6⟩) (by assumption) ?rqz6
    case hqz6 =>
      intro wS hSw
      obtain ⟨h0_, h1_, h2_, h3_, h4_⟩ := hSw
      go_simp
      try with_reducible rfl
    try simp only [Act.put, List.getElem_toArray, List.getElem_cons_succ, List.getElem_cons_zero, List.setIfInBounds_toArray, List.set_cons_succ, List.set_cons_zero]
    refine wpAnyE_take (i := 11) (v := ?vqz11) rfl (by decide +kernel) (fun _ _ _ h => h) (Or.inl ⟨by kernel_rfl, ?hqz11⟩) (by assumption) ?rqz11
    case hqz11 =>
      intro wS hSw
      obtain ⟨h0_, h1_, h2_, h3_, h4_⟩ := hSw
      go_simp
      try with_reducible rfl
    try simp only [Act.put, List.getElem_toArray, List.getElem_cons_succ, List.getElem_cons_zero, List.setIfInBounds_toArray, List.set_cons_succ, List.set_cons_zero]
    refine wpAnyE_take (i := 12) (v := ?vqz12) rfl (by decide +kernel) (fun _ _ _ h => h) (Or.inl ⟨by kernel_rfl, ?hqz12⟩) (by assumption) ?rqz12
    case hqz12 =>
      intro wS hSw
      obtain ⟨h0_, h1_, h2_, h3_, h4_⟩ := hSw
      go_simp
      try with_reducible rfl
    try simp only [Act.put, List.getElem_toArray, List.getElem_cons_succ, List.getElem_cons_zero, List.setIfInBounds_toArray, List.set_cons_succ, List.set_cons_zero]
    refine wpAnyE_take (i := 16) (v := ?vqz16) rfl (by decide +kernel) (fun _ _ _ h => h) (Or.inl ⟨by kernel_rfl, ?hqz16⟩) (by assumption) ?rqz16
    case hqz16 =>
      intro wS hSw
      obtain ⟨h0_, h1_, h2_, h3_, h4_⟩ := hSw
      go_simp
      try with_reducible rfl
    try simp only [Act.put, List.getElem_toArray, List.getElem_cons_succ, List.getElem_cons_zero, List.setIfInBounds_toArray, List.set_cons_succ, List.set_cons_zero]
    refine wpAnyE_take (i := 17) (v := ?vqz17) rfl (by decide +kernel) (fun _ _ _ h => h) (Or.inl ⟨by kernel_rfl, ?hqz17⟩) (by assumption) ?rqz17
    case hqz17 =>
      intro wS hSw
      obtain ⟨h0_, h1_, h2_, h3_, h4_⟩ := hSw
      go_simp
      try with_reducible rfl
    try simp only [Act.put, List.getElem_toArray, List.getElem_cons_succ, List.getElem_cons_zero, List.setIfInBounds_toArray, List.set_cons_succ, List.set_cons_zero]
    refine wpAnyE_take (i := 21) (v := ?vqz21) rfl (by decide +kernel) (fun _ _ _ h => h) (Or.inl ⟨by kernel_rfl, ?hqz21⟩) (by assumption) ?rqz21
    case hqz21 =>
      intro wS hSw
      obtain ⟨h0_, h1_, h2_, h3_, h4_⟩ := hSw
      go_simp
      try with_reducible rfl
    try simp only [Act.put, List.getElem_toArray, List.getElem_cons_succ, List.getElem_cons_zero, List.setIfInBounds_toArray, List.set_cons_succ, List.set_cons_zero]
    refine wpAnyE_take (i := 22) (v := ?vqz22) rfl (by decide +kernel) (fun _ _ _ h => h) (Or.inl ⟨by kernel_rfl, ?hqz22⟩) (by assumption) ?rqz22
    case hqz22 =>
      intro wS hSw
      obtain ⟨h0_, h1_, h2_, h3_, h4_⟩ := hSw
      go_simp
      try with_reducible rfl
    try simp only [Act.put, List.getElem_toArray, List.getElem_cons_succ, List.getElem_cons_zero, List.setIfInBounds_toArray, List.set_cons_succ, List.set_cons_zero]
    refine wpAnyE_ready (rs := [2]) (by kernel_rfl) (by simp) ?_
    refine AllReadyE.cons (i := 2) rfl (by decide) (fun K hK => ?_) AllReadyE.nil
    go_simp
    refine (H2.out _).mono ?_
    rintro e Wa ⟨rfl, hb⟩
    have Pa := Lib.hid (P0.out.drew.old hb)
    clear hb
    refine hK.out _ _ ⟨Pa.out.cell 0, Pa.out.cell 1, Pa.out.cell 2, Pa.out.cell 3, Pa.out.cell 4⟩ (fun hHeld => ?_)
    clear hK K
    try simp only [Act.put, List.getElem_toArray, List.getElem_cons_succ, List.getElem_cons_zero, List.setIfInBounds_toArray, List.set_cons_succ, List.set_cons_zero]
    refine wpAnyE_take (i := 3) (v := ?vqza3) rfl (by decide +kernel) (fun _ _ _ h => h) (Or.inl ⟨by kernel_rfl, ?hqza3⟩) (by assumption) ?rqza3
    case hqza3 =>
      intro wS hSw
      obtain ⟨h0_, h1_, h2_, h3_, h4_⟩ := hSw
      go_simp
      try with_reducible rfl
    try simp only [Act.put, List.getElem_toArray, List.getElem_cons_succ, List.getElem_cons_zero, List.setIfInBounds_toArray, List.set_cons_succ, List.set_cons_zero]
    refine wpAnyE_ready (rs := [4]) (by kernel_rfl) (by simp) ?_
    refine AllReadyE.cons (i := 4) rfl (by decide) (fun K hK => ?_) AllReadyE.nil
    go_simp
    refine (words14 _).mono ?_
    rintro e Wab ⟨he, hb, hd⟩
    subst he
    have Dab := Lib.hid hd
    have Pab := Lib.hid (Pa.out.old hb)
    clear hb hd
    refine hK.out _ _ ⟨Pab.out.cell 0, Pab.out.cell 1, Pab.out.cell 2, Pab.out.cell 3, Pab.out.cell 4⟩ (fun hHeld => ?_)
    clear hK K
    try simp only [Act.put, List.getElem_toArray, List.getElem_cons_succ, List.getElem_cons_zero, List.setIfInBounds_toArray, List.set_cons_succ, List.set_cons_zero]
    refine wpAnyE_take (i := 7) (v := ?vqzab7) rfl (by decide +kernel) (fun _ _ _ h => h) (Or.inl ⟨by kernel_rfl, ?hqzab7⟩) (by assumption) ?rqzab7
    case hqzab7 =>
      intro wS hSw
      obtain ⟨h0_, h1_, h2_, h3_, h4_⟩ := hSw
      go_simp
      try with_reducible rfl
    try simp only [Act.put, List.getElem_toArray, List.getElem_cons_succ, List.getElem_cons_zero, List.setIfInBounds_toArray, List.set_cons_succ, List.set_cons_zero]
    have cw := Dab.out.2 k HKW.out
    rw [HWK.out] at cw
    refine wpAnyE_ready (rs := [8, 13]) (by kernel_rfl) (by simp) ?_
    refine AllReadyE.cons (i := 8) rfl (by decide) (fun K hK => ?_) (AllReadyE.cons (i := 13) rfl (by decide) (fun K hK => ?_) AllReadyE.nil)
    · go_simp
      refine hK.out _ _ ⟨Pab.out.cell 0, Pab.out.cell 1, Pab.out.cell 2, Pab.out.cell 3, Pab.out.cell 4⟩ (fun hHeld => ?_)
      clear hK K
      try simp only [Act.put, List.getElem_toArray, List.getElem_cons_succ, List.getElem_cons_zero, List.setIfInBounds_toArray, List.set_cons_succ, List.set_cons_zero]
      clear cw
      refine wpAnyE_take (i := 9) (v := ?vqzabf9) rfl (by decide +kernel) (fun _ _ _ h => h) (Or.inl ⟨by kernel_rfl, ?hqzabf9⟩) (by assumption) ?rqzabf9
      case hqzabf9 =>
        intro wS hSw
        obtain ⟨h0_, h1_, h2_, h3_, h4_⟩ := hSw
        go_simp
        try with_reducible rfl
      try simp only [Act.put, List.getElem_toArray, List.getElem_cons_succ, List.getElem_cons_zero, List.setIfInBounds_toArray, List.set_cons_succ, List.set_cons_zero]
      refine wpAnyE_take (i := 10) (v := ?vqzabf10) rfl (by decide +kernel) (fun _ _ _ h => h) (Or.inl ⟨by kernel_rfl, ?hqzabf10⟩) (by assumption) ?rqzabf10
      case hqzabf10 =>
        intro wS hSw
        obtain ⟨h0_, h1_, h2_, h3_, h4_⟩ := hSw
        go_simp
        try with_reducible rfl
      try simp only [Act.put, List.getElem_toArray, List.getElem_cons_succ, List.getElem_cons_zero, List.setIfInBounds_toArray, List.set_cons_succ, List.set_cons_zero]
      refine wpAnyE_ready (rs := [13]) (by kernel_rfl) (by simp) ?_
      refine AllReadyE.cons (i := 13) rfl (by decide) (fun K hK => ?_) AllReadyE.nil
      go_simp
      refine (H13.out _).mono ?_
      rintro e Wabfc ⟨rfl, hb⟩
      have Pabfc := Lib.hid (Pab.out.old hb)
      have Dabfc := Lib.hid (Dab.out.old hb)
      clear hb
      refine hK.out _ _ ⟨Pabfc.out.cell 0, Pabfc.out.cell 1, Pabfc.out.cell 2, Pabfc.out.cell 3, Pabfc.out.cell 4⟩ (fun hHeld => ?_)
      clear hK K
      try simp only [Act.put, List.getElem_toArray, List.getElem_cons_succ, List.getElem_cons_zero, List.setIfInBounds_toArray, List.set_cons_succ, List.set_cons_zero]
      refine wpAnyE_take (i := 14) (v := ?vqzabfc14) rfl (by decide +kernel) (fun _ _ _ h => h) (Or.inl ⟨by kernel_rfl, ?hqzabfc14⟩) (by assumption) ?rqzabfc14
      case hqzabfc14 =>
        intro wS hSw
        obtain ⟨h0_, h1_, h2_, h3_, h4_⟩ := hSw
        go_simp
        try with_reducible rfl
      try simp only [Act.put, List.getElem_toArray, List.getElem_cons_succ, List.getElem_cons_zero, List.setIfInBounds_toArray, List.set_cons_succ, List.set_cons_zero]
      refine wpAnyE_take (i := 15) (v := ?vqzabfc15) rfl (by decide +kernel) (fun _ _ _ h => h) (Or.inl ⟨by kernel_rfl, ?hqzabfc15⟩) (by assumption) ?rqzabfc15
      case hqzabfc15 =>
        intro wS hSw
        obtain ⟨h0_, h1_, h2_, h3_, h4_⟩ := hSw
        go_simp
        try with_reducible rfl
      try simp only [Act.put, List.getElem_toArray, List.getElem_cons_succ, List.getElem_cons_zero, List.setIfInBounds_toArray, List.set_cons_succ, List.set_cons_zero]
      refine wpAnyE_ready (rs := [18]) (by kernel_rfl) (by simp) ?_
      refine AllReadyE.cons (i := 18) rfl (by decide) (fun K hK => ?_) AllReadyE.nil
      go_simp
      refine (H18.out _).mono ?_
      rintro e Wabfcd ⟨rfl, hb⟩
      have Pabfcd := Lib.hid (Pabfc.out.old hb)
      have Dabfcd := Lib.hid (Dabfc.out.old hb)
      clear hb
      refine hK.out _ _ ⟨Pabfcd.out.cell 0, Pabfcd.out.cell 1, Pabfcd.out.cell 2, Pabfcd.out.cell 3, Pabfcd.out.cell 4⟩ (fun hHeld => ?_)
      clear hK K
      try simp only [Act.put, List.getElem_toArray, List.getElem_cons_succ, List.getElem_cons_zero, List.setIfInBounds_toArray, List.set_cons_succ, List.set_cons_zero]
      refine wpAnyE_take (i := 19) (v := ?vqzabfcd19) rfl (by decide +kernel) (fun _ _ _ h => h) (Or.inl ⟨by kernel_rfl, ?hqzabfcd19⟩) (by assumption) ?rqzabfcd19
      case hqzabfcd19 =>
        intro wS hSw
        obtain ⟨h0_, h1_, h2_, h3_, h4_⟩ := hSw
        go_simp
        try with_reducible rfl
      try simp only [Act.put, List.getElem_toArray, List.getElem_cons_succ, List.getElem_cons_zero, List.setIfInBounds_toArray, List.set_cons_succ, List.set_cons_zero]
      refine wpAnyE_take (i := 20) (v := ?vqzabfcd20) rfl (by decide +kernel) (fun _ _ _ h => h) (Or.inl ⟨by kernel_rfl, ?hqzabfcd20⟩) (by assumption) ?rqzabfcd20
      case hqzabfcd20 =>
        intro wS hSw
        obtain ⟨h0_, h1_, h2_, h3_, h4_⟩ := hSw
        go_simp
        try with_reducible rfl
      try simp only [Act.put, List.getElem_toArray, List.getElem_cons_succ, List.getElem_cons_zero, List.setIfInBounds_toArray, List.set_cons_succ, List.set_cons_zero]
      refine wpAnyE_ready (rs := [23]) (by kernel_rfl) (by simp) ?_
      refine AllReadyE.cons (i := 23) rfl (by decide) (fun K hK => ?_) AllReadyE.nil
      go_simp
      refine (H23.out _).mono ?_
      rintro e Wabfcde ⟨rfl, hb⟩
      have Pabfcde := Lib.hid (Pabfcd.out.old hb)
      have Dabfcde := Lib.hid (Dabfcd.out.old hb)
      clear hb
      refine hK.out _ _ ⟨Pabfcde.out.cell 0, Pabfcde.out.cell 1, Pabfcde.out.cell 2, Pabfcde.out.cell 3, Pabfcde.out.cell 4⟩ (fun hHeld => ?_)
      clear hK K
      try simp only [Act.put, List.getElem_toArray, List.getElem_cons_succ, List.getElem_cons_zero, List.setIfInBounds_toArray, List.set_cons_succ, List.set_cons_zero]
      refine wpAnyE_take (i := 24) (v := ?vqzabfcde24) rfl (by decide +kernel) (fun _ _ _ h => h) (Or.inl ⟨by kernel_rfl, ?hqzabfcde24⟩) (by assumption) ?rqzabfcde24
      case hqzabfcde24 =>
        intro wS hSw
        obtain ⟨h0_, h1_, h2_, h3_, h4_⟩ := hSw
        go_simp
        try with_reducible rfl
      try simp only [Act.put, List.getElem_toArray, List.getElem_cons_succ, List.getElem_cons_zero, List.setIfInBounds_toArray, List.set_cons_succ, List.set_cons_zero]
      refine wpAnyE_ready (rs := [25]) (by kernel_rfl) (by simp) ?_
      refine AllReadyE.last (i := 25) rfl rfl (fun K hK => ?_)
      go_simp
      refine hK.out _ _ ?_
      clear hK K
      try simp only [Act.put, List.getElem_toArray, List.getElem_cons_succ, List.getElem_cons_zero, List.setIfInBounds_toArray, List.set_cons_succ, List.set_cons_zero]
      refine wpAnyE_done (by kernel_rfl) ?_ _
      try simp only [List.getElem_toArray, List.getElem_cons_succ, List.getElem_cons_zero, List.setIfInBounds_toArray, List.set_cons_succ, List.set_cons_zero]
      go_wp2_with fail
      go_meet
      exact ⟨by rw [HD.out], Pabfcde.out⟩
    · go_simp
      refine (H13.out _).mono ?_
      rintro e Wabc ⟨rfl, hb⟩
      have Pabc := Lib.hid (Pab.out.old hb)
      have Dabc := Lib.hid (Dab.out.old hb)
      clear hb
      refine hK.out _ _ ⟨Pabc.out.cell 0, Pabc.out.cell 1, Pabc.out.cell 2, Pabc.out.cell 3, Pabc.out.cell 4⟩ (fun hHeld => ?_)
      clear hK K
      try simp only [Act.put, List.getElem_toArray, List.getElem_cons_succ, List.getElem_cons_zero, List.setIfInBounds_toArray, List.set_cons_succ, List.set_cons_zero]
      clear cw
      have cw := Dabc.out.2 k HKW.out
      rw [HWK.out] at cw
      refine wpAnyE_ready (rs := [8, 18]) (by kernel_rfl) (by simp) ?_
      refine AllReadyE.cons (i := 8) rfl (by decide) (fun K hK => ?_) (AllReadyE.cons (i := 18) rfl (by decide) (fun K hK => ?_) AllReadyE.nil)
      · go_simp
        refine hK.out _ _ ⟨Pabc.out.cell 0, Pabc.out.cell 1, Pabc.out.cell 2, Pabc.out.cell 3, Pabc.out.cell 4⟩ (fun hHeld => ?_)
        clear hK K
        try simp only [Act.put, List.getElem_toArray, List.getElem_cons_succ, List.getElem_cons_zero, List.setIfInBounds_toArray, List.set_cons_succ, List.set_cons_zero]
        clear cw
        refine wpAnyE_take (i := 9) (v := ?vqzabcf9) rfl (by decide +kernel) (fun _ _ _ h => h) (Or.inl ⟨by kernel_rfl, ?hqzabcf9⟩) (by assumption) ?rqzabcf9
        case hqzabcf9 =>
          intro wS hSw
          obtain ⟨h0_, h1_, h2_, h3_, h4_⟩ := hSw
          go_simp
          try with_reducible rfl
        try simp only [Act.put, List.getElem_toArray, List.getElem_cons_succ, List.getElem_cons_zero, List.setIfInBounds_toArray, List.set_cons_succ, List.set_cons_zero]
        refine wpAnyE_take (i := 10) (v := ?vqzabcf10) rfl (by decide +kernel) (fun _ _ _ h => h) (Or.inl ⟨by kernel_rfl, ?hqzabcf10⟩) (by assumption) ?rqzabcf10
        case hqzabcf10 =>
          intro wS hSw
          obtain ⟨h0_, h1_, h2_, h3_, h4_⟩ := hSw
          go_simp
          try with_reducible rfl
        try simp only [Act.put, List.getElem_toArray, List.getElem_cons_succ, List.getElem_cons_zero, List.setIfInBounds_toArray, List.set_cons_succ, List.set_cons_zero]
        refine wpAnyE_take (i := 14) (v := ?vqzabcf14) rfl (by decide +kernel) (fun _ _ _ h => h) (Or.inl ⟨by kernel_rfl, ?hqzabcf14⟩) (by assumption) ?rqzabcf14
        case hqzabcf14 =>
          intro wS hSw
          obtain ⟨h0_, h1_, h2_, h3_, h4_⟩ := hSw
          go_simp
          try with_reducible rfl
        try simp only [Act.put, List.getElem_toArray, List.getElem_cons_succ, List.getElem_cons_zero, List.setIfInBounds_toArray, List.set_cons_succ, List.set_cons_zero]
        refine wpAnyE_take (i := 15) (v := ?vqzabcf15) rfl (by decide +kernel) (fun _ _ _ h => h) (Or.inl ⟨by kernel_rfl, ?hqzabcf15⟩) (by assumption) ?rqzabcf15
        case hqzabcf15 =>
          intro wS hSw
          obtain ⟨h0_, h1_, h2_, h3_, h4_⟩ := hSw
          go_simp
          try with_reducible rfl
        try simp only [Act.put, List.getElem_toArray, List.getElem_cons_succ, List.getElem_cons_zero, List.setIfInBounds_toArray, List.set_cons_succ, List.set_cons_zero]
        refine wpAnyE_ready (rs := [18]) (by kernel_rfl) (by simp) ?_
        refine AllReadyE.cons (i := 18) rfl (by decide) (fun K hK => ?_) AllReadyE.nil
        go_simp
        refine (H18.out _).mono ?_
        rintro e Wabcfd ⟨rfl, hb⟩
        have Pabcfd := Lib.hid (Pabc.out.old hb)
        have Dabcfd := Lib.hid (Dabc.out.old hb)
        clear hb
        refine hK.out _ _ ⟨Pabcfd.out.cell 0, Pabcfd.out.cell 1, Pabcfd.out.cell 2, Pabcfd.out.cell 3, Pabcfd.out.cell 4⟩ (fun hHeld => ?_)
        clear hK K
        try simp only [Act.put, List.getElem_toArray, List.getElem_cons_succ, List.getElem_cons_zero, List.setIfInBounds_toArray, List.set_cons_succ, List.set_cons_zero]
        refine wpAnyE_take (i := 19) (v := ?vqzabcfd19) rfl (by decide +kernel) (fun _ _ _ h => h) (Or.inl ⟨by kernel_rfl, ?hqzabcfd19⟩) (by assumption) ?rqzabcfd19
        case hqzabcfd19 =>
          intro wS hSw
          obtain ⟨h0_, h1_, h2_, h3_, h4_⟩ := hSw
          go_simp
          try with_reducible rfl
        try simp only [Act.put, List.getElem_toArray, List.getElem_cons_succ, List.getElem_cons_zero, List.setIfInBounds_toArray, List.set_cons_succ, List.set_cons_zero]
        refine wpAnyE_take (i := 20) (v := ?vqzabcfd20) rfl (by decide +kernel) (fun _ _ _ h => h) (Or.inl ⟨by kernel_rfl, ?hqzabcfd20⟩) (by assumption) ?rqzabcfd20
        case hqzabcfd20 =>
          intro wS hSw
          obtain ⟨h0_, h1_, h2_, h3_, h4_⟩ := hSw
          go_simp
          try with_reducible rfl
        try simp only [Act.put, List.getElem_toArray, List.getElem_cons_succ, List.getElem_cons_zero, List.setIfInBounds_toArray, List.set_cons_succ, List.set_cons_zero]
        refine wpAnyE_ready (rs := [23]) (by kernel_rfl) (by simp) ?_
        refine AllReadyE.cons (i := 23) rfl (by decide) (fun K hK => ?_) AllReadyE.nil
        go_simp
        refine (H23.out _).mono ?_
        rintro e Wabcfde ⟨rfl, hb⟩
        have Pabcfde := Lib.hid (Pabcfd.out.old hb)
        have Dabcfde := Lib.hid (Dabcfd.out.old hb)
        clear hb
        refine hK.out _ _ ⟨Pabcfde.out.cell 0, Pabcfde.out.cell 1, Pabcfde.out.cell 2, Pabcfde.out.cell 3, Pabcfde.out.cell 4⟩ (fun hHeld => ?_)
        clear hK K
        try simp only [Act.put, List.getElem_toArray, List.getElem_cons_succ, List.getElem_cons_zero, List.setIfInBounds_toArray, List.set_cons_succ, List.set_cons_zero]
        refine wpAnyE_take (i := 24) (v := ?vqzabcfde24) rfl (by decide +kernel) (fun _ _ _ h => h) (Or.inl ⟨by kernel_rfl, ?hqzabcfde24⟩) (by assumption) ?rqzabcfde24
        case hqzabcfde24 =>
          intro wS hSw
          obtain ⟨h0_, h1_, h2_, h3_, h4_⟩ := hSw
          go_simp
          try with_reducible rfl
        try simp only [Act.put, List.getElem_toArray, List.getElem_cons_succ, List.getElem_cons_zero, List.setIfInBounds_toArray, List.set_cons_succ, List.set_cons_zero]
        refine wpAnyE_ready (rs := [25]) (by kernel_rfl) (by simp) ?_
        refine AllReadyE.last (i := 25) rfl rfl (fun K hK => ?_)
        go_simp
        refine hK.out _ _ ?_
        clear hK K
        try simp only [Act.put, List.getElem_toArray, List.getElem_cons_succ, List.getElem_cons_zero, List.setIfInBounds_toArray, List.set_cons_succ, List.set_cons_zero]
        refine wpAnyE_done (by kernel_rfl) ?_ _
        try simp only [List.getElem_toArray, List.getElem_cons_succ, List.getElem_cons_zero, List.setIfInBounds_toArray, List.set_cons_succ, List.set_cons_zero]
        go_wp2_with fail
        go_meet
        exact ⟨by rw [HD.out], Pabcfde.out⟩
      · go_simp
        refine (H18.out _).mono ?_
        rintro e Wabcd ⟨rfl, hb⟩
        have Pabcd := Lib.hid (Pabc.out.old hb)
        have Dabcd := Lib.hid (Dabc.out.old hb)
        clear hb
        refine hK.out _ _ ⟨Pabcd.out.cell 0, Pabcd.out.cell 1, Pabcd.out.cell 2, Pabcd.out.cell 3, Pabcd.out.cell 4⟩ (fun hHeld => ?_)
        clear hK K
        try simp only [Act.put, List.getElem_toArray, List.getElem_cons_succ, List.getElem_cons_zero, List.setIfInBounds_toArray, List.set_cons_succ, List.set_cons_zero]
        clear cw
        have cw := Dabcd.out.2 k HKW.out
        rw [HWK.out] at cw
        refine wpAnyE_ready (rs := [8, 23]) (by kernel_rfl) (by simp) ?_
        refine AllReadyE.cons (i := 8) rfl (by decide) (fun K hK => ?_) (AllReadyE.cons (i := 23) rfl (by decide) (fun K hK => ?_) AllReadyE.nil)
        · go_simp
          refine hK.out _ _ ⟨Pabcd.out.cell 0, Pabcd.out.cell 1, Pabcd.out.cell 2, Pabcd.out.cell 3, Pabcd.out.cell 4⟩ (fun hHeld => ?_)
          clear hK K
          try simp only [Act.put, List.getElem_toArray, List.getElem_cons_succ, List.getElem_cons_zero, List.setIfInBounds_toArray, List.set_cons_succ, List.set_cons_zero]
          clear cw
          refine wpAnyE_take (i := 9) (v := ?vqzabcdf9) rfl (by decide +kernel) (fun _ _ _ h => h) (Or.inl ⟨by kernel_rfl, ?hqzabcdf9⟩) (by assumption) ?rqzabcdf9
          case hqzabcdf9 =>
            intro wS hSw
            obtain ⟨h0_, h1_, h2_, h3_, h4_⟩ := hSw
            go_simp
            try with_reducible rfl
          try simp only [Act.put, List.getElem_toArray, List.getElem_cons_succ, List.getElem_cons_zero, List.setIfInBounds_toArray, List.set_cons_succ, List.set_cons_zero]
          refine wpAnyE_take (i := 10) (v := ?vqzabcdf10) rfl (by decide +kernel) (fun _ _ _ h => h) (Or.inl ⟨by kernel_rfl, ?hqzabcdf10⟩) (by assumption) ?rqzabcdf10
          case hqzabcdf10 =>
            intro wS hSw
            obtain ⟨h0_, h1_, h2_, h3_, h4_⟩ := hSw
            go_simp
            try with_reducible rfl
          try simp only [Act.put, List.getElem_toArray, List.getElem_cons_succ, List.getElem_cons_zero, List.setIfInBounds_toArray, List.set_cons_succ, List.set_cons_zero]
          refine wpAnyE_take (i := 14) (v := ?vqzabcdf14) rfl (by decide +kernel) (fun _ _ _ h => h) (Or.inl ⟨by kernel_rfl, ?hqzabcdf14⟩) (by assumption) ?rqzabcdf14
          case hqzabcdf14 =>
            intro wS hSw
            obtain ⟨h0_, h1_, h2_, h3_, h4_⟩ := hSw
            go_simp
            try with_reducible rfl
          try simp only [Act.put, List.getElem_toArray, List.getElem_cons_succ, List.getElem_cons_zero, List.setIfInBounds_toArray, List.set_cons_succ, List.set_cons_zero]
          refine wpAnyE_take (i := 15) (v := ?vqzabcdf15) rfl (by decide +kernel) (fun _ _ _ h => h) (Or.inl ⟨by kernel_rfl, ?hqzabcdf15⟩) (by assumption) ?rqzabcdf15
          case hqzabcdf15 =>
            intro wS hSw
            obtain ⟨h0_, h1_, h2_, h3_, h4_⟩ := hSw
            go_simp
            try with_reducible rfl
          try simp only [Act.put, List.getElem_toArray, List.getElem_cons_succ, List.getElem_cons_zero, List.setIfInBounds_toArray, List.set_cons_succ, List.set_cons_zero]
          refine wpAnyE_take (i := 19) (v := ?vqzabcdf19) rfl (by decide +kernel) (fun _ _ _ h => h) (Or.inl ⟨by kernel_rfl, ?hqzabcdf19⟩) (by assumption) ?rqzabcdf19
          case hqzabcdf19 =>
            intro wS hSw
            obtain ⟨h0_, h1_, h2_, h3_, h4_⟩ := hSw
            go_simp
            try with_reducible rfl
          try simp only [Act.put, List.getElem_toArray, List.getElem_cons_succ, List.getElem_cons_zero, List.setIfInBounds_toArray, List.set_cons_succ, List.set_cons_zero]
          refine wpAnyE_take (i := 20) (v := ?vqzabcdf20) rfl (by decide +kernel) (fun _ _ _ h => h) (Or.inl ⟨by kernel_rfl, ?hqzabcdf20⟩) (by assumption) ?rqzabcdf20
          case hqzabcdf20 =>
            intro wS hSw
            obtain ⟨h0_, h1_, h2_, h3_, h4_⟩ := hSw
            go_simp
            try with_reducible rfl
          try simp only [Act.put, List.getElem_toArray, List.getElem_cons_succ, List.getElem_cons_zero, List.setIfInBounds_toArray, List.set_cons_succ, List.set_cons_zero]
          refine wpAnyE_ready (rs := [23]) (by kernel_rfl) (by simp) ?_
          refine AllReadyE.cons (i := 23) rfl (by decide) (fun K hK => ?_) AllReadyE.nil
          go_simp
          refine (H23.out _).mono ?_
          rintro e Wabcdfe ⟨rfl, hb⟩
          have Pabcdfe := Lib.hid (Pabcd.out.old hb)
          have Dabcdfe := Lib.hid (Dabcd.out.old hb)
          clear hb
          refine hK.out _ _ ⟨Pabcdfe.out.cell 0, Pabcdfe.out.cell 1, Pabcdfe.out.cell 2, Pabcdfe.out.cell 3, Pabcdfe.out.cell 4⟩ (fun hHeld => ?_)
          clear hK K
          try simp only [Act.put, List.getElem_toArray, List.getElem_cons_succ, List.getElem_cons_zero, List.setIfInBounds_toArray, List.set_cons_succ, List.set_cons_zero]
          refine wpAnyE_take (i := 24) (v := ?vqzabcdfe24) rfl (by decide +kernel) (fun _ _ _ h => h) (Or.inl ⟨by kernel_rfl, ?hqzabcdfe24⟩) (by assumption) ?rqzabcdfe24
          case hqzabcdfe24 =>
            intro wS hSw
            obtain ⟨h0_, h1_, h2_, h3_, h4_⟩ := hSw
            go_simp
            try with_reducible rfl
          try simp only [Act.put, List.getElem_toArray, List.getElem_cons_succ, List.getElem_cons_zero, List.setIfInBounds_toArray, List.set_cons_succ, List.set_cons_zero]
          refine wpAnyE_ready (rs := [25]) (by kernel_rfl) (by simp) ?_
          refine AllReadyE.last (i := 25) rfl rfl (fun K hK => ?_)
          go_simp
          refine hK.out _ _ ?_
          clear hK K
          try simp only [Act.put, List.getElem_toArray, List.getElem_cons_succ, List.getElem_cons_zero, List.setIfInBounds_toArray, List.set_cons_succ, List.set_cons_zero]
          refine wpAnyE_done (by kernel_rfl) ?_ _
          try simp only [List.getElem_toArray, List.getElem_cons_succ, List.getElem_cons_zero, List.setIfInBounds_toArray, List.set_cons_succ, List.set_cons_zero]
          go_wp2_with fail
          go_meet
          exact ⟨by rw [HD.out], Pabcdfe.out⟩
        · go_simp
          refine (H23.out _).mono ?_
          rintro e Wabcde ⟨rfl, hb⟩
          have Pabcde := Lib.hid (Pabcd.out.old hb)
          have Dabcde := Lib.hid (Dabcd.out.old hb)
          clear hb
          refine hK.out _ _ ⟨Pabcde.out.cell 0, Pabcde.out.cell 1, Pabcde.out.cell 2, Pabcde.out.cell 3, Pabcde.out.cell 4⟩ (fun hHeld => ?_)
          clear hK K
          try simp only [Act.put, List.getElem_toArray, List.getElem_cons_succ, List.getElem_cons_zero, List.setIfInBounds_toArray, List.set_cons_succ, List.set_cons_zero]
          clear cw
          have cw := Dabcde.out.2 k HKW.out
          rw [HWK.out] at cw
          refine wpAnyE_ready (rs := [8]) (by kernel_rfl) (by simp) ?_
          refine AllReadyE.cons (i := 8) rfl (by decide) (fun K hK => ?_) AllReadyE.nil
          go_simp
          refine hK.out _ _ ⟨Pabcde.out.cell 0, Pabcde.out.cell 1, Pabcde.out.cell 2, Pabcde.out.cell 3, Pabcde.out.cell 4⟩ (fun hHeld => ?_)
          clear hK K
          try simp only [Act.put, List.getElem_toArray, List.getElem_cons_succ, List.getElem_cons_zero, List.setIfInBounds_toArray, List.set_cons_succ, List.set_cons_zero]
          clear cw
          refine wpAnyE_take (i := 9) (v := ?vqzabcdef9) rfl (by decide +kernel) (fun _ _ _ h => h) (Or.inl ⟨by kernel_rfl, ?hqzabcdef9⟩) (by assumption) ?rqzabcdef9
          case hqzabcdef9 =>
            intro wS hSw
            obtain ⟨h0_, h1_, h2_, h3_, h4_⟩ := hSw
            go_simp
            try with_reducible rfl
          try simp only [Act.put, List.getElem_toArray, List.getElem_cons_succ, List.getElem_cons_zero, List.setIfInBounds_toArray, List.set_cons_succ, List.set_cons_zero]
          refine wpAnyE_take (i := 10) (v := ?vqzabcdef10) rfl (by decide +kernel) (fun _ _ _ h => h) (Or.inl ⟨by kernel_rfl, ?hqzabcdef10⟩) (by assumption) ?rqzabcdef10
          case hqzabcdef10 =>
            intro wS hSw
            obtain ⟨h0_, h1_, h2_, h3_, h4_⟩ := hSw
            go_simp
            try with_reducible rfl
          try simp only [Act.put, List.getElem_toArray, List.getElem_cons_succ, List.getElem_cons_zero, List.setIfInBounds_toArray, List.set_cons_succ, List.set_cons_zero]
          refine wpAnyE_take (i := 14) (v := ?vqzabcdef14) rfl (by decide +kernel) (fun _ _ _ h => h) (Or.inl ⟨by kernel_rfl, ?hqzabcdef14⟩) (by assumption) ?rqzabcdef14
          case hqzabcdef14 =>
            intro wS hSw
            obtain ⟨h0_, h1_, h2_, h3_, h4_⟩ := hSw
            go_simp
            try with_reducible rfl
          try simp only [Act.put, List.getElem_toArray, List.getElem_cons_succ, List.getElem_cons_zero, List.setIfInBounds_toArray, List.set_cons_succ, List.set_cons_zero]
          refine wpAnyE_take (i := 15) (v := ?vqzabcdef15) rfl (by decide +kernel) (fun _ _ _ h => h) (Or.inl ⟨by kernel_rfl, ?hqzabcdef15⟩) (by assumption) ?rqzabcdef15
          case hqzabcdef15 =>
            intro wS hSw
            obtain ⟨h0_, h1_, h2_, h3_, h4_⟩ := hSw
            go_simp
            try with_reducible rfl
          try simp only [Act.put, List.getElem_toArray, List.getElem_cons_succ, List.getElem_cons_zero, List.setIfInBounds_toArray, List.set_cons_succ, List.set_cons_zero]
          refine wpAnyE_take (i := 19) (v := ?vqzabcdef19) rfl (by decide +kernel) (fun _ _ _ h => h) (Or.inl ⟨by kernel_rfl, ?hqzabcdef19⟩) (by assumption) ?rqzabcdef19
          case hqzabcdef19 =>
            intro wS hSw
            obtain ⟨h0_, h1_, h2_, h3_, h4_⟩ := hSw
            go_simp
            try with_reducible rfl
          try simp only [Act.put, List.getElem_toArray, List.getElem_cons_succ, List.getElem_cons_zero, List.setIfInBounds_toArray, List.set_cons_succ, List.set_cons_zero]
          refine wpAnyE_take (i := 20) (v := ?vqzabcdef20) rfl (by decide +kernel) (fun _ _ _ h => h) (Or.inl ⟨by kernel_rfl, ?hqzabcdef20⟩) (by assumption) ?rqzabcdef20
          case hqzabcdef20 =>
            intro wS hSw
            obtain ⟨h0_, h1_, h2_, h3_, h4_⟩ := hSw
            go_simp
            try with_reducible rfl
          try simp only [Act.put, List.getElem_toArray, List.getElem_cons_succ, List.getElem_cons_zero, List.setIfInBounds_toArray, List.set_cons_succ, List.set_cons_zero]
          refine wpAnyE_take (i := 24) (v := ?vqzabcdef24) rfl (by decide +kernel) (fun _ _ _ h => h) (Or.inl ⟨by kernel_rfl, ?hqzabcdef24⟩) (by assumption) ?rqzabcdef24
          case hqzabcdef24 =>
            intro wS hSw
            obtain ⟨h0_, h1_, h2_, h3_, h4_⟩ := hSw
            go_simp
            try with_reducible rfl
          try simp only [Act.put, List.getElem_toArray, List.getElem_cons_succ, List.getElem_cons_zero, List.setIfInBounds_toArray, List.set_cons_succ, List.set_cons_zero]
          refine wpAnyE_ready (rs := [25]) (by kernel_rfl) (by simp) ?_
          refine AllReadyE.last (i := 25) rfl rfl (fun K hK => ?_)
          go_simp
          refine hK.out _ _ ?_
          clear hK K
          try simp only [Act.put, List.getElem_toArray, List.getElem_cons_succ, List.getElem_cons_zero, List.setIfInBounds_toArray, List.set_cons_succ, List.set_cons_zero]
          refine wpAnyE_done (by kernel_rfl) ?_ _
          try simp only [List.getElem_toArray, List.getElem_cons_succ, List.getElem_cons_zero, List.setIfInBounds_toArray, List.set_cons_succ, List.set_cons_zero]
          go_wp2_with fail
          go_meet
          exact ⟨by rw [HD.out], Pabcde.out⟩
  case rest =>
    obtain ⟨rfl, hb9⟩ := hcut
    have P9 := Lib.hid hb9
    clear hb9
    have c5 := at_five P9.out
    have zh := HZ.out
    by_cases hz : 0 < l
    · have HR := Lib.hid (HT1.out (by omega))
      clear HT0 HT1 HZ HD
      go_wp2_with fail
      refine (H9.out _).mono ?_
      rintro e W9 ⟨rfl, hb⟩
      have P10 := Lib.hid (P9.out.old hb)
      clear hb
      go_wp2_with fail
      go_ret
      exact ⟨by rw [← HR.out]; rfl, P10.out.1⟩
    · have HR := Lib.hid (HT0.out (by have := HLN.out; omega))
      clear HT0 HT1 HZ HD
      go_wp2_with fail
      go_ret
      exact ⟨by rw [← HR.out]; rfl, P9.out.1⟩
set_option maxRecDepth 100000 in
theorem trackLineS (i s x y h l : Int) (w : World) :
    Calls Tryz.prog 9 #[.agg #[.int .i64 i, .int .i64 s, .int .i64 x, .int .i64 y, .int .i64 h, .int .i64 l]] w fun e w' => e = .returned (.tuple #[.string (tlV i s x y h l), .bool (tkB i s x y h l)]) ∧ Below w.heap.size w w' := by
  have hg := fun W => trks.good14 i s x y h l W
  cases hv : tkB i s x y h l
  · have E0 := Lib.hid (newS 25 #[.int .i64 i, .int .i64 s, .int .i64 x, .int .i64 y, .int .i64 h, .int .i64 l] w)
    have HN := Lib.hid (tl_no hv)
    rw [hv] at hg HN
    have HG := Lib.hid hg
    clear hg hv
    go_enter Tryz.func9, Tryz.ntmps9
    go_wp2_with fail
    generalize w.alloc (.cells #[.int .i64 i, .int .i64 s, .int .i64 x, .int .i64 y, .int .i64 h, .int .i64 l] 25) = W at *
    refine (HG.out _).mono ?_
    rintro e w1 ⟨rfl, hb1⟩
    have B1 := Lib.hid (E0.out.old hb1)
    clear hb1
    go_wp2_with fail
    go_ret2
    exact ⟨HN.out, B1.out.1⟩
  · have HN := Lib.hid (tl_yes hv)
    obtain ⟨k, rfl, k1, k3⟩ := sw_is hv
    have HL := Lib.hid (fun W => line14 i k x y h l W hv k3)
    have E0 := Lib.hid (newS 25 #[.int .i64 i, .int .i64 (k : Int), .int .i64 x, .int .i64 y, .int .i64 h, .int .i64 l] w)
    rw [hv] at hg HN
    have HG := Lib.hid hg
    clear hg hv k1 k3
    generalize tlT i (k : Int) x y h l = R at *
    go_enter Tryz.func9, Tryz.ntmps9
    go_wp2_with fail
    generalize w.alloc (.cells #[.int .i64 i, .int .i64 (k : Int), .int .i64 x, .int .i64 y, .int .i64 h, .int .i64 l] 25) = W at *
    refine (HG.out _).mono ?_
    rintro e w1 ⟨rfl, hb1⟩
    have B1 := Lib.hid (E0.out.old hb1)
    clear hb1 E0
    have c0 : World.cell? w1 ⟨w.heap.size, 0, none⟩ = some (.int .i64 i) := B1.out.cell 0
    have c1 : World.cell? w1 ⟨w.heap.size, 1, none⟩ = some (.int .i64 (k : Int)) := B1.out.cell 1
    have c2 : World.cell? w1 ⟨w.heap.size, 2, none⟩ = some (.int .i64 x) := B1.out.cell 2
    have c3 : World.cell? w1 ⟨w.heap.size, 3, none⟩ = some (.int .i64 y) := B1.out.cell 3
    have c4 : World.cell? w1 ⟨w.heap.size, 4, none⟩ = some (.int .i64 h) := B1.out.cell 4
    have c5 : World.cell? w1 ⟨w.heap.size, 5, none⟩ = some (.int .i64 l) := B1.out.cell 5
    go_wp2_with fail
    refine (HL.out _).mono ?_
    rintro e w2 ⟨rfl, hb2⟩
    have B2 := Lib.hid (B1.out.old hb2)
    clear hb2 c0 c1 c2 c3 c4 c5
    go_wp2_with fail
    go_ret2
    exact ⟨HN.out, B2.out.1⟩
end Go.Proofs.YtfigjfckelichaaGreatDoor.trkq

namespace Go.Proofs.YtfigjfckelichaaGreatDoor.ert
open Go.RowKit Go.Proofs.YtfigjfckelichaaGreatDoor.trkp

/-- What a walk asks. -/
def LY (w : World) : Prop := fmt.Tab w ∧ trkp.Tab w ∧ erl.LX w ∧ trka.Mx w
theorem ly_on {w w' : World} (h : LY w) (hb : Below w.heap.size w w') : LY w' := ⟨fmt.tab_on h.1 hb, h.2.1.old hb, erl.lx_on h.2.2.1 hb, trka.mx_on h.2.2.2 hb⟩
theorem gTab : Tryz.prog.globalNamed "internal/strconv.uint64pow10" = some 4 := by kernel_rfl
theorem gTabType : (Tryz.prog.globals[4]?).map (·.type) = some 181 := by kernel_rfl
theorem cellsTab : Tryz.prog.cellsOf 181 = 20 := by kernel_rfl
theorem cellsU : Tryz.prog.cellsOf 68 = 1 := by kernel_rfl
theorem of_data {W : World} (h : laidMet Tryz.prog [("math/bits.deBruijn32tab", Rows.laid_math_bits_deBruijn32tab), ("math/bits.deBruijn64tab", Rows.laid_math_bits_deBruijn64tab), ("internal/strconv.uint64pow10", Rows.laid_internal_strconv_uint64pow10), ("loop.example/g00875/impl.stateWords", Rows.laid_loop_example_g00875_impl_stateWords), ("loop.example/g00875/impl.errNotHit", Rows.laid_loop_example_g00875_impl_errNotHit)] W) : fmt.Tab W ∧ trkp.Tab W ∧ trkw.Ex W :=
  ⟨Lib.tabIs_of_head (rest := _) gTab gTabType Tryz.underlying181 Tryz.underlying68 cellsU cellsTab (laidMet.tail (laidMet.tail h)),
   fun k hk => (laid_.strIs_of_head (ss := words) (rest := _) gW gWT Tryz.underlying61 Tryz.underlying9 cellsS cellsW (laidMet.tail (laidMet.tail (laidMet.tail h)))).cell gW (word_at k hk),
   erl.sentinel_of (laidMet.tail (laidMet.tail (laidMet.tail (laidMet.tail h))))⟩
theorem of_all {W : World} (h : laidMetH Tryz.prog Rows.fnTracksRow.laid W) (hm : trka.Mx W) : LY W := by
  have h' : laidMet Tryz.prog [("math/bits.deBruijn32tab", Rows.laid_math_bits_deBruijn32tab), ("math/bits.deBruijn64tab", Rows.laid_math_bits_deBruijn64tab), ("internal/strconv.uint64pow10", Rows.laid_internal_strconv_uint64pow10), ("loop.example/g00875/impl.stateWords", Rows.laid_loop_example_g00875_impl_stateWords), ("loop.example/g00875/impl.errNotHit", Rows.laid_loop_example_g00875_impl_errNotHit)] W ∧ handlesMet Tryz.prog [("errors.errorType", Rows.laid_errors_errorType)] W := h
  obtain ⟨h1, h2, h3⟩ := of_data h'.1
  exact ⟨h1, h2, ⟨erl.handle_of h'.2, h3⟩, hm⟩
/-- A world that meets the conditions. -/
noncomputable def laidWorld (os : Os) : World :=
  let w0 := World.holding Tryz.prog os ⟨#[.cells #[.string erl.text] 210], #[], []⟩
  { w0 with heap := ((((((w0.heap.modify 2 fun
      | .cells _ t frozen => .cells #[.iface 167 (.agg #[.pointer (some ⟨7, 78, none⟩)])] t frozen
      | o => o).modify 1 fun
      | .cells _ t frozen => .cells #[.iface 190 (.pointer (some ⟨erl.low, 0, none⟩))] t frozen
      | o => o).modify 0 fun
      | .cells _ t frozen => .cells trkq.wordsC t frozen
      | o => o).modify 4 fun
      | .cells _ t frozen => .cells #[.int .u64 1, .int .u64 10, .int .u64 100, .int .u64 1000, .int .u64 10000, .int .u64 100000, .int .u64 1000000, .int .u64 10000000, .int .u64 100000000, .int .u64 1000000000, .int .u64 10000000000, .int .u64 100000000000, .int .u64 1000000000000, .int .u64 10000000000000, .int .u64 100000000000000, .int .u64 1000000000000000, .int .u64 10000000000000000, .int .u64 100000000000000000, .int .u64 1000000000000000000, .int .u64 10000000000000000000] t frozen
      | o => o).modify 5 fun
      | .cells _ t frozen => .cells #[.int .u8 0, .int .u8 1, .int .u8 28, .int .u8 2, .int .u8 29, .int .u8 14, .int .u8 24, .int .u8 3, .int .u8 30, .int .u8 22, .int .u8 20, .int .u8 15, .int .u8 25, .int .u8 17, .int .u8 4, .int .u8 8, .int .u8 31, .int .u8 27, .int .u8 13, .int .u8 23, .int .u8 21, .int .u8 19, .int .u8 16, .int .u8 7, .int .u8 26, .int .u8 12, .int .u8 18, .int .u8 6, .int .u8 11, .int .u8 5, .int .u8 10, .int .u8 9] t frozen
      | o => o).modify 6 fun
      | .cells _ t frozen => .cells #[.int .u8 0, .int .u8 1, .int .u8 56, .int .u8 2, .int .u8 57, .int .u8 49, .int .u8 28, .int .u8 3, .int .u8 61, .int .u8 58, .int .u8 42, .int .u8 50, .int .u8 38, .int .u8 29, .int .u8 17, .int .u8 4, .int .u8 62, .int .u8 47, .int .u8 59, .int .u8 36, .int .u8 45, .int .u8 43, .int .u8 51, .int .u8 22, .int .u8 53, .int .u8 39, .int .u8 33, .int .u8 30, .int .u8 24, .int .u8 18, .int .u8 12, .int .u8 5, .int .u8 63, .int .u8 55, .int .u8 48, .int .u8 27, .int .u8 60, .int .u8 41, .int .u8 37, .int .u8 16, .int .u8 46, .int .u8 35, .int .u8 44, .int .u8 21, .int .u8 52, .int .u8 32, .int .u8 23, .int .u8 11, .int .u8 54, .int .u8 26, .int .u8 40, .int .u8 15, .int .u8 34, .int .u8 20, .int .u8 31, .int .u8 10, .int .u8 25, .int .u8 14, .int .u8 19, .int .u8 9, .int .u8 13, .int .u8 8, .int .u8 7, .int .u8 6] t frozen
      | o => o) }
theorem all_met (os : Os) (args : Array Value) : laidMetH Tryz.prog Rows.fnTracksRow.laid ((laidWorld os).forCall (fun _ _ => 0) ⟨#[], args, []⟩).memory :=
  laidMetH_of_parts (laidMet_of_run' 8 (by kernel_rfl) (by kernel_rfl)) (by kernel_rfl)
end Go.Proofs.YtfigjfckelichaaGreatDoor.ert
