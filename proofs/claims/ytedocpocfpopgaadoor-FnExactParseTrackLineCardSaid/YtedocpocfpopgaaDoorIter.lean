/- impl.SplitString at a separator of one byte: the iterator impl.partsBetween yields the pieces in order, and the loop over it collects them in new memory. -/
import Derived.RangeFuncBox
import Derived.RangeFuncLeaves
import Derived.RangeFuncWrites
import Derived.Shelf.Abstract
import Derived.WalkKit
import Derived.OwnWalkIn
import Derived.TacticsInMore
import Derived.LoopNIn
import Derived.LoopIn
import Derived.Maps.AppendAt
import Derived.BigRegionIn
import Derived.Test.YtedocpocfpopgaaDoorSplit
namespace Go.Proofs.YtedocpocfpopgaaDoor.iter
open Go.RowKit Go.Shelf Go.Proofs.YtedocpocfpopgaaDoor.split_

attribute [local go_sem] Oper.semAt_some

/-- The two boxed variables of the iterator lie as they lay. -/
def Kp (B1 B2 : Nat) (W W' : World) : Prop := W'.heap[B1]? = W.heap[B1]? ∧ W'.heap[B2]? = W.heap[B2]?
theorem kp_t {B1 B2 : Nat} {A B C : World} (h : Kp B1 B2 A B) (k : Kp B1 B2 B C) : Kp B1 B2 A C := ⟨k.1.trans h.1, k.2.trans h.2⟩
theorem kp_b {B1 B2 : Nat} {w : World} (h1 : B1 < w.heap.size) (h2 : B2 < w.heap.size) (W : World) (l : Nat) (o o' : Obj) (hl : w.heap.size ≤ l) (h : W.heap[l]? = some o) (_ : o.isCells = false) (_ : o.isWalk = false) : Kp B1 B2 W (W.putObj l o') := by
  have hs : l < W.heap.size := (Array.getElem?_eq_some_iff.1 h).1
  have hg := grownBy_putObj' W l o'
  exact ⟨hg.block B1 (by omega) (by intro e; injection e with e; omega), hg.block B2 (by omega) (by intro e; injection e with e; omega)⟩
theorem Kp.box1 {B1 B2 : Nat} {W W' : World} {t : TypeId} {v : Value} (h : Kp B1 B2 W W') (b : Boxed W B1 t v) : Boxed W' B1 t v := h.1.trans b
theorem Kp.box2 {B1 B2 : Nat} {W W' : World} {t : TypeId} {v : Value} (h : Kp B1 B2 W W') (b : Boxed W B2 t v) : Boxed W' B2 t v := h.2.trans b

theorem inv_more {b : UInt8} {s : ByteArray} {k f : Nat} {xs : List ByteArray} (h : Inv b s k f xs) : xs.length < (pieces b s.data.toList []).length := by
  unfold split_.Inv at h
  rw [← h, List.length_append, List.length_map]
  have : ∀ l cur, 0 < (pieces b l cur).length := by
    intro l
    induction l with
    | nil => intro cur; simp [pieces]
    | cons c l ih => intro cur; unfold pieces; split; · simp
                     · exact ih _
  have := this (s.data.toList.drop k) ((s.data.toList.take k).drop f)
  omega

set_option maxRecDepth 100000 in
set_option maxHeartbeats 2000000 in
theorem all1_in (n : Nat) (hn : 1 ≤ n) (l B1 B2 : Nat) (s : ByteArray) (b : UInt8) (hs : s.size ≤ 1048576) (J Jx : List ByteArray → World → Prop)
    (hY : ∀ pre x W, J pre W → pre.length < (pieces b s.data.toList []).length → YieldAt Fence.wide (n - 1) Tryd.prog l #[.string x] W fun e W' =>
      (e = .returned (.bool true) ∧ J (pre ++ [x]) W' ∧ Kp B1 B2 W W') ∨ (e = .returned (.bool false) ∧ Jx (pre ++ [x]) W'))
    (W : World) (hJd : ∀ pre W, J pre W → J pre W.drew) (hb1 : Boxed W B1 9 (.string s)) (hb2 : Boxed W B2 5 (.int .u8 b.toNat)) (h0 : J [] W) :
    CallsIn Fence.wide n Tryd.prog 119 #[.func (.yield l) #[] #[], .pointer (some ⟨B1, 0, none⟩), .pointer (some ⟨B2, 0, none⟩)] W fun e W' => (∃ v, e = .returned v) ∧
      ((∃ ys : List ByteArray, ys.map (·.data.toList) = pieces b s.data.toList [] ∧ J ys W') ∨ (∃ pre : List ByteArray, True ∧ Jx pre W')) := by
  refine callsIn_of_wp Tryd.func119 rfl trivial ?_ rfl
  simp only [Tryd.ntmps119, List.size_toArray, List.length_cons, List.length_nil, Nat.reduceAdd, Nat.reduceSub, Array.replicate_succ, Array.replicate_zero, List.push_toArray, List.append_toArray, List.nil_append, List.cons_append]
  have hc1 := hb1.cell
  gi_wp2
  clear hc1
  gi_loopw [4, 8] (fun st i wr => ∃ (k f : Nat) (pre : List ByteArray), k ≤ s.size ∧ f ≤ k ∧ i = .int .i64 k ∧ st = .int .i64 f ∧ Inv b s k f pre ∧ Boxed wr B1 9 (.string s) ∧ Boxed wr B2 5 (.int .u8 b.toNat) ∧ J pre wr)
    (fun _ i _ => s.size - (intOf i).toNat)
  case atStart => exact ⟨0, 0, [], Nat.zero_le _, Nat.le_refl _, rfl, rfl, inv_start b s, hb1, hb2, h0⟩
  case round =>
    obtain ⟨k, f, pre, hk, hf, rfl, rfl, hinv, hx1, hx2, hJs⟩ := hrel
    have hc1 := hx1.cell
    have hc2 := hx2.cell
    have HI := Lib.hid hinv
    clear hinv hb1 hb2 h0
    by_cases hlt : k < s.size
    · have hlt2 : (k : Int) < (s.size : Int) := by omega
      cases he : ((s[k].toNat : Int) == (b.toNat : Int))
      · have hne : ((s[k].toNat : Int) != (b.toNat : Int)) = true := by rw [bne, he]; rfl
        have HN := Lib.hid (inv_pass HI.out hf hlt he)
        clear he
        gi_wp2
        gi_region
        gi_wp2
        go_roundw
        case rel => exact ⟨k + 1, f, pre, by omega, by omega, by go_num, rfl, HN.out, hx1, hx2, hJd _ _ hJs⟩
        case measure => simp [intOf]; omega
      · have hne : ((s[k].toNat : Int) != (b.toNat : Int)) = false := by rw [bne, he]; rfl
        have HN := Lib.hid (inv_cut HI.out hlt he)
        obtain ⟨fn, tmps, assign, body, hy, hR⟩ := hY pre (s.extract f k) wr.drew (hJd _ _ hJs) (inv_more HI.out)
        clear he
        gi_wp2
        gi_region
        gi_wp2
        refine hR.mono ?_
        rintro e W3 (⟨rfl, hJ3, hk3⟩ | ⟨rfl, hJx3⟩)
        · have hz1 := hk3.box1 hx1
          have hz2 := hk3.box2 hx2
          gi_wp2
          go_roundw
          case rel => exact ⟨k + 1, k + 1, pre ++ [s.extract f k], by omega, by omega, by go_num, by go_num, HN.out, hz1, hz2, hJ3⟩
          case measure => simp [intOf]; omega
        · gi_wp2
          refine bodyPost_ret (results_none rfl _ _ _) rfl ?_
          exact ⟨⟨_, rfl⟩, .inr ⟨_, trivial, hJx3⟩⟩
    · have HN := Lib.hid (inv_end HI.out (by omega))
      obtain ⟨fn, tmps, assign, body, hy, hR⟩ := hY pre (s.extract f s.size) wr hJs (inv_more HI.out)
      gi_wp2
      refine hR.mono ?_
      rintro e W3 (⟨rfl, hJ3, hk3⟩ | ⟨rfl, hJx3⟩)
      · gi_wp2
        go_end0
        exact ⟨⟨_, rfl⟩, .inl ⟨_, HN.out, hJ3⟩⟩
      · gi_wp2
        go_end0
        exact ⟨⟨_, rfl⟩, .inr ⟨_, trivial, hJx3⟩⟩

set_option maxHeartbeats 1000000 in
theorem all_in (n : Nat) (s : ByteArray) (b : UInt8) (w : World) :
    CallsIn Fence.wide n Tryd.prog 108 #[.string s, .int .u8 b.toNat] w fun e w' => e = .returned (.func (.func 119) #[] #[.pointer (some ⟨w.heap.size, 0, none⟩), .pointer (some ⟨w.heap.size + 1, 0, none⟩)]) ∧ w' = (w.alloc (.cells #[.string s] 9)).alloc (.cells #[.int .u8 b.toNat] 5) := by
  refine callsIn_of_wp Tryd.func108 rfl trivial ?_ rfl
  simp only [Tryd.ntmps108, List.size_toArray, List.length_cons, List.length_nil, Nat.reduceAdd, Nat.reduceSub, Array.replicate_succ, Array.replicate_zero, List.push_toArray, List.append_toArray, List.nil_append, List.cons_append]
  gi_wp2
  go_ret
  exact ⟨rfl, rfl⟩

theorem abide_drew {β : Type} {B : Nat} {J : β → World → Prop} (h : AbidesFrom B J) (x : β) (W : World) (hj : J x W) : J x W.drew :=
  h x W W.drew none hj ⟨rfl, rfl, rfl, Nat.le_refl _, fun _ _ _ => rfl⟩ (fun r e => by cases e)

theorem all_stops (n : Nat) (hn : 1 ≤ n) (B1 B2 : Nat) (s : ByteArray) (b : UInt8) (hs : s.size ≤ 1048576) (w : World) (h1 : Boxed w B1 9 (.string s)) (h2 : Boxed w B2 5 (.int .u8 b.toNat)) :
    SeqStopsK Fence.wide n Tryd.prog 119 #[.pointer (some ⟨B1, 0, none⟩), .pointer (some ⟨B2, 0, none⟩)] (fun x : ByteArray => #[Value.string x]) (Kp B1 B2) (fun ys => ys.map (·.data.toList) = pieces b s.data.toList []) (fun _ => True) (pieces b s.data.toList []).length w := fun l J Jx W hW hJ _ hY h0 =>
  all1_in n hn l B1 B2 s b hs J Jx hY W (fun pre W hj => abide_drew hJ pre W hj) ((hW.block B1 h1.lt).trans h1) ((hW.block B2 h2.lt).trans h2) h0
end Go.Proofs.YtedocpocfpopgaaDoor.iter
