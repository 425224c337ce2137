/- The draw of a list of frames, and spec's DrawFramesOf, DrawAddressesOf. -/
import Derived.Test.YtpjpdfannnafbaaDrawV
import Derived.Test.YtpjpdfannnafbaaDrawB
import Derived.Test.YtpjpdfannnafbaaFrmW
import Derived.Deep.AppendLies
namespace Go.Proofs.Ytpjpdfannnafbaa.drawy
open Go.RowKit Go.Proofs.Ytpjpdfannnafbaa.cur Go.Proofs.Ytpjpdfannnafbaa.ints Go.Proofs.Ytpjpdfannnafbaa.frmz Go.Proofs.Ytpjpdfannnafbaa.frmw Go.Proofs.Ytpjpdfannnafbaa.drawv

theorem own_empty3 (w : World) (e : TypeId) (s : Nat) : (w.alloc (.cells #[] e)).ownsRow w.heap.size e s (.slice (some ⟨w.heap.size, 0, none⟩) 0 0) 0 [] := by
  refine ⟨by simp, .inr ⟨w.heap.size, 0, #[], rfl, Nat.le_refl _, ?_, Nat.le_refl _, Nat.zero_le _, by simp, by simp⟩⟩
  show (w.heap.push _)[w.heap.size]? = _
  simp
theorem grown_append {w wr w1 : World} {o : Obj} {p B e size n : Nat} {v : Value} {xs : List Value} (hg : w.grownBy wr (some p)) (h : wr.ownsRow B e size v n xs) (hB : w.heap.size ≤ B) (ha : (wr.alloc o).grownBy w1 v.ownBlock) : w.grownBy w1 (some p) :=
  ⟨ha.os.trans hg.os, ha.tape.trans hg.tape, ha.output.trans hg.output, Nat.le_trans hg.size (Nat.le_trans (by rw [World.size_alloc]; omega) ha.size), fun k hk hne => by
    have h1 := ha.block k (by have := hg.size; rw [World.size_alloc]; omega) (fun e => by have := own_.row_ge h k e.symm; omega)
    have h2 : (wr.alloc o).heap[k]? = wr.heap[k]? := Below.heap_alloc wr o k (by have := hg.size; omega)
    exact h1.trans (h2.trans (hg.block k hk hne))⟩
theorem cur_append {wr w1 : World} {o : Obj} {p m B e size n : Nat} {v : Value} {xs : List Value} (hc : Cur wr p m) (h : wr.ownsRow B e size v n xs) (hB : p < B) (hs : B ≤ wr.heap.size) (ha : (wr.alloc o).grownBy w1 v.ownBlock) : Cur w1 p m :=
  hc.keep (((Below.refl (p + 1) wr).alloc (by omega) o).grown ha (by rw [World.size_alloc]; omega) (fun k e => by have := own_.row_ge h k e; omega))
theorem cells_three (w : World) (K A D : Int) (t : TypeId) : ∀ j u, [Value.int .i64 K, Value.int .i64 A, Value.int .i64 D][j]? = some u → (w.alloc (.cells #[.int .i64 K, .int .i64 A, .int .i64 D] t)).cell? ((⟨w.heap.size, 0, none⟩ : Addr).add j) = some u :=
  World.news_of_block (cs := #[.int .i64 K, .int .i64 A, .int .i64 D]) (t := t) (fr := (0, 0)) (heap_alloc_new w _)
theorem own_grow3 {w : World} {B e n : Nat} {v : Value} {xs : List Int} {K A D : Int} (h : w.ownsRow B e 3 v (n + 1) (cellsI xs ++ [.int .i64 K, .int .i64 A, .int .i64 D])) : w.ownsRow B e 3 v (n + 1) (cellsI (xs ++ [K, A, D])) := by
  unfold cellsI at h ⊢
  rw [List.map_append]
  exact h
theorem own_any {w : World} {B e s n : Nat} {v : Value} {xs : List Value} (h : w.ownsRow B e s v n xs) : ∃ A c, v = .slice A n c := by
  rcases h.2 with ⟨rfl, h0⟩ | ⟨g, cap, cur, rfl, _⟩
  · exact ⟨_, _, by rw [h0]⟩
  · exact ⟨_, _, rfl⟩
def FramesQ (p m : Nat) (w : World) (e : Ending) (w' : World) : Prop := ∃ v n zs, e = .returned v ∧ w'.ownsRow w.heap.size 25 3 v n (cellsI zs) ∧ n ≤ 22 ∧ Cur w' p m ∧ w.grownBy w' (some p)

set_option maxRecDepth 100000 in
set_option maxHeartbeats 8000000 in
theorem frames (p m : Nat) (w : World) (h : Cur w p m) (hm : m ≤ 100000) :
    Calls Try.prog 47 #[.pointer (some ⟨p, 0, none⟩)] w (FramesQ p (m + 400) w) := by
  have hp := h.lt
  obtain ⟨i0, hi, hz0, hz1, hz2⟩ := info_parts frmz.infoF
  have O0 := Lib.hid (own_empty3 w 25 3)
  have HC0 := Lib.hid (h.keep ((Below.refl (p + 1) w).alloc (by omega) (.cells #[] 25)))
  have G0 := Lib.hid (show w.grownBy (w.alloc (.cells #[] 25)) (some p) from grown_alloc _ _)
  clear h
  go_enter Try.func47, Try.ntmps47
  go_wp2_with fail
  generalize w.alloc (.cells #[] 25) = W at *
  refine (pick p m 7 W HC0.out (by omega) (by omega) (by omega)).mono ?_
  rintro e w1 ⟨r, rfl, r0, r1, hc1, hg1⟩
  obtain ⟨q0, rfl⟩ := Int.eq_ofNat_of_zero_le r0
  have HC1 := Lib.hid hc1
  have G1 := Lib.hid (grown_trans G0.out hg1)
  have O1 := Lib.hid (own_kept O0.out hg1 (fun g e => by cases e; exact hp))
  clear hc1 hg1 HC0 G0 O0
  go_wp2_with fail
  go_loopw [3, 4] (fun v n wr => ∃ (q k : Nat) (zs : List Int), q + k ≤ 6 ∧ n = .int .i64 q ∧ wr.ownsRow w.heap.size 25 3 v k (cellsI zs) ∧ Cur wr p (m + 10 + 20 * k) ∧ w.grownBy wr (some p)) (fun _ n _ => (intOf n).toNat)
  case atStart => exact ⟨q0, 0, [], by omega, rfl, O1.out, HC1.out.more (by omega), G1.out⟩
  case round =>
    obtain ⟨q, k, zs, hq, rfl, ho, hc, hg⟩ := hrel
    clear HC1 G1 O1
    by_cases hlt : 0 < q
    · have hlt2 : (0 : Int) < (q : Int) := by omega
      go_wp2_with fail
      refine (frame p _ _ hc (by omega)).mono ?_
      rintro e w2 ⟨K, A, D, rfl, -, hc2, hg2⟩
      have ho2 := own_kept ho hg2 (fun g e => by cases e; exact hp)
      have hgg := grown_trans hg hg2
      have hs2 := hgg.size
      clear ho hc hg hg2
      go_wp2_with (at_builtin; refine wpList_append_own _ rfl (.tmp 13) (.tmp 16) 30 rfl w.heap.size 25 i0 (.agg #[.int .i64 0, .int .i64 0, .int .i64 0]) 3 24 Try.underlying30 hi hz0 hz1 hz2 rfl (by decide) _ k (cellsI zs) rfl (ho2.alloc _) ⟨w2.heap.size, 0, none⟩ 1 1 [.int .i64 K, .int .i64 A, .int .i64 D] rfl rfl (cells_three _ _ _ _ _) (by intro u hu; simp at hu; rcases hu with rfl | rfl | rfl <;> rfl) (by unfold maxLen; omega) (by omega) (by simp; omega) ?_; intro v' w3 hown' hgrow hnil)
      have hc3 := Lib.hid (cur_append hc2 ho2 hp hs2 hgrow)
      have hg3 := Lib.hid (grown_append hgg ho2 (Nat.le_refl _) hgrow)
      have HO := Lib.hid (own_grow3 hown')
      clear hown' hgrow hnil ho2 hc2 hgg hs2
      go_roundw
      case rel => exact ⟨q - 1, k + 1, _, by omega, by go_num, HO.out, hc3.out.more (by omega), hg3.out⟩
      case measure => simp [intOf]; omega
    · obtain rfl : q = 0 := by omega
      go_wp2_with fail
      refine (pick p _ 24 wr hc (by omega) (by omega) (by omega)).mono ?_
      rintro e w2 ⟨i, rfl, i0', i1', hc2, hg2⟩
      have ho2 := own_kept ho hg2 (fun g e => by cases e; exact hp)
      have hgg := grown_trans hg hg2
      have hs2 := hgg.size
      clear ho hc hg hg2
      by_cases h0 : i = 0
      · subst h0
        go_wp2_with fail
        refine (anyFrame p _ w2 hc2 (by omega)).mono ?_
        rintro e w3 ⟨K, A, D, rfl, -, hc3, hg3⟩
        have ho3 := own_kept ho2 hg3 (fun g e => by cases e; exact hp)
        have hg4 := grown_trans hgg hg3
        have hs3 := hg4.size
        clear ho2 hc2 hgg hg3 hs2
        go_wp2_with (at_builtin; refine wpList_append_own _ rfl (.tmp 22) (.tmp 25) 30 rfl w.heap.size 25 i0 (.agg #[.int .i64 0, .int .i64 0, .int .i64 0]) 3 24 Try.underlying30 hi hz0 hz1 hz2 rfl (by decide) _ k (cellsI zs) rfl (ho3.alloc _) ⟨w3.heap.size, 0, none⟩ 1 1 [.int .i64 K, .int .i64 A, .int .i64 D] rfl rfl (cells_three _ _ _ _ _) (by intro u hu; simp at hu; rcases hu with rfl | rfl | rfl <;> rfl) (by unfold maxLen; omega) (by omega) (by simp; omega) ?_; intro v' w5 hown' hgrow hnil)
        have HC := Lib.hid (cur_append hc3 ho3 hp hs3 hgrow)
        have HG := Lib.hid (grown_append hg4 ho3 (Nat.le_refl _) hgrow)
        have HO := Lib.hid (own_grow3 hown')
        clear hown' hgrow hnil ho3 hc3 hg4 hs3
        go_ret
        exact ⟨v', k + 1, _, rfl, HO.out, by omega, HC.out.more (by omega), HG.out⟩
      · have d0 : (i == 0) = false := by simpa using h0
        by_cases h1 : i = 1
        · subst h1
          go_wp2_with fail
          go_loopw [3, 5] (fun v j wr => ∃ (j' k : Nat) (zs : List Int), j = .int .i64 j' ∧ j' ≤ 22 ∧ k ≤ 21 ∧ wr.ownsRow w.heap.size 25 3 v k (cellsI zs) ∧ (∃ A c, v = .slice A k c) ∧ Cur wr p (m + 200 + 2 * j') ∧ w.grownBy wr (some p)) (fun _ j _ => 22 - (intOf j).toNat)
          case atStart => exact ⟨0, k, zs, rfl, by omega, by omega, ho2, own_any ho2, hc2.more (by omega), hgg⟩
          case round =>
            obtain ⟨j', k, zs, rfl, hj, hk, ho, ⟨A0, c0, rfl⟩, hc, hg⟩ := hrel
            have hk2 : (k : Int) ≤ 21 := by omega
            clear ho2 hc2 hgg hs2
            go_wp2_with fail
            refine (pick p _ 2 wr hc (by omega) (by omega) (by omega)).mono ?_
            rintro e w3 ⟨t, rfl, t0, t1, hc3, hg3⟩
            have ho3 := own_kept ho hg3 (fun g e => by cases e; exact hp)
            have hg4 := grown_trans hg hg3
            have hs3 := hg4.size
            clear ho hc hg hg3
            by_cases ht : (k : Int) < 20 + t
            · by_cases hj2 : (j' : Int) < 22
              · go_wp2_with (at_builtin; refine wpList_append_own _ rfl (.tmp 41) (.tmp 43) 30 rfl w.heap.size 25 i0 (.agg #[.int .i64 0, .int .i64 0, .int .i64 0]) 3 24 Try.underlying30 hi hz0 hz1 hz2 rfl (by decide) _ k (cellsI zs) rfl (ho3.alloc _) ⟨w3.heap.size, 0, none⟩ 1 1 [.int .i64 1, .int .i64 7, .int .i64 0] rfl rfl (cells_three _ _ _ _ _) (by intro u hu; simp at hu; rcases hu with rfl | rfl | rfl <;> rfl) (by unfold maxLen; omega) (by omega) (by simp; omega) ?_; intro v' w5 hown' hgrow hnil)
                have HC := Lib.hid (cur_append hc3 ho3 hp hs3 hgrow)
                have HG := Lib.hid (grown_append hg4 ho3 (Nat.le_refl _) hgrow)
                have HO := Lib.hid (own_grow3 hown')
                clear hown' hgrow hnil ho3 hc3 hg4 hs3
                go_roundw
                case rel => exact ⟨j' + 1, k + 1, _, by go_num, by omega, by omega, HO.out, own_any HO.out, HC.out.more (by omega), HG.out⟩
                case measure => simp [intOf]; omega
              · go_wp2_with fail
                go_ret
                exact ⟨_, k, zs, rfl, ho3, by omega, hc3.more (by omega), hg4⟩
            · go_wp2_with fail
              go_ret
              exact ⟨_, k, zs, rfl, ho3, by omega, hc3.more (by omega), hg4⟩
        · have d1 : (i == 1) = false := by simpa using h1
          go_wp2_with fail
          go_ret
          exact ⟨_, k, zs, rfl, ho2, by omega, hc2.more (by omega), hgg⟩

theorem addressesOf (A : Option Addr) (n c : Nat) (w : World) (hn : n ≤ 65536) (h : Bytes w w.heap.size A n) :
    Calls Try.prog 19 #[.slice A n c] w fun e w' => ∃ v k zs, e = .returned v ∧ w'.ownsRow w.heap.size 25 3 v k (cellsI zs) ∧ k ≤ 22 ∧ Below w.heap.size w w' := by
  have hc := Lib.hid (new_cur c (by omega) h)
  have hb0 : Below w.heap.size w (w.alloc (.cells #[.slice A n c, .int .i64 0, .int .u64 0] 63)) := (Below.refl _ _).alloc (Nat.le_refl _) _
  clear h
  go_enter Try.func19, Try.ntmps19
  go_wp2_with fail
  refine (frames _ 0 _ hc.out (by omega)).mono ?_
  rintro e w1 ⟨v, k, zs, rfl, ho, hk, hc1, hg1⟩
  have hb1 := below_of_grown hb0 hg1
  have HO := Lib.hid (own_.own_base ho hb0.size)
  clear ho hc1 hg1
  go_wp2_with fail
  go_ret
  exact ⟨v, k, zs, rfl, HO.out, hk, hb1⟩

theorem framesOf (A : Option Addr) (n c : Nat) (w : World) (hn : n ≤ 65536) (h : Bytes w w.heap.size A n) :
    Calls Try.prog 15 #[.slice A n c] w fun e w' => ∃ v k zs x, e = .returned (.tuple #[v, .int .i64 x]) ∧ w'.ownsRow w.heap.size 25 3 v k (cellsI zs) ∧ k ≤ 22 ∧ 0 ≤ x ∧ x ≤ 65536 ∧ Below w.heap.size w w' := by
  have hc := Lib.hid (new_cur c (by omega) h)
  have hb0 : Below w.heap.size w (w.alloc (.cells #[.slice A n c, .int .i64 0, .int .u64 0] 63)) := (Below.refl _ _).alloc (Nat.le_refl _) _
  have hsz : (w.alloc (.cells #[.slice A n c, .int .i64 0, .int .u64 0] 63)).heap.size = w.heap.size + 1 := World.size_alloc _ _
  clear h
  go_enter Try.func15, Try.ntmps15
  go_wp2_with fail
  refine (frames _ 0 _ hc.out (by omega)).mono ?_
  rintro e w1 ⟨v, k, zs, rfl, ho, hk, hc1, hg1⟩
  have hb1 := below_of_grown hb0 hg1
  have HC1 := Lib.hid hc1
  have HO1 := Lib.hid ho
  clear ho hc1 hg1
  go_wp2_with fail
  refine (among_new 0 65536 _ _ 8 [1, 2, 255, 65535, 9, 0, 65536, 4660] _ w1 HC1.out (by omega) (by omega) (by omega) rfl rfl (by decide)).mono ?_
  rintro e w2 ⟨x, rfl, x0, x1, hc2, hg2⟩
  have hb2 := below_of_grown hb1 hg2
  have HO := Lib.hid (own_.own_base (own_kept HO1.out hg2 (fun g e => by cases e; omega)) hb0.size)
  clear hc2 hg2 HO1 HC1
  go_wp2_with fail
  go_ret2
  exact ⟨v, k, zs, x, rfl, HO.out, hk, x0, x1, hb2⟩
end Go.Proofs.Ytpjpdfannnafbaa.drawy
