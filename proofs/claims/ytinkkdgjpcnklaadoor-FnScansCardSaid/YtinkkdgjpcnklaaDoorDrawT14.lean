/- spec's draw of a list of tracks. -/
import Derived.Test.YtinkkdgjpcnklaaDoorDrawS14
namespace Go.Proofs.YtinkkdgjpcnklaaDoor.drawt14
open Go.RowKit Go.Proofs.YtinkkdgjpcnklaaDoor.cur Go.Proofs.YtinkkdgjpcnklaaDoor.atc Go.Proofs.YtinkkdgjpcnklaaDoor.ats Go.Proofs.YtinkkdgjpcnklaaDoor.ints Go.Proofs.YtinkkdgjpcnklaaDoor.lst Go.Proofs.YtinkkdgjpcnklaaDoor.code_ Go.Proofs.YtinkkdgjpcnklaaDoor.draws14 Go.Proofs.YtinkkdgjpcnklaaDoor.trk

theorem infoT : (Tryd.prog.info? 38).map (fun i => (i.zero, i.size, i.bytes)) = some (some (.agg #[.int .i64 0, .int .i64 0, .int .i64 0, .int .i64 0, .int .i64 0, .int .i64 0]), 6, 48) := by kernel_rfl
theorem six_cells (a b c d e f : Int) : ∀ u ∈ [Value.int .i64 a, .int .i64 b, .int .i64 c, .int .i64 d, .int .i64 e, .int .i64 f], u.oneCell' = true := by
  intro u hu
  simp at hu
  rcases hu with rfl | rfl | rfl | rfl | rfl | rfl <;> rfl
theorem grown_append {w wr w1 : World} {o : Obj} {p B e size n : Nat} {v : Value} {xs : List Value} (hg : w.grownBy wr (some p)) (h : wr.ownsRow B e size v n xs) (hB : w.heap.size ≤ B) (ha : (wr.alloc o).grownBy w1 v.ownBlock) : w.grownBy w1 (some p) :=
  ⟨ha.os.trans hg.os, ha.tape.trans hg.tape, ha.output.trans hg.output, Nat.le_trans hg.size (Nat.le_trans (by rw [World.size_alloc]; omega) ha.size), fun k hk hne => by
    have h1 := ha.block k (by have := hg.size; rw [World.size_alloc]; omega) (fun e => by have := own_.row_ge h k e.symm; omega)
    have h2 : (wr.alloc o).heap[k]? = wr.heap[k]? := Below.heap_alloc wr o k (by have := hg.size; omega)
    exact h1.trans (h2.trans (hg.block k hk hne))⟩
theorem cur_append {wr w1 : World} {o : Obj} {p m B e size n : Nat} {v : Value} {xs : List Value} (hc : Cur wr p m) (h : wr.ownsRow B e size v n xs) (hB : p < B) (hs : B ≤ wr.heap.size) (ha : (wr.alloc o).grownBy w1 v.ownBlock) : Cur w1 p m :=
  hc.keep (((Below.refl (p + 1) wr).alloc (by omega) o).grown ha (by rw [World.size_alloc]; omega) (fun k e => by have := own_.row_ge h k e; omega))
theorem own_grow6 {w : World} {B e n : Nat} {v : Value} {xs : List Int} {x0 x1 x2 x3 x4 x5 : Int} (h : w.ownsRow B e 6 v (n + 1) (cellsI xs ++ [.int .i64 x0, .int .i64 x1, .int .i64 x2, .int .i64 x3, .int .i64 x4, .int .i64 x5])) : w.ownsRow B e 6 v (n + 1) (cellsI (xs ++ [x0, x1, x2, x3, x4, x5])) := by
  unfold cellsI at h ⊢
  rw [List.map_append]
  exact h
theorem own_len6 {w : World} {B e n : Nat} {v : Value} {xs : List Int} (h : w.ownsRow B e 6 v n (cellsI xs)) : xs.length = n * 6 := by have := h.1; unfold cellsI at this; simpa using this
def lenV : Value → Nat
  | .slice _ k _ => k
  | _ => 0
def TracksQ (p m : Nat) (w : World) (e : Ending) (w' : World) : Prop := ∃ v n zs, e = .returned v ∧ w'.ownsRow w.heap.size 38 6 v n (cellsI zs) ∧ n ≤ 9 ∧ Cur w' p m ∧ w.grownBy w' (some p)

set_option maxRecDepth 100000 in
set_option maxHeartbeats 16000000 in
theorem tracks (p m : Nat) (w : World) (h : Cur w p m) (hm : m ≤ 100000) :
    Calls Tryd.prog 18 #[.pointer (some ⟨p, 0, none⟩)] w (TracksQ p (m + 400) w) := by
  have hp := h.lt
  obtain ⟨i0, hi, hz0, hz1, hz2⟩ := info_parts infoT
  have O0 := Lib.hid (own_emptyZ w 38 6)
  have C0 := Lib.hid (h.keep ((Below.refl (p + 1) w).alloc (by omega) (.cells #[] 38)))
  have G0 := Lib.hid (show w.grownBy (w.alloc (.cells #[] 38)) (some p) from grown_alloc _ _)
  clear h
  go_enter Tryd.func18, Tryd.ntmps18
  go_upto_region 2 with fail
  generalize w.alloc (.cells #[] 38) = W at *
  go_wp2_with fail
  refine (pick p _ 6 W C0.out (by omega) (by omega) (by omega)).mono ?_
  rintro e w1 ⟨r, rfl, r0, r1, hcN, hgN⟩
  have O2 := Lib.hid (own_kept O0.out hgN (fun g e => by cases e; exact hp))
  have C2 := Lib.hid hcN
  have G2 := Lib.hid (grown_trans G0.out hgN)
  clear hcN hgN O0 C0 G0
  obtain ⟨q0, rfl⟩ := Int.eq_ofNat_of_zero_le r0
  go_wp2_with fail
  go_loopw [3, 4, 5, 6] (fun v av nv _ wr => ∃ (t k : Nat) (a : Int) (zs : List Int), t + k ≤ 5 ∧ nv = .int .i64 (t : Int) ∧ av = .int .i64 a ∧ 0 ≤ a ∧ a + 3 * t ≤ 15 ∧ wr.ownsRow w.heap.size 38 6 v k (cellsI zs) ∧ Cur wr p (m + 220 - 40 * t) ∧ w.grownBy wr (some p)) (fun _ _ nv _ _ => (intOf nv).toNat)
  case atStart => exact ⟨q0, 0, 0, [], by omega, rfl, rfl, by omega, by omega, O2.out, C2.out.more (by omega), G2.out⟩
  case round =>
    obtain ⟨t, k, a, zs, ht, rfl, rfl, a0, a1, ho, hc, hg⟩ := hrel
    clear O2 C2 G2
    have O3 := Lib.hid ho
    have C3 := Lib.hid hc
    have G3 := Lib.hid hg
    clear ho hc hg
    by_cases hlt : 0 < t
    · have hlt2 : (0 : Int) < (t : Int) := by omega
      have e4 : IntKind.i64.wrap ((t : Int) - 1) = (t : Int) - 1 := IntWalk.i64_in _ (by omega)
      have e1 : IntKind.i64.wrap (a + 1) = a + 1 := IntWalk.i64_in _ (by omega)
      go_wp2_with fail
      refine (track p _ wr C3.out (by omega)).mono ?_
      rintro e w4 ⟨x0, x1, x2, x3, x4, x5, rfl, hcN, hgN⟩
      have O4 := Lib.hid (own_kept O3.out hgN (fun g e => by cases e; exact hp))
      have G4 := Lib.hid (grown_trans G3.out hgN)
      have C5 := Lib.hid (Cur.alloc hcN (.cells #[.int .i64 x0, .int .i64 x1, .int .i64 x2, .int .i64 x3, .int .i64 x4, .int .i64 x5] 38))
      have hbp : p < w4.heap.size := hcN.lt
      have hwb : w.heap.size ≤ w4.heap.size := G4.out.size
      have HOB := Lib.hid (fun g (e : Value.ownBlock _ = some g) => own_row_lt O4.out g e)
      have O5 := Lib.hid (O4.out.alloc (.cells #[.int .i64 x0, .int .i64 x1, .int .i64 x2, .int .i64 x3, .int .i64 x4, .int .i64 x5] 38))
      have G5 := Lib.hid (grown_trans G4.out (grown_alloc (.cells #[.int .i64 x0, .int .i64 x1, .int .i64 x2, .int .i64 x3, .int .i64 x4, .int .i64 x5] 38) (some p)))
      have BX := Lib.hid (Blk.new 38 #[.int .i64 x0, .int .i64 x1, .int .i64 x2, .int .i64 x3, .int .i64 x4, .int .i64 x5] w4)
      clear hcN hgN O3 C3 G3 O4 G4
      go_upto_region 7 with fail
      generalize w4.alloc (.cells #[.int .i64 x0, .int .i64 x1, .int .i64 x2, .int .i64 x3, .int .i64 x4, .int .i64 x5] 38) = w5 at *
      generalize w4.heap.size = bx at *
      go_wp2_with fail
      refine (pick p _ 3 w5 C5.out (by omega) (by omega) (by omega)).mono ?_
      rintro e w6 ⟨r, rfl, r0, r1, hcN, hgN⟩
      have O6 := own_kept O5.out hgN (fun g e => by cases e; exact hp)
      have BX6 := BX.out.grown hgN (Nat.ne_of_gt hbp)
      have e2 : IntKind.i64.wrap (a + 1 + r) = a + 1 + r := IntWalk.i64_in _ (by omega)
      have O7 := Lib.hid (own_kept_at O6 (lst.grown_set (lst.grown_refl w6 (some bx)) 0 (.int .i64 (a + 1 + r))) (fun g e1 e2 => by injection e2 with e2; have := HOB.out g e1; omega))
      have C7 := Lib.hid (Cur.set hcN hbp (i := 0) (v := .int .i64 (a + 1 + r)))
      have G7 := Lib.hid (grown_put (grown_trans G5.out hgN) hwb (i := 0) (v := .int .i64 (a + 1 + r)))
      have B7 := Lib.hid (BX6.set 0 (.int .i64 (a + 1 + r)))
      have BX := Lib.hid BX6
      clear hcN hgN O6 BX6 O5 C5 G5
      have b0 : w6.cell? ⟨bx, 0, none⟩ = some (.int .i64 x0) := BX.out.cell 0 _ rfl
      have bf0 := BX.out.frozen 0
      have b1 : w6.cell? ⟨bx, 1, none⟩ = some (.int .i64 x1) := BX.out.cell 1 _ rfl
      have bf1 := BX.out.frozen 1
      have b2 : w6.cell? ⟨bx, 2, none⟩ = some (.int .i64 x2) := BX.out.cell 2 _ rfl
      have bf2 := BX.out.frozen 2
      have b3 : w6.cell? ⟨bx, 3, none⟩ = some (.int .i64 x3) := BX.out.cell 3 _ rfl
      have bf3 := BX.out.frozen 3
      have b4 : w6.cell? ⟨bx, 4, none⟩ = some (.int .i64 x4) := BX.out.cell 4 _ rfl
      have bf4 := BX.out.frozen 4
      have b5 : w6.cell? ⟨bx, 5, none⟩ = some (.int .i64 x5) := BX.out.cell 5 _ rfl
      have bf5 := BX.out.frozen 5
      go_upto_region 9 with fail
      clear b0 bf0 b1 bf1 b2 bf2 b3 bf3 b4 bf4 b5 bf5
      generalize w6.setCell ⟨bx, 0, none⟩ (.int .i64 (a + 1 + r)) = w7 at *
      have BX := Lib.hid (show Blk 38 #[.int .i64 (a + 1 + r), .int .i64 x1, .int .i64 x2, .int .i64 x3, .int .i64 x4, .int .i64 x5] w7 bx from B7.out)
      clear B7
      have b0 : w7.cell? ⟨bx, 0, none⟩ = some (.int .i64 (a + 1 + r)) := BX.out.cell 0 _ rfl
      have b1 : w7.cell? ⟨bx, 1, none⟩ = some (.int .i64 x1) := BX.out.cell 1 _ rfl
      have b2 : w7.cell? ⟨bx, 2, none⟩ = some (.int .i64 x2) := BX.out.cell 2 _ rfl
      have b3 : w7.cell? ⟨bx, 3, none⟩ = some (.int .i64 x3) := BX.out.cell 3 _ rfl
      have b4 : w7.cell? ⟨bx, 4, none⟩ = some (.int .i64 x4) := BX.out.cell 4 _ rfl
      have b5 : w7.cell? ⟨bx, 5, none⟩ = some (.int .i64 x5) := BX.out.cell 5 _ rfl
      go_wp2_with fail
      refine (trks.good14 (a + 1 + r) x1 x2 x3 x4 x5 w7).mono ?_
      rintro e w8 ⟨rfl, hb⟩
      clear b0 b1 b2 b3 b4 b5
      have O8 := Lib.hid (own_.own_below O7.out hb)
      have C8 := Lib.hid (Cur.below C7.out hb)
      have G8 := Lib.hid (grown_trans G7.out (grown_below hb))
      have BX := Lib.hid (BX.out.below hb)
      clear hb O7 C7 G7
      generalize tkB (a + 1 + r) x1 x2 x3 x4 x5 = bb at *
      cases bb
      · go_wp2_with fail
        refine (one p _ 12 w8 C8.out (by omega) (by omega) (by omega)).mono ?_
        rintro e wa ⟨b, rfl, hcN, hgN⟩
        have OA := Lib.hid (own_kept O8.out hgN (fun g e => by cases e; exact hp))
        have CA := Lib.hid hcN
        have GA := Lib.hid (grown_trans G8.out hgN)
        have BX := Lib.hid (BX.out.grown hgN (Nat.ne_of_gt hbp))
        clear hcN hgN O8 C8 G8
        cases b
        · go_wp2_with fail
          go_roundw
          case rel => exact ⟨t - 1, k, a + 1 + r, zs, by omega, (by show Value.int .i64 _ = Value.int .i64 _; congr 1; omega), rfl, by omega, by omega, OA.out, CA.out.more (by omega), GA.out⟩
          case measure => simp [intOf]; omega
        · have HSZ := Lib.hid GA.out.size
          have b0 : wa.cell? ⟨bx, 0, none⟩ = some (.int .i64 (a + 1 + r)) := BX.out.cell 0 _ rfl
          have b1 : wa.cell? ⟨bx, 1, none⟩ = some (.int .i64 x1) := BX.out.cell 1 _ rfl
          have b2 : wa.cell? ⟨bx, 2, none⟩ = some (.int .i64 x2) := BX.out.cell 2 _ rfl
          have b3 : wa.cell? ⟨bx, 3, none⟩ = some (.int .i64 x3) := BX.out.cell 3 _ rfl
          have b4 : wa.cell? ⟨bx, 4, none⟩ = some (.int .i64 x4) := BX.out.cell 4 _ rfl
          have b5 : wa.cell? ⟨bx, 5, none⟩ = some (.int .i64 x5) := BX.out.cell 5 _ rfl
          go_wp2_with (at_builtin; refine wpList_append_own _ rfl (.tmp 30) (.tmp 32) 24 rfl w.heap.size 38 i0 (.agg #[.int .i64 0, .int .i64 0, .int .i64 0, .int .i64 0, .int .i64 0, .int .i64 0]) 6 48 Tryd.underlying24 hi hz0 hz1 hz2 rfl (by decide) _ k (cellsI zs) rfl (OA.out.alloc _) ⟨wa.heap.size, 0, none⟩ 1 1 [.int .i64 (a + 1 + r), .int .i64 x1, .int .i64 x2, .int .i64 x3, .int .i64 x4, .int .i64 x5] rfl rfl (cells_new _ _ #[.int .i64 (a + 1 + r), .int .i64 x1, .int .i64 x2, .int .i64 x3, .int .i64 x4, .int .i64 x5]) (six_cells _ _ _ _ _ _) (by unfold maxLen; omega) (by omega) (by rw [World.size_alloc]; have := HSZ.out; omega) ?_; intro v' w9 hown' hgrow hnil)
          have C9 := Lib.hid (cur_append CA.out OA.out hp HSZ.out hgrow)
          have G9 := Lib.hid (grown_append GA.out OA.out (Nat.le_refl _) hgrow)
          have O9 := Lib.hid (own_grow6 hown')
          clear hown' hgrow hnil OA CA GA HSZ
          go_wp2_with fail
          go_roundw
          case rel => exact ⟨t - 1, k + 1, a + 1 + r, _, by omega, (by show Value.int .i64 _ = Value.int .i64 _; congr 1; omega), rfl, by omega, by omega, O9.out, C9.out.more (by omega), G9.out⟩
          case measure => simp [intOf]; omega
      · have HSZ := Lib.hid G8.out.size
        have b0 : w8.cell? ⟨bx, 0, none⟩ = some (.int .i64 (a + 1 + r)) := BX.out.cell 0 _ rfl
        have b1 : w8.cell? ⟨bx, 1, none⟩ = some (.int .i64 x1) := BX.out.cell 1 _ rfl
        have b2 : w8.cell? ⟨bx, 2, none⟩ = some (.int .i64 x2) := BX.out.cell 2 _ rfl
        have b3 : w8.cell? ⟨bx, 3, none⟩ = some (.int .i64 x3) := BX.out.cell 3 _ rfl
        have b4 : w8.cell? ⟨bx, 4, none⟩ = some (.int .i64 x4) := BX.out.cell 4 _ rfl
        have b5 : w8.cell? ⟨bx, 5, none⟩ = some (.int .i64 x5) := BX.out.cell 5 _ rfl
        go_wp2_with (at_builtin; refine wpList_append_own _ rfl (.tmp 30) (.tmp 32) 24 rfl w.heap.size 38 i0 (.agg #[.int .i64 0, .int .i64 0, .int .i64 0, .int .i64 0, .int .i64 0, .int .i64 0]) 6 48 Tryd.underlying24 hi hz0 hz1 hz2 rfl (by decide) _ k (cellsI zs) rfl (O8.out.alloc _) ⟨w8.heap.size, 0, none⟩ 1 1 [.int .i64 (a + 1 + r), .int .i64 x1, .int .i64 x2, .int .i64 x3, .int .i64 x4, .int .i64 x5] rfl rfl (cells_new _ _ #[.int .i64 (a + 1 + r), .int .i64 x1, .int .i64 x2, .int .i64 x3, .int .i64 x4, .int .i64 x5]) (six_cells _ _ _ _ _ _) (by unfold maxLen; omega) (by omega) (by rw [World.size_alloc]; have := HSZ.out; omega) ?_; intro v' w9 hown' hgrow hnil)
        have C9 := Lib.hid (cur_append C8.out O8.out hp HSZ.out hgrow)
        have G9 := Lib.hid (grown_append G8.out O8.out (Nat.le_refl _) hgrow)
        have O9 := Lib.hid (own_grow6 hown')
        clear hown' hgrow hnil O8 C8 G8 HSZ
        go_wp2_with fail
        go_roundw
        case rel => exact ⟨t - 1, k + 1, a + 1 + r, _, by omega, (by show Value.int .i64 _ = Value.int .i64 _; congr 1; omega), rfl, by omega, by omega, O9.out, C9.out.more (by omega), G9.out⟩
        case measure => simp [intOf]; omega
    · obtain rfl : t = 0 := by omega
      go_wp2_with fail
      refine (pick p _ 24 wr C3.out (by omega) (by omega) (by omega)).mono ?_
      rintro e w4 ⟨i, rfl, i0', i1', hcN, hgN⟩
      have O4 := Lib.hid (own_kept O3.out hgN (fun g e => by cases e; exact hp))
      have C4 := Lib.hid hcN
      have G4 := Lib.hid (grown_trans G3.out hgN)
      clear hcN hgN O3 C3 G3
      by_cases h0 : i = 0
      · subst h0
        go_wp2_with fail
        refine (track p _ w4 C4.out (by omega)).mono ?_
        rintro e w5 ⟨x0, x1, x2, x3, x4, x5, rfl, hcN, hgN⟩
        have O5 := Lib.hid (own_kept O4.out hgN (fun g e => by cases e; exact hp))
        have C5 := Lib.hid hcN
        have G5 := Lib.hid (grown_trans G4.out hgN)
        have HSZ := Lib.hid G5.out.size
        clear hcN hgN O4 C4 G4
        go_wp2_with (at_builtin; refine wpList_append_own _ rfl (.tmp 38) (.tmp 41) 24 rfl w.heap.size 38 i0 (.agg #[.int .i64 0, .int .i64 0, .int .i64 0, .int .i64 0, .int .i64 0, .int .i64 0]) 6 48 Tryd.underlying24 hi hz0 hz1 hz2 rfl (by decide) _ k (cellsI zs) rfl (O5.out.alloc _) ⟨w5.heap.size, 0, none⟩ 1 1 [.int .i64 x0, .int .i64 x1, .int .i64 x2, .int .i64 x3, .int .i64 x4, .int .i64 x5] rfl rfl (cells_new _ _ #[.int .i64 x0, .int .i64 x1, .int .i64 x2, .int .i64 x3, .int .i64 x4, .int .i64 x5]) (six_cells _ _ _ _ _ _) (by unfold maxLen; omega) (by omega) (by rw [World.size_alloc]; have := HSZ.out; omega) ?_; intro v' w9 hown' hgrow hnil)
        have C9 := Lib.hid (cur_append C5.out O5.out hp HSZ.out hgrow)
        have G9 := Lib.hid (grown_append G5.out O5.out (Nat.le_refl _) hgrow)
        have O9 := Lib.hid (own_grow6 hown')
        clear hown' hgrow hnil O5 C5 G5 HSZ
        go_wp2_with fail
        go_ret
        exact ⟨_, k + 1, _, rfl, O9.out, by omega, C9.out.more (by omega), G9.out⟩
      have d0 : (i == 0) = false := by simpa using h0
      by_cases h1 : i = 1
      · subst h1
        obtain ⟨A4, c4, rfl⟩ := own_sliceZ O4.out
        go_wp2_with fail
        go_loopw [3, 7] (fun v nv wr => ∃ (l j : Nat) (A' : Option Addr) (c' : Nat) (ys : List Int), l ≤ 7 ∧ j ≤ 8 ∧ v = .slice A' l c' ∧ nv = .int .i64 (j : Int) ∧ wr.ownsRow w.heap.size 38 6 (.slice A' l c') l (cellsI ys) ∧ Cur wr p (m + 300 + 4 * j) ∧ w.grownBy wr (some p)) (fun _ nv _ => 8 - (intOf nv).toNat)
        case atStart => exact ⟨k, 0, A4, c4, zs, by omega, by omega, rfl, rfl, O4.out, C4.out.more (by omega), G4.out⟩
        case round =>
          obtain ⟨l, j, A', c', ys, hl7, hj8, rfl, rfl, ho, hc, hg⟩ := hrel
          clear O4 C4 G4
          go_wp2_with fail
          refine (pick p _ 2 wr hc (by omega) (by omega) (by omega)).mono ?_
          rintro e w7 ⟨r, rfl, r0, r1, hcN, hgN⟩
          have O7 := Lib.hid (own_kept ho hgN (fun g e => by cases e; exact hp))
          have C7 := Lib.hid hcN
          have G7 := Lib.hid (grown_trans hg hgN)
          have HSZ := Lib.hid G7.out.size
          have e5 : IntKind.i64.wrap (6 + r) = 6 + r := IntWalk.i64_in _ (by omega)
          have e6 : IntKind.i64.wrap ((j : Int) + 1) = ((j + 1 : Nat) : Int) := by rw [IntWalk.i64_in _ (by omega)]; omega
          have e7 : IntKind.i64.wrap (100 + (j : Int)) = 100 + (j : Int) := IntWalk.i64_in _ (by omega)
          clear ho hc hg hcN hgN
          by_cases hlt3 : (l : Int) < 6 + r
          · by_cases hj : (j : Int) < 8
            · go_wp2_with (at_builtin; refine wpList_append_own _ rfl (.tmp 57) (.tmp 61) 24 rfl w.heap.size 38 i0 (.agg #[.int .i64 0, .int .i64 0, .int .i64 0, .int .i64 0, .int .i64 0, .int .i64 0]) 6 48 Tryd.underlying24 hi hz0 hz1 hz2 rfl (by decide) _ l (cellsI ys) rfl (O7.out.alloc _) ⟨w7.heap.size, 0, none⟩ 1 1 [.int .i64 (100 + (j : Int)), .int .i64 1, .int .i64 0, .int .i64 0, .int .i64 1, .int .i64 0] rfl rfl (cells_new _ _ #[.int .i64 (100 + (j : Int)), .int .i64 1, .int .i64 0, .int .i64 0, .int .i64 1, .int .i64 0]) (six_cells _ _ _ _ _ _) (by unfold maxLen; omega) (by omega) (by rw [World.size_alloc]; have := HSZ.out; omega) ?_; intro v' w9 hown' hgrow hnil)
              have C9 := Lib.hid (cur_append C7.out O7.out hp HSZ.out hgrow)
              have G9 := Lib.hid (grown_append G7.out O7.out (Nat.le_refl _) hgrow)
              have O9 := Lib.hid (own_grow6 hown')
              clear hown' hgrow hnil O7 C7 G7 HSZ
              obtain ⟨A9, c9, rfl⟩ := own_sliceZ O9.out
              go_wp2_with fail
              go_roundw
              case rel => exact ⟨l + 1, j + 1, A9, c9, _, by omega, by omega, rfl, rfl, O9.out, C9.out.more (by omega), G9.out⟩
              case measure => simp [intOf]; omega
            · go_wp2_with fail
              go_ret
              exact ⟨_, l, ys, rfl, O7.out, by omega, C7.out.more (by omega), G7.out⟩
          · go_wp2_with fail
            go_ret
            exact ⟨_, l, ys, rfl, O7.out, by omega, C7.out.more (by omega), G7.out⟩
      have d1 : (i == 1) = false := by simpa using h1
      by_cases h2 : i = 2
      · subst h2
        go_wp2_with fail
        refine (among_new (999) 1000 p _ 2 [999, 1000] _ w4 C4.out (by omega) (by omega) (by omega) rfl rfl (by decide)).mono ?_
        rintro e w5 ⟨z, rfl, z0, z1, hcN, hgN⟩
        have O5 := Lib.hid (own_kept O4.out hgN (fun g e => by cases e; exact hp))
        have C5 := Lib.hid hcN
        have G5 := Lib.hid (grown_trans G4.out hgN)
        have HSZ := Lib.hid G5.out.size
        clear hcN hgN O4 C4 G4
        go_wp2_with (at_builtin; refine wpList_append_own _ rfl (.tmp 65) (.tmp 70) 24 rfl w.heap.size 38 i0 (.agg #[.int .i64 0, .int .i64 0, .int .i64 0, .int .i64 0, .int .i64 0, .int .i64 0]) 6 48 Tryd.underlying24 hi hz0 hz1 hz2 rfl (by decide) _ k (cellsI zs) rfl (O5.out.alloc _) ⟨w5.heap.size, 0, none⟩ 1 1 [.int .i64 z, .int .i64 2, .int .i64 0, .int .i64 0, .int .i64 9999, .int .i64 0] rfl rfl (cells_new _ _ #[.int .i64 z, .int .i64 2, .int .i64 0, .int .i64 0, .int .i64 9999, .int .i64 0]) (six_cells _ _ _ _ _ _) (by unfold maxLen; omega) (by omega) (by rw [World.size_alloc]; have := HSZ.out; omega) ?_; intro v' w9 hown' hgrow hnil)
        have C9 := Lib.hid (cur_append C5.out O5.out hp HSZ.out hgrow)
        have G9 := Lib.hid (grown_append G5.out O5.out (Nat.le_refl _) hgrow)
        have O9 := Lib.hid (own_grow6 hown')
        clear hown' hgrow hnil O5 C5 G5 HSZ
        go_wp2_with fail
        go_ret
        exact ⟨_, k + 1, _, rfl, O9.out, by omega, C9.out.more (by omega), G9.out⟩
      have d2 : (i == 2) = false := by simpa using h2
      go_wp2_with fail
      go_ret
      exact ⟨_, k, zs, rfl, O4.out, by omega, C4.out.more (by omega), G4.out⟩

end Go.Proofs.YtinkkdgjpcnklaaDoor.drawt14
