/- spec's draws of chapter 10: point, anyPoint, sites; DrawCoverOf, DrawCoveredPoints, DrawDropSite. -/
import Derived.Test.YtpbopiecfnedgabAtC
import Derived.Test.YtpbopiecfnedgabCode
import Derived.Test.YtpbopiecfnedgabSit
import Derived.Test.YtpbopiecfnedgabSitE
import Derived.Test.YtpbopiecfnedgabSitT
import Derived.Deep.AppendLies
import Derived.ChangeAlike
namespace Go.Proofs.Ytpbopiecfnedgab.draws10
open Go.RowKit Go.Proofs.Ytpbopiecfnedgab.cur Go.Proofs.Ytpbopiecfnedgab.atc Go.Proofs.Ytpbopiecfnedgab.ats Go.Proofs.Ytpbopiecfnedgab.ints Go.Proofs.Ytpbopiecfnedgab.lst Go.Proofs.Ytpbopiecfnedgab.sit Go.Proofs.Ytpbopiecfnedgab.code_

def PointQ (Q : Int → Int → Prop) (p m : Nat) (w : World) (e : Ending) (w' : World) : Prop := ∃ x y, e = .returned (.agg #[.int .i64 x, .int .i64 y]) ∧ Q x y ∧ Cur w' p m ∧ w.grownBy w' (some p)
def On (x y : Int) : Prop := (0 ≤ x ∧ x ≤ 30) ∧ 0 ≤ y ∧ y ≤ 30

set_option maxRecDepth 100000 in
set_option maxHeartbeats 2000000 in
theorem point (p m : Nat) (w : World) (h : Cur w p m) (hm : m ≤ 500000) :
    Calls Try.prog 103 #[.pointer (some ⟨p, 0, none⟩)] w (PointQ On p (m + 4) w) := by
  have hp := h.lt
  have C0 := Lib.hid (newC 32 #[.int .i64 0, .int .i64 0] hp)
  have HC0 := Lib.hid (Cur.alloc h (.cells #[.int .i64 0, .int .i64 0] 32))
  clear h
  go_enter Try.func103, Try.ntmps103
  go_wp2_with fail
  generalize w.alloc (.cells #[.int .i64 0, .int .i64 0] 32) = W at *
  refine (pick p m 31 W HC0.out (by omega) (by omega) (by omega)).mono ?_
  rintro e w1 ⟨x, rfl, x0, x1, hc1, hg1⟩
  have HC1 := Lib.hid hc1
  have C1 := Lib.hid (C0.out.old hg1)
  clear hc1 hg1 HC0 C0
  go_wp2_with fail
  refine (pick p (m + 2) 31 w1 HC1.out (by omega) (by omega) (by omega)).mono ?_
  rintro e w2 ⟨y, rfl, y0, y1, hc2, hg2⟩
  have HC2 := Lib.hid hc2
  have C2 := Lib.hid (C1.out.old hg2)
  clear hc2 hg2 HC1 C1
  have c0 : w2.cell? ⟨w.heap.size, 0, none⟩ = some (.int .i64 0) := C2.out.cell 0
  have c1 : w2.cell? ⟨w.heap.size, 1, none⟩ = some (.int .i64 0) := C2.out.cell 1
  have f0 : w2.frozen? ⟨w.heap.size, 0, none⟩ = false := C2.out.frozen 0
  have f1 : w2.frozen? ⟨w.heap.size, 1, none⟩ = false := C2.out.frozen 1
  have HE := Lib.hid ((C2.out.set 0 (.int .i64 x)).set 1 (.int .i64 y))
  have HB := Lib.hid (Cur.set (Cur.set HC2.out C2.out.2.2.1 (i := 0) (v := .int .i64 x)) C2.out.2.2.1 (i := 1) (v := .int .i64 y))
  have HV := Lib.hid (show On x y from ⟨⟨x0, by omega⟩, y0, by omega⟩)
  clear C2
  go_wp2_with fail
  have hl := HE.out.load Try.underlying32 rfl (by kernel_rfl)
  refine bodyPost_ret (v := .agg #[.int .i64 x, .int .i64 y]) ?_ rfl ⟨_, _, rfl, HV.out, HB.out.more (by omega), HE.out.1⟩
  rw [ats.results_cell1 rfl]
  simp [asAddr, Result.andThen, hl]

def Near (x y : Int) : Prop := (-1 ≤ x ∧ x ≤ 31) ∧ 0 ≤ y ∧ y ≤ 30
theorem On.near {x y : Int} (h : On x y) : Near x y := ⟨⟨by have := h.1.1; omega, by have := h.1.2; omega⟩, h.2⟩
theorem Near.ok {x y : Int} (h : Near x y) : okP x y := by
  unfold Near at h
  unfold okP; omega

set_option maxRecDepth 100000 in
set_option maxHeartbeats 2000000 in
theorem anyPoint (p m : Nat) (w : World) (h : Cur w p m) (hm : m ≤ 400000) :
    Calls Try.prog 89 #[.pointer (some ⟨p, 0, none⟩)] w (PointQ Near p (m + 20) w) := by
  have hp := h.lt
  have C0 := Lib.hid (newC 32 #[.int .i64 0, .int .i64 0] hp)
  have HC0 := Lib.hid (Cur.alloc h (.cells #[.int .i64 0, .int .i64 0] 32))
  clear h
  go_enter Try.func89, Try.ntmps89
  go_wp2_with fail
  generalize w.alloc (.cells #[.int .i64 0, .int .i64 0] 32) = W at *
  refine (point p m W HC0.out (by omega)).mono ?_
  rintro e w1 ⟨x, y, rfl, hv, hc1, hg1⟩
  have C1 := Lib.hid ((C0.out.old hg1).alloc (.cells #[.int .i64 x, .int .i64 y] 32))
  have F1 := Lib.hid ((C0.out.old hg1).next 32 #[.int .i64 x, .int .i64 y])
  have HLE := Lib.hid (show w.heap.size < w1.heap.size from (C0.out.old hg1).2.2.2.1)
  have HC1 := Lib.hid (Cur.alloc hc1 (.cells #[.int .i64 x, .int .i64 y] 32))
  have HV := Lib.hid hv
  clear hv hc1 hg1 HC0 C0
  go_wp2_with fail
  generalize w1.alloc (.cells #[.int .i64 x, .int .i64 y] 32) = W1 at *
  generalize w1.heap.size = b1 at *
  refine (one p (m + 4) 16 W1 HC1.out (by omega) (by omega) (by omega)).mono ?_
  rintro e w2 ⟨i, rfl, hc2, hg2⟩
  have C2 := Lib.hid (C1.out.old hg2)
  have F2 := Lib.hid (F1.out.old hg2)
  have HC2 := Lib.hid hc2
  clear hc2 hg2 C1 F1 HC1
  cases i
  · have c0 : w2.cell? ⟨w.heap.size, 0, none⟩ = some (.int .i64 0) := C2.out.cell 0
    have c1 : w2.cell? ⟨w.heap.size, 1, none⟩ = some (.int .i64 0) := C2.out.cell 1
    have f0 : w2.frozen? ⟨w.heap.size, 0, none⟩ = false := C2.out.frozen 0
    have f1 : w2.frozen? ⟨w.heap.size, 1, none⟩ = false := C2.out.frozen 1
    have q0 : w2.cell? ⟨b1, 0, none⟩ = some (.int .i64 x) := F2.out.cell 0
    have q1 : w2.cell? ⟨b1, 1, none⟩ = some (.int .i64 y) := F2.out.cell 1
    have HE := Lib.hid ((C2.out.set 0 (.int .i64 x)).set 1 (.int .i64 y))
    have HB := Lib.hid (Cur.set (Cur.set HC2.out C2.out.2.2.1 (i := 0) (v := .int .i64 x)) C2.out.2.2.1 (i := 1) (v := .int .i64 y))
    clear C2 F2 HC2
    go_wp2_with fail
    have hl := HE.out.load Try.underlying32 rfl (by kernel_rfl)
    refine bodyPost_ret (v := .agg #[.int .i64 x, .int .i64 y]) ?_ rfl ⟨_, _, rfl, HV.out.near, HB.out.more (by omega), HE.out.1⟩
    rw [ats.results_cell1 rfl]
    simp [asAddr, Result.andThen, hl]
  · go_wp2_with fail
    refine (among_new (-1) 31 p (m + 6) 3 [-1, 31, 30] _ w2 HC2.out (by omega) (by omega) (by omega) rfl rfl (by decide)).mono ?_
    rintro e w3 ⟨z, rfl, z0, z1, hc3, hg3⟩
    have C3 := C2.out.old hg3
    have F3 := F2.out.old hg3
    have y0 : w3.cell? ⟨b1, 0, none⟩ = some (.int .i64 x) := F3.cell 0
    have y1 : w3.frozen? ⟨b1, 0, none⟩ = false := F3.frozen 0
    have C4 := Lib.hid (C3.other (b' := b1) HLE.out 0 (.int .i64 z))
    have F4 := Lib.hid (F3.set 0 (.int .i64 z))
    have HC4 := Lib.hid (Cur.set hc3 F3.2.2.1 (i := 0) (v := .int .i64 z))
    have c0 : (w3.setCell ⟨b1, 0, none⟩ (.int .i64 z)).cell? ⟨w.heap.size, 0, none⟩ = some (.int .i64 0) := C4.out.cell 0
    have c1 : (w3.setCell ⟨b1, 0, none⟩ (.int .i64 z)).cell? ⟨w.heap.size, 1, none⟩ = some (.int .i64 0) := C4.out.cell 1
    have f0 : (w3.setCell ⟨b1, 0, none⟩ (.int .i64 z)).frozen? ⟨w.heap.size, 0, none⟩ = false := C4.out.frozen 0
    have f1 : (w3.setCell ⟨b1, 0, none⟩ (.int .i64 z)).frozen? ⟨w.heap.size, 1, none⟩ = false := C4.out.frozen 1
    have q0 : (w3.setCell ⟨b1, 0, none⟩ (.int .i64 z)).cell? ⟨b1, 0, none⟩ = some (.int .i64 z) := F4.out.cell 0
    have q1 : (w3.setCell ⟨b1, 0, none⟩ (.int .i64 z)).cell? ⟨b1, 1, none⟩ = some (.int .i64 y) := F4.out.cell 1
    have HE := Lib.hid ((C4.out.set 0 (.int .i64 z)).set 1 (.int .i64 y))
    have HB := Lib.hid (Cur.set (Cur.set HC4.out C4.out.2.2.1 (i := 0) (v := .int .i64 z)) C4.out.2.2.1 (i := 1) (v := .int .i64 y))
    clear hc3 hg3 C2 F2 HC2 C3 F3 C4 F4 HC4
    go_wp2_with fail
    have hl := HE.out.load Try.underlying32 rfl (by kernel_rfl)
    refine bodyPost_ret (v := .agg #[.int .i64 z, .int .i64 y]) ?_ rfl ⟨_, _, rfl, ⟨⟨z0, z1⟩, HV.out.2⟩, HB.out.more (by omega), HE.out.1⟩
    rw [ats.results_cell1 rfl]
    simp [asAddr, Result.andThen, hl]

theorem grown_append {w wr w1 : World} {o : Obj} {p B e size n : Nat} {v : Value} {xs : List Value} (hg : w.grownBy wr (some p)) (h : wr.ownsRow B e size v n xs) (hB : w.heap.size ≤ B) (ha : (wr.alloc o).grownBy w1 v.ownBlock) : w.grownBy w1 (some p) :=
  ⟨ha.os.trans hg.os, ha.tape.trans hg.tape, ha.output.trans hg.output, Nat.le_trans hg.size (Nat.le_trans (by rw [World.size_alloc]; omega) ha.size), fun k hk hne => by
    have h1 := ha.block k (by have := hg.size; rw [World.size_alloc]; omega) (fun e => by have := own_.row_ge h k e.symm; omega)
    have h2 : (wr.alloc o).heap[k]? = wr.heap[k]? := Below.heap_alloc wr o k (by have := hg.size; omega)
    exact h1.trans (h2.trans (hg.block k hk hne))⟩
theorem cur_append {wr w1 : World} {o : Obj} {p m B e size n : Nat} {v : Value} {xs : List Value} (hc : Cur wr p m) (h : wr.ownsRow B e size v n xs) (hB : p < B) (hs : B ≤ wr.heap.size) (ha : (wr.alloc o).grownBy w1 v.ownBlock) : Cur w1 p m :=
  hc.keep (((Below.refl (p + 1) wr).alloc (by omega) o).grown ha (by rw [World.size_alloc]; omega) (fun k e => by have := own_.row_ge h k e; omega))
theorem cells_two (w : World) (x y : Int) (t : TypeId) : ∀ j u, [Value.int .i64 x, Value.int .i64 y][j]? = some u → (w.alloc (.cells #[.int .i64 x, .int .i64 y] t)).cell? ((⟨w.heap.size, 0, none⟩ : Addr).add j) = some u :=
  World.news_of_block (cs := #[.int .i64 x, .int .i64 y]) (t := t) (fr := (0, 0)) (heap_alloc_new w _)
theorem own_grow2 {w : World} {B e n : Nat} {v : Value} {xs : List Int} {x y : Int} (h : w.ownsRow B e 2 v (n + 1) (cellsI xs ++ [.int .i64 x, .int .i64 y])) : w.ownsRow B e 2 v (n + 1) (cellsI (xs ++ [x, y])) := by
  unfold cellsI at h ⊢
  rw [List.map_append]
  exact h
theorem own_len {w : World} {B e n : Nat} {v : Value} {xs : List Int} (h : w.ownsRow B e 2 v n (cellsI xs)) : xs.length = n * 2 := by have := h.1; unfold cellsI at this; simpa using this
theorem own_cap {w : World} {B e n : Nat} {v : Value} {xs : List Value} (h : w.ownsRow B e 2 v n xs) : ∃ A c, v = .slice A n c ∧ n ≤ c := by
  rcases h.2 with ⟨rfl, h0⟩ | ⟨g, cap, cur, rfl, _, _, hle, _⟩
  · exact ⟨_, _, by rw [h0], by omega⟩
  · exact ⟨_, _, rfl, hle⟩
theorem okL_app {zs : List Int} {n : Nat} {x y : Int} (hl : zs.length = n * 2) (h : okL zs n) (hp : okP x y) : okL (zs ++ [x, y]) (n + 1) := by
  intro k hk
  unfold fld
  by_cases e : k < n
  · have := h k e
    unfold fld at this
    rw [List.getD_eq_getElem?_getD, List.getD_eq_getElem?_getD, List.getElem?_append_left (by omega), List.getElem?_append_left (by omega), ← List.getD_eq_getElem?_getD, ← List.getD_eq_getElem?_getD]
    exact this
  · obtain rfl : k = n := by omega
    rw [List.getD_eq_getElem?_getD, List.getD_eq_getElem?_getD, List.getElem?_append_right (by omega), List.getElem?_append_right (by omega), hl, show k * 2 + 0 - k * 2 = 0 by omega, show k * 2 + 1 - k * 2 = 1 by omega]
    exact hp
def SitesQ (p m : Nat) (w : World) (e : Ending) (w' : World) : Prop := ∃ v n zs, e = .returned v ∧ w'.ownsRow w.heap.size 32 2 v n (cellsI zs) ∧ n ≤ 6 ∧ okL zs n ∧ Cur w' p m ∧ w.grownBy w' (some p)
/-- The six sites that are written out. -/
def six : List Int := [0, 0, 30, 0, 0, 30, 30, 30, 15, 15, 3, 4]
theorem own_six (w : World) (n : Nat) (h : n ≤ 6) : (w.alloc (.cells #[.int .i64 0, .int .i64 0, .int .i64 30, .int .i64 0, .int .i64 0, .int .i64 30, .int .i64 30, .int .i64 30, .int .i64 15, .int .i64 15, .int .i64 3, .int .i64 4] 32)).ownsRow w.heap.size 32 2 (.slice (some ⟨w.heap.size, 0, none⟩) n 6) n (cellsI (six.take (n * 2))) := by
  refine ⟨by unfold cellsI six; simp; omega, .inr ⟨w.heap.size, 6, _, rfl, Nat.le_refl _, heap_alloc_new w _, h, by unfold maxLen; omega, rfl, ?_⟩⟩
  unfold cellsI
  rw [List.map_take]
  rfl
theorem six_ok (n : Nat) (h : n ≤ 6) : okL (six.take (n * 2)) n := by
  intro k hk
  unfold fld
  rw [List.getD_eq_getElem?_getD, List.getD_eq_getElem?_getD, List.getElem?_take, List.getElem?_take, if_pos (by omega), if_pos (by omega)]
  have : k = 0 ∨ k = 1 ∨ k = 2 ∨ k = 3 ∨ k = 4 ∨ k = 5 := by omega
  rcases this with rfl | rfl | rfl | rfl | rfl | rfl <;> (unfold okP six; simp)

set_option maxRecDepth 100000 in
set_option maxHeartbeats 8000000 in
theorem sites (p m : Nat) (w : World) (h : Cur w p m) (hm : m ≤ 100000) :
    Calls Try.prog 88 #[.pointer (some ⟨p, 0, none⟩)] w (SitesQ p (m + 200) w) := by
  have hp := h.lt
  obtain ⟨i0, hi, hz0, hz1, hz2⟩ := info_parts site.infoS
  have O0 := Lib.hid (own_emptyZ w 32 2)
  have HC0 := Lib.hid (h.keep ((Below.refl (p + 1) w).alloc (by omega) (.cells #[] 32)))
  have G0 := Lib.hid (show w.grownBy (w.alloc (.cells #[] 32)) (some p) from grown_alloc _ _)
  clear h
  go_enter Try.func88, Try.ntmps88
  go_wp2_with fail
  generalize w.alloc (.cells #[] 32) = W at *
  refine (pick p m 4 W HC0.out (by omega) (by omega) (by omega)).mono ?_
  rintro e w1 ⟨r, rfl, r0, r1, hc1, hg1⟩
  obtain ⟨q0, rfl⟩ := Int.eq_ofNat_of_zero_le r0
  have HC1 := Lib.hid hc1
  have G1 := Lib.hid (grown_trans G0.out hg1)
  have O1 := Lib.hid (own_kept O0.out hg1 (fun g e => by cases e; exact hp))
  have e1 : IntKind.i64.wrap (1 + (q0 : Int)) = ((q0 + 1 : Nat) : Int) := by rw [IntWalk.i64_in _ (by omega)]; omega
  clear hc1 hg1 HC0 G0 O0
  go_wp2_with fail
  go_loopw [3, 4] (fun v n wr => ∃ (q k : Nat) (zs : List Int), q + k ≤ 4 ∧ 1 ≤ q + k ∧ n = .int .i64 q ∧ wr.ownsRow w.heap.size 32 2 v k (cellsI zs) ∧ okL zs k ∧ Cur wr p (m + 10 + 10 * k) ∧ w.grownBy wr (some p)) (fun _ n _ => (intOf n).toNat)
  case atStart => exact ⟨q0 + 1, 0, [], by omega, by omega, by first | rfl | go_num | (rw [Int.add_comm]; rfl), O1.out, fun k hk => absurd hk (Nat.not_lt_zero _), HC1.out.more (by omega), G1.out⟩
  case round =>
    obtain ⟨q, k, zs, hq, hq1, rfl, ho, hok, hc, hg⟩ := hrel
    clear HC1 G1 O1
    have HOK := Lib.hid hok
    have HLZ := Lib.hid (own_len ho)
    clear hok
    by_cases hlt : 0 < q
    · have hlt2 : (0 : Int) < (q : Int) := by omega
      go_wp2_with fail
      refine (point p _ _ hc (by omega)).mono ?_
      rintro e w2 ⟨x, y, rfl, hon, hc2, hg2⟩
      have HON := Lib.hid (okL_app HLZ.out HOK.out hon.near.ok)
      have ho2 := own_kept ho hg2 (fun g e => by cases e; exact hp)
      have hgg := grown_trans hg hg2
      have hs2 := hgg.size
      clear ho hc hg hg2 hon
      go_wp2_with (at_builtin; refine wpList_append_own _ rfl (.tmp 13) (.tmp 16) 29 rfl w.heap.size 32 i0 (.agg #[.int .i64 0, .int .i64 0]) 2 16 Try.underlying29 hi hz0 hz1 hz2 rfl (by decide) _ k (cellsI zs) rfl (ho2.alloc _) ⟨w2.heap.size, 0, none⟩ 1 1 [.int .i64 x, .int .i64 y] rfl rfl (cells_two _ _ _ _) (two_cells _ _) (by unfold maxLen; omega) (by omega) (by simp; omega) ?_; intro v' w3 hown' hgrow hnil)
      have hc3 := Lib.hid (cur_append hc2 ho2 hp hs2 hgrow)
      have hg3 := Lib.hid (grown_append hgg ho2 (Nat.le_refl _) hgrow)
      have HO := Lib.hid (own_grow2 hown')
      clear hown' hgrow hnil ho2 hc2 hgg hs2
      go_roundw
      case rel => exact ⟨q - 1, k + 1, _, by omega, by omega, by go_num, HO.out, HON.out, hc3.out.more (by omega), hg3.out⟩
      case measure => simp [intOf]; omega
    · obtain rfl : q = 0 := by omega
      go_wp2_with fail
      refine (pick p _ 24 wr hc (by omega) (by omega) (by omega)).mono ?_
      rintro e w2 ⟨i, rfl, i0', i1', hc2, hg2⟩
      have ho2 := own_kept ho hg2 (fun g e => by cases e; exact hp)
      have hgg := grown_trans hg hg2
      have hs2 := hgg.size
      clear ho hc hg hg2
      by_cases h0 : i = 0
      · subst h0
        go_wp2_with fail
        refine (anyPoint p _ w2 hc2 (by omega)).mono ?_
        rintro e w3 ⟨x, y, rfl, hon, hc3, hg3⟩
        have HON := Lib.hid (okL_app HLZ.out HOK.out hon.ok)
        have ho3 := own_kept ho2 hg3 (fun g e => by cases e; exact hp)
        have hg4 := grown_trans hgg hg3
        have hs3 := hg4.size
        clear ho2 hc2 hgg hg3 hs2 hon
        go_wp2_with (at_builtin; refine wpList_append_own _ rfl (.tmp 22) (.tmp 25) 29 rfl w.heap.size 32 i0 (.agg #[.int .i64 0, .int .i64 0]) 2 16 Try.underlying29 hi hz0 hz1 hz2 rfl (by decide) _ k (cellsI zs) rfl (ho3.alloc _) ⟨w3.heap.size, 0, none⟩ 1 1 [.int .i64 x, .int .i64 y] rfl rfl (cells_two _ _ _ _) (two_cells _ _) (by unfold maxLen; omega) (by omega) (by simp; omega) ?_; intro v' w5 hown' hgrow hnil)
        have HC := Lib.hid (cur_append hc3 ho3 hp hs3 hgrow)
        have HG := Lib.hid (grown_append hg4 ho3 (Nat.le_refl _) hgrow)
        have HO := Lib.hid (own_grow2 hown')
        clear hown' hgrow hnil ho3 hc3 hg4 hs3
        go_ret
        exact ⟨v', k + 1, _, rfl, HO.out, by omega, HON.out, HC.out.more (by omega), HG.out⟩
      · have d0 : (i == 0) = false := by simpa using h0
        by_cases h1 : i = 1
        · subst h1
          obtain ⟨A0, c0, rfl⟩ := own_sliceZ ho2
          obtain ⟨b, o, rfl, hbl, q0, q1⟩ := sits.cells2 (RdZ.of_own ho2 HLZ.out) (show 0 < k by omega)
          have hk0 : (0 : Int) < (k : Int) := by omega
          have HON := Lib.hid (okL_app HLZ.out HOK.out (HOK.out 0 (by omega)))
          rw [Nat.zero_mul, Nat.add_zero] at q0 q1
          generalize fld 2 zs 0 0 = x at *
          generalize fld 2 zs 0 1 = y at *
          go_wp2_with (at_builtin; refine wpList_append_own _ rfl (.tmp 29) (.tmp 33) 29 rfl w.heap.size 32 i0 (.agg #[.int .i64 0, .int .i64 0]) 2 16 Try.underlying29 hi hz0 hz1 hz2 rfl (by decide) _ k (cellsI zs) rfl (ho2.alloc _) ⟨w2.heap.size, 0, none⟩ 1 1 [.int .i64 x, .int .i64 y] rfl rfl (cells_two _ _ _ _) (two_cells _ _) (by unfold maxLen; omega) (by omega) (by simp; omega) ?_; intro v' w5 hown' hgrow hnil)
          have HC := Lib.hid (cur_append hc2 ho2 hp hs2 hgrow)
          have HG := Lib.hid (grown_append hgg ho2 (Nat.le_refl _) hgrow)
          have HO := Lib.hid (own_grow2 hown')
          clear hown' hgrow hnil ho2 hc2 hgg hs2 q0 q1
          go_ret
          exact ⟨v', k + 1, _, rfl, HO.out, by omega, HON.out, HC.out.more (by omega), HG.out⟩
        · have d1 : (i == 1) = false := by simpa using h1
          by_cases h2 : i = 2
          · subst h2
            have HC := Lib.hid (Cur.alloc hc2 (.cells #[] 32))
            have HG := Lib.hid (grown_trans hgg (grown_alloc (.cells #[] 32) (some p)))
            have HO := Lib.hid (own_.own_base (own_emptyZ w2 32 2) hs2)
            clear ho2 hc2 hgg hs2
            go_wp2_with fail
            go_ret
            exact ⟨_, 0, [], rfl, HO.out, by omega, fun k hk => absurd hk (Nat.not_lt_zero _), HC.out.more (by omega), HG.out⟩
          · have d2 : (i == 2) = false := by simpa using h2
            by_cases h3 : i = 3
            · subst h3
              have HC := Lib.hid (Cur.alloc hc2 (.cells #[.int .i64 0, .int .i64 0, .int .i64 30, .int .i64 0, .int .i64 0, .int .i64 30, .int .i64 30, .int .i64 30, .int .i64 15, .int .i64 15, .int .i64 3, .int .i64 4] 32))
              have HG := Lib.hid (grown_trans hgg (grown_alloc (.cells #[.int .i64 0, .int .i64 0, .int .i64 30, .int .i64 0, .int .i64 0, .int .i64 30, .int .i64 30, .int .i64 30, .int .i64 15, .int .i64 15, .int .i64 3, .int .i64 4] 32) (some p)))
              have HS := Lib.hid (fun n hn => own_.own_base (own_six w2 n hn) hs2)
              clear ho2 hc2 hgg
              go_wp2_with fail
              generalize w2.alloc (.cells #[.int .i64 0, .int .i64 0, .int .i64 30, .int .i64 0, .int .i64 0, .int .i64 30, .int .i64 30, .int .i64 30, .int .i64 15, .int .i64 15, .int .i64 3, .int .i64 4] 32) = W3 at *
              refine (pick p _ 2 W3 HC.out (by omega) (by omega) (by omega)).mono ?_
              rintro e w4 ⟨t, rfl, t0, t1, hc4, hg4⟩
              obtain ⟨t', rfl⟩ := Int.eq_ofNat_of_zero_le t0
              obtain ⟨u, hu⟩ : ∃ u : Nat, u = 5 + t' := ⟨_, rfl⟩
              have e2 : IntKind.i64.wrap (5 + (t' : Int)) = (u : Int) := by rw [IntWalk.i64_in _ (by omega)]; omega
              have u0 : (0 : Int) ≤ (u : Int) := by omega
              have u6 : (u : Int) ≤ 6 := by omega
              have e3 : 5 + (t' : Int) = (u : Int) := by omega
              have hu6 : u ≤ 6 := by omega
              have HO := Lib.hid (own_kept (HS.out u hu6) hg4 (fun g e => by cases e; exact hp))
              have HG4 := Lib.hid (grown_trans HG.out hg4)
              have HC4 := Lib.hid hc4
              clear hg4 hc4 HC HG HS hu
              go_wp2_with fail
              go_ret
              exact ⟨_, u, six.take (u * 2), rfl, HO.out, hu6, six_ok u hu6, HC4.out.more (by omega), HG4.out⟩
            · have d3 : (i == 3) = false := by simpa using h3
              go_wp2_with fail
              go_ret
              exact ⟨_, k, zs, rfl, ho2, by omega, HOK.out, hc2.more (by omega), hgg⟩
end Go.Proofs.Ytpbopiecfnedgab.draws10
