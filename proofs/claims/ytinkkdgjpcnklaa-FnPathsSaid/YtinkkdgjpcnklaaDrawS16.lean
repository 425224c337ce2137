/- spec's draws of motions and times. -/
import Derived.Test.YtinkkdgjpcnklaaAtC
import Derived.Test.YtinkkdgjpcnklaaDrawP7
import Derived.Test.YtinkkdgjpcnklaaDrawV8
import Derived.Test.YtinkkdgjpcnklaaDrawH
import Derived.Test.YtinkkdgjpcnklaaCurInt
import Derived.OwnWalk
namespace Go.Proofs.Ytinkkdgjpcnklaa.draws16
open Go.RowKit Go.Proofs.Ytinkkdgjpcnklaa.cur Go.Proofs.Ytinkkdgjpcnklaa.atc Go.Proofs.Ytinkkdgjpcnklaa.ats Go.Proofs.Ytinkkdgjpcnklaa.drawh

/-- What a draw of a motion returns. -/
def MotIn (x y u v h c : Int) : Prop := ((0 ≤ x ∧ x ≤ 9899) ∧ 0 ≤ y ∧ y ≤ 9899) ∧ ((-201 ≤ u ∧ u ≤ 201) ∧ -201 ≤ v ∧ v ≤ 201) ∧ (-2001 ≤ h ∧ h ≤ 130001) ∧ -6001 ≤ c ∧ c ≤ 6001
def MotQ (p m : Nat) (w : World) (e : Ending) (w' : World) : Prop := ∃ x y u v h c, e = .returned (.agg #[.int .i64 x, .int .i64 y, .int .i64 u, .int .i64 v, .int .i64 h, .int .i64 c]) ∧ MotIn x y u v h c ∧ Cur w' p m ∧ w.grownBy w' (some p)
theorem grown_put {w W : World} {p b i : Nat} {v : Value} (h : w.grownBy W (some p)) (hb : w.heap.size ≤ b) : w.grownBy (W.setCell ⟨b, i, none⟩ v) (some p) :=
  ⟨h.os, h.tape, h.output, by have := h.size; simpa [World.setCell] using this, fun k hk hne => (Go.Deep.blk_setCell_other W ⟨b, i, none⟩ v k (by show k ≠ b; omega)).trans (h.block k hk hne)⟩

set_option maxRecDepth 100000 in
set_option maxHeartbeats 16000000 in
theorem motion (p m : Nat) (w : World) (h : Cur w p m) (hm : m ≤ 200000) :
    Calls Try.prog 46 #[.pointer (some ⟨p, 0, none⟩)] w (MotQ p (m + 60) w) := by
  have hzp : p < w.heap.size := h.lt
  have Z0 := Lib.hid (Blk.new 28 #[.int .i64 0, .int .i64 0, .int .i64 0, .int .i64 0, .int .i64 0, .int .i64 0] w)
  have C0 := Lib.hid (Cur.alloc h (.cells #[.int .i64 0, .int .i64 0, .int .i64 0, .int .i64 0, .int .i64 0, .int .i64 0] 28))
  have G0 := Lib.hid (show w.grownBy (w.alloc (.cells #[.int .i64 0, .int .i64 0, .int .i64 0, .int .i64 0, .int .i64 0, .int .i64 0] 28)) (some p) from grown_alloc _ _)
  clear h
  go_enter Try.func46, Try.ntmps46
  go_wp2_with fail
  generalize w.alloc (.cells #[.int .i64 0, .int .i64 0, .int .i64 0, .int .i64 0, .int .i64 0, .int .i64 0] 28) = W0 at *
  refine (drawp7.place p m W0 C0.out (by omega)).mono ?_
  rintro e w1 ⟨x, y, rfl, hok, hc, hg⟩
  have Z1 := Lib.hid (Z0.out.grown hg (Nat.ne_of_gt hzp))
  have G1 := Lib.hid (grown_trans G0.out hg)
  have C1 := Lib.hid hc
  clear hc hg Z0 G0 C0
  go_wp2_with fail
  refine (drawv8.velocity p (m + 10) w1 C1.out (by omega)).mono ?_
  rintro e w2 ⟨u, v, rfl, hvi, hc, hg⟩
  have Z2 := Lib.hid (Z1.out.grown hg (Nat.ne_of_gt hzp))
  have G2 := Lib.hid (grown_trans G1.out hg)
  have C2 := Lib.hid hc
  clear hc hg Z1 G1 C1
  obtain ⟨⟨x0, x1⟩, y0, y1⟩ := hok
  obtain ⟨⟨u0, u1⟩, v0, v1⟩ := hvi
  go_wp2_with fail
  refine (among_new (-2001) 130001 p _ 5 [0, 10000, 35000, -2000, 130000] _ w2 C2.out (by omega) (by omega) (by omega) rfl rfl (by decide)).mono ?_
  rintro e w3 ⟨h, rfl, h0, h1, hc, hg⟩
  have Z3 := Lib.hid (Z2.out.grown hg (Nat.ne_of_gt hzp))
  have G3 := Lib.hid (grown_trans G2.out hg)
  have C3 := Lib.hid hc
  clear hc hg Z2 G2 C2
  go_wp2_with fail
  refine (among_new (-6001) 6001 p _ 6 [0, 0, 500, -1500, 6000, -6000] _ w3 C3.out (by omega) (by omega) (by omega) rfl rfl (by decide)).mono ?_
  rintro e w4 ⟨c, rfl, c0, c1, hc, hg⟩
  have hzt : w.heap.size < w4.heap.size := (Z3.out.grown hg (Nat.ne_of_gt hzp)).lt
  have htp : p < w4.heap.size := hc.lt
  have Z4 := Lib.hid ((Z3.out.grown hg (Nat.ne_of_gt hzp)).alloc (.cells #[.int .i64 x, .int .i64 y, .int .i64 u, .int .i64 v, .int .i64 h, .int .i64 c] 28))
  have G4 := Lib.hid (grown_trans (grown_trans G3.out hg) (grown_alloc (.cells #[.int .i64 x, .int .i64 y, .int .i64 u, .int .i64 v, .int .i64 h, .int .i64 c] 28) (some p)))
  have HC := Lib.hid (Cur.alloc hc (.cells #[.int .i64 x, .int .i64 y, .int .i64 u, .int .i64 v, .int .i64 h, .int .i64 c] 28))
  have HT := Lib.hid (Blk.new 28 #[.int .i64 x, .int .i64 y, .int .i64 u, .int .i64 v, .int .i64 h, .int .i64 c] w4)
  have HZ := Lib.hid Z4.out
  have HG := Lib.hid G4.out
  clear hc hg Z3 G3 C3 Z4 G4
  go_wp2_with fail
  generalize w4.alloc (.cells #[.int .i64 x, .int .i64 y, .int .i64 u, .int .i64 v, .int .i64 h, .int .i64 c] 28) = W4 at *
  generalize w4.heap.size = b at *
  refine (one p _ 2 W4 HC.out (by omega) (by omega) (by omega)).mono ?_
  rintro e w5 ⟨k5, rfl, hc, hg⟩
  have HT := Lib.hid (HT.out.grown hg (Nat.ne_of_gt htp))
  have HZ := Lib.hid (HZ.out.grown hg (Nat.ne_of_gt hzp))
  have HC := Lib.hid hc
  have HG := Lib.hid (grown_trans HG.out hg)
  clear hc hg
  cases k5
  · go_wp2_with fail
    refine (pick p _ 30 w5 HC.out (by omega) (by omega) (by omega)).mono ?_
    rintro e wk ⟨k, rfl, k0, k1, hc, hg⟩
    have HT := Lib.hid (HT.out.grown hg (Nat.ne_of_gt htp))
    have HZ := Lib.hid (HZ.out.grown hg (Nat.ne_of_gt hzp))
    have HC := Lib.hid hc
    have HG := Lib.hid (grown_trans HG.out hg)
    clear hc hg
    by_cases h0_ : k = 0
    · subst h0_
      go_wp2_with fail
      refine (among_new (-2001) 130001 p _ 2 [-2001, 130001] _ wk HC.out (by omega) (by omega) (by omega) rfl rfl (by decide)).mono ?_
      rintro e wu ⟨r, rfl, r0, r1, hc, hg⟩
      have HT := Lib.hid (HT.out.grown hg (Nat.ne_of_gt htp))
      have HZ := Lib.hid (HZ.out.grown hg (Nat.ne_of_gt hzp))
      have HC := Lib.hid hc
      have HG := Lib.hid (grown_trans HG.out hg)
      clear hc hg
      have t0 : wu.cell? ⟨b, 0, none⟩ = some (.int .i64 x) := HT.out.cell 0 _ rfl
      have tf0 := HT.out.frozen 0
      have t1 : wu.cell? ⟨b, 1, none⟩ = some (.int .i64 y) := HT.out.cell 1 _ rfl
      have tf1 := HT.out.frozen 1
      have t2 : wu.cell? ⟨b, 2, none⟩ = some (.int .i64 u) := HT.out.cell 2 _ rfl
      have tf2 := HT.out.frozen 2
      have t3 : wu.cell? ⟨b, 3, none⟩ = some (.int .i64 v) := HT.out.cell 3 _ rfl
      have tf3 := HT.out.frozen 3
      have t4 : wu.cell? ⟨b, 4, none⟩ = some (.int .i64 h) := HT.out.cell 4 _ rfl
      have tf4 := HT.out.frozen 4
      have t5 : wu.cell? ⟨b, 5, none⟩ = some (.int .i64 c) := HT.out.cell 5 _ rfl
      have tf5 := HT.out.frozen 5
      go_upto_region 9 with fail
      clear t0 tf0 t1 tf1 t2 tf2 t3 tf3 t4 tf4 t5 tf5
      have HT := Lib.hid (HT.out.set 4 (.int .i64 r))
      have HZ := Lib.hid (HZ.out.other (Nat.ne_of_lt hzt) 4 (.int .i64 r))
      have HC := Lib.hid (Cur.set HC.out htp (i := 4) (v := .int .i64 r))
      have HG := Lib.hid (grown_put HG.out (Nat.le_of_lt hzt) (i := 4) (v := .int .i64 r))
      generalize wu.setCell ⟨b, 4, none⟩ (.int .i64 r) = wv at *
      have z0 : wv.cell? ⟨w.heap.size, 0, none⟩ = some (.int .i64 0) := HZ.out.cell 0 _ rfl
      have zf0 := HZ.out.frozen 0
      have z1 : wv.cell? ⟨w.heap.size, 1, none⟩ = some (.int .i64 0) := HZ.out.cell 1 _ rfl
      have zf1 := HZ.out.frozen 1
      have z2 : wv.cell? ⟨w.heap.size, 2, none⟩ = some (.int .i64 0) := HZ.out.cell 2 _ rfl
      have zf2 := HZ.out.frozen 2
      have z3 : wv.cell? ⟨w.heap.size, 3, none⟩ = some (.int .i64 0) := HZ.out.cell 3 _ rfl
      have zf3 := HZ.out.frozen 3
      have z4 : wv.cell? ⟨w.heap.size, 4, none⟩ = some (.int .i64 0) := HZ.out.cell 4 _ rfl
      have zf4 := HZ.out.frozen 4
      have z5 : wv.cell? ⟨w.heap.size, 5, none⟩ = some (.int .i64 0) := HZ.out.cell 5 _ rfl
      have zf5 := HZ.out.frozen 5
      have t0 : wv.cell? ⟨b, 0, none⟩ = some (.int .i64 x) := HT.out.cell 0 _ rfl
      have tf0 := HT.out.frozen 0
      have t1 : wv.cell? ⟨b, 1, none⟩ = some (.int .i64 y) := HT.out.cell 1 _ rfl
      have tf1 := HT.out.frozen 1
      have t2 : wv.cell? ⟨b, 2, none⟩ = some (.int .i64 u) := HT.out.cell 2 _ rfl
      have tf2 := HT.out.frozen 2
      have t3 : wv.cell? ⟨b, 3, none⟩ = some (.int .i64 v) := HT.out.cell 3 _ rfl
      have tf3 := HT.out.frozen 3
      have t4 : wv.cell? ⟨b, 4, none⟩ = some (.int .i64 r) := HT.out.cell 4 _ rfl
      have tf4 := HT.out.frozen 4
      have t5 : wv.cell? ⟨b, 5, none⟩ = some (.int .i64 c) := HT.out.cell 5 _ rfl
      have tf5 := HT.out.frozen 5
      have HE := Lib.hid ((((((HZ.out.set 0 (.int .i64 x)).set 1 (.int .i64 y)).set 2 (.int .i64 u)).set 3 (.int .i64 v)).set 4 (.int .i64 r)).set 5 (.int .i64 c))
      have HCe := Lib.hid (Cur.set (Cur.set (Cur.set (Cur.set (Cur.set (Cur.set HC.out hzp (i := 0) (v := .int .i64 x)) hzp (i := 1) (v := .int .i64 y)) hzp (i := 2) (v := .int .i64 u)) hzp (i := 3) (v := .int .i64 v)) hzp (i := 4) (v := .int .i64 r)) hzp (i := 5) (v := .int .i64 c))
      have HGe := Lib.hid (grown_put (grown_put (grown_put (grown_put (grown_put (grown_put HG.out (Nat.le_refl _) (i := 0) (v := .int .i64 x)) (Nat.le_refl _) (i := 1) (v := .int .i64 y)) (Nat.le_refl _) (i := 2) (v := .int .i64 u)) (Nat.le_refl _) (i := 3) (v := .int .i64 v)) (Nat.le_refl _) (i := 4) (v := .int .i64 r)) (Nat.le_refl _) (i := 5) (v := .int .i64 c))
      clear HT HZ HC HG
      go_wp2_with fail
      have hl := HE.out.load Try.underlying28 rfl (by kernel_rfl)
      refine bodyPost_ret (v := .agg #[.int .i64 x, .int .i64 y, .int .i64 u, .int .i64 v, .int .i64 r, .int .i64 c]) ?_ rfl ⟨_, _, _, _, _, _, rfl, ⟨⟨⟨by omega, by omega⟩, by omega, by omega⟩, ⟨⟨by omega, by omega⟩, by omega, by omega⟩, ⟨by omega, by omega⟩, by omega, by omega⟩, HCe.out.more (by omega), HGe.out⟩
      rw [ats.results_cell1 rfl]
      simp [asAddr, Result.andThen, hl]
    have d0 : (k == 0) = false := by simpa using h0_
    by_cases h1_ : k = 1
    · subst h1_
      go_wp2_with fail
      refine (among_new (-6001) 6001 p _ 2 [6001, -6001] _ wk HC.out (by omega) (by omega) (by omega) rfl rfl (by decide)).mono ?_
      rintro e wu ⟨r, rfl, r0, r1, hc, hg⟩
      have HT := Lib.hid (HT.out.grown hg (Nat.ne_of_gt htp))
      have HZ := Lib.hid (HZ.out.grown hg (Nat.ne_of_gt hzp))
      have HC := Lib.hid hc
      have HG := Lib.hid (grown_trans HG.out hg)
      clear hc hg
      have t0 : wu.cell? ⟨b, 0, none⟩ = some (.int .i64 x) := HT.out.cell 0 _ rfl
      have tf0 := HT.out.frozen 0
      have t1 : wu.cell? ⟨b, 1, none⟩ = some (.int .i64 y) := HT.out.cell 1 _ rfl
      have tf1 := HT.out.frozen 1
      have t2 : wu.cell? ⟨b, 2, none⟩ = some (.int .i64 u) := HT.out.cell 2 _ rfl
      have tf2 := HT.out.frozen 2
      have t3 : wu.cell? ⟨b, 3, none⟩ = some (.int .i64 v) := HT.out.cell 3 _ rfl
      have tf3 := HT.out.frozen 3
      have t4 : wu.cell? ⟨b, 4, none⟩ = some (.int .i64 h) := HT.out.cell 4 _ rfl
      have tf4 := HT.out.frozen 4
      have t5 : wu.cell? ⟨b, 5, none⟩ = some (.int .i64 c) := HT.out.cell 5 _ rfl
      have tf5 := HT.out.frozen 5
      go_upto_region 9 with fail
      clear t0 tf0 t1 tf1 t2 tf2 t3 tf3 t4 tf4 t5 tf5
      have HT := Lib.hid (HT.out.set 5 (.int .i64 r))
      have HZ := Lib.hid (HZ.out.other (Nat.ne_of_lt hzt) 5 (.int .i64 r))
      have HC := Lib.hid (Cur.set HC.out htp (i := 5) (v := .int .i64 r))
      have HG := Lib.hid (grown_put HG.out (Nat.le_of_lt hzt) (i := 5) (v := .int .i64 r))
      generalize wu.setCell ⟨b, 5, none⟩ (.int .i64 r) = wv at *
      have z0 : wv.cell? ⟨w.heap.size, 0, none⟩ = some (.int .i64 0) := HZ.out.cell 0 _ rfl
      have zf0 := HZ.out.frozen 0
      have z1 : wv.cell? ⟨w.heap.size, 1, none⟩ = some (.int .i64 0) := HZ.out.cell 1 _ rfl
      have zf1 := HZ.out.frozen 1
      have z2 : wv.cell? ⟨w.heap.size, 2, none⟩ = some (.int .i64 0) := HZ.out.cell 2 _ rfl
      have zf2 := HZ.out.frozen 2
      have z3 : wv.cell? ⟨w.heap.size, 3, none⟩ = some (.int .i64 0) := HZ.out.cell 3 _ rfl
      have zf3 := HZ.out.frozen 3
      have z4 : wv.cell? ⟨w.heap.size, 4, none⟩ = some (.int .i64 0) := HZ.out.cell 4 _ rfl
      have zf4 := HZ.out.frozen 4
      have z5 : wv.cell? ⟨w.heap.size, 5, none⟩ = some (.int .i64 0) := HZ.out.cell 5 _ rfl
      have zf5 := HZ.out.frozen 5
      have t0 : wv.cell? ⟨b, 0, none⟩ = some (.int .i64 x) := HT.out.cell 0 _ rfl
      have tf0 := HT.out.frozen 0
      have t1 : wv.cell? ⟨b, 1, none⟩ = some (.int .i64 y) := HT.out.cell 1 _ rfl
      have tf1 := HT.out.frozen 1
      have t2 : wv.cell? ⟨b, 2, none⟩ = some (.int .i64 u) := HT.out.cell 2 _ rfl
      have tf2 := HT.out.frozen 2
      have t3 : wv.cell? ⟨b, 3, none⟩ = some (.int .i64 v) := HT.out.cell 3 _ rfl
      have tf3 := HT.out.frozen 3
      have t4 : wv.cell? ⟨b, 4, none⟩ = some (.int .i64 h) := HT.out.cell 4 _ rfl
      have tf4 := HT.out.frozen 4
      have t5 : wv.cell? ⟨b, 5, none⟩ = some (.int .i64 r) := HT.out.cell 5 _ rfl
      have tf5 := HT.out.frozen 5
      have HE := Lib.hid ((((((HZ.out.set 0 (.int .i64 x)).set 1 (.int .i64 y)).set 2 (.int .i64 u)).set 3 (.int .i64 v)).set 4 (.int .i64 h)).set 5 (.int .i64 r))
      have HCe := Lib.hid (Cur.set (Cur.set (Cur.set (Cur.set (Cur.set (Cur.set HC.out hzp (i := 0) (v := .int .i64 x)) hzp (i := 1) (v := .int .i64 y)) hzp (i := 2) (v := .int .i64 u)) hzp (i := 3) (v := .int .i64 v)) hzp (i := 4) (v := .int .i64 h)) hzp (i := 5) (v := .int .i64 r))
      have HGe := Lib.hid (grown_put (grown_put (grown_put (grown_put (grown_put (grown_put HG.out (Nat.le_refl _) (i := 0) (v := .int .i64 x)) (Nat.le_refl _) (i := 1) (v := .int .i64 y)) (Nat.le_refl _) (i := 2) (v := .int .i64 u)) (Nat.le_refl _) (i := 3) (v := .int .i64 v)) (Nat.le_refl _) (i := 4) (v := .int .i64 h)) (Nat.le_refl _) (i := 5) (v := .int .i64 r))
      clear HT HZ HC HG
      go_wp2_with fail
      have hl := HE.out.load Try.underlying28 rfl (by kernel_rfl)
      refine bodyPost_ret (v := .agg #[.int .i64 x, .int .i64 y, .int .i64 u, .int .i64 v, .int .i64 h, .int .i64 r]) ?_ rfl ⟨_, _, _, _, _, _, rfl, ⟨⟨⟨by omega, by omega⟩, by omega, by omega⟩, ⟨⟨by omega, by omega⟩, by omega, by omega⟩, ⟨by omega, by omega⟩, by omega, by omega⟩, HCe.out.more (by omega), HGe.out⟩
      rw [ats.results_cell1 rfl]
      simp [asAddr, Result.andThen, hl]
    have d1 : (k == 1) = false := by simpa using h1_
    have z0 : wk.cell? ⟨w.heap.size, 0, none⟩ = some (.int .i64 0) := HZ.out.cell 0 _ rfl
    have zf0 := HZ.out.frozen 0
    have z1 : wk.cell? ⟨w.heap.size, 1, none⟩ = some (.int .i64 0) := HZ.out.cell 1 _ rfl
    have zf1 := HZ.out.frozen 1
    have z2 : wk.cell? ⟨w.heap.size, 2, none⟩ = some (.int .i64 0) := HZ.out.cell 2 _ rfl
    have zf2 := HZ.out.frozen 2
    have z3 : wk.cell? ⟨w.heap.size, 3, none⟩ = some (.int .i64 0) := HZ.out.cell 3 _ rfl
    have zf3 := HZ.out.frozen 3
    have z4 : wk.cell? ⟨w.heap.size, 4, none⟩ = some (.int .i64 0) := HZ.out.cell 4 _ rfl
    have zf4 := HZ.out.frozen 4
    have z5 : wk.cell? ⟨w.heap.size, 5, none⟩ = some (.int .i64 0) := HZ.out.cell 5 _ rfl
    have zf5 := HZ.out.frozen 5
    have t0 : wk.cell? ⟨b, 0, none⟩ = some (.int .i64 x) := HT.out.cell 0 _ rfl
    have tf0 := HT.out.frozen 0
    have t1 : wk.cell? ⟨b, 1, none⟩ = some (.int .i64 y) := HT.out.cell 1 _ rfl
    have tf1 := HT.out.frozen 1
    have t2 : wk.cell? ⟨b, 2, none⟩ = some (.int .i64 u) := HT.out.cell 2 _ rfl
    have tf2 := HT.out.frozen 2
    have t3 : wk.cell? ⟨b, 3, none⟩ = some (.int .i64 v) := HT.out.cell 3 _ rfl
    have tf3 := HT.out.frozen 3
    have t4 : wk.cell? ⟨b, 4, none⟩ = some (.int .i64 h) := HT.out.cell 4 _ rfl
    have tf4 := HT.out.frozen 4
    have t5 : wk.cell? ⟨b, 5, none⟩ = some (.int .i64 c) := HT.out.cell 5 _ rfl
    have tf5 := HT.out.frozen 5
    have HE := Lib.hid ((((((HZ.out.set 0 (.int .i64 x)).set 1 (.int .i64 y)).set 2 (.int .i64 u)).set 3 (.int .i64 v)).set 4 (.int .i64 h)).set 5 (.int .i64 c))
    have HCe := Lib.hid (Cur.set (Cur.set (Cur.set (Cur.set (Cur.set (Cur.set HC.out hzp (i := 0) (v := .int .i64 x)) hzp (i := 1) (v := .int .i64 y)) hzp (i := 2) (v := .int .i64 u)) hzp (i := 3) (v := .int .i64 v)) hzp (i := 4) (v := .int .i64 h)) hzp (i := 5) (v := .int .i64 c))
    have HGe := Lib.hid (grown_put (grown_put (grown_put (grown_put (grown_put (grown_put HG.out (Nat.le_refl _) (i := 0) (v := .int .i64 x)) (Nat.le_refl _) (i := 1) (v := .int .i64 y)) (Nat.le_refl _) (i := 2) (v := .int .i64 u)) (Nat.le_refl _) (i := 3) (v := .int .i64 v)) (Nat.le_refl _) (i := 4) (v := .int .i64 h)) (Nat.le_refl _) (i := 5) (v := .int .i64 c))
    clear HT HZ HC HG
    go_wp2_with fail
    have hl := HE.out.load Try.underlying28 rfl (by kernel_rfl)
    refine bodyPost_ret (v := .agg #[.int .i64 x, .int .i64 y, .int .i64 u, .int .i64 v, .int .i64 h, .int .i64 c]) ?_ rfl ⟨_, _, _, _, _, _, rfl, ⟨⟨⟨by omega, by omega⟩, by omega, by omega⟩, ⟨⟨by omega, by omega⟩, by omega, by omega⟩, ⟨by omega, by omega⟩, by omega, by omega⟩, HCe.out.more (by omega), HGe.out⟩
    rw [ats.results_cell1 rfl]
    simp [asAddr, Result.andThen, hl]
  · go_wp2_with fail
    refine (among_new (0) 9899 p _ 3 [100, 5000, 9890] _ w5 HC.out (by omega) (by omega) (by omega) rfl rfl (by decide)).mono ?_
    rintro e wa ⟨a, rfl, a0, a1, hc, hg⟩
    have HT := Lib.hid (HT.out.grown hg (Nat.ne_of_gt htp))
    have HZ := Lib.hid (HZ.out.grown hg (Nat.ne_of_gt hzp))
    have HC := Lib.hid hc
    have HG := Lib.hid (grown_trans HG.out hg)
    clear hc hg
    go_wp2_with fail
    refine (among_new (0) 9899 p _ 3 [100, 5000, 9890] _ wa HC.out (by omega) (by omega) (by omega) rfl rfl (by decide)).mono ?_
    rintro e wb ⟨d, rfl, d0_, d1_, hc, hg⟩
    have HT := Lib.hid (HT.out.grown hg (Nat.ne_of_gt htp))
    have HZ := Lib.hid (HZ.out.grown hg (Nat.ne_of_gt hzp))
    have HC := Lib.hid hc
    have HG := Lib.hid (grown_trans HG.out hg)
    clear hc hg
    have t0 : wb.cell? ⟨b, 0, none⟩ = some (.int .i64 x) := HT.out.cell 0 _ rfl
    have tf0 := HT.out.frozen 0
    have t1 : wb.cell? ⟨b, 1, none⟩ = some (.int .i64 y) := HT.out.cell 1 _ rfl
    have tf1 := HT.out.frozen 1
    have t2 : wb.cell? ⟨b, 2, none⟩ = some (.int .i64 u) := HT.out.cell 2 _ rfl
    have tf2 := HT.out.frozen 2
    have t3 : wb.cell? ⟨b, 3, none⟩ = some (.int .i64 v) := HT.out.cell 3 _ rfl
    have tf3 := HT.out.frozen 3
    have t4 : wb.cell? ⟨b, 4, none⟩ = some (.int .i64 h) := HT.out.cell 4 _ rfl
    have tf4 := HT.out.frozen 4
    have t5 : wb.cell? ⟨b, 5, none⟩ = some (.int .i64 c) := HT.out.cell 5 _ rfl
    have tf5 := HT.out.frozen 5
    go_upto_region 4 with fail
    clear t0 tf0 t1 tf1 t2 tf2 t3 tf3 t4 tf4 t5 tf5
    have HT := Lib.hid (HT.out.set 0 (.int .i64 a))
    have HZ := Lib.hid (HZ.out.other (Nat.ne_of_lt hzt) 0 (.int .i64 a))
    have HC := Lib.hid (Cur.set HC.out htp (i := 0) (v := .int .i64 a))
    have HG := Lib.hid (grown_put HG.out (Nat.le_of_lt hzt) (i := 0) (v := .int .i64 a))
    have HT := Lib.hid (HT.out.set 1 (.int .i64 d))
    have HZ := Lib.hid (HZ.out.other (Nat.ne_of_lt hzt) 1 (.int .i64 d))
    have HC := Lib.hid (Cur.set HC.out htp (i := 1) (v := .int .i64 d))
    have HG := Lib.hid (grown_put HG.out (Nat.le_of_lt hzt) (i := 1) (v := .int .i64 d))
    generalize (wb.setCell ⟨b, 0, none⟩ (.int .i64 a)).setCell ⟨b, 1, none⟩ (.int .i64 d) = wd at *
    go_wp2_with fail
    refine (pick p _ 30 wd HC.out (by omega) (by omega) (by omega)).mono ?_
    rintro e wk ⟨k, rfl, k0, k1, hc, hg⟩
    have HT := Lib.hid (HT.out.grown hg (Nat.ne_of_gt htp))
    have HZ := Lib.hid (HZ.out.grown hg (Nat.ne_of_gt hzp))
    have HC := Lib.hid hc
    have HG := Lib.hid (grown_trans HG.out hg)
    clear hc hg
    by_cases h0_ : k = 0
    · subst h0_
      go_wp2_with fail
      refine (among_new (-2001) 130001 p _ 2 [-2001, 130001] _ wk HC.out (by omega) (by omega) (by omega) rfl rfl (by decide)).mono ?_
      rintro e wu ⟨r, rfl, r0, r1, hc, hg⟩
      have HT := Lib.hid (HT.out.grown hg (Nat.ne_of_gt htp))
      have HZ := Lib.hid (HZ.out.grown hg (Nat.ne_of_gt hzp))
      have HC := Lib.hid hc
      have HG := Lib.hid (grown_trans HG.out hg)
      clear hc hg
      have t0 : wu.cell? ⟨b, 0, none⟩ = some (.int .i64 a) := HT.out.cell 0 _ rfl
      have tf0 := HT.out.frozen 0
      have t1 : wu.cell? ⟨b, 1, none⟩ = some (.int .i64 d) := HT.out.cell 1 _ rfl
      have tf1 := HT.out.frozen 1
      have t2 : wu.cell? ⟨b, 2, none⟩ = some (.int .i64 u) := HT.out.cell 2 _ rfl
      have tf2 := HT.out.frozen 2
      have t3 : wu.cell? ⟨b, 3, none⟩ = some (.int .i64 v) := HT.out.cell 3 _ rfl
      have tf3 := HT.out.frozen 3
      have t4 : wu.cell? ⟨b, 4, none⟩ = some (.int .i64 h) := HT.out.cell 4 _ rfl
      have tf4 := HT.out.frozen 4
      have t5 : wu.cell? ⟨b, 5, none⟩ = some (.int .i64 c) := HT.out.cell 5 _ rfl
      have tf5 := HT.out.frozen 5
      go_upto_region 9 with fail
      clear t0 tf0 t1 tf1 t2 tf2 t3 tf3 t4 tf4 t5 tf5
      have HT := Lib.hid (HT.out.set 4 (.int .i64 r))
      have HZ := Lib.hid (HZ.out.other (Nat.ne_of_lt hzt) 4 (.int .i64 r))
      have HC := Lib.hid (Cur.set HC.out htp (i := 4) (v := .int .i64 r))
      have HG := Lib.hid (grown_put HG.out (Nat.le_of_lt hzt) (i := 4) (v := .int .i64 r))
      generalize wu.setCell ⟨b, 4, none⟩ (.int .i64 r) = wv at *
      have z0 : wv.cell? ⟨w.heap.size, 0, none⟩ = some (.int .i64 0) := HZ.out.cell 0 _ rfl
      have zf0 := HZ.out.frozen 0
      have z1 : wv.cell? ⟨w.heap.size, 1, none⟩ = some (.int .i64 0) := HZ.out.cell 1 _ rfl
      have zf1 := HZ.out.frozen 1
      have z2 : wv.cell? ⟨w.heap.size, 2, none⟩ = some (.int .i64 0) := HZ.out.cell 2 _ rfl
      have zf2 := HZ.out.frozen 2
      have z3 : wv.cell? ⟨w.heap.size, 3, none⟩ = some (.int .i64 0) := HZ.out.cell 3 _ rfl
      have zf3 := HZ.out.frozen 3
      have z4 : wv.cell? ⟨w.heap.size, 4, none⟩ = some (.int .i64 0) := HZ.out.cell 4 _ rfl
      have zf4 := HZ.out.frozen 4
      have z5 : wv.cell? ⟨w.heap.size, 5, none⟩ = some (.int .i64 0) := HZ.out.cell 5 _ rfl
      have zf5 := HZ.out.frozen 5
      have t0 : wv.cell? ⟨b, 0, none⟩ = some (.int .i64 a) := HT.out.cell 0 _ rfl
      have tf0 := HT.out.frozen 0
      have t1 : wv.cell? ⟨b, 1, none⟩ = some (.int .i64 d) := HT.out.cell 1 _ rfl
      have tf1 := HT.out.frozen 1
      have t2 : wv.cell? ⟨b, 2, none⟩ = some (.int .i64 u) := HT.out.cell 2 _ rfl
      have tf2 := HT.out.frozen 2
      have t3 : wv.cell? ⟨b, 3, none⟩ = some (.int .i64 v) := HT.out.cell 3 _ rfl
      have tf3 := HT.out.frozen 3
      have t4 : wv.cell? ⟨b, 4, none⟩ = some (.int .i64 r) := HT.out.cell 4 _ rfl
      have tf4 := HT.out.frozen 4
      have t5 : wv.cell? ⟨b, 5, none⟩ = some (.int .i64 c) := HT.out.cell 5 _ rfl
      have tf5 := HT.out.frozen 5
      have HE := Lib.hid ((((((HZ.out.set 0 (.int .i64 a)).set 1 (.int .i64 d)).set 2 (.int .i64 u)).set 3 (.int .i64 v)).set 4 (.int .i64 r)).set 5 (.int .i64 c))
      have HCe := Lib.hid (Cur.set (Cur.set (Cur.set (Cur.set (Cur.set (Cur.set HC.out hzp (i := 0) (v := .int .i64 a)) hzp (i := 1) (v := .int .i64 d)) hzp (i := 2) (v := .int .i64 u)) hzp (i := 3) (v := .int .i64 v)) hzp (i := 4) (v := .int .i64 r)) hzp (i := 5) (v := .int .i64 c))
      have HGe := Lib.hid (grown_put (grown_put (grown_put (grown_put (grown_put (grown_put HG.out (Nat.le_refl _) (i := 0) (v := .int .i64 a)) (Nat.le_refl _) (i := 1) (v := .int .i64 d)) (Nat.le_refl _) (i := 2) (v := .int .i64 u)) (Nat.le_refl _) (i := 3) (v := .int .i64 v)) (Nat.le_refl _) (i := 4) (v := .int .i64 r)) (Nat.le_refl _) (i := 5) (v := .int .i64 c))
      clear HT HZ HC HG
      go_wp2_with fail
      have hl := HE.out.load Try.underlying28 rfl (by kernel_rfl)
      refine bodyPost_ret (v := .agg #[.int .i64 a, .int .i64 d, .int .i64 u, .int .i64 v, .int .i64 r, .int .i64 c]) ?_ rfl ⟨_, _, _, _, _, _, rfl, ⟨⟨⟨by omega, by omega⟩, by omega, by omega⟩, ⟨⟨by omega, by omega⟩, by omega, by omega⟩, ⟨by omega, by omega⟩, by omega, by omega⟩, HCe.out.more (by omega), HGe.out⟩
      rw [ats.results_cell1 rfl]
      simp [asAddr, Result.andThen, hl]
    have d0 : (k == 0) = false := by simpa using h0_
    by_cases h1_ : k = 1
    · subst h1_
      go_wp2_with fail
      refine (among_new (-6001) 6001 p _ 2 [6001, -6001] _ wk HC.out (by omega) (by omega) (by omega) rfl rfl (by decide)).mono ?_
      rintro e wu ⟨r, rfl, r0, r1, hc, hg⟩
      have HT := Lib.hid (HT.out.grown hg (Nat.ne_of_gt htp))
      have HZ := Lib.hid (HZ.out.grown hg (Nat.ne_of_gt hzp))
      have HC := Lib.hid hc
      have HG := Lib.hid (grown_trans HG.out hg)
      clear hc hg
      have t0 : wu.cell? ⟨b, 0, none⟩ = some (.int .i64 a) := HT.out.cell 0 _ rfl
      have tf0 := HT.out.frozen 0
      have t1 : wu.cell? ⟨b, 1, none⟩ = some (.int .i64 d) := HT.out.cell 1 _ rfl
      have tf1 := HT.out.frozen 1
      have t2 : wu.cell? ⟨b, 2, none⟩ = some (.int .i64 u) := HT.out.cell 2 _ rfl
      have tf2 := HT.out.frozen 2
      have t3 : wu.cell? ⟨b, 3, none⟩ = some (.int .i64 v) := HT.out.cell 3 _ rfl
      have tf3 := HT.out.frozen 3
      have t4 : wu.cell? ⟨b, 4, none⟩ = some (.int .i64 h) := HT.out.cell 4 _ rfl
      have tf4 := HT.out.frozen 4
      have t5 : wu.cell? ⟨b, 5, none⟩ = some (.int .i64 c) := HT.out.cell 5 _ rfl
      have tf5 := HT.out.frozen 5
      go_upto_region 9 with fail
      clear t0 tf0 t1 tf1 t2 tf2 t3 tf3 t4 tf4 t5 tf5
      have HT := Lib.hid (HT.out.set 5 (.int .i64 r))
      have HZ := Lib.hid (HZ.out.other (Nat.ne_of_lt hzt) 5 (.int .i64 r))
      have HC := Lib.hid (Cur.set HC.out htp (i := 5) (v := .int .i64 r))
      have HG := Lib.hid (grown_put HG.out (Nat.le_of_lt hzt) (i := 5) (v := .int .i64 r))
      generalize wu.setCell ⟨b, 5, none⟩ (.int .i64 r) = wv at *
      have z0 : wv.cell? ⟨w.heap.size, 0, none⟩ = some (.int .i64 0) := HZ.out.cell 0 _ rfl
      have zf0 := HZ.out.frozen 0
      have z1 : wv.cell? ⟨w.heap.size, 1, none⟩ = some (.int .i64 0) := HZ.out.cell 1 _ rfl
      have zf1 := HZ.out.frozen 1
      have z2 : wv.cell? ⟨w.heap.size, 2, none⟩ = some (.int .i64 0) := HZ.out.cell 2 _ rfl
      have zf2 := HZ.out.frozen 2
      have z3 : wv.cell? ⟨w.heap.size, 3, none⟩ = some (.int .i64 0) := HZ.out.cell 3 _ rfl
      have zf3 := HZ.out.frozen 3
      have z4 : wv.cell? ⟨w.heap.size, 4, none⟩ = some (.int .i64 0) := HZ.out.cell 4 _ rfl
      have zf4 := HZ.out.frozen 4
      have z5 : wv.cell? ⟨w.heap.size, 5, none⟩ = some (.int .i64 0) := HZ.out.cell 5 _ rfl
      have zf5 := HZ.out.frozen 5
      have t0 : wv.cell? ⟨b, 0, none⟩ = some (.int .i64 a) := HT.out.cell 0 _ rfl
      have tf0 := HT.out.frozen 0
      have t1 : wv.cell? ⟨b, 1, none⟩ = some (.int .i64 d) := HT.out.cell 1 _ rfl
      have tf1 := HT.out.frozen 1
      have t2 : wv.cell? ⟨b, 2, none⟩ = some (.int .i64 u) := HT.out.cell 2 _ rfl
      have tf2 := HT.out.frozen 2
      have t3 : wv.cell? ⟨b, 3, none⟩ = some (.int .i64 v) := HT.out.cell 3 _ rfl
      have tf3 := HT.out.frozen 3
      have t4 : wv.cell? ⟨b, 4, none⟩ = some (.int .i64 h) := HT.out.cell 4 _ rfl
      have tf4 := HT.out.frozen 4
      have t5 : wv.cell? ⟨b, 5, none⟩ = some (.int .i64 r) := HT.out.cell 5 _ rfl
      have tf5 := HT.out.frozen 5
      have HE := Lib.hid ((((((HZ.out.set 0 (.int .i64 a)).set 1 (.int .i64 d)).set 2 (.int .i64 u)).set 3 (.int .i64 v)).set 4 (.int .i64 h)).set 5 (.int .i64 r))
      have HCe := Lib.hid (Cur.set (Cur.set (Cur.set (Cur.set (Cur.set (Cur.set HC.out hzp (i := 0) (v := .int .i64 a)) hzp (i := 1) (v := .int .i64 d)) hzp (i := 2) (v := .int .i64 u)) hzp (i := 3) (v := .int .i64 v)) hzp (i := 4) (v := .int .i64 h)) hzp (i := 5) (v := .int .i64 r))
      have HGe := Lib.hid (grown_put (grown_put (grown_put (grown_put (grown_put (grown_put HG.out (Nat.le_refl _) (i := 0) (v := .int .i64 a)) (Nat.le_refl _) (i := 1) (v := .int .i64 d)) (Nat.le_refl _) (i := 2) (v := .int .i64 u)) (Nat.le_refl _) (i := 3) (v := .int .i64 v)) (Nat.le_refl _) (i := 4) (v := .int .i64 h)) (Nat.le_refl _) (i := 5) (v := .int .i64 r))
      clear HT HZ HC HG
      go_wp2_with fail
      have hl := HE.out.load Try.underlying28 rfl (by kernel_rfl)
      refine bodyPost_ret (v := .agg #[.int .i64 a, .int .i64 d, .int .i64 u, .int .i64 v, .int .i64 h, .int .i64 r]) ?_ rfl ⟨_, _, _, _, _, _, rfl, ⟨⟨⟨by omega, by omega⟩, by omega, by omega⟩, ⟨⟨by omega, by omega⟩, by omega, by omega⟩, ⟨by omega, by omega⟩, by omega, by omega⟩, HCe.out.more (by omega), HGe.out⟩
      rw [ats.results_cell1 rfl]
      simp [asAddr, Result.andThen, hl]
    have d1 : (k == 1) = false := by simpa using h1_
    have z0 : wk.cell? ⟨w.heap.size, 0, none⟩ = some (.int .i64 0) := HZ.out.cell 0 _ rfl
    have zf0 := HZ.out.frozen 0
    have z1 : wk.cell? ⟨w.heap.size, 1, none⟩ = some (.int .i64 0) := HZ.out.cell 1 _ rfl
    have zf1 := HZ.out.frozen 1
    have z2 : wk.cell? ⟨w.heap.size, 2, none⟩ = some (.int .i64 0) := HZ.out.cell 2 _ rfl
    have zf2 := HZ.out.frozen 2
    have z3 : wk.cell? ⟨w.heap.size, 3, none⟩ = some (.int .i64 0) := HZ.out.cell 3 _ rfl
    have zf3 := HZ.out.frozen 3
    have z4 : wk.cell? ⟨w.heap.size, 4, none⟩ = some (.int .i64 0) := HZ.out.cell 4 _ rfl
    have zf4 := HZ.out.frozen 4
    have z5 : wk.cell? ⟨w.heap.size, 5, none⟩ = some (.int .i64 0) := HZ.out.cell 5 _ rfl
    have zf5 := HZ.out.frozen 5
    have t0 : wk.cell? ⟨b, 0, none⟩ = some (.int .i64 a) := HT.out.cell 0 _ rfl
    have tf0 := HT.out.frozen 0
    have t1 : wk.cell? ⟨b, 1, none⟩ = some (.int .i64 d) := HT.out.cell 1 _ rfl
    have tf1 := HT.out.frozen 1
    have t2 : wk.cell? ⟨b, 2, none⟩ = some (.int .i64 u) := HT.out.cell 2 _ rfl
    have tf2 := HT.out.frozen 2
    have t3 : wk.cell? ⟨b, 3, none⟩ = some (.int .i64 v) := HT.out.cell 3 _ rfl
    have tf3 := HT.out.frozen 3
    have t4 : wk.cell? ⟨b, 4, none⟩ = some (.int .i64 h) := HT.out.cell 4 _ rfl
    have tf4 := HT.out.frozen 4
    have t5 : wk.cell? ⟨b, 5, none⟩ = some (.int .i64 c) := HT.out.cell 5 _ rfl
    have tf5 := HT.out.frozen 5
    have HE := Lib.hid ((((((HZ.out.set 0 (.int .i64 a)).set 1 (.int .i64 d)).set 2 (.int .i64 u)).set 3 (.int .i64 v)).set 4 (.int .i64 h)).set 5 (.int .i64 c))
    have HCe := Lib.hid (Cur.set (Cur.set (Cur.set (Cur.set (Cur.set (Cur.set HC.out hzp (i := 0) (v := .int .i64 a)) hzp (i := 1) (v := .int .i64 d)) hzp (i := 2) (v := .int .i64 u)) hzp (i := 3) (v := .int .i64 v)) hzp (i := 4) (v := .int .i64 h)) hzp (i := 5) (v := .int .i64 c))
    have HGe := Lib.hid (grown_put (grown_put (grown_put (grown_put (grown_put (grown_put HG.out (Nat.le_refl _) (i := 0) (v := .int .i64 a)) (Nat.le_refl _) (i := 1) (v := .int .i64 d)) (Nat.le_refl _) (i := 2) (v := .int .i64 u)) (Nat.le_refl _) (i := 3) (v := .int .i64 v)) (Nat.le_refl _) (i := 4) (v := .int .i64 h)) (Nat.le_refl _) (i := 5) (v := .int .i64 c))
    clear HT HZ HC HG
    go_wp2_with fail
    have hl := HE.out.load Try.underlying28 rfl (by kernel_rfl)
    refine bodyPost_ret (v := .agg #[.int .i64 a, .int .i64 d, .int .i64 u, .int .i64 v, .int .i64 h, .int .i64 c]) ?_ rfl ⟨_, _, _, _, _, _, rfl, ⟨⟨⟨by omega, by omega⟩, by omega, by omega⟩, ⟨⟨by omega, by omega⟩, by omega, by omega⟩, ⟨by omega, by omega⟩, by omega, by omega⟩, HCe.out.more (by omega), HGe.out⟩
    rw [ats.results_cell1 rfl]
    simp [asAddr, Result.andThen, hl]

def TimeQ (p m : Nat) (w : World) (e : Ending) (w' : World) : Prop := ∃ n d : Int, e = .returned (.tuple #[.int .i64 n, .int .i64 d]) ∧ Cur w' p m ∧ w.grownBy w' (some p)
theorem in_two {d : Int} (d0 : 0 ≤ d) (d1 : d ≤ 1001) : ∀ x ∈ ([0, 1, 7, d, 60 * d, 60 * d + 1, -1] : List Int), -1 ≤ x ∧ x ≤ 60061 := by
  intro x hx
  simp only [List.mem_cons, List.not_mem_nil, or_false] at hx
  omega
set_option maxRecDepth 100000 in
set_option maxHeartbeats 8000000 in
theorem time16 (p m : Nat) (w : World) (h : Cur w p m) (hm : m ≤ 200000) :
    Calls Try.prog 63 #[.pointer (some ⟨p, 0, none⟩)] w (TimeQ p (m + 20) w) := by
  have hp : p < w.heap.size := h.lt
  have C0 := Lib.hid (Cur.alloc h (.cells #[.int .i64 1, .int .i64 2, .int .i64 3, .int .i64 60, .int .i64 1000, .int .i64 0, .int .i64 1001] 3))
  have BW := Lib.hid (show ∀ x ∈ ([1, 2, 3, 60, 1000, 0, 1001] : List Int), 0 ≤ x ∧ x ≤ 1001 by decide)
  clear h
  go_enter Try.func63, Try.ntmps63
  go_wp2_with fail
  refine (pick p m 24 _ C0.out (by omega) (by omega) (by omega)).mono ?_
  rintro e w1 ⟨r, rfl, r0, r1, hc1, hg1⟩
  have C1 := Lib.hid hc1
  have G1 := Lib.hid hg1
  clear hc1 hg1 C0
  have hq : r / 11 = 0 ∨ r / 11 = 1 ∨ r / 11 = 2 := by omega
  rcases hq with hq | hq | hq
  all_goals
    go_wp2_with fail
    refine (among_old 0 1001 p (m + 2) _ 7 _ [1, 2, 3, 60, 1000, 0, 1001] _ _ w1 C1.out (by omega) G1.out rfl hp rfl rfl (by omega) (by omega) (by omega) BW.out).mono ?_
    rintro e w2 ⟨d, rfl, d0, d1, hc2, hg2⟩
    have G2 := Lib.hid (grown_trans (grown_trans (grown_alloc _ _) G1.out) hg2)
    have hp2 : p < w2.heap.size := hc2.lt
    have e1 : IntKind.i64.wrap (60 * d) = 60 * d := IntWalk.i64_in _ (by omega)
    have e2 : IntKind.i64.wrap (60 * d + 1) = 60 * d + 1 := IntWalk.i64_in _ (by omega)
    have BX := Lib.hid (in_two d0 d1)
    have C2 := Lib.hid (Cur.alloc hc2 (.cells #[.int .i64 0, .int .i64 1, .int .i64 7, .int .i64 d, .int .i64 (60 * d), .int .i64 (60 * d + 1), .int .i64 (-1)] 3))
    clear hc2 hg2 C1 G1 hq r0 r1
    go_wp2_with fail
    refine (pick p (m + 4) 24 _ C2.out (by omega) (by omega) (by omega)).mono ?_
    rintro e w3 ⟨q, rfl, q0, q1, hc3, hg3⟩
    have C3 := Lib.hid hc3
    have G3 := Lib.hid hg3
    clear hc3 hg3 C2
    have hq : q / 11 = 0 ∨ q / 11 = 1 ∨ q / 11 = 2 := by omega
    rcases hq with hq | hq | hq
    all_goals
      go_wp2_with fail
      refine (among_old (-1) 60061 p (m + 6) _ 7 _ [0, 1, 7, d, 60 * d, 60 * d + 1, -1] _ _ w3 C3.out (by omega) G3.out rfl hp2 rfl rfl (by omega) (by omega) (by omega) BX.out).mono ?_
      rintro e w4 ⟨n, rfl, n0, n1, hc4, hg4⟩
      have C4 := Lib.hid hc4
      have G4 := Lib.hid (grown_trans (grown_trans G2.out (grown_trans (grown_alloc _ _) G3.out)) hg4)
      clear hc4 hg4 C3 G3 G2
      go_wp2_with fail
      go_ret2
      exact ⟨_, _, rfl, C4.out.more (by omega), G4.out⟩
end Go.Proofs.Ytinkkdgjpcnklaa.draws16
