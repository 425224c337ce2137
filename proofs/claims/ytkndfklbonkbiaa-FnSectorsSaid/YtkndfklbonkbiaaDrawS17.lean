/- spec's draw of a sector. -/
import Derived.Test.YtkndfklbonkbiaaAtC
import Derived.Test.YtkndfklbonkbiaaCurInt
import Derived.Test.YtkndfklbonkbiaaSctE
import Derived.Test.YtkndfklbonkbiaaSctH
import Derived.Deep.CutRange
import Derived.Deep.CutBlock
namespace Go.Proofs.Ytkndfklbonkbiaa.draws17
set_option linter.unusedVariables false
set_option linter.unusedSimpArgs false
open Go.RowKit Go.Proofs.Ytkndfklbonkbiaa.cur Go.Proofs.Ytkndfklbonkbiaa.atc Go.Proofs.Ytkndfklbonkbiaa.ats Go.Proofs.Ytkndfklbonkbiaa.ints Go.Proofs.Ytkndfklbonkbiaa.lst Go.Proofs.Ytkndfklbonkbiaa.scth Go.Proofs.Ytkndfklbonkbiaa.scte Go.Proofs.Ytkndfklbonkbiaa.sctj Go.Proofs.Ytkndfklbonkbiaa.tailh

/-- What a draw of a sector returns. -/
def SecQ (p m : Nat) (w : World) (e : Ending) (w' : World) : Prop := ∃ (d : Int) (v : Value) (n : Nat) (zs : List Int), e = .returned (.agg #[.int .i64 d, v]) ∧ w'.ownsRow w.heap.size 31 2 v n (cellsI zs) ∧ n ≤ 6 ∧ Sd n zs ∧ Cur w' p m ∧ w.grownBy w' (some p)
/-- 'among', where what is drawn is in the list. -/
theorem amongM (p m b o n c : Nat) (xs : List Int) (w : World) (h : Cur w p m) (hm : m ≤ 900000) (hn : 1 ≤ n) (hn2 : n ≤ 60000) (hl : xs.length = n) (hbp : b ≠ p)
    (hcell : ∀ j x, xs[j]? = some x → w.cell? ⟨b, o + j, none⟩ = some (.int .i64 x)) :
    Calls Try.prog 69 #[.pointer (some ⟨p, 0, none⟩), .slice (some ⟨b, o, none⟩) n c] w fun e w' => ∃ x, e = .returned (.int .i64 x) ∧ x ∈ xs ∧ Cur w' p (m + 2) ∧ w.grownBy w' (some p) := by
  have hx := Lib.hid (pick p m n w h hm (by omega) (by omega))
  have HC := Lib.hid hcell
  have HL := Lib.hid hl
  clear h hcell hl
  go_enter Try.func69, Try.ntmps69
  go_wp2_with fail
  refine hx.out.mono ?_
  rintro e w1 ⟨r, rfl, r0, r1, hc1, hg1⟩
  obtain ⟨j, rfl⟩ := Int.eq_ofNat_of_zero_le r0
  have hj : j < n := by omega
  obtain ⟨x, hxj⟩ : ∃ x, xs[j]? = some x := ⟨_, List.getElem?_eq_getElem (by rw [HL.out]; exact hj)⟩
  have hcx := hg1.cell (HC.out j x hxj) (fun e => hbp (by simpa using e))
  have HX := Lib.hid (List.mem_of_getElem? hxj)
  have hj2 : (j : Int) < (n : Int) := by omega
  clear hxj r0 r1
  go_wp2_with fail
  go_ret
  exact ⟨x, rfl, HX.out, hc1, hg1⟩
theorem amongM_new (p m n : Nat) (xs : List Int) (cs : Array Value) (w : World) (h : Cur w p m) (hm : m ≤ 900000) (hn : 1 ≤ n) (hn2 : n ≤ 60000) (hcs : cs.toList = xs.map (Value.int .i64)) (hl : xs.length = n) :
    Calls Try.prog 69 #[.pointer (some ⟨p, 0, none⟩), .slice (some ⟨w.heap.size, 0, none⟩) n n] (w.alloc (.cells cs 3)) fun e w' => ∃ x, e = .returned (.int .i64 x) ∧ x ∈ xs ∧ Cur w' p (m + 2) ∧ (w.alloc (.cells cs 3)).grownBy w' (some p) := by
  have hlt := h.lt
  have hb : Below (p + 1) w (w.alloc (.cells cs 3)) := (Below.refl _ _).alloc (by omega) _
  refine amongM p m w.heap.size 0 n n xs _ (h.keep hb) hm hn hn2 hl (by omega) ?_
  intro j x hx
  rw [Nat.zero_add, cell_of_row _ _ j cs 3 (0, 0) (heap_alloc_new w _)]
  rw [← Array.getElem?_toList, hcs]
  simp [hx]
theorem grown_put {w W : World} {p b i : Nat} {v : Value} (h : w.grownBy W (some p)) (hb : w.heap.size ≤ b) : w.grownBy (W.setCell ⟨b, i, none⟩ v) (some p) :=
  ⟨h.os, h.tape, h.output, by have := h.size; simpa [World.setCell] using this, fun k hk hne => (Go.Deep.blk_setCell_other W ⟨b, i, none⟩ v k (by show k ≠ b; omega)).trans (h.block k hk hne)⟩
theorem grown_append {w wr w1 : World} {o : Obj} {p B e size n : Nat} {v : Value} {xs : List Value} (hg : w.grownBy wr (some p)) (h : wr.ownsRow B e size v n xs) (hB : w.heap.size ≤ B) (ha : (wr.alloc o).grownBy w1 v.ownBlock) : w.grownBy w1 (some p) :=
  ⟨ha.os.trans hg.os, ha.tape.trans hg.tape, ha.output.trans hg.output, Nat.le_trans hg.size (Nat.le_trans (by rw [World.size_alloc]; omega) ha.size), fun k hk hne => by
    have h1 := ha.block k (by have := hg.size; rw [World.size_alloc]; omega) (fun e => by have := own_.row_ge h k e.symm; omega)
    have h2 : (wr.alloc o).heap[k]? = wr.heap[k]? := Below.heap_alloc wr o k (by have := hg.size; omega)
    exact h1.trans (h2.trans (hg.block k hk hne))⟩
theorem cur_append {wr w1 : World} {o : Obj} {p m B e size n : Nat} {v : Value} {xs : List Value} (hc : Cur wr p m) (h : wr.ownsRow B e size v n xs) (hB : p < B) (hs : B ≤ wr.heap.size) (ha : (wr.alloc o).grownBy w1 v.ownBlock) : Cur w1 p m :=
  hc.keep (((Below.refl (p + 1) wr).alloc (by omega) o).grown ha (by rw [World.size_alloc]; omega) (fun k e => by have := own_.row_ge h k e; omega))
theorem own_new4 (V : World) (a b c d e f g h : Int) : (V.alloc (.cells #[.int .i64 a, .int .i64 b, .int .i64 c, .int .i64 d, .int .i64 e, .int .i64 f, .int .i64 g, .int .i64 h] 31)).ownsRow V.heap.size 31 2 (.slice (some ⟨V.heap.size, 0, none⟩) 4 4) 4 (cellsI [a, b, c, d, e, f, g, h]) :=
  ⟨rfl, .inr ⟨V.heap.size, 4, _, rfl, Nat.le_refl _, heap_alloc_new V _, Nat.le_refl _, by decide, rfl, rfl⟩⟩
theorem row_ne {W : World} {B n c b g T : Nat} {xs : List Value} {cs : Array Value} (h : W.ownsRow B 31 2 (.slice (some ⟨g, 0, none⟩) n c) n xs) (hb : Blk T cs W b) (ht : T ≠ 31) : b ≠ g := by
  rintro rfl
  rcases h.2 with ⟨h', _⟩ | ⟨g', cap', cur, h', _, hg, _⟩
  · cases h'
  · simp only [Value.slice.injEq, Option.some.injEq, Addr.mk.injEq, and_true, true_and] at h'
    obtain ⟨rfl, rfl⟩ := h'
    have e := hb.symm.trans hg
    injection e with e
    injection e with _ e
    exact ht e
theorem Blk.set {T : Nat} {cs : Array Value} {W : World} {b : Nat} (h : Blk T cs W b) (i : Nat) (v : Value) : Blk T (cs.setIfInBounds i v) (W.setCell ⟨b, i, none⟩ v) b := heap_setCell_same _ b i _ _ v h
theorem Blk.other {T : Nat} {cs : Array Value} {W : World} {b b' : Nat} (h : Blk T cs W b) (hne : b ≠ b') (i : Nat) (v : Value) : Blk T cs (W.setCell ⟨b', i, none⟩ v) b := (Go.Deep.blk_setCell_other W ⟨b', i, none⟩ v b hne).trans h
theorem own_cut {W : World} {B g n c : Nat} {zs : List Int} (h : W.ownsRow B 31 2 (.slice (some ⟨g, 0, none⟩) n c) n (cellsI zs)) {k : Nat} (hk : k ≤ n) : W.ownsRow B 31 2 (.slice (some ⟨g, 0, none⟩) k c) k (cellsI (zs.take (k * 2))) := by
  unfold cellsI
  rw [List.map_take]
  rcases h with ⟨hl, ⟨h', _⟩ | ⟨g', cap', cur, h', hb, hg, hnc, hcm, hcs, htake⟩⟩
  · simp at h'
  · simp only [Value.slice.injEq, Option.some.injEq, Addr.mk.injEq, and_true, true_and] at h'
    obtain ⟨rfl, rfl⟩ := h'
    refine ⟨by unfold cellsI at hl; rw [List.length_take, hl]; omega, .inr ⟨g, c, cur, rfl, hb, hg, by omega, hcm, hcs, ?_⟩⟩
    unfold cellsI at htake
    rw [← htake, List.take_take, Nat.min_eq_left (by omega)]
theorem own_le {W : World} {B g n c : Nat} {xs : List Value} (h : W.ownsRow B 31 2 (.slice (some ⟨g, 0, none⟩) n c) n xs) : n ≤ c ∧ B ≤ g ∧ g < W.heap.size := by
  rcases h.2 with ⟨h', _⟩ | ⟨g', cap', cur, h', hb, hg, hnc, hcm, hcs, htake⟩
  · simp at h'
  · simp only [Value.slice.injEq, Option.some.injEq, Addr.mk.injEq, and_true, true_and] at h'
    obtain ⟨rfl, rfl⟩ := h'
    exact ⟨hnc, hb, (Array.getElem?_eq_some_iff.1 hg).1⟩
theorem own_drew {W : World} {B e s n : Nat} {v : Value} {xs : List Value} (h : W.ownsRow B e s v n xs) : W.drew.ownsRow B e s v n xs := h
theorem grown_drew {w w' : World} {r : Option Nat} (h : w.grownBy w' r) : w.grownBy w'.drew r := ⟨h.os, h.tape, h.output, h.size, h.block⟩
theorem Blk.app {T : Nat} {cs : Array Value} {W W' : World} {b : Nat} {r : Option Nat} (h : Blk T cs W b) (hg : W.grownBy W' r) (hne : ∀ q, r = some q → b ≠ q) : Blk T cs W' b := (hg.block b h.lt (fun e => hne b e.symm rfl)).trans h
theorem row_some {W : World} {B n c : Nat} {A : Option Addr} {xs : List Value} (h : W.ownsRow B 31 2 (.slice A n c) n xs) (hn : 0 < n) : ∃ g, A = some ⟨g, 0, none⟩ := by
  rcases h.2 with ⟨_, h'⟩ | ⟨g', cap', cur, h', _⟩
  · omega
  · injection h' with h'
    exact ⟨g', h'⟩
theorem own_put2 {W : World} {B g n c : Nat} {zs : List Int} (h : W.ownsRow B 31 2 (.slice (some ⟨g, 0, none⟩) n c) n (cellsI zs)) (k : Nat) (a b : Int) : ((W.setCell ⟨g, k * 2, none⟩ (.int .i64 a)).setCell ⟨g, k * 2 + 1, none⟩ (.int .i64 b)).ownsRow B 31 2 (.slice (some ⟨g, 0, none⟩) n c) n (cellsI ((zs.set (k * 2) a).set (k * 2 + 1) b)) := by
  have s := ((h.stored (k * 2) (.int .i64 a)).1.stored (k * 2 + 1) (.int .i64 b)).1
  unfold cellsI at s ⊢
  rw [← List.map_set, ← List.map_set] at s
  exact s
set_option maxRecDepth 100000 in
set_option maxHeartbeats 16000000 in
theorem sector (p m : Nat) (w : World) (h : Cur w p m) (hm : m ≤ 200000) :
    Calls Try.prog 53 #[.pointer (some ⟨p, 0, none⟩)] w (SecQ p (m + 60) w) := by
  have hpB : p < w.heap.size := h.lt
  obtain ⟨inf, hi, hz0, hz1, hz2⟩ := info_parts infoP
  have HZ := Lib.hid (Blk.new 42 #[.int .i64 0, .slice none 0 0] w)
  have HC := Lib.hid (Cur.alloc h (.cells #[.int .i64 0, .slice none 0 0] 42))
  have HG := Lib.hid (show w.grownBy (w.alloc (.cells #[.int .i64 0, .slice none 0 0] 42)) (some p) from grown_alloc _ _)
  clear h
  go_enter Try.func53, Try.ntmps53
  go_wp2_with fail
  generalize w.alloc (.cells #[.int .i64 0, .slice none 0 0] 42) = W0 at *
  refine (pick p _ 20 W0 HC.out (by omega) (by omega) (by omega)).mono ?_
  rintro e w1 ⟨a, rfl, a0, a1, hc, hg⟩
  have HZ := Lib.hid (HZ.out.grown hg (Nat.ne_of_gt hpB))
  have HC := Lib.hid hc
  have HG := Lib.hid (grown_trans HG.out hg)
  clear hc hg
  have e0_ : IntKind.i64.wrap (100 * a) = 100 * a := IntWalk.i64_in _ (by omega)
  go_wp2_with fail
  refine (pick p _ 20 w1 HC.out (by omega) (by omega) (by omega)).mono ?_
  rintro e w2 ⟨b, rfl, b0, b1, hc, hg⟩
  have HZ := Lib.hid (HZ.out.grown hg (Nat.ne_of_gt hpB))
  have HC := Lib.hid hc
  have HG := Lib.hid (grown_trans HG.out hg)
  clear hc hg
  have e0_ : IntKind.i64.wrap (100 * a) = 100 * a := IntWalk.i64_in _ (by omega)
  have e1_ : IntKind.i64.wrap (100 * b) = 100 * b := IntWalk.i64_in _ (by omega)
  go_wp2_with fail
  clear e0_ e1_
  have x0 : 0 ≤ 100 * a := by omega
  have x1 : 100 * a ≤ 1900 := by omega
  have y0 : 0 ≤ 100 * b := by omega
  have y1 : 100 * b ≤ 1900 := by omega
  clear a0 a1 b0 b1
  generalize 100 * a = x at *
  generalize 100 * b = y at *
  refine (pick p _ 30 w2 HC.out (by omega) (by omega) (by omega)).mono ?_
  rintro e w3 ⟨a, rfl, a0, a1, hc, hg⟩
  have HZ := Lib.hid (HZ.out.grown hg (Nat.ne_of_gt hpB))
  have HC := Lib.hid hc
  have HG := Lib.hid (grown_trans HG.out hg)
  clear hc hg
  have e0_ : IntKind.i64.wrap (1 + a) = 1 + a := IntWalk.i64_in _ (by omega)
  have e1_ : IntKind.i64.wrap (10 * (1 + a)) = 10 * (1 + a) := IntWalk.i64_in _ (by omega)
  go_wp2_with fail
  refine (pick p _ 30 w3 HC.out (by omega) (by omega) (by omega)).mono ?_
  rintro e w4 ⟨b, rfl, b0, b1, hc, hg⟩
  have HZ := Lib.hid (HZ.out.grown hg (Nat.ne_of_gt hpB))
  have HC := Lib.hid hc
  have HG := Lib.hid (grown_trans HG.out hg)
  clear hc hg
  have e0_ : IntKind.i64.wrap (1 + a) = 1 + a := IntWalk.i64_in _ (by omega)
  have e1_ : IntKind.i64.wrap (10 * (1 + a)) = 10 * (1 + a) := IntWalk.i64_in _ (by omega)
  have e2_ : IntKind.i64.wrap (1 + b) = 1 + b := IntWalk.i64_in _ (by omega)
  have e3_ : IntKind.i64.wrap (10 * (1 + b)) = 10 * (1 + b) := IntWalk.i64_in _ (by omega)
  go_wp2_with fail
  clear e0_ e1_ e2_ e3_
  have u0 : 0 < 10 * (1 + a) := by omega
  have u1 : 10 * (1 + a) ≤ 300 := by omega
  have v0 : 0 < 10 * (1 + b) := by omega
  have v1 : 10 * (1 + b) ≤ 300 := by omega
  clear a0 a1 b0 b1
  generalize 10 * (1 + a) = ww at *
  generalize 10 * (1 + b) = hh at *
  refine (pick p _ 9 w4 HC.out (by omega) (by omega) (by omega)).mono ?_
  rintro e w5 ⟨i, rfl, i0, i1, hc, hg⟩
  have HZ := Lib.hid (HZ.out.grown hg (Nat.ne_of_gt hpB))
  have HC := Lib.hid hc
  have HG := Lib.hid (grown_trans HG.out hg)
  clear hc hg
  have e0_ : IntKind.i64.wrap (1 + i) = 1 + i := IntWalk.i64_in _ (by omega)
  have e1_ : IntKind.i64.wrap (x + ww) = x + ww := IntWalk.i64_in _ (by omega)
  have e2_ : IntKind.i64.wrap (y + hh) = y + hh := IntWalk.i64_in _ (by omega)
  have OW := Lib.hid (own_.own_below (own_.own_base (own_new4 w5 x y (x + ww) y (x + ww) (y + hh) x (y + hh)) HG.out.size) ((Below.refl _ _).alloc (Nat.le_refl _) (.cells #[.int .i64 (1 + i), .slice (some ⟨w5.heap.size, 0, none⟩) 4 4] 42)))
  have HT := Lib.hid (Blk.new 42 #[.int .i64 (1 + i), .slice (some ⟨w5.heap.size, 0, none⟩) 4 4] (w5.alloc (.cells #[.int .i64 x, .int .i64 y, .int .i64 (x + ww), .int .i64 y, .int .i64 (x + ww), .int .i64 (y + hh), .int .i64 x, .int .i64 (y + hh)] 31)))
  rw [World.size_alloc] at HT
  have HZ := Lib.hid ((HZ.out.alloc (.cells #[.int .i64 x, .int .i64 y, .int .i64 (x + ww), .int .i64 y, .int .i64 (x + ww), .int .i64 (y + hh), .int .i64 x, .int .i64 (y + hh)] 31)).alloc (.cells #[.int .i64 (1 + i), .slice (some ⟨w5.heap.size, 0, none⟩) 4 4] 42))
  have HC := Lib.hid (Cur.alloc (Cur.alloc HC.out (.cells #[.int .i64 x, .int .i64 y, .int .i64 (x + ww), .int .i64 y, .int .i64 (x + ww), .int .i64 (y + hh), .int .i64 x, .int .i64 (y + hh)] 31)) (.cells #[.int .i64 (1 + i), .slice (some ⟨w5.heap.size, 0, none⟩) 4 4] 42))
  have hgs : w.heap.size ≤ w5.heap.size := HG.out.size
  have HG := Lib.hid (grown_trans HG.out (grown_trans (grown_alloc (.cells #[.int .i64 x, .int .i64 y, .int .i64 (x + ww), .int .i64 y, .int .i64 (x + ww), .int .i64 (y + hh), .int .i64 x, .int .i64 (y + hh)] 31) (some p)) (grown_alloc (.cells #[.int .i64 (1 + i), .slice (some ⟨w5.heap.size, 0, none⟩) 4 4] 42) (some p))))
  have hrb : w.heap.size < w5.heap.size + 1 := by omega
  have hpb : p < w5.heap.size + 1 := by omega
  go_upto_region 4 with fail
  clear e0_ e1_ e2_
  generalize (w5.alloc (.cells #[.int .i64 x, .int .i64 y, .int .i64 (x + ww), .int .i64 y, .int .i64 (x + ww), .int .i64 (y + hh), .int .i64 x, .int .i64 (y + hh)] 31)).alloc (.cells #[.int .i64 (1 + i), .slice (some ⟨w5.heap.size, 0, none⟩) 4 4] 42) = W6 at *
  generalize w5.heap.size + 1 = b at *
  generalize w5.heap.size = g at *
  generalize 1 + i = d at *
  go_wp2_with fail
  refine (pick p _ 5 W6 HC.out (by omega) (by omega) (by omega)).mono ?_
  rintro e w7 ⟨k, rfl, k0, k1, hc, hg⟩
  have OW := Lib.hid (own_kept OW.out hg (fun g e => by cases e; exact hpB))
  have HT := Lib.hid (HT.out.grown hg (Nat.ne_of_gt hpb))
  have HZ := Lib.hid (HZ.out.grown hg (Nat.ne_of_gt hpB))
  have HC := Lib.hid hc
  have HG := Lib.hid (grown_trans HG.out hg)
  clear hc hg
  go_upto_block 0 with fail
  go_cut [] from 49 to 88 (fun wz => ∃ (g n c : Nat) (zs : List Int), Bs n zs y ∧ Blk 42 #[.int .i64 d, .slice (some ⟨g, 0, none⟩) n c] wz b ∧ wz.ownsRow w.heap.size 31 2 (.slice (some ⟨g, 0, none⟩) n c) n (cellsI zs) ∧ Cur wz p (m + 26) ∧ w.grownBy wz (some p) ∧ Blk 42 #[.int .i64 0, .slice none 0 0] wz w.heap.size)
  case first =>
    by_cases h0_ : k = 0
    · subst h0_
      have t0_ : w7.cell? ⟨b, 0, none⟩ = some (.int .i64 d) := HT.out.cell 0 _ rfl
      have tf0_ := HT.out.frozen 0
      have t1_ : w7.cell? ⟨b, 1, none⟩ = some (.slice (some ⟨g, 0, none⟩) 4 4) := HT.out.cell 1 _ rfl
      have tf1_ := HT.out.frozen 1
      have OW := Lib.hid (own_cut OW.out (k := 3) (by omega))
      have OW := Lib.hid (own_kept_at OW.out (grown_set (grown_refl _ (some (b))) 1 (.slice (some ⟨g, 0, none⟩) 3 4)) (fun q e h => (row_ne OW.out HT.out (by decide)) ((Option.some.inj h).trans (Option.some.inj (show some g = some q from e)).symm)))
      have HT := Lib.hid (Blk.set HT.out 1 (.slice (some ⟨g, 0, none⟩) 3 4))
      have HZ := Lib.hid (Blk.other HZ.out (Nat.ne_of_lt hrb) 1 (.slice (some ⟨g, 0, none⟩) 3 4))
      have HC := Lib.hid (Cur.set HC.out hpb (i := 1) (v := .slice (some ⟨g, 0, none⟩) 3 4))
      have HG := Lib.hid (grown_put HG.out (Nat.le_of_lt hrb) (i := 1) (v := .slice (some ⟨g, 0, none⟩) 3 4))
      go_wp2_with fail
      go_meet
      exact ⟨g, 3, 4, _, ⟨x, ww, hh, 0, 0, ⟨x0, x1, u0, u1, v0⟩, .inl ⟨rfl, rfl⟩⟩, HT.out, OW.out, HC.out.more (by omega), HG.out, HZ.out⟩
    have d0_ : (k == 0) = false := by simpa using h0_
    by_cases h1_ : k = 1
    · subst h1_
      obtain ⟨N, hN⟩ : ∃ N : Nat, N = 4 := ⟨_, rfl⟩
      have HT := Lib.hid (show Blk 42 #[.int .i64 d, .slice (some ⟨g, 0, none⟩) N N] w7 b by rw [hN]; exact HT.out)
      have OW := Lib.hid (show w7.ownsRow w.heap.size 31 2 (.slice (some ⟨g, 0, none⟩) N N) N (cellsI [x, y, x + ww, y, x + ww, y + hh, x, y + hh]) by rw [hN]; exact OW.out)
      have HN := Lib.hid hN
      clear hN
      have t0_ : w7.cell? ⟨b, 0, none⟩ = some (.int .i64 d) := HT.out.cell 0 _ rfl
      have tf0_ := HT.out.frozen 0
      have t1_ : w7.cell? ⟨b, 1, none⟩ = some (.slice (some ⟨g, 0, none⟩) N N) := HT.out.cell 1 _ rfl
      have tf1_ := HT.out.frozen 1
      have q0_ : ww.tdiv 2 = ww / 2 := Int.tdiv_eq_ediv_of_nonneg (by omega)
      have q1_ : hh.tdiv 2 = hh / 2 := Int.tdiv_eq_ediv_of_nonneg (by omega)
      have e0_ : IntKind.i64.wrap (ww.tdiv 2) = ww / 2 := by rw [q0_]; exact IntWalk.i64_in _ (by omega)
      have e3_ : IntKind.i64.wrap (hh.tdiv 2) = hh / 2 := by rw [q1_]; exact IntWalk.i64_in _ (by omega)
      have e1_ : IntKind.i64.wrap (x + ww / 2) = x + ww / 2 := IntWalk.i64_in _ (by omega)
      have e2_ : IntKind.i64.wrap (y + hh / 2) = y + hh / 2 := IntWalk.i64_in _ (by omega)
      have hws := HG.out.size
      go_wp2_with (
        at_builtin
        refine wpList_append_own _ rfl (.tmp 58) (.tmp 68) 40 rfl w.heap.size 31 inf (.agg #[.int .i64 0, .int .i64 0]) 2 16 Try.underlying40 hi hz0 hz1 hz2 rfl (by decide) _ N (cellsI [x, y, x + ww, y, x + ww, y + hh, x, y + hh]) rfl (OW.out.alloc _) ⟨w7.heap.size, 0, none⟩ 1 1 [.int .i64 (x + ww / 2), .int .i64 (y + hh / 2)] rfl rfl (cells_new w7 31 #[.int .i64 (x + ww / 2), .int .i64 (y + hh / 2)]) (two_cells _ _) (by have := HN.out; unfold maxLen; omega) (by have := HN.out; omega) (by have := HN.out; simp; omega) ?_
        intro v8 w8 ho8 hg8 hn8
        obtain ⟨A8, c8, rfl⟩ := own_sliceZ ho8
        have HC := Lib.hid (cur_append HC.out OW.out hpB hws hg8)
        have HG := Lib.hid (grown_append HG.out OW.out (Nat.le_refl _) hg8)
        have OW := Lib.hid (own_.own_below OW.out ((Below.refl _ _).alloc (Nat.le_refl _) (.cells #[.int .i64 (x + ww / 2), .int .i64 (y + hh / 2)] 31)))
        have HT := Lib.hid (HT.out.alloc (.cells #[.int .i64 (x + ww / 2), .int .i64 (y + hh / 2)] 31))
        have HZ := Lib.hid (HZ.out.alloc (.cells #[.int .i64 (x + ww / 2), .int .i64 (y + hh / 2)] 31))
        have HT := Lib.hid (Blk.app HT.out hg8 (fun q e h => row_ne OW.out HT.out (by decide) (h.trans (Option.some.inj (show some g = some q from e)).symm)))
        have HZ := Lib.hid (Blk.app HZ.out hg8 (fun q e h => row_ne OW.out HZ.out (by decide) (h.trans (Option.some.inj (show some g = some q from e)).symm)))
        have OW := Lib.hid (own_app2 ho8)
        have HN2 := HN.out
        subst HN2
        obtain ⟨g8, rfl⟩ := row_some OW.out (by omega)
        clear ho8 hg8 hn8 HN t0_ t1_ tf0_ tf1_
        have t0_ : w8.cell? ⟨b, 0, none⟩ = some (.int .i64 d) := HT.out.cell 0 _ rfl
        have tf0_ := HT.out.frozen 0
        have t1_ : w8.cell? ⟨b, 1, none⟩ = some (.slice (some ⟨g, 0, none⟩) 4 4) := HT.out.cell 1 _ rfl
        have tf1_ := HT.out.frozen 1
        have OW := Lib.hid (own_kept_at OW.out (grown_set (grown_refl _ (some (b))) 1 (.slice (some ⟨g8, 0, none⟩) 5 c8)) (fun q e h => (row_ne OW.out HT.out (by decide)) ((Option.some.inj h).trans (Option.some.inj (show some g8 = some q from e)).symm)))
        have HT := Lib.hid (Blk.set HT.out 1 (.slice (some ⟨g8, 0, none⟩) 5 c8))
        have HZ := Lib.hid (Blk.other HZ.out (Nat.ne_of_lt hrb) 1 (.slice (some ⟨g8, 0, none⟩) 5 c8))
        have HC := Lib.hid (Cur.set HC.out hpb (i := 1) (v := .slice (some ⟨g8, 0, none⟩) 5 c8))
        have HG := Lib.hid (grown_put HG.out (Nat.le_of_lt hrb) (i := 1) (v := .slice (some ⟨g8, 0, none⟩) 5 c8))
        skip
      )
      go_wp2_with fail
      go_meet
      exact ⟨g8, 5, c8, _, ⟨x, ww, hh, ww / 2, hh / 2, ⟨x0, x1, u0, u1, v0⟩, .inr (.inr (.inl ⟨rfl, by omega, rfl⟩))⟩, HT.out, OW.out, HC.out.more (by omega), HG.out, HZ.out⟩
    have d1_ : (k == 1) = false := by simpa using h1_
    by_cases h2_ : k = 2
    · subst h2_
      go_upto_region 10 with fail
      have OW := Lib.hid (own_drew OW.out)
      have HT := Lib.hid HT.out.drew
      have HZ := Lib.hid HZ.out.drew
      have HC := Lib.hid (HC.out.keep (Below.refl _ _).drew)
      have HG := Lib.hid (grown_drew HG.out)
      refine wp_region_tail (S := fun w' => World.cell? w' ⟨b, 1, none⟩ = some (.slice (some ⟨g, 0, none⟩) 4 4)) 16 (by kernel_rfl) (HT.out.cell 1 _ rfl) (fun hHeld => ?_)
      generalize w7.drew = W8 at *
      try simp only [Act.put, List.getElem_toArray, List.getElem_cons_succ, List.getElem_cons_zero, List.setIfInBounds_toArray, List.set_cons_succ, List.set_cons_zero]
      refine wpAnyE_take (i := 0) (v := ?vt10) rfl (by decide +kernel) (fun _ _ _ h => h) (Or.inl ⟨by first | rfl | kernel_rfl, ?ht10⟩) (by assumption) ?rt10
      case ht10 =>
        intro wS hSw
        go_simp
        try with_reducible rfl
      try simp only [Act.put, List.getElem_toArray, List.getElem_cons_succ, List.getElem_cons_zero, List.setIfInBounds_toArray, List.set_cons_succ, List.set_cons_zero]
      refine wpAnyE_take (i := 1) (v := ?vt11) rfl (by decide +kernel) (fun _ _ _ h => h) (Or.inl ⟨by first | rfl | kernel_rfl, ?ht11⟩) (by assumption) ?rt11
      case ht11 =>
        intro wS hSw
        go_simp
        try with_reducible rfl
      try simp only [Act.put, List.getElem_toArray, List.getElem_cons_succ, List.getElem_cons_zero, List.setIfInBounds_toArray, List.set_cons_succ, List.set_cons_zero]
      refine wpAnyE_take (i := 2) (v := ?vt12) rfl (by decide +kernel) (fun _ _ _ h => h) (Or.inl ⟨by first | rfl | kernel_rfl, ?ht12⟩) (by assumption) ?rt12
      case ht12 =>
        intro wS hSw
        go_simp
        try with_reducible rfl
      try simp only [Act.put, List.getElem_toArray, List.getElem_cons_succ, List.getElem_cons_zero, List.setIfInBounds_toArray, List.set_cons_succ, List.set_cons_zero]
      refine wpAnyE_take (i := 4) (v := ?vt14) rfl (by decide +kernel) (fun _ _ _ h => h) (Or.inl ⟨by first | rfl | kernel_rfl, ?ht14⟩) (by assumption) ?rt14
      case ht14 =>
        intro wS hSw
        go_simp
        try with_reducible rfl
      try simp only [Act.put, List.getElem_toArray, List.getElem_cons_succ, List.getElem_cons_zero, List.setIfInBounds_toArray, List.set_cons_succ, List.set_cons_zero]
      refine wpAnyE_take (i := 5) (v := ?vt15) rfl (by decide +kernel) (fun _ _ _ h => h) (Or.inl ⟨by first | rfl | kernel_rfl, ?ht15⟩) (by assumption) ?rt15
      case ht15 =>
        intro wS hSw
        go_simp
        try with_reducible rfl
      try simp only [Act.put, List.getElem_toArray, List.getElem_cons_succ, List.getElem_cons_zero, List.setIfInBounds_toArray, List.set_cons_succ, List.set_cons_zero]
      refine wpAnyE_take (i := 6) (v := ?vt16) rfl (by decide +kernel) (fun _ _ _ h => h) (Or.inl ⟨by first | rfl | kernel_rfl, ?ht16⟩) (by assumption) ?rt16
      case ht16 =>
        intro wS hSw
        go_simp
        try with_reducible rfl
      try simp only [Act.put, List.getElem_toArray, List.getElem_cons_succ, List.getElem_cons_zero, List.setIfInBounds_toArray, List.set_cons_succ, List.set_cons_zero]
      refine wpAnyE_take (i := 9) (v := ?vt19) rfl (by decide +kernel) (fun _ _ _ h => h) (Or.inl ⟨by first | rfl | kernel_rfl, ?ht19⟩) (by assumption) ?rt19
      case ht19 =>
        intro wS hSw
        go_simp
        try with_reducible rfl
      try simp only [Act.put, List.getElem_toArray, List.getElem_cons_succ, List.getElem_cons_zero, List.setIfInBounds_toArray, List.set_cons_succ, List.set_cons_zero]
      refine wpAnyE_take (i := 10) (v := ?vt110) rfl (by decide +kernel) (fun _ _ _ h => h) (Or.inl ⟨by first | rfl | kernel_rfl, ?ht110⟩) (by assumption) ?rt110
      case ht110 =>
        intro wS hSw
        go_simp
        try with_reducible rfl
      try simp only [Act.put, List.getElem_toArray, List.getElem_cons_succ, List.getElem_cons_zero, List.setIfInBounds_toArray, List.set_cons_succ, List.set_cons_zero]
      refine wpAnyE_take (i := 11) (v := ?vt111) rfl (by decide +kernel) (fun _ _ _ h => h) (Or.inl ⟨by first | rfl | kernel_rfl, ?ht111⟩) (by assumption) ?rt111
      case ht111 =>
        intro wS hSw
        go_simp
        try with_reducible rfl
      try simp only [Act.put, List.getElem_toArray, List.getElem_cons_succ, List.getElem_cons_zero, List.setIfInBounds_toArray, List.set_cons_succ, List.set_cons_zero]
      refine wpAnyE_ready (rs := [3]) (by kernel_rfl) (by simp) ?_
      refine AllReadyE.cons (i := 3) rfl (by decide) (fun K hK => ?_) AllReadyE.nil
      go_simp
      refine (pick p _ 4 W8 HC.out (by omega) (by omega) (by omega)).mono ?_
      rintro e w9 ⟨j, rfl, j0, j1, hc, hg⟩
      obtain ⟨jn, rfl⟩ := Int.eq_ofNat_of_zero_le j0
      have hj : jn < 4 := by omega
      have hj2 : (jn : Int) < 4 := by omega
      have hj3 : (jn : Int) < ((4 : Nat) : Int) := by omega
      have OW := Lib.hid (own_kept OW.out hg (fun g e => by cases e; exact hpB))
      have HT := Lib.hid (HT.out.grown hg (Nat.ne_of_gt hpb))
      have HZ := Lib.hid (HZ.out.grown hg (Nat.ne_of_gt hpB))
      have HC := Lib.hid hc
      have HG := Lib.hid (grown_trans HG.out hg)
      clear hc hg
      go_simp
      refine hK.out _ _ (HT.out.cell 1 _ rfl) (fun hHeld => ?_)
      clear hK K
      try simp only [Act.put, List.getElem_toArray, List.getElem_cons_succ, List.getElem_cons_zero, List.setIfInBounds_toArray, List.set_cons_succ, List.set_cons_zero]
      refine wpAnyE_ready (rs := [7]) (by kernel_rfl) (by simp) ?_
      refine AllReadyE.cons (i := 7) rfl (by decide) (fun K hK => ?_) AllReadyE.nil
      go_simp
      refine (pick p _ ww w9 HC.out (by omega) (by omega) (by omega)).mono ?_
      rintro e w10 ⟨r, rfl, r0, r1, hc, hg⟩
      have OW := Lib.hid (own_kept OW.out hg (fun g e => by cases e; exact hpB))
      have HT := Lib.hid (HT.out.grown hg (Nat.ne_of_gt hpb))
      have HZ := Lib.hid (HZ.out.grown hg (Nat.ne_of_gt hpB))
      have HC := Lib.hid hc
      have HG := Lib.hid (grown_trans HG.out hg)
      clear hc hg
      have e0_ : IntKind.i64.wrap (x + r) = x + r := IntWalk.i64_in _ (by omega)
      go_simp
      refine hK.out _ _ (HT.out.cell 1 _ rfl) (fun hHeld => ?_)
      clear hK K
      try simp only [Act.put, List.getElem_toArray, List.getElem_cons_succ, List.getElem_cons_zero, List.setIfInBounds_toArray, List.set_cons_succ, List.set_cons_zero]
      refine wpAnyE_take (i := 8) (v := ?vt18) rfl (by decide +kernel) (fun _ _ _ h => h) (Or.inl ⟨by first | rfl | kernel_rfl, ?ht18⟩) (by assumption) ?rt18
      case ht18 =>
        intro wS hSw
        go_simp
        try with_reducible rfl
      try simp only [Act.put, List.getElem_toArray, List.getElem_cons_succ, List.getElem_cons_zero, List.setIfInBounds_toArray, List.set_cons_succ, List.set_cons_zero]
      refine wpAnyE_ready (rs := [12]) (by kernel_rfl) (by simp) ?_
      refine AllReadyE.cons (i := 12) rfl (by decide) (fun K hK => ?_) AllReadyE.nil
      go_simp
      refine (pick p _ hh w10 HC.out (by omega) (by omega) (by omega)).mono ?_
      rintro e w11 ⟨s, rfl, s0, s1, hc, hg⟩
      have OW := Lib.hid (own_kept OW.out hg (fun g e => by cases e; exact hpB))
      have HT := Lib.hid (HT.out.grown hg (Nat.ne_of_gt hpb))
      have HZ := Lib.hid (HZ.out.grown hg (Nat.ne_of_gt hpB))
      have HC := Lib.hid hc
      have HG := Lib.hid (grown_trans HG.out hg)
      clear hc hg
      have e1_ : IntKind.i64.wrap (y + s) = y + s := IntWalk.i64_in _ (by omega)
      go_simp
      refine hK.out _ _ (HT.out.cell 1 _ rfl) (fun hHeld => ?_)
      clear hK K
      try simp only [Act.put, List.getElem_toArray, List.getElem_cons_succ, List.getElem_cons_zero, List.setIfInBounds_toArray, List.set_cons_succ, List.set_cons_zero]
      refine wpAnyE_take (i := 13) (v := ?vt113) rfl (by decide +kernel) (fun _ _ _ h => h) (Or.inl ⟨by first | rfl | kernel_rfl, ?ht113⟩) (by assumption) ?rt113
      case ht113 =>
        intro wS hSw
        go_simp
        try with_reducible rfl
      try simp only [Act.put, List.getElem_toArray, List.getElem_cons_succ, List.getElem_cons_zero, List.setIfInBounds_toArray, List.set_cons_succ, List.set_cons_zero]
      refine wpAnyE_take (i := 14) (v := ?vt114) rfl (by decide +kernel) (fun _ _ _ h => h) (Or.inl ⟨by first | rfl | kernel_rfl, ?ht114⟩) (by assumption) ?rt114
      case ht114 =>
        intro wS hSw
        go_simp
        try with_reducible rfl
      try simp only [Act.put, List.getElem_toArray, List.getElem_cons_succ, List.getElem_cons_zero, List.setIfInBounds_toArray, List.set_cons_succ, List.set_cons_zero]
      refine wpAnyE_take (i := 15) (v := ?vt115) rfl (by decide +kernel) (fun _ _ _ h => h) (Or.inl ⟨by first | rfl | kernel_rfl, ?ht115⟩) (by assumption) ?rt115
      case ht115 =>
        intro wS hSw
        go_simp
        try with_reducible rfl
      try simp only [Act.put, List.getElem_toArray, List.getElem_cons_succ, List.getElem_cons_zero, List.setIfInBounds_toArray, List.set_cons_succ, List.set_cons_zero]
      obtain ⟨⟨p0_, p1_⟩, lb_⟩ := sctu.corner (RdZ.of_own OW.out rfl) (show jn < _ by omega) (Below.refl _ w11)
      rw [Nat.zero_add] at p0_ p1_
      have pf0_ := OW.out.frozenAt (jn * 2)
      have pf1_ := OW.out.frozenAt (jn * 2 + 1)
      refine wpAnyE_ready (rs := [16]) (by kernel_rfl) (by simp) ?_
      refine AllReadyE.last (i := 16) rfl rfl (fun K hK => ?_)
      go_simp
      refine hK.out _ _ ?_
      clear hK K
      try simp only [Act.put, List.getElem_toArray, List.getElem_cons_succ, List.getElem_cons_zero, List.setIfInBounds_toArray, List.set_cons_succ, List.set_cons_zero]
      refine wpAnyE_done (by kernel_rfl) ?_ _
      try simp only [List.getElem_toArray, List.getElem_cons_succ, List.getElem_cons_zero, List.setIfInBounds_toArray, List.set_cons_succ, List.set_cons_zero]
      have NB := Lib.hid (row_ne OW.out HT.out (by decide))
      have NZ := Lib.hid (row_ne OW.out HZ.out (by decide))
      have hwg := (own_le OW.out).2.1
      have hpg : p < g := Nat.lt_of_lt_of_le hpB hwg
      have OW := Lib.hid (own_put2 OW.out (jn) (x + r) (y + s))
      have HT := Lib.hid (Blk.other (Blk.other HT.out NB.out (jn * 2) (.int .i64 (x + r))) NB.out (jn * 2 + 1) (.int .i64 (y + s)))
      have HZ := Lib.hid (Blk.other (Blk.other HZ.out NZ.out (jn * 2) (.int .i64 (x + r))) NZ.out (jn * 2 + 1) (.int .i64 (y + s)))
      have HC := Lib.hid (Cur.set (Cur.set HC.out hpg (i := jn * 2) (v := .int .i64 (x + r))) hpg (i := jn * 2 + 1) (v := .int .i64 (y + s)))
      have HG := Lib.hid (grown_put (grown_put HG.out hwg (i := jn * 2) (v := .int .i64 (x + r))) hwg (i := jn * 2 + 1) (v := .int .i64 (y + s)))
      clear p0_ p1_ lb_ pf0_ pf1_
      go_wp2_with fail
      go_meet
      exact ⟨g, 4, 4, _, ⟨x, ww, hh, r, s, ⟨x0, x1, u0, u1, v0⟩, .inr (.inr (.inr ⟨⟨r0, by omega, s0, by omega⟩, rfl, jn, hj, rfl⟩))⟩, HT.out, OW.out, HC.out.more (by omega), HG.out, HZ.out⟩
    have d2_ : (k == 2) = false := by simpa using h2_
    go_wp2_with fail
    go_meet
    exact ⟨g, 4, 4, _, ⟨x, ww, hh, 0, 0, ⟨x0, x1, u0, u1, v0⟩, .inr (.inl ⟨rfl, rfl⟩)⟩, HT.out, OW.out, HC.out.more (by omega), HG.out, HZ.out⟩
  case rest =>
    obtain ⟨g, n, c, zs, hbs, ht, ho, hc, hg, hz⟩ := hcut
    generalize wc = w8 at *
    have HT := Lib.hid ht
    have OW := Lib.hid ho
    have HC := Lib.hid hc
    have HG := Lib.hid hg
    have HZ := Lib.hid hz
    have HBS := Lib.hid hbs
    obtain ⟨hl, hn3, hn5⟩ := bs_len hbs
    have HL := Lib.hid hl
    have hnc := (own_le ho).1
    clear ht ho hc hg hz hbs hl
    go_wp2_with fail
    refine (pick p _ 20 w8 HC.out (by omega) (by omega) (by omega)).mono ?_
    rintro e w9 ⟨q, rfl, q0, q1, hc, hg⟩
    have OW := Lib.hid (own_kept OW.out hg (fun g e => by cases e; exact hpB))
    have HT := Lib.hid (HT.out.grown hg (Nat.ne_of_gt hpb))
    have HZ := Lib.hid (HZ.out.grown hg (Nat.ne_of_gt hpB))
    have HC := Lib.hid hc
    have HG := Lib.hid (grown_trans HG.out hg)
    clear hc hg
    by_cases g0_ : q = 0
    · subst g0_
      go_wp2_with fail
      refine (among_new (0) 100 p _ 3 [0, 99, 100] _ w9 HC.out (by omega) (by omega) (by omega) rfl rfl (by decide)).mono ?_
      rintro e w10 ⟨dd, rfl, dd0, dd1, hc, hg⟩
      have OW := Lib.hid (own_kept OW.out hg (fun g e => by cases e; exact hpB))
      have HT := Lib.hid (HT.out.grown hg (Nat.ne_of_gt hpb))
      have HZ := Lib.hid (HZ.out.grown hg (Nat.ne_of_gt hpB))
      have HC := Lib.hid hc
      have HG := Lib.hid (grown_trans HG.out hg)
      clear hc hg
      have t0_ : w10.cell? ⟨b, 0, none⟩ = some (.int .i64 d) := HT.out.cell 0 _ rfl
      have tf0_ := HT.out.frozen 0
      have t1_ : w10.cell? ⟨b, 1, none⟩ = some (.slice (some ⟨g, 0, none⟩) n c) := HT.out.cell 1 _ rfl
      have tf1_ := HT.out.frozen 1
      go_upto_region 20 with fail
      clear t0_ t1_ tf0_ tf1_
      have OW := Lib.hid (own_kept_at OW.out (grown_set (grown_refl _ (some (b))) 0 (.int .i64 dd)) (fun q e h => (row_ne OW.out HT.out (by decide)) ((Option.some.inj h).trans (Option.some.inj (show some g = some q from e)).symm)))
      have HT := Lib.hid (Blk.set HT.out 0 (.int .i64 dd))
      have HZ := Lib.hid (Blk.other HZ.out (Nat.ne_of_lt hrb) 0 (.int .i64 dd))
      have HC := Lib.hid (Cur.set HC.out hpb (i := 0) (v := .int .i64 dd))
      have HG := Lib.hid (grown_put HG.out (Nat.le_of_lt hrb) (i := 0) (v := .int .i64 dd))
      generalize w10.setCell ⟨b, 0, none⟩ (.int .i64 dd) = w11 at *
      have HSD := Lib.hid (bs_sd HBS.out)
      have t0_ : w11.cell? ⟨b, 0, none⟩ = some (.int .i64 dd) := HT.out.cell 0 _ rfl
      have t1_ : w11.cell? ⟨b, 1, none⟩ = some (.slice (some ⟨g, 0, none⟩) n c) := HT.out.cell 1 _ rfl
      have z0_ : w11.cell? ⟨w.heap.size, 0, none⟩ = some (.int .i64 0) := HZ.out.cell 0 _ rfl
      have z1_ : w11.cell? ⟨w.heap.size, 1, none⟩ = some (.slice none 0 0) := HZ.out.cell 1 _ rfl
      have zf0_ := HZ.out.frozen 0
      have zf1_ := HZ.out.frozen 1
      have OW := Lib.hid (own_kept_at OW.out (grown_set (grown_refl _ (some (w.heap.size))) 0 (.int .i64 dd)) (fun q e h => (row_ne OW.out HZ.out (by decide)) ((Option.some.inj h).trans (Option.some.inj (show some g = some q from e)).symm)))
      have HZ := Lib.hid (Blk.set HZ.out 0 (.int .i64 dd))
      have HC := Lib.hid (Cur.set HC.out hpB (i := 0) (v := .int .i64 dd))
      have HG := Lib.hid (grown_put HG.out (Nat.le_refl _) (i := 0) (v := .int .i64 dd))
      have OW := Lib.hid (own_kept_at OW.out (grown_set (grown_refl _ (some (w.heap.size))) 1 (.slice (some ⟨g, 0, none⟩) n c)) (fun q e h => (row_ne OW.out HZ.out (by decide)) ((Option.some.inj h).trans (Option.some.inj (show some g = some q from e)).symm)))
      have HZ := Lib.hid (Blk.set HZ.out 1 (.slice (some ⟨g, 0, none⟩) n c))
      have HC := Lib.hid (Cur.set HC.out hpB (i := 1) (v := .slice (some ⟨g, 0, none⟩) n c))
      have HG := Lib.hid (grown_put HG.out (Nat.le_refl _) (i := 1) (v := .slice (some ⟨g, 0, none⟩) n c))
      clear HT HBS
      go_wp2_with fail
      have hl := HZ.out.load Try.underlying42 rfl (by kernel_rfl)
      refine bodyPost_ret (v := .agg #[.int .i64 dd, .slice (some ⟨g, 0, none⟩) n c]) ?_ rfl ⟨_, _, _, _, rfl, OW.out, by omega, HSD.out, HC.out.more (by omega), HG.out⟩
      rw [results_cell1 rfl]
      simp [asAddr, Result.andThen, hl]
    have f0_ : (q == 0) = false := by simpa using g0_
    by_cases g1_ : q = 1
    · subst g1_
      go_upto_region 15 with fail
      have OW := Lib.hid (own_drew OW.out)
      have HT := Lib.hid HT.out.drew
      have HZ := Lib.hid HZ.out.drew
      have HC := Lib.hid (HC.out.keep (Below.refl _ _).drew)
      have HG := Lib.hid (grown_drew HG.out)
      refine wp_region_tail (S := fun w' => World.cell? w' ⟨b, 1, none⟩ = some (.slice (some ⟨g, 0, none⟩) n c)) 11 (by kernel_rfl) (HT.out.cell 1 _ rfl) (fun hHeld => ?_)
      generalize w9.drew = W9 at *
      try simp only [Act.put, List.getElem_toArray, List.getElem_cons_succ, List.getElem_cons_zero, List.setIfInBounds_toArray, List.set_cons_succ, List.set_cons_zero]
      refine wpAnyE_take (i := 0) (v := ?vt20) rfl (by decide +kernel) (fun _ _ _ h => h) (Or.inl ⟨by first | rfl | kernel_rfl, ?ht20⟩) (by assumption) ?rt20
      case ht20 =>
        intro wS hSw
        go_simp
        try with_reducible rfl
      try simp only [Act.put, List.getElem_toArray, List.getElem_cons_succ, List.getElem_cons_zero, List.setIfInBounds_toArray, List.set_cons_succ, List.set_cons_zero]
      refine wpAnyE_take (i := 1) (v := ?vt21) rfl (by decide +kernel) (fun _ _ _ h => h) (Or.inl ⟨by first | rfl | kernel_rfl, ?ht21⟩) (by assumption) ?rt21
      case ht21 =>
        intro wS hSw
        go_simp
        try with_reducible rfl
      try simp only [Act.put, List.getElem_toArray, List.getElem_cons_succ, List.getElem_cons_zero, List.setIfInBounds_toArray, List.set_cons_succ, List.set_cons_zero]
      refine wpAnyE_take (i := 2) (v := ?vt22) rfl (by decide +kernel) (fun _ _ _ h => h) (Or.inl ⟨by first | rfl | kernel_rfl, ?ht22⟩) (by assumption) ?rt22
      case ht22 =>
        intro wS hSw
        go_simp
        try with_reducible rfl
      try simp only [Act.put, List.getElem_toArray, List.getElem_cons_succ, List.getElem_cons_zero, List.setIfInBounds_toArray, List.set_cons_succ, List.set_cons_zero]
      refine wpAnyE_take (i := 3) (v := ?vt23) rfl (by decide +kernel) (fun _ _ _ h => h) (Or.inl ⟨by first | rfl | kernel_rfl, ?ht23⟩) (by assumption) ?rt23
      case ht23 =>
        intro wS hSw
        go_simp
        try with_reducible rfl
      try simp only [Act.put, List.getElem_toArray, List.getElem_cons_succ, List.getElem_cons_zero, List.setIfInBounds_toArray, List.set_cons_succ, List.set_cons_zero]
      refine wpAnyE_take (i := 4) (v := ?vt24) rfl (by decide +kernel) (fun _ _ _ h => h) (Or.inl ⟨by first | rfl | kernel_rfl, ?ht24⟩) (by assumption) ?rt24
      case ht24 =>
        intro wS hSw
        go_simp
        try with_reducible rfl
      try simp only [Act.put, List.getElem_toArray, List.getElem_cons_succ, List.getElem_cons_zero, List.setIfInBounds_toArray, List.set_cons_succ, List.set_cons_zero]
      refine wpAnyE_ready (rs := [5]) (by kernel_rfl) (by simp) ?_
      refine AllReadyE.cons (i := 5) rfl (by decide) (fun K hK => ?_) AllReadyE.nil
      go_simp
      refine (pick p _ 3 W9 HC.out (by omega) (by omega) (by omega)).mono ?_
      rintro e w10 ⟨j, rfl, j0, j1, hc, hg⟩
      obtain ⟨jn, rfl⟩ := Int.eq_ofNat_of_zero_le j0
      have hj : jn < 3 := by omega
      have hjn : jn < n := by omega
      have hj2 : (jn : Int) < 3 := by omega
      have hj3 : (jn : Int) < (n : Int) := by omega
      have OW := Lib.hid (own_kept OW.out hg (fun g e => by cases e; exact hpB))
      have HT := Lib.hid (HT.out.grown hg (Nat.ne_of_gt hpb))
      have HZ := Lib.hid (HZ.out.grown hg (Nat.ne_of_gt hpB))
      have HC := Lib.hid hc
      have HG := Lib.hid (grown_trans HG.out hg)
      clear hc hg
      go_simp
      refine hK.out _ _ (HT.out.cell 1 _ rfl) (fun hHeld => ?_)
      clear hK K
      try simp only [Act.put, List.getElem_toArray, List.getElem_cons_succ, List.getElem_cons_zero, List.setIfInBounds_toArray, List.set_cons_succ, List.set_cons_zero]
      refine wpAnyE_take (i := 6) (v := ?vt26) rfl (by decide +kernel) (fun _ _ _ h => h) (Or.inl ⟨by first | rfl | kernel_rfl, ?ht26⟩) (by assumption) ?rt26
      case ht26 =>
        intro wS hSw
        go_simp
        try with_reducible rfl
      try simp only [Act.put, List.getElem_toArray, List.getElem_cons_succ, List.getElem_cons_zero, List.setIfInBounds_toArray, List.set_cons_succ, List.set_cons_zero]
      refine wpAnyE_ready (rs := [7]) (by kernel_rfl) (by simp) ?_
      refine AllReadyE.cons (i := 7) rfl (by decide) (fun K hK => ?_) AllReadyE.nil
      obtain ⟨⟨p0_, p1_⟩, lb_⟩ := sctu.corner (RdZ.of_own OW.out HL.out) hjn (Below.refl _ w10)
      rw [Nat.zero_add] at p0_ p1_
      have HDU := Lib.hid (sd_dup (zs := zs) HL.out hjn)
      generalize cX zs jn = x8 at *
      generalize cY zs jn = y8 at *
      go_simp
      refine hK.out _ _ (HT.out.cell 1 _ rfl) (fun hHeld => ?_)
      clear hK K
      try simp only [Act.put, List.getElem_toArray, List.getElem_cons_succ, List.getElem_cons_zero, List.setIfInBounds_toArray, List.set_cons_succ, List.set_cons_zero]
      refine wpAnyE_ready (rs := [8]) (by kernel_rfl) (by simp) ?_
      refine AllReadyE.cons (i := 8) rfl (by decide) (fun K hK => ?_) AllReadyE.nil
      go_simp
      have HCo := HC
      have HGo := HG
      have OWo := OW
      have hws := HG.out.size
      have OW := Lib.hid (own_.own_below OW.out ((Below.refl _ _).alloc (Nat.le_refl _) (.cells #[.int .i64 x8, .int .i64 y8] 31)))
      have HT := Lib.hid (HT.out.alloc (.cells #[.int .i64 x8, .int .i64 y8] 31))
      have HZ := Lib.hid (HZ.out.alloc (.cells #[.int .i64 x8, .int .i64 y8] 31))
      have HG := Lib.hid (grown_trans HG.out (grown_alloc (.cells #[.int .i64 x8, .int .i64 y8] 31) (some p)))
      refine hK.out _ _ (HT.out.cell 1 _ rfl) (fun hHeld => ?_)
      clear hK K
      try simp only [Act.put, List.getElem_toArray, List.getElem_cons_succ, List.getElem_cons_zero, List.setIfInBounds_toArray, List.set_cons_succ, List.set_cons_zero]
      refine wpAnyE_ready (rs := [9]) (by kernel_rfl) (by simp) ?_
      refine AllReadyE.cons (i := 9) rfl (by decide) (fun K hK => ?_) AllReadyE.nil
      refine step_append_sz rfl (.tmp 100) (.tmp 107) 40 rfl w.heap.size 31 inf (.agg #[.int .i64 0, .int .i64 0]) 2 16 Try.underlying40 hi hz0 hz1 hz2 rfl (by decide) (.slice (some ⟨g, 0, none⟩) n c) n (cellsI zs) rfl OW.out _ 1 1 [.int .i64 x8, .int .i64 y8] rfl rfl (cells_new w10 31 #[.int .i64 x8, .int .i64 y8]) (two_cells _ _) (by unfold maxLen; omega) (by omega) (by simp; omega) ?_
      intro v12 w12 ho12 hg12 hr12
      have HC := Lib.hid (cur_append HCo.out OWo.out hpB hws hg12)
      have HG := Lib.hid (grown_append HGo.out OWo.out (Nat.le_refl _) hg12)
      have HT := Lib.hid (Blk.app HT.out hg12 (fun q e h => row_ne OW.out HT.out (by decide) (h.trans (Option.some.inj (show some g = some q from e)).symm)))
      have HZ := Lib.hid (Blk.app HZ.out hg12 (fun q e h => row_ne OW.out HZ.out (by decide) (h.trans (Option.some.inj (show some g = some q from e)).symm)))
      have OW := Lib.hid (own_app2 ho12)
      obtain ⟨A12, c12, rfl⟩ := own_sliceZ OW.out
      obtain ⟨g12, rfl⟩ := row_some OW.out (by omega)
      clear ho12 hg12 hr12 HCo HGo OWo
      refine hK.out _ _ (HT.out.cell 1 _ rfl) (fun hHeld => ?_)
      clear hK K
      try simp only [Act.put, List.getElem_toArray, List.getElem_cons_succ, List.getElem_cons_zero, List.setIfInBounds_toArray, List.set_cons_succ, List.set_cons_zero]
      refine wpAnyE_take (i := 10) (v := ?vt210) rfl (by decide +kernel) (fun _ _ _ h => h) (Or.inl ⟨by first | rfl | kernel_rfl, ?ht210⟩) (by assumption) ?rt210
      case ht210 =>
        intro wS hSw
        go_simp
        try with_reducible rfl
      try simp only [Act.put, List.getElem_toArray, List.getElem_cons_succ, List.getElem_cons_zero, List.setIfInBounds_toArray, List.set_cons_succ, List.set_cons_zero]
      have t0_ : w12.cell? ⟨b, 0, none⟩ = some (.int .i64 d) := HT.out.cell 0 _ rfl
      have tf0_ := HT.out.frozen 0
      have t1_ : w12.cell? ⟨b, 1, none⟩ = some (.slice (some ⟨g, 0, none⟩) n c) := HT.out.cell 1 _ rfl
      have tf1_ := HT.out.frozen 1
      refine wpAnyE_ready (rs := [11]) (by kernel_rfl) (by simp) ?_
      refine AllReadyE.last (i := 11) rfl rfl (fun K hK => ?_)
      go_simp
      refine hK.out _ _ ?_
      clear hK K
      try simp only [Act.put, List.getElem_toArray, List.getElem_cons_succ, List.getElem_cons_zero, List.setIfInBounds_toArray, List.set_cons_succ, List.set_cons_zero]
      refine wpAnyE_done (by kernel_rfl) ?_ _
      try simp only [List.getElem_toArray, List.getElem_cons_succ, List.getElem_cons_zero, List.setIfInBounds_toArray, List.set_cons_succ, List.set_cons_zero]
      clear t0_ t1_ tf0_ tf1_
      have OW := Lib.hid (own_kept_at OW.out (grown_set (grown_refl _ (some (b))) 1 (.slice (some ⟨g12, 0, none⟩) (n + 1) c12)) (fun q e h => (row_ne OW.out HT.out (by decide)) ((Option.some.inj h).trans (Option.some.inj (show some g12 = some q from e)).symm)))
      have HT := Lib.hid (Blk.set HT.out 1 (.slice (some ⟨g12, 0, none⟩) (n + 1) c12))
      have HZ := Lib.hid (Blk.other HZ.out (Nat.ne_of_lt hrb) 1 (.slice (some ⟨g12, 0, none⟩) (n + 1) c12))
      have HC := Lib.hid (Cur.set HC.out hpb (i := 1) (v := .slice (some ⟨g12, 0, none⟩) (n + 1) c12))
      have HG := Lib.hid (grown_put HG.out (Nat.le_of_lt hrb) (i := 1) (v := .slice (some ⟨g12, 0, none⟩) (n + 1) c12))
      generalize w12.setCell ⟨b, 1, none⟩ (.slice (some ⟨g12, 0, none⟩) (n + 1) c12) = w13 at *
      have HSD := Lib.hid (HDU.out)
      have t0_ : w13.cell? ⟨b, 0, none⟩ = some (.int .i64 d) := HT.out.cell 0 _ rfl
      have t1_ : w13.cell? ⟨b, 1, none⟩ = some (.slice (some ⟨g12, 0, none⟩) (n + 1) c12) := HT.out.cell 1 _ rfl
      have z0_ : w13.cell? ⟨w.heap.size, 0, none⟩ = some (.int .i64 0) := HZ.out.cell 0 _ rfl
      have z1_ : w13.cell? ⟨w.heap.size, 1, none⟩ = some (.slice none 0 0) := HZ.out.cell 1 _ rfl
      have zf0_ := HZ.out.frozen 0
      have zf1_ := HZ.out.frozen 1
      have OW := Lib.hid (own_kept_at OW.out (grown_set (grown_refl _ (some (w.heap.size))) 0 (.int .i64 d)) (fun q e h => (row_ne OW.out HZ.out (by decide)) ((Option.some.inj h).trans (Option.some.inj (show some g12 = some q from e)).symm)))
      have HZ := Lib.hid (Blk.set HZ.out 0 (.int .i64 d))
      have HC := Lib.hid (Cur.set HC.out hpB (i := 0) (v := .int .i64 d))
      have HG := Lib.hid (grown_put HG.out (Nat.le_refl _) (i := 0) (v := .int .i64 d))
      have OW := Lib.hid (own_kept_at OW.out (grown_set (grown_refl _ (some (w.heap.size))) 1 (.slice (some ⟨g12, 0, none⟩) (n + 1) c12)) (fun q e h => (row_ne OW.out HZ.out (by decide)) ((Option.some.inj h).trans (Option.some.inj (show some g12 = some q from e)).symm)))
      have HZ := Lib.hid (Blk.set HZ.out 1 (.slice (some ⟨g12, 0, none⟩) (n + 1) c12))
      have HC := Lib.hid (Cur.set HC.out hpB (i := 1) (v := .slice (some ⟨g12, 0, none⟩) (n + 1) c12))
      have HG := Lib.hid (grown_put HG.out (Nat.le_refl _) (i := 1) (v := .slice (some ⟨g12, 0, none⟩) (n + 1) c12))
      clear HT HBS
      go_wp2_with fail
      have hl := HZ.out.load Try.underlying42 rfl (by kernel_rfl)
      refine bodyPost_ret (v := .agg #[.int .i64 d, .slice (some ⟨g12, 0, none⟩) (n + 1) c12]) ?_ rfl ⟨_, _, _, _, rfl, OW.out, by omega, HSD.out, HC.out.more (by omega), HG.out⟩
      rw [results_cell1 rfl]
      simp [asAddr, Result.andThen, hl]
    have f1_ : (q == 1) = false := by simpa using g1_
    by_cases g2_ : q = 2
    · subst g2_
      go_upto_region 17 with fail
      have OW := Lib.hid (own_drew OW.out)
      have HT := Lib.hid HT.out.drew
      have HZ := Lib.hid HZ.out.drew
      have HC := Lib.hid (HC.out.keep (Below.refl _ _).drew)
      have HG := Lib.hid (grown_drew HG.out)
      refine wp_region_tail (S := fun w' => World.cell? w' ⟨b, 1, none⟩ = some (.slice (some ⟨g, 0, none⟩) n c)) 6 (by kernel_rfl) (HT.out.cell 1 _ rfl) (fun hHeld => ?_)
      generalize w9.drew = W9 at *
      try simp only [Act.put, List.getElem_toArray, List.getElem_cons_succ, List.getElem_cons_zero, List.setIfInBounds_toArray, List.set_cons_succ, List.set_cons_zero]
      refine wpAnyE_take (i := 0) (v := ?vt30) rfl (by decide +kernel) (fun _ _ _ h => h) (Or.inl ⟨by first | rfl | kernel_rfl, ?ht30⟩) (by assumption) ?rt30
      case ht30 =>
        intro wS hSw
        go_simp
        try with_reducible rfl
      try simp only [Act.put, List.getElem_toArray, List.getElem_cons_succ, List.getElem_cons_zero, List.setIfInBounds_toArray, List.set_cons_succ, List.set_cons_zero]
      refine wpAnyE_take (i := 1) (v := ?vt31) rfl (by decide +kernel) (fun _ _ _ h => h) (Or.inl ⟨by first | rfl | kernel_rfl, ?ht31⟩) (by assumption) ?rt31
      case ht31 =>
        intro wS hSw
        go_simp
        try with_reducible rfl
      try simp only [Act.put, List.getElem_toArray, List.getElem_cons_succ, List.getElem_cons_zero, List.setIfInBounds_toArray, List.set_cons_succ, List.set_cons_zero]
      refine wpAnyE_take (i := 2) (v := ?vt32) rfl (by decide +kernel) (fun _ _ _ h => h) (Or.inl ⟨by first | rfl | kernel_rfl, ?ht32⟩) (by assumption) ?rt32
      case ht32 =>
        intro wS hSw
        go_simp
        try with_reducible rfl
      try simp only [Act.put, List.getElem_toArray, List.getElem_cons_succ, List.getElem_cons_zero, List.setIfInBounds_toArray, List.set_cons_succ, List.set_cons_zero]
      refine wpAnyE_ready (rs := [3]) (by kernel_rfl) (by simp) ?_
      refine AllReadyE.cons (i := 3) rfl (by decide) (fun K hK => ?_) AllReadyE.nil
      go_simp
      refine (pick p _ 3 W9 HC.out (by omega) (by omega) (by omega)).mono ?_
      rintro e w10 ⟨j, rfl, j0, j1, hc, hg⟩
      obtain ⟨jn, rfl⟩ := Int.eq_ofNat_of_zero_le j0
      have hj : jn < 3 := by omega
      have hjn : jn ≤ n := by omega
      have hjc : jn ≤ c := by omega
      have hj2 : (jn : Int) ≤ (c : Int) := by omega
      have hj0 : (0 : Int) ≤ (jn : Int) := j0
      have OW := Lib.hid (own_kept OW.out hg (fun g e => by cases e; exact hpB))
      have HT := Lib.hid (HT.out.grown hg (Nat.ne_of_gt hpb))
      have HZ := Lib.hid (HZ.out.grown hg (Nat.ne_of_gt hpB))
      have HC := Lib.hid hc
      have HG := Lib.hid (grown_trans HG.out hg)
      clear hc hg
      go_simp
      refine hK.out _ _ (HT.out.cell 1 _ rfl) (fun hHeld => ?_)
      clear hK K
      try simp only [Act.put, List.getElem_toArray, List.getElem_cons_succ, List.getElem_cons_zero, List.setIfInBounds_toArray, List.set_cons_succ, List.set_cons_zero]
      refine wpAnyE_take (i := 4) (v := ?vt34) rfl (by decide +kernel) (fun _ _ _ h => h) (Or.inl ⟨by first | rfl | kernel_rfl, ?ht34⟩) (by assumption) ?rt34
      case ht34 =>
        intro wS hSw
        go_simp
        try with_reducible rfl
      try simp only [Act.put, List.getElem_toArray, List.getElem_cons_succ, List.getElem_cons_zero, List.setIfInBounds_toArray, List.set_cons_succ, List.set_cons_zero]
      refine wpAnyE_take (i := 5) (v := ?vt35) rfl (by decide +kernel) (fun _ _ _ h => h) (Or.inl ⟨by first | rfl | kernel_rfl, ?ht35⟩) (by assumption) ?rt35
      case ht35 =>
        intro wS hSw
        go_simp
        try with_reducible rfl
      try simp only [Act.put, List.getElem_toArray, List.getElem_cons_succ, List.getElem_cons_zero, List.setIfInBounds_toArray, List.set_cons_succ, List.set_cons_zero]
      have t0_ : w10.cell? ⟨b, 0, none⟩ = some (.int .i64 d) := HT.out.cell 0 _ rfl
      have tf0_ := HT.out.frozen 0
      have t1_ : w10.cell? ⟨b, 1, none⟩ = some (.slice (some ⟨g, 0, none⟩) n c) := HT.out.cell 1 _ rfl
      have tf1_ := HT.out.frozen 1
      refine wpAnyE_ready (rs := [6]) (by kernel_rfl) (by simp) ?_
      refine AllReadyE.last (i := 6) rfl rfl (fun K hK => ?_)
      go_simp
      refine hK.out _ _ ?_
      clear hK K
      try simp only [Act.put, List.getElem_toArray, List.getElem_cons_succ, List.getElem_cons_zero, List.setIfInBounds_toArray, List.set_cons_succ, List.set_cons_zero]
      refine wpAnyE_done (by kernel_rfl) ?_ _
      try simp only [List.getElem_toArray, List.getElem_cons_succ, List.getElem_cons_zero, List.setIfInBounds_toArray, List.set_cons_succ, List.set_cons_zero]
      clear t0_ t1_ tf0_ tf1_
      have OW := Lib.hid (own_cut OW.out hjn)
      have OW := Lib.hid (own_kept_at OW.out (grown_set (grown_refl _ (some (b))) 1 (.slice (some ⟨g, 0, none⟩) jn c)) (fun q e h => (row_ne OW.out HT.out (by decide)) ((Option.some.inj h).trans (Option.some.inj (show some g = some q from e)).symm)))
      have HT := Lib.hid (Blk.set HT.out 1 (.slice (some ⟨g, 0, none⟩) jn c))
      have HZ := Lib.hid (Blk.other HZ.out (Nat.ne_of_lt hrb) 1 (.slice (some ⟨g, 0, none⟩) jn c))
      have HC := Lib.hid (Cur.set HC.out hpb (i := 1) (v := .slice (some ⟨g, 0, none⟩) jn c))
      have HG := Lib.hid (grown_put HG.out (Nat.le_of_lt hrb) (i := 1) (v := .slice (some ⟨g, 0, none⟩) jn c))
      generalize w10.setCell ⟨b, 1, none⟩ (.slice (some ⟨g, 0, none⟩) jn c) = w13 at *
      have HSD := Lib.hid (sd_cut (zs := zs.take (jn * 2)) hj)
      have t0_ : w13.cell? ⟨b, 0, none⟩ = some (.int .i64 d) := HT.out.cell 0 _ rfl
      have t1_ : w13.cell? ⟨b, 1, none⟩ = some (.slice (some ⟨g, 0, none⟩) jn c) := HT.out.cell 1 _ rfl
      have z0_ : w13.cell? ⟨w.heap.size, 0, none⟩ = some (.int .i64 0) := HZ.out.cell 0 _ rfl
      have z1_ : w13.cell? ⟨w.heap.size, 1, none⟩ = some (.slice none 0 0) := HZ.out.cell 1 _ rfl
      have zf0_ := HZ.out.frozen 0
      have zf1_ := HZ.out.frozen 1
      have OW := Lib.hid (own_kept_at OW.out (grown_set (grown_refl _ (some (w.heap.size))) 0 (.int .i64 d)) (fun q e h => (row_ne OW.out HZ.out (by decide)) ((Option.some.inj h).trans (Option.some.inj (show some g = some q from e)).symm)))
      have HZ := Lib.hid (Blk.set HZ.out 0 (.int .i64 d))
      have HC := Lib.hid (Cur.set HC.out hpB (i := 0) (v := .int .i64 d))
      have HG := Lib.hid (grown_put HG.out (Nat.le_refl _) (i := 0) (v := .int .i64 d))
      have OW := Lib.hid (own_kept_at OW.out (grown_set (grown_refl _ (some (w.heap.size))) 1 (.slice (some ⟨g, 0, none⟩) jn c)) (fun q e h => (row_ne OW.out HZ.out (by decide)) ((Option.some.inj h).trans (Option.some.inj (show some g = some q from e)).symm)))
      have HZ := Lib.hid (Blk.set HZ.out 1 (.slice (some ⟨g, 0, none⟩) jn c))
      have HC := Lib.hid (Cur.set HC.out hpB (i := 1) (v := .slice (some ⟨g, 0, none⟩) jn c))
      have HG := Lib.hid (grown_put HG.out (Nat.le_refl _) (i := 1) (v := .slice (some ⟨g, 0, none⟩) jn c))
      clear HT HBS
      go_wp2_with fail
      have hl := HZ.out.load Try.underlying42 rfl (by kernel_rfl)
      refine bodyPost_ret (v := .agg #[.int .i64 d, .slice (some ⟨g, 0, none⟩) jn c]) ?_ rfl ⟨_, _, _, _, rfl, OW.out, by omega, HSD.out, HC.out.more (by omega), HG.out⟩
      rw [results_cell1 rfl]
      simp [asAddr, Result.andThen, hl]
    have f2_ : (q == 2) = false := by simpa using g2_
    by_cases g3_ : q = 3
    · subst g3_
      have h1n : 1 < n := by omega
      have h1n2 : (1 : Int) < (n : Int) := by omega
      go_upto_region 19 with fail
      have OW := Lib.hid (own_drew OW.out)
      have HT := Lib.hid HT.out.drew
      have HZ := Lib.hid HZ.out.drew
      have HC := Lib.hid (HC.out.keep (Below.refl _ _).drew)
      have HG := Lib.hid (grown_drew HG.out)
      refine wp_region_tail (S := fun w' => World.cell? w' ⟨b, 1, none⟩ = some (.slice (some ⟨g, 0, none⟩) n c)) 8 (by kernel_rfl) (HT.out.cell 1 _ rfl) (fun hHeld => ?_)
      generalize w9.drew = W9 at *
      try simp only [Act.put, List.getElem_toArray, List.getElem_cons_succ, List.getElem_cons_zero, List.setIfInBounds_toArray, List.set_cons_succ, List.set_cons_zero]
      refine wpAnyE_take (i := 0) (v := ?vt40) rfl (by decide +kernel) (fun _ _ _ h => h) (Or.inl ⟨by first | rfl | kernel_rfl, ?ht40⟩) (by assumption) ?rt40
      case ht40 =>
        intro wS hSw
        go_simp
        try with_reducible rfl
      try simp only [Act.put, List.getElem_toArray, List.getElem_cons_succ, List.getElem_cons_zero, List.setIfInBounds_toArray, List.set_cons_succ, List.set_cons_zero]
      refine wpAnyE_take (i := 1) (v := ?vt41) rfl (by decide +kernel) (fun _ _ _ h => h) (Or.inl ⟨by first | rfl | kernel_rfl, ?ht41⟩) (by assumption) ?rt41
      case ht41 =>
        intro wS hSw
        go_simp
        try with_reducible rfl
      try simp only [Act.put, List.getElem_toArray, List.getElem_cons_succ, List.getElem_cons_zero, List.setIfInBounds_toArray, List.set_cons_succ, List.set_cons_zero]
      refine wpAnyE_take (i := 2) (v := ?vt42) rfl (by decide +kernel) (fun _ _ _ h => h) (Or.inl ⟨by first | rfl | kernel_rfl, ?ht42⟩) (by assumption) ?rt42
      case ht42 =>
        intro wS hSw
        go_simp
        try with_reducible rfl
      try simp only [Act.put, List.getElem_toArray, List.getElem_cons_succ, List.getElem_cons_zero, List.setIfInBounds_toArray, List.set_cons_succ, List.set_cons_zero]
      refine wpAnyE_take (i := 5) (v := ?vt45) rfl (by decide +kernel) (fun _ _ _ h => h) (Or.inl ⟨by first | rfl | kernel_rfl, ?ht45⟩) (by assumption) ?rt45
      case ht45 =>
        intro wS hSw
        go_simp
        try with_reducible rfl
      try simp only [Act.put, List.getElem_toArray, List.getElem_cons_succ, List.getElem_cons_zero, List.setIfInBounds_toArray, List.set_cons_succ, List.set_cons_zero]
      refine wpAnyE_ready (rs := [3]) (by kernel_rfl) (by simp) ?_
      refine AllReadyE.cons (i := 3) rfl (by decide) (fun K hK => ?_) AllReadyE.nil
      go_simp
      have HCo := HC
      have OW := Lib.hid (own_.own_below OW.out ((Below.refl _ _).alloc (Nat.le_refl _) (.cells #[.int .i64 9899, .int .i64 9900, .int .i64 (-1)] 3)))
      have HT := Lib.hid (HT.out.alloc (.cells #[.int .i64 9899, .int .i64 9900, .int .i64 (-1)] 3))
      have HZ := Lib.hid (HZ.out.alloc (.cells #[.int .i64 9899, .int .i64 9900, .int .i64 (-1)] 3))
      have HG := Lib.hid (grown_trans HG.out (grown_alloc (.cells #[.int .i64 9899, .int .i64 9900, .int .i64 (-1)] 3) (some p)))
      refine hK.out _ _ (HT.out.cell 1 _ rfl) (fun hHeld => ?_)
      clear hK K
      try simp only [Act.put, List.getElem_toArray, List.getElem_cons_succ, List.getElem_cons_zero, List.setIfInBounds_toArray, List.set_cons_succ, List.set_cons_zero]
      refine wpAnyE_ready (rs := [4]) (by kernel_rfl) (by simp) ?_
      refine AllReadyE.cons (i := 4) rfl (by decide) (fun K hK => ?_) AllReadyE.nil
      go_simp
      refine (amongM_new p _ 3 [9899, 9900, -1] _ W9 HCo.out (by omega) (by omega) (by omega) rfl rfl).mono ?_
      rintro e w10 ⟨X1, rfl, hX, hc, hg⟩
      have HX := Lib.hid hX
      clear hX
      have OW := Lib.hid (own_kept OW.out hg (fun g e => by cases e; exact hpB))
      have HT := Lib.hid (HT.out.grown hg (Nat.ne_of_gt hpb))
      have HZ := Lib.hid (HZ.out.grown hg (Nat.ne_of_gt hpB))
      have HC := Lib.hid hc
      have HG := Lib.hid (grown_trans HG.out hg)
      clear hc hg
      clear HCo
      go_simp
      refine hK.out _ _ (HT.out.cell 1 _ rfl) (fun hHeld => ?_)
      clear hK K
      try simp only [Act.put, List.getElem_toArray, List.getElem_cons_succ, List.getElem_cons_zero, List.setIfInBounds_toArray, List.set_cons_succ, List.set_cons_zero]
      refine wpAnyE_take (i := 6) (v := ?vt46) rfl (by decide +kernel) (fun _ _ _ h => h) (Or.inl ⟨by first | rfl | kernel_rfl, ?ht46⟩) (by assumption) ?rt46
      case ht46 =>
        intro wS hSw
        go_simp
        try with_reducible rfl
      try simp only [Act.put, List.getElem_toArray, List.getElem_cons_succ, List.getElem_cons_zero, List.setIfInBounds_toArray, List.set_cons_succ, List.set_cons_zero]
      refine wpAnyE_take (i := 7) (v := ?vt47) rfl (by decide +kernel) (fun _ _ _ h => h) (Or.inl ⟨by first | rfl | kernel_rfl, ?ht47⟩) (by assumption) ?rt47
      case ht47 =>
        intro wS hSw
        go_simp
        try with_reducible rfl
      try simp only [Act.put, List.getElem_toArray, List.getElem_cons_succ, List.getElem_cons_zero, List.setIfInBounds_toArray, List.set_cons_succ, List.set_cons_zero]
      obtain ⟨⟨p0_, p1_⟩, lb_⟩ := sctu.corner (RdZ.of_own OW.out HL.out) (show 1 < _ by omega) (Below.refl _ w10)
      rw [Nat.zero_add] at p0_ p1_
      have pf0_ := OW.out.frozenAt (1 * 2)
      have pf1_ := OW.out.frozenAt (1 * 2 + 1)
      refine wpAnyE_ready (rs := [8]) (by kernel_rfl) (by simp) ?_
      refine AllReadyE.last (i := 8) rfl rfl (fun K hK => ?_)
      go_simp
      refine hK.out _ _ ?_
      clear hK K
      try simp only [Act.put, List.getElem_toArray, List.getElem_cons_succ, List.getElem_cons_zero, List.setIfInBounds_toArray, List.set_cons_succ, List.set_cons_zero]
      refine wpAnyE_done (by kernel_rfl) ?_ _
      try simp only [List.getElem_toArray, List.getElem_cons_succ, List.getElem_cons_zero, List.setIfInBounds_toArray, List.set_cons_succ, List.set_cons_zero]
      clear p0_ p1_ lb_ pf0_ pf1_
      have NB := Lib.hid (row_ne OW.out HT.out (by decide))
      have NZ := Lib.hid (row_ne OW.out HZ.out (by decide))
      have hwg := (own_le OW.out).2.1
      have hpg : p < g := Nat.lt_of_lt_of_le hpB hwg
      have OW := Lib.hid (own_put2 OW.out (1) (X1) (y))
      have HT := Lib.hid (Blk.other (Blk.other HT.out NB.out (1 * 2) (.int .i64 (X1))) NB.out (1 * 2 + 1) (.int .i64 (y)))
      have HZ := Lib.hid (Blk.other (Blk.other HZ.out NZ.out (1 * 2) (.int .i64 (X1))) NZ.out (1 * 2 + 1) (.int .i64 (y)))
      have HC := Lib.hid (Cur.set (Cur.set HC.out hpg (i := 1 * 2) (v := .int .i64 (X1))) hpg (i := 1 * 2 + 1) (v := .int .i64 (y)))
      have HG := Lib.hid (grown_put (grown_put HG.out hwg (i := 1 * 2) (v := .int .i64 (X1))) hwg (i := 1 * 2 + 1) (v := .int .i64 (y)))
      generalize (w10.setCell ⟨g, 1 * 2, none⟩ (.int .i64 X1)).setCell ⟨g, 1 * 2 + 1, none⟩ (.int .i64 y) = w13 at *
      have HSD := Lib.hid (bs_right HBS.out HX.out)
      have t0_ : w13.cell? ⟨b, 0, none⟩ = some (.int .i64 d) := HT.out.cell 0 _ rfl
      have t1_ : w13.cell? ⟨b, 1, none⟩ = some (.slice (some ⟨g, 0, none⟩) n c) := HT.out.cell 1 _ rfl
      have z0_ : w13.cell? ⟨w.heap.size, 0, none⟩ = some (.int .i64 0) := HZ.out.cell 0 _ rfl
      have z1_ : w13.cell? ⟨w.heap.size, 1, none⟩ = some (.slice none 0 0) := HZ.out.cell 1 _ rfl
      have zf0_ := HZ.out.frozen 0
      have zf1_ := HZ.out.frozen 1
      have OW := Lib.hid (own_kept_at OW.out (grown_set (grown_refl _ (some (w.heap.size))) 0 (.int .i64 d)) (fun q e h => (row_ne OW.out HZ.out (by decide)) ((Option.some.inj h).trans (Option.some.inj (show some g = some q from e)).symm)))
      have HZ := Lib.hid (Blk.set HZ.out 0 (.int .i64 d))
      have HC := Lib.hid (Cur.set HC.out hpB (i := 0) (v := .int .i64 d))
      have HG := Lib.hid (grown_put HG.out (Nat.le_refl _) (i := 0) (v := .int .i64 d))
      have OW := Lib.hid (own_kept_at OW.out (grown_set (grown_refl _ (some (w.heap.size))) 1 (.slice (some ⟨g, 0, none⟩) n c)) (fun q e h => (row_ne OW.out HZ.out (by decide)) ((Option.some.inj h).trans (Option.some.inj (show some g = some q from e)).symm)))
      have HZ := Lib.hid (Blk.set HZ.out 1 (.slice (some ⟨g, 0, none⟩) n c))
      have HC := Lib.hid (Cur.set HC.out hpB (i := 1) (v := .slice (some ⟨g, 0, none⟩) n c))
      have HG := Lib.hid (grown_put HG.out (Nat.le_refl _) (i := 1) (v := .slice (some ⟨g, 0, none⟩) n c))
      clear HT HBS
      go_wp2_with fail
      have hl := HZ.out.load Try.underlying42 rfl (by kernel_rfl)
      refine bodyPost_ret (v := .agg #[.int .i64 d, .slice (some ⟨g, 0, none⟩) n c]) ?_ rfl ⟨_, _, _, _, rfl, OW.out, by omega, HSD.out, HC.out.more (by omega), HG.out⟩
      rw [results_cell1 rfl]
      simp [asAddr, Result.andThen, hl]
    have f3_ : (q == 3) = false := by simpa using g3_
    go_upto_region 20 with fail
    have HSD := Lib.hid (bs_sd HBS.out)
    have t0_ : w9.cell? ⟨b, 0, none⟩ = some (.int .i64 d) := HT.out.cell 0 _ rfl
    have t1_ : w9.cell? ⟨b, 1, none⟩ = some (.slice (some ⟨g, 0, none⟩) n c) := HT.out.cell 1 _ rfl
    have z0_ : w9.cell? ⟨w.heap.size, 0, none⟩ = some (.int .i64 0) := HZ.out.cell 0 _ rfl
    have z1_ : w9.cell? ⟨w.heap.size, 1, none⟩ = some (.slice none 0 0) := HZ.out.cell 1 _ rfl
    have zf0_ := HZ.out.frozen 0
    have zf1_ := HZ.out.frozen 1
    have OW := Lib.hid (own_kept_at OW.out (grown_set (grown_refl _ (some (w.heap.size))) 0 (.int .i64 d)) (fun q e h => (row_ne OW.out HZ.out (by decide)) ((Option.some.inj h).trans (Option.some.inj (show some g = some q from e)).symm)))
    have HZ := Lib.hid (Blk.set HZ.out 0 (.int .i64 d))
    have HC := Lib.hid (Cur.set HC.out hpB (i := 0) (v := .int .i64 d))
    have HG := Lib.hid (grown_put HG.out (Nat.le_refl _) (i := 0) (v := .int .i64 d))
    have OW := Lib.hid (own_kept_at OW.out (grown_set (grown_refl _ (some (w.heap.size))) 1 (.slice (some ⟨g, 0, none⟩) n c)) (fun q e h => (row_ne OW.out HZ.out (by decide)) ((Option.some.inj h).trans (Option.some.inj (show some g = some q from e)).symm)))
    have HZ := Lib.hid (Blk.set HZ.out 1 (.slice (some ⟨g, 0, none⟩) n c))
    have HC := Lib.hid (Cur.set HC.out hpB (i := 1) (v := .slice (some ⟨g, 0, none⟩) n c))
    have HG := Lib.hid (grown_put HG.out (Nat.le_refl _) (i := 1) (v := .slice (some ⟨g, 0, none⟩) n c))
    clear HT HBS
    go_wp2_with fail
    have hl := HZ.out.load Try.underlying42 rfl (by kernel_rfl)
    refine bodyPost_ret (v := .agg #[.int .i64 d, .slice (some ⟨g, 0, none⟩) n c]) ?_ rfl ⟨_, _, _, _, rfl, OW.out, by omega, HSD.out, HC.out.more (by omega), HG.out⟩
    rw [results_cell1 rfl]
    simp [asAddr, Result.andThen, hl]
end Go.Proofs.Ytkndfklbonkbiaa.draws17
