/- spec's draws of Cleareds. -/
import Derived.Test.YtglonedhoenkpaaAtC
import Derived.Test.YtglonedhoenkpaaCode
import Derived.Test.YtglonedhoenkpaaCurInt
import Derived.Test.YtglonedhoenkpaaLvlW
import Derived.Test.YtglonedhoenkpaaLvlX
import Derived.Test.YtglonedhoenkpaaTailH
import Derived.Deep.AppendLies
import Derived.ChangeAlike
import Derived.Deep.RegionHeld3
import Derived.Deep.CutBlock
import Derived.Deep.CutRange
import Derived.Laws.OwnMore
namespace Go.Proofs.Ytglonedhoenkpaa.draws18
set_option linter.unusedVariables false
set_option linter.unusedSimpArgs false
open Go.RowKit Go.Proofs.Ytglonedhoenkpaa.cur Go.Proofs.Ytglonedhoenkpaa.atc Go.Proofs.Ytglonedhoenkpaa.ats Go.Proofs.Ytglonedhoenkpaa.ints Go.Proofs.Ytglonedhoenkpaa.lst Go.Proofs.Ytglonedhoenkpaa.code_ Go.Proofs.Ytglonedhoenkpaa.tailh Go.Proofs.Ytglonedhoenkpaa.lvl Go.Proofs.Ytglonedhoenkpaa.lvlv

theorem grown_put {w W : World} {p b i : Nat} {v : Value} (h : w.grownBy W (some p)) (hb : w.heap.size ≤ b) : w.grownBy (W.setCell ⟨b, i, none⟩ v) (some p) :=
  ⟨h.os, h.tape, h.output, by have := h.size; simpa [World.setCell] using this, fun k hk hne => (Go.Deep.blk_setCell_other W ⟨b, i, none⟩ v k (by show k ≠ b; omega)).trans (h.block k hk hne)⟩
theorem grown_dr {w W : World} {p : Nat} (h : w.grownBy W (some p)) : w.grownBy W.drew (some p) := ⟨h.os, h.tape, h.output, h.size, h.block⟩

theorem grown_append {w wr w1 : World} {o : Obj} {p B e size n : Nat} {v : Value} {xs : List Value} (hg : w.grownBy wr (some p)) (h : wr.ownsRow B e size v n xs) (hB : w.heap.size ≤ B) (ha : (wr.alloc o).grownBy w1 v.ownBlock) : w.grownBy w1 (some p) :=
  ⟨ha.os.trans hg.os, ha.tape.trans hg.tape, ha.output.trans hg.output, Nat.le_trans hg.size (Nat.le_trans (by rw [World.size_alloc]; omega) ha.size), fun k hk hne => by
    have h1 := ha.block k (by have := hg.size; rw [World.size_alloc]; omega) (fun e => by have := own_.row_ge h k e.symm; omega)
    have h2 : (wr.alloc o).heap[k]? = wr.heap[k]? := Below.heap_alloc wr o k (by have := hg.size; omega)
    exact h1.trans (h2.trans (hg.block k hk hne))⟩
theorem cur_append {wr w1 : World} {o : Obj} {p m B e size n : Nat} {v : Value} {xs : List Value} (hc : Cur wr p m) (h : wr.ownsRow B e size v n xs) (hB : p < B) (hs : B ≤ wr.heap.size) (ha : (wr.alloc o).grownBy w1 v.ownBlock) : Cur w1 p m :=
  hc.keep (((Below.refl (p + 1) wr).alloc (by omega) o).grown ha (by rw [World.size_alloc]; omega) (fun k e => by have := own_.row_ge h k e; omega))
theorem least14_least (a b : Int) (w : World) :
    Calls Try.prog 82 #[.int .i64 a, .int .i64 b] w fun e w' => (∃ z : Int, e = .returned (.int .i64 z)) ∧ w' = w := by
  rcases Int.lt_trichotomy a b with h | h | h
  · have g1 : decide (a < b) = true := decide_eq_true h
    have g2 : decide (b < a) = false := decide_eq_false (by omega)
    clear h
    go_enter Try.func82, Try.ntmps82
    go_wp2_with fail
    go_ret
    exact ⟨⟨_, rfl⟩, rfl⟩
  · have g1 : decide (a < b) = false := decide_eq_false (by omega)
    have g2 : decide (b < a) = false := decide_eq_false (by omega)
    clear h
    go_enter Try.func82, Try.ntmps82
    go_wp2_with fail
    go_ret
    exact ⟨⟨_, rfl⟩, rfl⟩
  · have g1 : decide (a < b) = false := decide_eq_false (by omega)
    have g2 : decide (b < a) = true := decide_eq_true h
    clear h
    go_enter Try.func82, Try.ntmps82
    go_wp2_with fail
    go_ret
    exact ⟨⟨_, rfl⟩, rfl⟩
theorem among_old (lo hi : Int) (p m n N b : Nat) (xs : List Int) (cs : Array Value) (w w2 : World) (h2 : Cur w2 p m) (hm : m ≤ 900000) (hg : (w.alloc (.cells cs 3)).grownBy w2 (some p)) (hb : w.heap.size = b) (hp : p < w.heap.size)
    (hcs : cs.toList = xs.map (Value.int .i64)) (hl : xs.length = N) (hn : 1 ≤ n) (hnN : n ≤ N) (hN : N ≤ 60000) (hk : ∀ x ∈ xs, lo ≤ x ∧ x ≤ hi) :
    Calls Try.prog 64 #[.pointer (some ⟨p, 0, none⟩), .slice (some ⟨b, 0, none⟩) n N] w2 (Reads lo hi p (m + 2) w2) := by
  subst hb
  refine among lo hi p m w.heap.size 0 n N (xs.take n) w2 h2 hm hn (by omega) (by rw [List.length_take]; omega) (fun x hx => hk x (List.mem_of_mem_take hx)) (by omega) ?_
  intro j x hx
  have hx2 : xs[j]? = some x := by
    rw [List.getElem?_take] at hx
    split at hx
    · exact hx
    · cases hx
  refine hg.cell (a := ⟨w.heap.size, 0 + j, none⟩) ?_ (fun e => by injection e with e; simp at e; omega)
  rw [Nat.zero_add, cell_of_row _ _ j cs 3 (0, 0) (heap_alloc_new w _)]
  rw [← Array.getElem?_toList, hcs]
  simp [hx2]

theorem own_cap {w : World} {B e s n : Nat} {v : Value} {xs : List Value} (h : w.ownsRow B e s v n xs) : ∃ A c, v = .slice A n c ∧ n ≤ c := by
  rcases h.2 with ⟨rfl, h0⟩ | ⟨g, cap, cur, rfl, _, _, hle, _⟩
  · exact ⟨_, _, by rw [h0], by omega⟩
  · exact ⟨_, _, rfl, hle⟩
theorem own_cells {w : World} {B e n g c j : Nat} {xs : List Int} (h : w.ownsRow B e 5 (.slice (some ⟨g, 0, none⟩) n c) n (cellsI xs)) (hj : j < n * 5) : w.cell? ⟨g, j, none⟩ = some (.int .i64 (xs.getD j 0)) := by
  have hl := own_len5 h
  have := h.cells (g := g) rfl j (.int .i64 (xs.getD j 0)) (by
    unfold cellsI
    rw [List.getElem?_map, List.getD_eq_getElem?_getD, List.getElem?_eq_getElem (by omega)]; rfl)
  rwa [Addr.add_lit, Nat.zero_add] at this
theorem cells_setI (xs : List Int) (j : Nat) (a : Int) : (cellsI xs).set j (.int .i64 a) = cellsI (xs.set j a) := by unfold cellsI; rw [List.map_set]
theorem own_setI {w : World} {B e n g c : Nat} {xs : List Int} (h : w.ownsRow B e 5 (.slice (some ⟨g, 0, none⟩) n c) n (cellsI xs)) (j : Nat) (a : Int) : (w.setCell ⟨g, j, none⟩ (.int .i64 a)).ownsRow B e 5 (.slice (some ⟨g, 0, none⟩) n c) n (cellsI (xs.set j a)) := by
  have := (h.stored j (.int .i64 a)).1
  rwa [cells_setI] at this
theorem own_ge {w : World} {B e s n g c m : Nat} {xs : List Value} (h : w.ownsRow B e s (.slice (some ⟨g, 0, none⟩) m c) n xs) : B ≤ g := own_.row_ge h g rfl
def ClQ (p m : Nat) (w : World) (e : Ending) (w' : World) : Prop := ∃ a b c d f : Int, e = .returned (.agg #[.int .i64 a, .int .i64 b, .int .i64 c, .int .i64 d, .int .i64 f]) ∧ Cur w' p m ∧ w.grownBy w' (some p)
def IdQ (p m : Nat) (w : World) (e : Ending) (w' : World) : Prop := ∃ i : Int, e = .returned (.int .i64 i) ∧ Cur w' p m ∧ w.grownBy w' (some p)
def LsQ (p m : Nat) (w : World) (e : Ending) (w' : World) : Prop := ∃ v n zs, e = .returned v ∧ w'.ownsRow w.heap.size 26 5 v n (cellsI zs) ∧ n ≤ 12 ∧ Cur w' p m ∧ w.grownBy w' (some p)

set_option maxRecDepth 100000 in
set_option maxHeartbeats 16000000 in
theorem cleared (p m : Nat) (w : World) (h : Cur w p m) (hm : m ≤ 200000) :
    Calls Try.prog 54 #[.pointer (some ⟨p, 0, none⟩)] w (ClQ p (m + 30) w) := by
  have hzp : p < w.heap.size := h.lt
  have Z0 := Lib.hid (Blk.new 26 #[.int .i64 0, .int .i64 0, .int .i64 0, .int .i64 0, .int .i64 0] w)
  have C0 := Lib.hid (Cur.alloc h (.cells #[.int .i64 0, .int .i64 0, .int .i64 0, .int .i64 0, .int .i64 0] 26))
  have G0 := Lib.hid (show w.grownBy (w.alloc (.cells #[.int .i64 0, .int .i64 0, .int .i64 0, .int .i64 0, .int .i64 0] 26)) (some p) from grown_alloc _ _)
  clear h
  go_enter Try.func54, Try.ntmps54
  go_upto_region 1 with fail
  generalize w.alloc (.cells #[.int .i64 0, .int .i64 0, .int .i64 0, .int .i64 0, .int .i64 0] 26) = W0 at *
  go_wp2_with fail
  refine (among_new (10) 410 p _ 7 [10, 50, 100, 100, 200, 350, 410] _ W0 C0.out (by omega) (by omega) (by omega) rfl rfl (by decide)).mono ?_
  rintro e w1 ⟨lo, rfl, lo0, lo1, hc, hg⟩
  have Z1 := Lib.hid (Z0.out.grown hg (Nat.ne_of_gt hzp))
  have C1 := Lib.hid hc
  have G1 := Lib.hid (grown_trans G0.out hg)
  clear hc hg Z0 C0 G0
  go_wp2_with fail
  refine (among_new (1) 65535 p _ 4 [1, 7, 300, 65535] _ w1 C1.out (by omega) (by omega) (by omega) rfl rfl (by decide)).mono ?_
  rintro e w2 ⟨a, rfl, a0, a1, hc, hg⟩
  have Z2 := Lib.hid (Z1.out.grown hg (Nat.ne_of_gt hzp))
  have C2 := Lib.hid hc
  have G2 := Lib.hid (grown_trans G1.out hg)
  clear hc hg Z1 C1 G1
  go_wp2_with fail
  refine (among_new (0) 50 p _ 4 [0, 0, 10, 50] _ w2 C2.out (by omega) (by omega) (by omega) rfl rfl (by decide)).mono ?_
  rintro e w3 ⟨d, rfl, d0, d1, hc, hg⟩
  have Z3 := Lib.hid (Z2.out.grown hg (Nat.ne_of_gt hzp))
  have C3 := Lib.hid hc
  have G3 := Lib.hid (grown_trans G2.out hg)
  clear hc hg Z2 C2 G2
  have e1 : IntKind.i64.wrap (lo + d) = lo + d := IntWalk.i64_in _ (by omega)
  go_wp2_with fail
  refine (least14_least (lo + d) 410 w3).mono ?_
  rintro e wl ⟨⟨u, rfl⟩, hwl⟩
  obtain rfl : w3 = wl := hwl.symm
  clear e1
  go_wp2_with fail
  refine (among_new (0) 60 p _ 4 [0, 10, 20, 60] _ w3 C3.out (by omega) (by omega) (by omega) rfl rfl (by decide)).mono ?_
  rintro e w4 ⟨f, rfl, f0, f1, hc, hg⟩
  have Z4 := Lib.hid (Z3.out.grown hg (Nat.ne_of_gt hzp))
  have C4 := Lib.hid hc
  have G4 := Lib.hid (grown_trans G3.out hg)
  clear hc hg Z3 C3 G3
  have htp : p < w4.heap.size := C4.out.lt
  have hzt : w.heap.size < w4.heap.size := Z4.out.lt
  have HT := Lib.hid (Blk.new 26 #[.int .i64 a, .int .i64 lo, .int .i64 u, .int .i64 f, .int .i64 0] w4)
  have HZ := Lib.hid (Z4.out.alloc (.cells #[.int .i64 a, .int .i64 lo, .int .i64 u, .int .i64 f, .int .i64 0] 26))
  have HC := Lib.hid (Cur.alloc C4.out (.cells #[.int .i64 a, .int .i64 lo, .int .i64 u, .int .i64 f, .int .i64 0] 26))
  have HG := Lib.hid (grown_trans G4.out (grown_alloc (.cells #[.int .i64 a, .int .i64 lo, .int .i64 u, .int .i64 f, .int .i64 0] 26) (some p)))
  clear Z4 C4 G4
  go_upto_region 3 with fail
  generalize w4.alloc (.cells #[.int .i64 a, .int .i64 lo, .int .i64 u, .int .i64 f, .int .i64 0] 26) = W5 at *
  generalize w4.heap.size = b at *
  have HS0 := Lib.hid (show World.cell? W5.drew ⟨b, 3, none⟩ = some (.int .i64 f) from HT.out.cell 3 _ rfl)
  have HT := Lib.hid HT.out.drew
  have HZ := Lib.hid HZ.out.drew
  have HC := Lib.hid (HC.out.keep (Below.refl _ _).drew)
  have HG := Lib.hid (grown_dr HG.out)
  refine wp_region_tail (S := fun w' => World.cell? w' ⟨b, 3, none⟩ = some (.int .i64 f)) 7 (by kernel_rfl) HS0.out (fun hHeld => ?_)
  generalize W5.drew = F0 at *
  try simp only [Act.put, List.getElem_toArray, List.getElem_cons_succ, List.getElem_cons_zero, List.setIfInBounds_toArray, List.set_cons_succ, List.set_cons_zero]
  refine wpAnyE_take (i := 0) (v := ?vt1_0) rfl (by decide +kernel) (fun _ _ _ h => h) (Or.inl ⟨by first | rfl | kernel_rfl, ?ht1_0⟩) (by assumption) ?rt1_0
  case ht1_0 =>
    intro wS hSw
    go_simp
    try with_reducible rfl
  try simp only [Act.put, List.getElem_toArray, List.getElem_cons_succ, List.getElem_cons_zero, List.setIfInBounds_toArray, List.set_cons_succ, List.set_cons_zero]
  refine wpAnyE_take (i := 1) (v := ?vt1_1) rfl (by decide +kernel) (fun _ _ _ h => h) (Or.inl ⟨by first | rfl | kernel_rfl, ?ht1_1⟩) (by assumption) ?rt1_1
  case ht1_1 =>
    intro wS hSw
    go_simp
    try with_reducible rfl
  try simp only [Act.put, List.getElem_toArray, List.getElem_cons_succ, List.getElem_cons_zero, List.setIfInBounds_toArray, List.set_cons_succ, List.set_cons_zero]
  refine wpAnyE_take (i := 2) (v := ?vt1_2) rfl (by decide +kernel) (fun _ _ _ h => h) (Or.inl ⟨by first | rfl | kernel_rfl, ?ht1_2⟩) (by assumption) ?rt1_2
  case ht1_2 =>
    intro wS hSw
    go_simp
    try with_reducible rfl
  try simp only [Act.put, List.getElem_toArray, List.getElem_cons_succ, List.getElem_cons_zero, List.setIfInBounds_toArray, List.set_cons_succ, List.set_cons_zero]
  refine wpAnyE_ready (rs := [3]) (by kernel_rfl) (by simp) ?_
  refine AllReadyE.cons (i := 3) rfl (by decide) (fun K hK => ?_) AllReadyE.nil
  go_simp
  have HS1 := Lib.hid (show World.cell? (F0.alloc (.cells #[.int .i64 1, .int .i64 10, .int .i64 30] 3)) ⟨b, 3, none⟩ = some (.int .i64 f) from (HT.out.alloc _).cell 3 _ rfl)
  refine hK.out _ _ HS1.out (fun hHeld => ?_)
  clear hK K
  try simp only [Act.put, List.getElem_toArray, List.getElem_cons_succ, List.getElem_cons_zero, List.setIfInBounds_toArray, List.set_cons_succ, List.set_cons_zero]
  refine wpAnyE_ready (rs := [4]) (by kernel_rfl) (by simp) ?_
  refine AllReadyE.cons (i := 4) rfl (by decide) (fun K hK => ?_) AllReadyE.nil
  go_simp
  refine (among_new (1) 30 p _ 3 [1, 10, 30] _ F0 HC.out (by omega) (by omega) (by omega) rfl rfl (by decide)).mono ?_
  rintro e w6 ⟨r, rfl, r0, r1, hc, hg⟩
  have HT := Lib.hid (HT.out.grown hg (Nat.ne_of_gt htp))
  have HZ := Lib.hid (HZ.out.grown hg (Nat.ne_of_gt hzp))
  have HC := Lib.hid hc
  have HG := Lib.hid (grown_trans HG.out hg)
  clear hc hg
  go_simp
  have HS2 := Lib.hid (show World.cell? w6 ⟨b, 3, none⟩ = some (.int .i64 f) from HT.out.cell 3 _ rfl)
  have e2 : IntKind.i64.wrap (f + r) = f + r := IntWalk.i64_in _ (by omega)
  have s4 : w6.cell? ⟨b, 4, none⟩ = some (.int .i64 0) := HT.out.cell 4 _ rfl
  have sf4 := HT.out.frozen 4
  refine hK.out _ _ HS2.out (fun hHeld => ?_)
  clear hK K
  try simp only [Act.put, List.getElem_toArray, List.getElem_cons_succ, List.getElem_cons_zero, List.setIfInBounds_toArray, List.set_cons_succ, List.set_cons_zero]
  refine wpAnyE_take (i := 5) (v := ?vt1_5) rfl (by decide +kernel) (fun _ _ _ h => h) (Or.inl ⟨by first | rfl | kernel_rfl, ?ht1_5⟩) (by assumption) ?rt1_5
  case ht1_5 =>
    intro wS hSw
    go_simp
    try with_reducible rfl
  try simp only [Act.put, List.getElem_toArray, List.getElem_cons_succ, List.getElem_cons_zero, List.setIfInBounds_toArray, List.set_cons_succ, List.set_cons_zero]
  refine wpAnyE_take (i := 6) (v := ?vt1_6) rfl (by decide +kernel) (fun _ _ _ h => h) (Or.inl ⟨by first | rfl | kernel_rfl, ?ht1_6⟩) (by assumption) ?rt1_6
  case ht1_6 =>
    intro wS hSw
    go_simp
    try with_reducible rfl
  try simp only [Act.put, List.getElem_toArray, List.getElem_cons_succ, List.getElem_cons_zero, List.setIfInBounds_toArray, List.set_cons_succ, List.set_cons_zero]
  refine wpAnyE_ready (rs := [7]) (by kernel_rfl) (by simp) ?_
  refine AllReadyE.last (i := 7) rfl rfl (fun K hK => ?_)
  go_simp
  refine hK.out _ _ ?_
  clear hK K
  try simp only [Act.put, List.getElem_toArray, List.getElem_cons_succ, List.getElem_cons_zero, List.setIfInBounds_toArray, List.set_cons_succ, List.set_cons_zero]
  refine wpAnyE_done (by kernel_rfl) ?_ _
  try simp only [List.getElem_toArray, List.getElem_cons_succ, List.getElem_cons_zero, List.setIfInBounds_toArray, List.set_cons_succ, List.set_cons_zero]
  have t1 : 1 ≤ f + r ∧ f + r ≤ 90 := by omega
  clear e2
  generalize f + r = tt at *
  obtain ⟨t1, t2⟩ := t1
  clear s4 sf4
  have HT := Lib.hid (HT.out.set 4 (.int .i64 tt))
  have HZ := Lib.hid (HZ.out.other (Nat.ne_of_lt hzt) 4 (.int .i64 tt))
  have HC := Lib.hid (Cur.set HC.out htp (i := 4) (v := .int .i64 tt))
  have HG := Lib.hid (grown_put HG.out (Nat.le_of_lt hzt) (i := 4) (v := .int .i64 tt))
  generalize w6.setCell ⟨b, 4, none⟩ (.int .i64 tt) = w7 at *
  go_wp2_with fail
  refine (pick p _ 40 w7 HC.out (by omega) (by omega) (by omega)).mono ?_
  rintro e wk ⟨k, rfl, k0, k1, hc, hg⟩
  have HT := Lib.hid (HT.out.grown hg (Nat.ne_of_gt htp))
  have HZ := Lib.hid (HZ.out.grown hg (Nat.ne_of_gt hzp))
  have HC := Lib.hid hc
  have HG := Lib.hid (grown_trans HG.out hg)
  clear hc hg
  by_cases h0 : k = 0
  · subst h0
    have t0 : wk.cell? ⟨b, 0, none⟩ = some (.int .i64 a) := HT.out.cell 0 _ rfl
    have tf0 := HT.out.frozen 0
    have t1 : wk.cell? ⟨b, 1, none⟩ = some (.int .i64 lo) := HT.out.cell 1 _ rfl
    have tf1 := HT.out.frozen 1
    have t2 : wk.cell? ⟨b, 2, none⟩ = some (.int .i64 u) := HT.out.cell 2 _ rfl
    have tf2 := HT.out.frozen 2
    have t3 : wk.cell? ⟨b, 3, none⟩ = some (.int .i64 f) := HT.out.cell 3 _ rfl
    have tf3 := HT.out.frozen 3
    have t4 : wk.cell? ⟨b, 4, none⟩ = some (.int .i64 tt) := HT.out.cell 4 _ rfl
    have tf4 := HT.out.frozen 4
    go_wp2_with fail
    clear t0 tf0 t1 tf1 t2 tf2 t3 tf3 t4 tf4
    refine (among_new (0) 65536 p _ 2 [0, 65536] _ wk HC.out (by omega) (by omega) (by omega) rfl rfl (by decide)).mono ?_
    rintro e wu ⟨q, rfl, q0, q1, hc, hg⟩
    have HT := Lib.hid (HT.out.grown hg (Nat.ne_of_gt htp))
    have HZ := Lib.hid (HZ.out.grown hg (Nat.ne_of_gt hzp))
    have HC := Lib.hid hc
    have HG := Lib.hid (grown_trans HG.out hg)
    clear hc hg
    have t0 : wu.cell? ⟨b, 0, none⟩ = some (.int .i64 a) := HT.out.cell 0 _ rfl
    have tf0 := HT.out.frozen 0
    have t1 : wu.cell? ⟨b, 1, none⟩ = some (.int .i64 lo) := HT.out.cell 1 _ rfl
    have tf1 := HT.out.frozen 1
    have t2 : wu.cell? ⟨b, 2, none⟩ = some (.int .i64 u) := HT.out.cell 2 _ rfl
    have tf2 := HT.out.frozen 2
    have t3 : wu.cell? ⟨b, 3, none⟩ = some (.int .i64 f) := HT.out.cell 3 _ rfl
    have tf3 := HT.out.frozen 3
    have t4 : wu.cell? ⟨b, 4, none⟩ = some (.int .i64 tt) := HT.out.cell 4 _ rfl
    have tf4 := HT.out.frozen 4
    go_upto_region 15 with fail
    clear t0 tf0 t1 tf1 t2 tf2 t3 tf3 t4 tf4
    have HT := Lib.hid (HT.out.set 0 (.int .i64 q))
    have HZ := Lib.hid (HZ.out.other (Nat.ne_of_lt hzt) 0 (.int .i64 q))
    have HC := Lib.hid (Cur.set HC.out htp (i := 0) (v := .int .i64 q))
    have HG := Lib.hid (grown_put HG.out (Nat.le_of_lt hzt) (i := 0) (v := .int .i64 q))
    generalize wu.setCell ⟨b, 0, none⟩ (.int .i64 q) = wv at *
    have z0 : wv.cell? ⟨w.heap.size, 0, none⟩ = some (.int .i64 0) := HZ.out.cell 0 _ rfl
    have zf0 := HZ.out.frozen 0
    have z1 : wv.cell? ⟨w.heap.size, 1, none⟩ = some (.int .i64 0) := HZ.out.cell 1 _ rfl
    have zf1 := HZ.out.frozen 1
    have z2 : wv.cell? ⟨w.heap.size, 2, none⟩ = some (.int .i64 0) := HZ.out.cell 2 _ rfl
    have zf2 := HZ.out.frozen 2
    have z3 : wv.cell? ⟨w.heap.size, 3, none⟩ = some (.int .i64 0) := HZ.out.cell 3 _ rfl
    have zf3 := HZ.out.frozen 3
    have z4 : wv.cell? ⟨w.heap.size, 4, none⟩ = some (.int .i64 0) := HZ.out.cell 4 _ rfl
    have zf4 := HZ.out.frozen 4
    have t0 : wv.cell? ⟨b, 0, none⟩ = some (.int .i64 q) := HT.out.cell 0 _ rfl
    have tf0 := HT.out.frozen 0
    have t1 : wv.cell? ⟨b, 1, none⟩ = some (.int .i64 lo) := HT.out.cell 1 _ rfl
    have tf1 := HT.out.frozen 1
    have t2 : wv.cell? ⟨b, 2, none⟩ = some (.int .i64 u) := HT.out.cell 2 _ rfl
    have tf2 := HT.out.frozen 2
    have t3 : wv.cell? ⟨b, 3, none⟩ = some (.int .i64 f) := HT.out.cell 3 _ rfl
    have tf3 := HT.out.frozen 3
    have t4 : wv.cell? ⟨b, 4, none⟩ = some (.int .i64 tt) := HT.out.cell 4 _ rfl
    have tf4 := HT.out.frozen 4
    have HE := Lib.hid (((((HZ.out.set 0 (.int .i64 q)).set 1 (.int .i64 lo)).set 2 (.int .i64 u)).set 3 (.int .i64 f)).set 4 (.int .i64 tt))
    have HCe := Lib.hid (Cur.set (Cur.set (Cur.set (Cur.set (Cur.set HC.out hzp (i := 0) (v := .int .i64 q)) hzp (i := 1) (v := .int .i64 lo)) hzp (i := 2) (v := .int .i64 u)) hzp (i := 3) (v := .int .i64 f)) hzp (i := 4) (v := .int .i64 tt))
    have HGe := Lib.hid (grown_put (grown_put (grown_put (grown_put (grown_put HG.out (Nat.le_refl _) (i := 0) (v := .int .i64 q)) (Nat.le_refl _) (i := 1) (v := .int .i64 lo)) (Nat.le_refl _) (i := 2) (v := .int .i64 u)) (Nat.le_refl _) (i := 3) (v := .int .i64 f)) (Nat.le_refl _) (i := 4) (v := .int .i64 tt))
    clear HT HZ HC HG
    go_wp2_with fail
    have hl := HE.out.load Try.underlying26 rfl (by kernel_rfl)
    refine bodyPost_ret (v := .agg #[.int .i64 q, .int .i64 lo, .int .i64 u, .int .i64 f, .int .i64 tt]) ?_ rfl ⟨_, _, _, _, _, rfl, HCe.out.more (by omega), HGe.out⟩
    rw [ats.results_cell1 rfl]
    simp [asAddr, Result.andThen, hl]
  have d0_ : (k == 0) = false := by simpa using h0
  by_cases h1 : k = 1
  · subst h1
    have t0 : wk.cell? ⟨b, 0, none⟩ = some (.int .i64 a) := HT.out.cell 0 _ rfl
    have tf0 := HT.out.frozen 0
    have t1 : wk.cell? ⟨b, 1, none⟩ = some (.int .i64 lo) := HT.out.cell 1 _ rfl
    have tf1 := HT.out.frozen 1
    have t2 : wk.cell? ⟨b, 2, none⟩ = some (.int .i64 u) := HT.out.cell 2 _ rfl
    have tf2 := HT.out.frozen 2
    have t3 : wk.cell? ⟨b, 3, none⟩ = some (.int .i64 f) := HT.out.cell 3 _ rfl
    have tf3 := HT.out.frozen 3
    have t4 : wk.cell? ⟨b, 4, none⟩ = some (.int .i64 tt) := HT.out.cell 4 _ rfl
    have tf4 := HT.out.frozen 4
    go_wp2_with fail
    clear t0 tf0 t1 tf1 t2 tf2 t3 tf3 t4 tf4
    refine (among_new (0) 420 p _ 3 [0, 105, 420] _ wk HC.out (by omega) (by omega) (by omega) rfl rfl (by decide)).mono ?_
    rintro e wu ⟨q, rfl, q0, q1, hc, hg⟩
    have HT := Lib.hid (HT.out.grown hg (Nat.ne_of_gt htp))
    have HZ := Lib.hid (HZ.out.grown hg (Nat.ne_of_gt hzp))
    have HC := Lib.hid hc
    have HG := Lib.hid (grown_trans HG.out hg)
    clear hc hg
    have t0 : wu.cell? ⟨b, 0, none⟩ = some (.int .i64 a) := HT.out.cell 0 _ rfl
    have tf0 := HT.out.frozen 0
    have t1 : wu.cell? ⟨b, 1, none⟩ = some (.int .i64 lo) := HT.out.cell 1 _ rfl
    have tf1 := HT.out.frozen 1
    have t2 : wu.cell? ⟨b, 2, none⟩ = some (.int .i64 u) := HT.out.cell 2 _ rfl
    have tf2 := HT.out.frozen 2
    have t3 : wu.cell? ⟨b, 3, none⟩ = some (.int .i64 f) := HT.out.cell 3 _ rfl
    have tf3 := HT.out.frozen 3
    have t4 : wu.cell? ⟨b, 4, none⟩ = some (.int .i64 tt) := HT.out.cell 4 _ rfl
    have tf4 := HT.out.frozen 4
    go_upto_region 15 with fail
    clear t0 tf0 t1 tf1 t2 tf2 t3 tf3 t4 tf4
    have HT := Lib.hid (HT.out.set 1 (.int .i64 q))
    have HZ := Lib.hid (HZ.out.other (Nat.ne_of_lt hzt) 1 (.int .i64 q))
    have HC := Lib.hid (Cur.set HC.out htp (i := 1) (v := .int .i64 q))
    have HG := Lib.hid (grown_put HG.out (Nat.le_of_lt hzt) (i := 1) (v := .int .i64 q))
    generalize wu.setCell ⟨b, 1, none⟩ (.int .i64 q) = wv at *
    have z0 : wv.cell? ⟨w.heap.size, 0, none⟩ = some (.int .i64 0) := HZ.out.cell 0 _ rfl
    have zf0 := HZ.out.frozen 0
    have z1 : wv.cell? ⟨w.heap.size, 1, none⟩ = some (.int .i64 0) := HZ.out.cell 1 _ rfl
    have zf1 := HZ.out.frozen 1
    have z2 : wv.cell? ⟨w.heap.size, 2, none⟩ = some (.int .i64 0) := HZ.out.cell 2 _ rfl
    have zf2 := HZ.out.frozen 2
    have z3 : wv.cell? ⟨w.heap.size, 3, none⟩ = some (.int .i64 0) := HZ.out.cell 3 _ rfl
    have zf3 := HZ.out.frozen 3
    have z4 : wv.cell? ⟨w.heap.size, 4, none⟩ = some (.int .i64 0) := HZ.out.cell 4 _ rfl
    have zf4 := HZ.out.frozen 4
    have t0 : wv.cell? ⟨b, 0, none⟩ = some (.int .i64 a) := HT.out.cell 0 _ rfl
    have tf0 := HT.out.frozen 0
    have t1 : wv.cell? ⟨b, 1, none⟩ = some (.int .i64 q) := HT.out.cell 1 _ rfl
    have tf1 := HT.out.frozen 1
    have t2 : wv.cell? ⟨b, 2, none⟩ = some (.int .i64 u) := HT.out.cell 2 _ rfl
    have tf2 := HT.out.frozen 2
    have t3 : wv.cell? ⟨b, 3, none⟩ = some (.int .i64 f) := HT.out.cell 3 _ rfl
    have tf3 := HT.out.frozen 3
    have t4 : wv.cell? ⟨b, 4, none⟩ = some (.int .i64 tt) := HT.out.cell 4 _ rfl
    have tf4 := HT.out.frozen 4
    have HE := Lib.hid (((((HZ.out.set 0 (.int .i64 a)).set 1 (.int .i64 q)).set 2 (.int .i64 u)).set 3 (.int .i64 f)).set 4 (.int .i64 tt))
    have HCe := Lib.hid (Cur.set (Cur.set (Cur.set (Cur.set (Cur.set HC.out hzp (i := 0) (v := .int .i64 a)) hzp (i := 1) (v := .int .i64 q)) hzp (i := 2) (v := .int .i64 u)) hzp (i := 3) (v := .int .i64 f)) hzp (i := 4) (v := .int .i64 tt))
    have HGe := Lib.hid (grown_put (grown_put (grown_put (grown_put (grown_put HG.out (Nat.le_refl _) (i := 0) (v := .int .i64 a)) (Nat.le_refl _) (i := 1) (v := .int .i64 q)) (Nat.le_refl _) (i := 2) (v := .int .i64 u)) (Nat.le_refl _) (i := 3) (v := .int .i64 f)) (Nat.le_refl _) (i := 4) (v := .int .i64 tt))
    clear HT HZ HC HG
    go_wp2_with fail
    have hl := HE.out.load Try.underlying26 rfl (by kernel_rfl)
    refine bodyPost_ret (v := .agg #[.int .i64 a, .int .i64 q, .int .i64 u, .int .i64 f, .int .i64 tt]) ?_ rfl ⟨_, _, _, _, _, rfl, HCe.out.more (by omega), HGe.out⟩
    rw [ats.results_cell1 rfl]
    simp [asAddr, Result.andThen, hl]
  have d1_ : (k == 1) = false := by simpa using h1
  by_cases h2 : k = 2
  · subst h2
    have e3 : IntKind.i64.wrap (lo - 10) = lo - 10 := IntWalk.i64_in _ (by omega)
    obtain ⟨ll, hll⟩ : ∃ ll, lo - 10 = ll := ⟨_, rfl⟩
    rw [hll] at e3
    have t0 : wk.cell? ⟨b, 0, none⟩ = some (.int .i64 a) := HT.out.cell 0 _ rfl
    have tf0 := HT.out.frozen 0
    have t1 : wk.cell? ⟨b, 1, none⟩ = some (.int .i64 lo) := HT.out.cell 1 _ rfl
    have tf1 := HT.out.frozen 1
    have t2 : wk.cell? ⟨b, 2, none⟩ = some (.int .i64 u) := HT.out.cell 2 _ rfl
    have tf2 := HT.out.frozen 2
    have t3 : wk.cell? ⟨b, 3, none⟩ = some (.int .i64 f) := HT.out.cell 3 _ rfl
    have tf3 := HT.out.frozen 3
    have t4 : wk.cell? ⟨b, 4, none⟩ = some (.int .i64 tt) := HT.out.cell 4 _ rfl
    have tf4 := HT.out.frozen 4
    go_wp2_with fail
    clear t0 tf0 t1 tf1 t2 tf2 t3 tf3 t4 tf4
    refine (among_new (0) 420 p _ 2 [ll, 420] _ wk HC.out (by omega) (by omega) (by omega) rfl rfl (by intro x hx; simp at hx; omega)).mono ?_
    rintro e wu ⟨q, rfl, q0, q1, hc, hg⟩
    have HT := Lib.hid (HT.out.grown hg (Nat.ne_of_gt htp))
    have HZ := Lib.hid (HZ.out.grown hg (Nat.ne_of_gt hzp))
    have HC := Lib.hid hc
    have HG := Lib.hid (grown_trans HG.out hg)
    clear hc hg
    have t0 : wu.cell? ⟨b, 0, none⟩ = some (.int .i64 a) := HT.out.cell 0 _ rfl
    have tf0 := HT.out.frozen 0
    have t1 : wu.cell? ⟨b, 1, none⟩ = some (.int .i64 lo) := HT.out.cell 1 _ rfl
    have tf1 := HT.out.frozen 1
    have t2 : wu.cell? ⟨b, 2, none⟩ = some (.int .i64 u) := HT.out.cell 2 _ rfl
    have tf2 := HT.out.frozen 2
    have t3 : wu.cell? ⟨b, 3, none⟩ = some (.int .i64 f) := HT.out.cell 3 _ rfl
    have tf3 := HT.out.frozen 3
    have t4 : wu.cell? ⟨b, 4, none⟩ = some (.int .i64 tt) := HT.out.cell 4 _ rfl
    have tf4 := HT.out.frozen 4
    go_upto_region 15 with fail
    clear t0 tf0 t1 tf1 t2 tf2 t3 tf3 t4 tf4
    have HT := Lib.hid (HT.out.set 2 (.int .i64 q))
    have HZ := Lib.hid (HZ.out.other (Nat.ne_of_lt hzt) 2 (.int .i64 q))
    have HC := Lib.hid (Cur.set HC.out htp (i := 2) (v := .int .i64 q))
    have HG := Lib.hid (grown_put HG.out (Nat.le_of_lt hzt) (i := 2) (v := .int .i64 q))
    generalize wu.setCell ⟨b, 2, none⟩ (.int .i64 q) = wv at *
    have z0 : wv.cell? ⟨w.heap.size, 0, none⟩ = some (.int .i64 0) := HZ.out.cell 0 _ rfl
    have zf0 := HZ.out.frozen 0
    have z1 : wv.cell? ⟨w.heap.size, 1, none⟩ = some (.int .i64 0) := HZ.out.cell 1 _ rfl
    have zf1 := HZ.out.frozen 1
    have z2 : wv.cell? ⟨w.heap.size, 2, none⟩ = some (.int .i64 0) := HZ.out.cell 2 _ rfl
    have zf2 := HZ.out.frozen 2
    have z3 : wv.cell? ⟨w.heap.size, 3, none⟩ = some (.int .i64 0) := HZ.out.cell 3 _ rfl
    have zf3 := HZ.out.frozen 3
    have z4 : wv.cell? ⟨w.heap.size, 4, none⟩ = some (.int .i64 0) := HZ.out.cell 4 _ rfl
    have zf4 := HZ.out.frozen 4
    have t0 : wv.cell? ⟨b, 0, none⟩ = some (.int .i64 a) := HT.out.cell 0 _ rfl
    have tf0 := HT.out.frozen 0
    have t1 : wv.cell? ⟨b, 1, none⟩ = some (.int .i64 lo) := HT.out.cell 1 _ rfl
    have tf1 := HT.out.frozen 1
    have t2 : wv.cell? ⟨b, 2, none⟩ = some (.int .i64 q) := HT.out.cell 2 _ rfl
    have tf2 := HT.out.frozen 2
    have t3 : wv.cell? ⟨b, 3, none⟩ = some (.int .i64 f) := HT.out.cell 3 _ rfl
    have tf3 := HT.out.frozen 3
    have t4 : wv.cell? ⟨b, 4, none⟩ = some (.int .i64 tt) := HT.out.cell 4 _ rfl
    have tf4 := HT.out.frozen 4
    have HE := Lib.hid (((((HZ.out.set 0 (.int .i64 a)).set 1 (.int .i64 lo)).set 2 (.int .i64 q)).set 3 (.int .i64 f)).set 4 (.int .i64 tt))
    have HCe := Lib.hid (Cur.set (Cur.set (Cur.set (Cur.set (Cur.set HC.out hzp (i := 0) (v := .int .i64 a)) hzp (i := 1) (v := .int .i64 lo)) hzp (i := 2) (v := .int .i64 q)) hzp (i := 3) (v := .int .i64 f)) hzp (i := 4) (v := .int .i64 tt))
    have HGe := Lib.hid (grown_put (grown_put (grown_put (grown_put (grown_put HG.out (Nat.le_refl _) (i := 0) (v := .int .i64 a)) (Nat.le_refl _) (i := 1) (v := .int .i64 lo)) (Nat.le_refl _) (i := 2) (v := .int .i64 q)) (Nat.le_refl _) (i := 3) (v := .int .i64 f)) (Nat.le_refl _) (i := 4) (v := .int .i64 tt))
    clear HT HZ HC HG
    go_wp2_with fail
    have hl := HE.out.load Try.underlying26 rfl (by kernel_rfl)
    refine bodyPost_ret (v := .agg #[.int .i64 a, .int .i64 lo, .int .i64 q, .int .i64 f, .int .i64 tt]) ?_ rfl ⟨_, _, _, _, _, rfl, HCe.out.more (by omega), HGe.out⟩
    rw [ats.results_cell1 rfl]
    simp [asAddr, Result.andThen, hl]
  have d2_ : (k == 2) = false := by simpa using h2
  by_cases h3 : k = 3
  · subst h3
    have t0 : wk.cell? ⟨b, 0, none⟩ = some (.int .i64 a) := HT.out.cell 0 _ rfl
    have tf0 := HT.out.frozen 0
    have t1 : wk.cell? ⟨b, 1, none⟩ = some (.int .i64 lo) := HT.out.cell 1 _ rfl
    have tf1 := HT.out.frozen 1
    have t2 : wk.cell? ⟨b, 2, none⟩ = some (.int .i64 u) := HT.out.cell 2 _ rfl
    have tf2 := HT.out.frozen 2
    have t3 : wk.cell? ⟨b, 3, none⟩ = some (.int .i64 f) := HT.out.cell 3 _ rfl
    have tf3 := HT.out.frozen 3
    have t4 : wk.cell? ⟨b, 4, none⟩ = some (.int .i64 tt) := HT.out.cell 4 _ rfl
    have tf4 := HT.out.frozen 4
    go_wp2_with fail
    clear t0 tf0 t1 tf1 t2 tf2 t3 tf3 t4 tf4
    refine (among_new (-1) 90 p _ 2 [-1, tt] _ wk HC.out (by omega) (by omega) (by omega) rfl rfl (by intro x hx; simp at hx; omega)).mono ?_
    rintro e wu ⟨q, rfl, q0, q1, hc, hg⟩
    have HT := Lib.hid (HT.out.grown hg (Nat.ne_of_gt htp))
    have HZ := Lib.hid (HZ.out.grown hg (Nat.ne_of_gt hzp))
    have HC := Lib.hid hc
    have HG := Lib.hid (grown_trans HG.out hg)
    clear hc hg
    have t0 : wu.cell? ⟨b, 0, none⟩ = some (.int .i64 a) := HT.out.cell 0 _ rfl
    have tf0 := HT.out.frozen 0
    have t1 : wu.cell? ⟨b, 1, none⟩ = some (.int .i64 lo) := HT.out.cell 1 _ rfl
    have tf1 := HT.out.frozen 1
    have t2 : wu.cell? ⟨b, 2, none⟩ = some (.int .i64 u) := HT.out.cell 2 _ rfl
    have tf2 := HT.out.frozen 2
    have t3 : wu.cell? ⟨b, 3, none⟩ = some (.int .i64 f) := HT.out.cell 3 _ rfl
    have tf3 := HT.out.frozen 3
    have t4 : wu.cell? ⟨b, 4, none⟩ = some (.int .i64 tt) := HT.out.cell 4 _ rfl
    have tf4 := HT.out.frozen 4
    go_upto_region 15 with fail
    clear t0 tf0 t1 tf1 t2 tf2 t3 tf3 t4 tf4
    have HT := Lib.hid (HT.out.set 3 (.int .i64 q))
    have HZ := Lib.hid (HZ.out.other (Nat.ne_of_lt hzt) 3 (.int .i64 q))
    have HC := Lib.hid (Cur.set HC.out htp (i := 3) (v := .int .i64 q))
    have HG := Lib.hid (grown_put HG.out (Nat.le_of_lt hzt) (i := 3) (v := .int .i64 q))
    generalize wu.setCell ⟨b, 3, none⟩ (.int .i64 q) = wv at *
    have z0 : wv.cell? ⟨w.heap.size, 0, none⟩ = some (.int .i64 0) := HZ.out.cell 0 _ rfl
    have zf0 := HZ.out.frozen 0
    have z1 : wv.cell? ⟨w.heap.size, 1, none⟩ = some (.int .i64 0) := HZ.out.cell 1 _ rfl
    have zf1 := HZ.out.frozen 1
    have z2 : wv.cell? ⟨w.heap.size, 2, none⟩ = some (.int .i64 0) := HZ.out.cell 2 _ rfl
    have zf2 := HZ.out.frozen 2
    have z3 : wv.cell? ⟨w.heap.size, 3, none⟩ = some (.int .i64 0) := HZ.out.cell 3 _ rfl
    have zf3 := HZ.out.frozen 3
    have z4 : wv.cell? ⟨w.heap.size, 4, none⟩ = some (.int .i64 0) := HZ.out.cell 4 _ rfl
    have zf4 := HZ.out.frozen 4
    have t0 : wv.cell? ⟨b, 0, none⟩ = some (.int .i64 a) := HT.out.cell 0 _ rfl
    have tf0 := HT.out.frozen 0
    have t1 : wv.cell? ⟨b, 1, none⟩ = some (.int .i64 lo) := HT.out.cell 1 _ rfl
    have tf1 := HT.out.frozen 1
    have t2 : wv.cell? ⟨b, 2, none⟩ = some (.int .i64 u) := HT.out.cell 2 _ rfl
    have tf2 := HT.out.frozen 2
    have t3 : wv.cell? ⟨b, 3, none⟩ = some (.int .i64 q) := HT.out.cell 3 _ rfl
    have tf3 := HT.out.frozen 3
    have t4 : wv.cell? ⟨b, 4, none⟩ = some (.int .i64 tt) := HT.out.cell 4 _ rfl
    have tf4 := HT.out.frozen 4
    have HE := Lib.hid (((((HZ.out.set 0 (.int .i64 a)).set 1 (.int .i64 lo)).set 2 (.int .i64 u)).set 3 (.int .i64 q)).set 4 (.int .i64 tt))
    have HCe := Lib.hid (Cur.set (Cur.set (Cur.set (Cur.set (Cur.set HC.out hzp (i := 0) (v := .int .i64 a)) hzp (i := 1) (v := .int .i64 lo)) hzp (i := 2) (v := .int .i64 u)) hzp (i := 3) (v := .int .i64 q)) hzp (i := 4) (v := .int .i64 tt))
    have HGe := Lib.hid (grown_put (grown_put (grown_put (grown_put (grown_put HG.out (Nat.le_refl _) (i := 0) (v := .int .i64 a)) (Nat.le_refl _) (i := 1) (v := .int .i64 lo)) (Nat.le_refl _) (i := 2) (v := .int .i64 u)) (Nat.le_refl _) (i := 3) (v := .int .i64 q)) (Nat.le_refl _) (i := 4) (v := .int .i64 tt))
    clear HT HZ HC HG
    go_wp2_with fail
    have hl := HE.out.load Try.underlying26 rfl (by kernel_rfl)
    refine bodyPost_ret (v := .agg #[.int .i64 a, .int .i64 lo, .int .i64 u, .int .i64 q, .int .i64 tt]) ?_ rfl ⟨_, _, _, _, _, rfl, HCe.out.more (by omega), HGe.out⟩
    rw [ats.results_cell1 rfl]
    simp [asAddr, Result.andThen, hl]
  have d3_ : (k == 3) = false := by simpa using h3
  by_cases h4 : k = 4
  · subst h4
    have t0 : wk.cell? ⟨b, 0, none⟩ = some (.int .i64 a) := HT.out.cell 0 _ rfl
    have tf0 := HT.out.frozen 0
    have t1 : wk.cell? ⟨b, 1, none⟩ = some (.int .i64 lo) := HT.out.cell 1 _ rfl
    have tf1 := HT.out.frozen 1
    have t2 : wk.cell? ⟨b, 2, none⟩ = some (.int .i64 u) := HT.out.cell 2 _ rfl
    have tf2 := HT.out.frozen 2
    have t3 : wk.cell? ⟨b, 3, none⟩ = some (.int .i64 f) := HT.out.cell 3 _ rfl
    have tf3 := HT.out.frozen 3
    have t4 : wk.cell? ⟨b, 4, none⟩ = some (.int .i64 tt) := HT.out.cell 4 _ rfl
    have tf4 := HT.out.frozen 4
    go_wp2_with fail
    clear t0 tf0 t1 tf1 t2 tf2 t3 tf3 t4 tf4
    refine (among_new (1440) 1441 p _ 2 [1440, 1441] _ wk HC.out (by omega) (by omega) (by omega) rfl rfl (by decide)).mono ?_
    rintro e wu ⟨q, rfl, q0, q1, hc, hg⟩
    have HT := Lib.hid (HT.out.grown hg (Nat.ne_of_gt htp))
    have HZ := Lib.hid (HZ.out.grown hg (Nat.ne_of_gt hzp))
    have HC := Lib.hid hc
    have HG := Lib.hid (grown_trans HG.out hg)
    clear hc hg
    have t0 : wu.cell? ⟨b, 0, none⟩ = some (.int .i64 a) := HT.out.cell 0 _ rfl
    have tf0 := HT.out.frozen 0
    have t1 : wu.cell? ⟨b, 1, none⟩ = some (.int .i64 lo) := HT.out.cell 1 _ rfl
    have tf1 := HT.out.frozen 1
    have t2 : wu.cell? ⟨b, 2, none⟩ = some (.int .i64 u) := HT.out.cell 2 _ rfl
    have tf2 := HT.out.frozen 2
    have t3 : wu.cell? ⟨b, 3, none⟩ = some (.int .i64 f) := HT.out.cell 3 _ rfl
    have tf3 := HT.out.frozen 3
    have t4 : wu.cell? ⟨b, 4, none⟩ = some (.int .i64 tt) := HT.out.cell 4 _ rfl
    have tf4 := HT.out.frozen 4
    go_upto_region 15 with fail
    clear t0 tf0 t1 tf1 t2 tf2 t3 tf3 t4 tf4
    have HT := Lib.hid (HT.out.set 4 (.int .i64 q))
    have HZ := Lib.hid (HZ.out.other (Nat.ne_of_lt hzt) 4 (.int .i64 q))
    have HC := Lib.hid (Cur.set HC.out htp (i := 4) (v := .int .i64 q))
    have HG := Lib.hid (grown_put HG.out (Nat.le_of_lt hzt) (i := 4) (v := .int .i64 q))
    generalize wu.setCell ⟨b, 4, none⟩ (.int .i64 q) = wv at *
    have z0 : wv.cell? ⟨w.heap.size, 0, none⟩ = some (.int .i64 0) := HZ.out.cell 0 _ rfl
    have zf0 := HZ.out.frozen 0
    have z1 : wv.cell? ⟨w.heap.size, 1, none⟩ = some (.int .i64 0) := HZ.out.cell 1 _ rfl
    have zf1 := HZ.out.frozen 1
    have z2 : wv.cell? ⟨w.heap.size, 2, none⟩ = some (.int .i64 0) := HZ.out.cell 2 _ rfl
    have zf2 := HZ.out.frozen 2
    have z3 : wv.cell? ⟨w.heap.size, 3, none⟩ = some (.int .i64 0) := HZ.out.cell 3 _ rfl
    have zf3 := HZ.out.frozen 3
    have z4 : wv.cell? ⟨w.heap.size, 4, none⟩ = some (.int .i64 0) := HZ.out.cell 4 _ rfl
    have zf4 := HZ.out.frozen 4
    have t0 : wv.cell? ⟨b, 0, none⟩ = some (.int .i64 a) := HT.out.cell 0 _ rfl
    have tf0 := HT.out.frozen 0
    have t1 : wv.cell? ⟨b, 1, none⟩ = some (.int .i64 lo) := HT.out.cell 1 _ rfl
    have tf1 := HT.out.frozen 1
    have t2 : wv.cell? ⟨b, 2, none⟩ = some (.int .i64 u) := HT.out.cell 2 _ rfl
    have tf2 := HT.out.frozen 2
    have t3 : wv.cell? ⟨b, 3, none⟩ = some (.int .i64 f) := HT.out.cell 3 _ rfl
    have tf3 := HT.out.frozen 3
    have t4 : wv.cell? ⟨b, 4, none⟩ = some (.int .i64 q) := HT.out.cell 4 _ rfl
    have tf4 := HT.out.frozen 4
    have HE := Lib.hid (((((HZ.out.set 0 (.int .i64 a)).set 1 (.int .i64 lo)).set 2 (.int .i64 u)).set 3 (.int .i64 f)).set 4 (.int .i64 q))
    have HCe := Lib.hid (Cur.set (Cur.set (Cur.set (Cur.set (Cur.set HC.out hzp (i := 0) (v := .int .i64 a)) hzp (i := 1) (v := .int .i64 lo)) hzp (i := 2) (v := .int .i64 u)) hzp (i := 3) (v := .int .i64 f)) hzp (i := 4) (v := .int .i64 q))
    have HGe := Lib.hid (grown_put (grown_put (grown_put (grown_put (grown_put HG.out (Nat.le_refl _) (i := 0) (v := .int .i64 a)) (Nat.le_refl _) (i := 1) (v := .int .i64 lo)) (Nat.le_refl _) (i := 2) (v := .int .i64 u)) (Nat.le_refl _) (i := 3) (v := .int .i64 f)) (Nat.le_refl _) (i := 4) (v := .int .i64 q))
    clear HT HZ HC HG
    go_wp2_with fail
    have hl := HE.out.load Try.underlying26 rfl (by kernel_rfl)
    refine bodyPost_ret (v := .agg #[.int .i64 a, .int .i64 lo, .int .i64 u, .int .i64 f, .int .i64 q]) ?_ rfl ⟨_, _, _, _, _, rfl, HCe.out.more (by omega), HGe.out⟩
    rw [ats.results_cell1 rfl]
    simp [asAddr, Result.andThen, hl]
  have d4_ : (k == 4) = false := by simpa using h4
  have z0 : wk.cell? ⟨w.heap.size, 0, none⟩ = some (.int .i64 0) := HZ.out.cell 0 _ rfl
  have zf0 := HZ.out.frozen 0
  have z1 : wk.cell? ⟨w.heap.size, 1, none⟩ = some (.int .i64 0) := HZ.out.cell 1 _ rfl
  have zf1 := HZ.out.frozen 1
  have z2 : wk.cell? ⟨w.heap.size, 2, none⟩ = some (.int .i64 0) := HZ.out.cell 2 _ rfl
  have zf2 := HZ.out.frozen 2
  have z3 : wk.cell? ⟨w.heap.size, 3, none⟩ = some (.int .i64 0) := HZ.out.cell 3 _ rfl
  have zf3 := HZ.out.frozen 3
  have z4 : wk.cell? ⟨w.heap.size, 4, none⟩ = some (.int .i64 0) := HZ.out.cell 4 _ rfl
  have zf4 := HZ.out.frozen 4
  have t0 : wk.cell? ⟨b, 0, none⟩ = some (.int .i64 a) := HT.out.cell 0 _ rfl
  have tf0 := HT.out.frozen 0
  have t1 : wk.cell? ⟨b, 1, none⟩ = some (.int .i64 lo) := HT.out.cell 1 _ rfl
  have tf1 := HT.out.frozen 1
  have t2 : wk.cell? ⟨b, 2, none⟩ = some (.int .i64 u) := HT.out.cell 2 _ rfl
  have tf2 := HT.out.frozen 2
  have t3 : wk.cell? ⟨b, 3, none⟩ = some (.int .i64 f) := HT.out.cell 3 _ rfl
  have tf3 := HT.out.frozen 3
  have t4 : wk.cell? ⟨b, 4, none⟩ = some (.int .i64 tt) := HT.out.cell 4 _ rfl
  have tf4 := HT.out.frozen 4
  have HE := Lib.hid (((((HZ.out.set 0 (.int .i64 a)).set 1 (.int .i64 lo)).set 2 (.int .i64 u)).set 3 (.int .i64 f)).set 4 (.int .i64 tt))
  have HCe := Lib.hid (Cur.set (Cur.set (Cur.set (Cur.set (Cur.set HC.out hzp (i := 0) (v := .int .i64 a)) hzp (i := 1) (v := .int .i64 lo)) hzp (i := 2) (v := .int .i64 u)) hzp (i := 3) (v := .int .i64 f)) hzp (i := 4) (v := .int .i64 tt))
  have HGe := Lib.hid (grown_put (grown_put (grown_put (grown_put (grown_put HG.out (Nat.le_refl _) (i := 0) (v := .int .i64 a)) (Nat.le_refl _) (i := 1) (v := .int .i64 lo)) (Nat.le_refl _) (i := 2) (v := .int .i64 u)) (Nat.le_refl _) (i := 3) (v := .int .i64 f)) (Nat.le_refl _) (i := 4) (v := .int .i64 tt))
  clear HT HZ HC HG
  go_wp2_with fail
  have hl := HE.out.load Try.underlying26 rfl (by kernel_rfl)
  refine bodyPost_ret (v := .agg #[.int .i64 a, .int .i64 lo, .int .i64 u, .int .i64 f, .int .i64 tt]) ?_ rfl ⟨_, _, _, _, _, rfl, HCe.out.more (by omega), HGe.out⟩
  rw [ats.results_cell1 rfl]
  simp [asAddr, Result.andThen, hl]
end Go.Proofs.Ytglonedhoenkpaa.draws18
