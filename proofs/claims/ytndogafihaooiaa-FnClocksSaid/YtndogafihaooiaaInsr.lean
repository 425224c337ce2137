/- The library's slices.Insert and slices.BinarySearch at numbers: one number put into an owned, rising list. -/
import Derived.Test.YtndogafihaooiaaClk
import Derived.Test.YtndogafihaooiaaIns
import Derived.Test.YtndogafihaooiaaShelf
import Derived.Shelf.Spec.SlicesInsertGrow
namespace Go.Proofs.Ytndogafihaooiaa.insr
open Go.RowKit Go.Proofs.Ytndogafihaooiaa.ints Go.Proofs.Ytndogafihaooiaa.lst Go.Proofs.Ytndogafihaooiaa.clk Go.Proofs.Ytndogafihaooiaa.ins

def ren : Go.Shelf.Ren := ⟨fun | 21 => 99 | 27 => 102 | 28 => 103 | 35 => 105 | 39 => 106 | n => n, fun | 22 => 38 | 3 => 3 | 4 => 4 | n => n, fun | n => n⟩
theorem lays : Go.Proofs.Lays2.n21 Try.prog ren := {
  mixed := by kernel_rfl
  f21 := Try.func99.trans (congrArg some (by kernel_rfl))
  f27 := Try.func102.trans (congrArg some (by kernel_rfl))
  f28 := Try.func103.trans (congrArg some (by kernel_rfl))
  f35 := Try.func105.trans (congrArg some (by kernel_rfl))
  f39 := Try.func106.trans (congrArg some (by kernel_rfl))
  t0 := Try.underlying0
  a0 := Try.isAgg0
  z0 := Try.sizeOf0
  v0 := Try.zeroValue0
  t3 := Try.underlying3
  a3 := Try.isAgg3
  z3 := Try.sizeOf3
  v3 := Try.zeroValue3
  t4 := Try.underlying4
  a4 := Try.isAgg4
  z4 := Try.sizeOf4
  v4 := Try.zeroValue4
  t22 := Try.underlying38
  a22 := Try.isAgg38
  z22 := Try.sizeOf38
  v22 := Try.zeroValue38
  i3 := by kernel_rfl }

/- A row of the call's own, cell by cell. -/
def setL (ys : List Value) (o : Nat) : List Value → List Value
  | [] => ys
  | v :: r => setL (ys.set o v) (o + 1) r
theorem setL_length : ∀ (vs ys : List Value) (o : Nat), (setL ys o vs).length = ys.length
  | [], _, _ => rfl
  | v :: r, ys, o => by rw [setL, setL_length r, List.length_set]
theorem setL_at : ∀ (vs ys : List Value) (o k : Nat), k < ys.length → (setL ys o vs)[k]? = if o ≤ k ∧ k < o + vs.length then vs[k - o]? else ys[k]?
  | [], ys, o, k, _ => by rw [setL, if_neg (by rw [List.length_nil]; omega)]
  | v :: r, ys, o, k, hk => by
    rw [setL, setL_at r (ys.set o v) (o + 1) k (by rw [List.length_set]; exact hk)]
    by_cases h1 : o = k
    · subst h1
      rw [if_neg (by omega), if_pos (by simp), List.getElem?_set_self hk, Nat.sub_self]
      exact List.getElem?_cons_zero.symm
    · by_cases h2 : o + 1 ≤ k ∧ k < o + 1 + r.length
      · rw [if_pos h2, if_pos (by simp only [List.length_cons]; omega), show k - o = (k - (o + 1)) + 1 by omega, List.getElem?_cons_succ]
      · rw [if_neg h2, if_neg (by simp only [List.length_cons]; omega), List.getElem?_set_ne h1]
theorem own_setL {B e g n c : Nat} : ∀ (vs : List Value) (o : Nat) (w : World) (ys : List Value), w.ownsRow B e 1 (.slice (some ⟨g, 0, none⟩) n c) n ys →
    (w.setCells g o vs).ownsRow B e 1 (.slice (some ⟨g, 0, none⟩) n c) n (setL ys o vs)
  | [], _, _, _, h => h
  | v :: r, o, _, _, h => own_setL r (o + 1) _ _ ((h.stored o v).1)
theorem own_full {w : World} {B e g n c : Nat} {xs : List Value} (h : w.ownsRow B e 1 (.slice (some ⟨g, 0, none⟩) n c) n xs) :
    ∃ ys, w.ownsRow B e 1 (.slice (some ⟨g, 0, none⟩) c c) c ys ∧ (∀ k, k < n → ys[k]? = xs[k]?) ∧ n ≤ c ∧ c ≤ maxLen := by
  rcases h.2 with ⟨h0, _⟩ | ⟨g', cap, cur, hv, hbg, hg, hnc, hcm, hcs, htake⟩
  · cases h0
  · injection hv with h1 h2 h3
    injection h1 with h1
    injection h1 with h1
    subst h1
    subst h3
    refine ⟨cur.toList, ⟨by rw [Array.length_toList]; exact hcs, .inr ⟨g, c, cur, rfl, hbg, hg, Nat.le_refl _, hcm, hcs, ?_⟩⟩, fun k hk => ?_, hnc, hcm⟩
    · rw [List.take_of_length_le (by rw [Array.length_toList]; omega)]
    · rw [← htake, List.getElem?_take, if_pos (by omega)]
theorem own_head {w : World} {B e g n c m : Nat} {ys xs : List Value} (h : w.ownsRow B e 1 (.slice (some ⟨g, 0, none⟩) n c) n ys) (hm : m ≤ n) (hl : xs.length = m) (hx : ∀ k, k < m → xs[k]? = ys[k]?) : w.ownsRow B e 1 (.slice (some ⟨g, 0, none⟩) m c) m xs := by
  rcases h.2 with ⟨h0, _⟩ | ⟨g', cap, cur, hv, hbg, hg, hnc, hcm, hcs, htake⟩
  · cases h0
  · injection hv with h1 h2 h3
    injection h1 with h1
    injection h1 with h1
    subst h1
    subst h3
    refine ⟨by omega, .inr ⟨g, c, cur, rfl, hbg, hg, by omega, hcm, hcs, ?_⟩⟩
    refine List.ext_getElem? fun k => ?_
    by_cases hk : k < m
    · rw [hx k hk, ← htake, List.getElem?_take, List.getElem?_take, if_pos (by omega), if_pos (by omega)]
    · rw [List.getElem?_eq_none (by rw [List.length_take]; omega), List.getElem?_eq_none (by omega)]
theorem own_grew {w : World} {B e c n : Nat} {xs : List Value} (cur : Array Value) (hB : B ≤ w.heap.size) (hs : cur.size = c) (hn : n ≤ c) (hc : c ≤ maxLen) (hl : xs.length = n) (hx : ∀ k, k < n → xs[k]? = cur.toList[k]?) :
    (w.alloc (.cells cur e)).ownsRow B e 1 (.slice (some ⟨w.heap.size, 0, none⟩) n c) n xs :=
  own_head (n := c) (ys := cur.toList) ⟨by rw [Array.length_toList]; omega, .inr ⟨w.heap.size, c, cur, rfl, hB, heap_alloc_new w _, Nat.le_refl _, hc, by omega, by rw [List.take_of_length_le (by rw [Array.length_toList]; omega)]⟩⟩ hn hl hx
theorem below_setCells {B g : Nat} : ∀ (vs : List Value) (o : Nat) (W w : World), Below B W w → B ≤ g → Below B W (w.setCells g o vs)
  | [], _, _, _, h, _ => h
  | v :: r, o, W, _, h, hg => below_setCells r (o + 1) W _ (h.setCell (p := ⟨g, o, none⟩) hg v) hg

def putL (xs : List Int) (j : Nat) (d : Int) : List Int := xs.take j ++ [d] ++ xs.drop j
theorem putL_length {xs : List Int} {j : Nat} {d : Int} (h : j ≤ xs.length) : (putL xs j d).length = xs.length + 1 := by unfold putL; simp; omega
theorem putL_at {xs : List Int} {n j k : Nat} {d : Int} (hl : xs.length = n) (h : j ≤ n) : (cellsI (putL xs j d))[k]? = if k < j then (cellsI xs)[k]? else if k = j then some (.int .i64 d) else (cellsI xs)[k - 1]? := by
  unfold putL cellsI
  rw [List.getElem?_map, List.getElem?_map, List.getElem?_map]
  by_cases h1 : k < j
  · rw [if_pos h1, List.append_assoc, List.getElem?_append_left (by rw [List.length_take]; omega), List.getElem?_take, if_pos h1]
  · rw [if_neg h1]
    by_cases h2 : k = j
    · subst h2
      rw [if_pos rfl, List.append_assoc, List.getElem?_append_right (by rw [List.length_take]; omega), List.length_take, show k - min k xs.length = 0 by omega]
      rfl
    · rw [if_neg h2, List.getElem?_append_right (by simp; omega), List.getElem?_drop]
      congr 2
      simp
      omega
theorem cellsI_drop (xs : List Int) (j : Nat) : (cellsI xs).drop j = cellsI (xs.drop j) := by unfold cellsI; rw [List.map_drop]

theorem frozen_new (w : World) (cs : Array Value) (e : TypeId) (o : Nat) : (w.alloc (.cells cs e)).frozen? ⟨w.heap.size, o, none⟩ = false := by
  unfold World.frozen?
  rw [heap_alloc_new w _]
  simp
theorem shape_new (w : World) (cs : Array Value) (e : TypeId) : (w.alloc (.cells cs e)).shape? w.heap.size = some (e, cs.size) := by
  unfold World.shape?
  rw [heap_alloc_new w _]
theorem shape_own {w : World} {B e g n c : Nat} {xs : List Value} (h : w.ownsRow B e 1 (.slice (some ⟨g, 0, none⟩) n c) n xs) : w.shape? g = some (e, c) := by
  rcases h.2 with ⟨h0, _⟩ | ⟨g', cap, cur, hv, hbg, hg, hnc, hcm, hcs, htake⟩
  · cases h0
  · injection hv with h1 h2 h3
    injection h1 with h1
    injection h1 with h1
    subst h1
    subst h3
    unfold World.shape?
    rw [hg]
    simp [hcs]

set_option maxHeartbeats 4000000 in
theorem insertI (xs : List Int) (d : Int) (A : Option Addr) (B n c j g : Nat) (W : World) (hown : W.ownsRow B 3 1 (.slice A n c) n (cellsI xs)) (hl : xs.length = n) (hj : j ≤ n) (hn : n ≤ 1048576) (hB : B ≤ W.heap.size) (hg : W.heap.size = g) :
    Calls Try.prog 99 #[.slice A n c, .int .i64 (j : Int), .slice (some ⟨g, 0, none⟩) 1 1] (W.alloc (.cells #[.int .i64 d] 3)) fun e w' =>
      ∃ v, e = .returned v ∧ w'.ownsRow B 3 1 v (n + 1) (cellsI (putL xs j d)) ∧ Below B W w' := by
  subst hg
  have hW0 : W.alloc (.cells #[.int .i64 d] 3) = W.alloc (.cells #[.int .i64 d] 3) := rfl
  have hown0 := hown.alloc (.cells #[.int .i64 d] 3)
  have hvs : ∀ k v, [Value.int .i64 d][k]? = some v → (W.alloc (.cells #[.int .i64 d] 3)).cell? ⟨W.heap.size, 0 + k, none⟩ = some v := by
    intro k v hk
    have := cells_new W 3 #[.int .i64 d] k v hk
    rw [Addr.add_lit] at this
    exact this
  have h1v : ∀ v ∈ [Value.int .i64 d], v.oneCell' = true := fun v hv => by
    obtain rfl := List.mem_singleton.1 hv
    rfl
  have h1c : ∀ v ∈ cellsI xs, v.oneCell' = true := ints_one xs
  have hcl : (cellsI xs).length = n := by unfold cellsI; rw [List.length_map, hl]
  have hBel : Below B W (W.alloc (.cells #[.int .i64 d] 3)) := (Below.refl B W).alloc hB _
  have hsz : (W.alloc (.cells #[.int .i64 d] 3)).heap.size = W.heap.size + 1 := World.size_alloc ..
  have hlp : (cellsI (putL xs j d)).length = n + 1 := by unfold cellsI; rw [List.length_map, putL_length (by omega), hl]
  have hat : ∀ k, (cellsI (putL xs j d))[k]? = if k < j then (cellsI xs)[k]? else if k = j then some (.int .i64 d) else (cellsI xs)[k - 1]? := fun k => putL_at hl hj
  have hshn := shape_new W #[.int .i64 d] 3
  have hfr := frozen_new W #[.int .i64 d] 3
  generalize W.alloc (.cells #[.int .i64 d] 3) = W0 at *
  rcases Nat.lt_or_ge j n with hjn | hjn
  · obtain ⟨b, cc, eA, hcc, hbg⟩ := own_posC hown (by omega)
    injection eA with e1 e2 e3
    subst e1
    subst e3
    have hbl : b < W.heap.size := own_lt hown
    have hcells : ∀ k v, (cellsI xs)[k]? = some v → W0.cell? ⟨b, 0 + k, none⟩ = some v := by
      intro k v hk
      rw [Nat.zero_add, hown0.cellAt k (by have := (List.getElem?_eq_some_iff.1 hk).1; omega)]
      exact hk
    obtain ⟨ys, hfull, hys, -, hcm⟩ := own_full hown0
    by_cases hroom : n + 1 ≤ c
    · refine (Any2.slices_Insert_int_shift lays b 0 n c j W.heap.size 0 1 1 (cellsI xs) [.int .i64 d] W0 hjn (by omega) hroom (by unfold maxLen at hcm; omega) (by omega) hcl rfl hcells (fun k hk => by
        rw [Nat.zero_add, hfull.cellAt k (by omega), List.getElem?_eq_getElem (by have := hfull.1; omega)]; rfl) (fun k hk => hfull.frozenAt _) hvs h1c h1v 3 3 1 c hshn (shape_own hown0) (by omega) (hfr 0) (hfr 1)).mono ?_
      rintro e w' ⟨rfl, rfl⟩
      refine ⟨_, rfl, ?_, below_setCells _ _ _ _ (below_setCells _ _ _ _ hBel.drew hbg) hbg⟩
      refine own_head (own_setL _ _ _ _ (own_setL _ _ _ _ (own_.own_drewN hfull 1))) hroom hlp (fun k hk => ?_)
      have hyl : ys.length = c := by have := hfull.1; omega
      rw [setL_at _ _ _ _ (by rw [setL_length]; omega), setL_at _ _ _ _ (by omega), hat k]
      rw [List.length_drop, hcl]
      simp only [List.length_singleton]
      by_cases hk1 : k < j
      · rw [if_pos hk1, if_neg (by omega), if_neg (by omega), hys k (by omega)]
      · by_cases hk2 : k = j
        · subst hk2
          rw [if_neg hk1, if_pos rfl, if_pos (by omega), show k - (0 + k) = 0 by omega]; rfl
        · rw [if_neg hk1, if_neg hk2, if_neg (by omega), if_pos (by omega), List.getElem?_drop]
          congr 1
          omega
    · refine (Any2.slices_Insert_int_grow lays b 0 n c j W.heap.size 0 1 1 (cellsI xs) [.int .i64 d] W0 hjn (by omega) hcc (by omega) (by omega) hcl rfl hcells hvs h1c h1v).mono ?_
      rintro e w' ⟨rfl, rfl⟩
      have hge : n + 1 ≤ grownCap W0 (n + 1) c (ren.t 3) := grownCap_ge W0 (n + 1) c (ren.t 3)
      have hle : grownCap W0 (n + 1) c (ren.t 3) ≤ maxLen := grownCap_le_maxLen W0 _ _ _ (by unfold maxLen; omega)
      generalize grownCap W0 (n + 1) c (ren.t 3) = G at *
      obtain ⟨ROW, hROW⟩ : ∃ ROW : Array Value, ROW = ((cellsI xs).take j).toArray ++ Builtin.zeroCells (Value.int .i64 0).cells (n + 1 - j) ++ Builtin.zeroCells (Value.int .i64 0).cells (G - (n + 1)) := ⟨_, rfl⟩
      have hRs : ROW.size = G := by
        rw [hROW]
        simp [Builtin.zeroCells, Value.cells]
        omega
      have hRat : ∀ k, k < j → ROW.toList[k]? = (cellsI xs)[k]? := by
        intro k hk
        rw [hROW, Array.toList_append, Array.toList_append, List.append_assoc, List.getElem?_append_left (by simp; omega)]
        simp only [List.getElem?_take]
        rw [if_pos hk]
      rw [← hROW]
      have hnew := own_grew (w := W0) (B := B) (e := ren.t 3) (xs := ROW.toList) ROW (by omega) hRs (Nat.le_refl G) hle (by rw [Array.length_toList]; exact hRs) (fun _ _ => rfl)
      refine ⟨_, rfl, ?_, below_setCells _ _ _ _ (below_setCells _ _ _ _ (hBel.alloc (by omega) _).drew (by omega)).drew (by omega)⟩
      refine own_head (own_setL _ _ _ _ (own_.own_drewN (own_setL _ _ _ _ (own_.own_drewN hnew 1)) 1)) hge hlp (fun k hk => ?_)
      have hyl : ROW.toList.length = G := by rw [Array.length_toList]; exact hRs
      rw [setL_at _ _ _ _ (by rw [setL_length]; omega), setL_at _ _ _ _ (by omega), hat k]
      rw [List.length_drop, hcl]
      simp only [List.length_singleton]
      by_cases hk1 : k < j
      · rw [if_pos hk1, if_neg (by omega), if_neg (by omega), hRat k hk1]
      · by_cases hk2 : k = j
        · subst hk2
          rw [if_neg hk1, if_pos rfl, if_neg (by omega), if_pos (by omega), Nat.sub_self]; rfl
        · rw [if_neg hk1, if_neg hk2, if_pos (by omega), List.getElem?_drop]
          congr 1
          omega
  · obtain rfl : j = n := by omega
    by_cases hroom : j + 1 ≤ c
    · have hj2 : ∃ b, A = some ⟨b, 0, none⟩ ∧ B ≤ b := by
        rcases hown.2 with ⟨h0, _⟩ | ⟨g', cap, cur, hv, hbg, _⟩
        · injection h0 with e1 e2 e3
          omega
        · injection hv with e1 e2 e3
          exact ⟨g', e1, hbg⟩
      obtain ⟨b, rfl, hbg⟩ := hj2
      obtain ⟨ys, hfull, hys, -, hcm⟩ := own_full hown0
      refine (Any2.slices_Insert_int_end_room lays b 0 j c W.heap.size 0 1 1 [.int .i64 d] W0 (by omega) hroom (by unfold maxLen at hcm; omega) rfl (fun k hk => by
        rw [hfull.cellAt _ (by omega), List.getElem?_eq_getElem (by have := hfull.1; omega)]; rfl) (fun k hk => hfull.frozenAt _) hvs h1v).mono ?_
      rintro e w' ⟨rfl, rfl⟩
      refine ⟨_, rfl, ?_, below_setCells _ _ _ _ hBel hbg⟩
      refine own_head (own_setL _ _ _ _ hfull) hroom hlp (fun k hk => ?_)
      have hyl : ys.length = c := by have := hfull.1; omega
      rw [setL_at _ _ _ _ (by omega), hat k]
      simp only [List.length_singleton]
      by_cases hk1 : k < j
      · rw [if_pos hk1, if_neg (by omega), hys k hk1]
      · obtain rfl : k = j := by omega
        rw [if_neg hk1, if_pos rfl, if_pos (by omega), show k - (0 + k) = 0 by omega]; rfl
    · have hcc : j ≤ c := by
        rcases hown.2 with ⟨h0, h1⟩ | ⟨g', cap, cur, hv, _, _, h3, _⟩
        · omega
        · injection hv with e1 e2 e3
          omega
      refine (Any2.slices_Insert_int_end_grow lays A j c W.heap.size 0 1 1 (cellsI xs) [.int .i64 d] W0 (by omega) hcc (by omega) (by omega) hcl rfl (fun e => by
        rcases hown.2 with ⟨h0, h1⟩ | ⟨g', cap, cur, hv, _⟩
        · exact h1
        · rw [e] at hv
          injection hv with e1
          cases e1) (fun a e k v hk => hown0.cells (g := a.block) (by rw [e]; rfl) k v hk |> fun hh => by
            rcases hown.2 with ⟨h0, h1⟩ | ⟨g', cap, cur, hv, _⟩
            · rw [e] at h0; injection h0 with e1; cases e1
            · rw [e] at hv
              injection hv with e1
              injection e1 with e1
              subst e1
              exact hh) hvs h1v).mono ?_
      rintro e w' ⟨rfl, rfl⟩
      have hge : j + 1 ≤ grownCap W0 (j + 1) c (ren.t 3) := grownCap_ge W0 (j + 1) c (ren.t 3)
      have hle : grownCap W0 (j + 1) c (ren.t 3) ≤ maxLen := grownCap_le_maxLen W0 _ _ _ (by unfold maxLen; omega)
      generalize grownCap W0 (j + 1) c (ren.t 3) = G at *
      refine ⟨_, rfl, own_grew (w := W0.drew) _ (by show B ≤ W0.heap.size; omega) (by simp [Builtin.zeroCells, Value.cells]; omega) hge hle hlp (fun k hk => ?_), hBel.drew.alloc (by show B ≤ W0.heap.size; omega) _⟩
      rw [hat k, Array.toList_append, List.getElem?_append_left (by simp; omega)]
      by_cases hk1 : k < j
      · rw [if_pos hk1, List.getElem?_append_left (by omega)]
      · obtain rfl : k = j := by omega
        rw [if_neg hk1, if_pos rfl, List.getElem?_append_right (by omega), hcl, Nat.sub_self]; rfl

/- Where a number belongs in a rising list. -/
theorem count_le : ∀ {l : List Int} (_ : l.Pairwise (fun x y => x ≤ y)) (x : Int), (∀ k, k < l.countP (· < x) → l.getD k 0 < x) ∧ (∀ k, l.countP (· < x) ≤ k → k < l.length → x ≤ l.getD k 0)
  | [], _, x => ⟨fun k hk => by simp at hk, fun k _ hk => by simp at hk⟩
  | a :: r, h, x => by
    obtain ⟨ha, hr⟩ := List.pairwise_cons.1 h
    obtain ⟨h1, h2⟩ := count_le hr x
    by_cases hx : a < x
    · have e : (a :: r).countP (· < x) = r.countP (· < x) + 1 := by rw [List.countP_cons]; simp [hx]
      rw [e]
      refine ⟨fun k hk => ?_, fun k hk hl => ?_⟩
      · match k with
        | 0 => exact hx
        | k + 1 => exact h1 k (by omega)
      · match k with
        | 0 => omega
        | k + 1 => exact h2 k (by omega) (by simpa using hl)
    · have hz : r.countP (· < x) = 0 := by
        rw [List.countP_eq_zero]
        intro y hy
        have := ha y hy
        simp
        omega
      have e : (a :: r).countP (· < x) = 0 := by rw [List.countP_cons, hz]; simp [hx]
      rw [e]
      refine ⟨fun k hk => by omega, fun k _ hl => ?_⟩
      match k with
      | 0 => show x ≤ a; omega
      | k + 1 => exact h2 k (by omega) (by simpa using hl)
theorem put_rising {xs : List Int} {d : Int} : putL (rising xs) ((rising xs).countP (· < d)) d = rising (xs ++ [d]) := by
  have hp := rising_le xs
  obtain ⟨h1, h2⟩ := count_le hp d
  have hj : (rising xs).countP (· < d) ≤ (rising xs).length := List.countP_le_length
  generalize (rising xs).countP (· < d) = j at *
  unfold putL
  have ht : ∀ x ∈ (rising xs).take j, x ≤ d := fun x hx => by
    obtain ⟨i, hi, e⟩ := mem_getD hx
    rw [List.length_take] at hi
    rw [List.getD_eq_getElem?_getD, List.getElem?_take, if_pos (by omega), ← List.getD_eq_getElem?_getD] at e
    have := h1 i (by omega)
    omega
  have hd : ∀ x ∈ (rising xs).drop j, d ≤ x := fun x hx => by
    obtain ⟨i, hi, e⟩ := mem_getD hx
    rw [List.length_drop] at hi
    rw [List.getD_eq_getElem?_getD, List.getElem?_drop, ← List.getD_eq_getElem?_getD] at e
    have := h2 (j + i) (by omega) (by omega)
    omega
  refine rising_of ?_ ?_
  · rw [List.append_assoc, List.pairwise_append]
    refine ⟨hp.sublist (List.take_sublist _ _), ?_, fun a ha b hb => ?_⟩
    · rw [List.singleton_append, List.pairwise_cons]
      exact ⟨hd, hp.sublist (List.drop_sublist _ _)⟩
    · rw [List.singleton_append, List.mem_cons] at hb
      have hab := ht a ha
      rcases hb with rfl | hb
      · exact hab
      · have := hd b hb; omega
  · rw [List.append_assoc]
    refine (List.perm_middle (l₁ := (rising xs).take j) (l₂ := (rising xs).drop j) (a := d)).trans ?_
    rw [List.take_append_drop]
    refine ((rising_perm xs).cons d).trans ?_
    exact (List.perm_append_singleton d xs).symm
/-- slices.BinarySearch in a rising list of the call's own. -/
theorem searchI (xs : List Int) (d : Int) (A : Option Addr) (B n c : Nat) (W : World) (hown : W.ownsRow B 3 1 (.slice A n c) n (cellsI (rising xs))) (hl : xs.length = n) (hn : n ≤ 1048576) :
    Calls Try.prog 98 #[.slice A n c, .int .i64 d] W fun e w' => ∃ q, e = .returned (.tuple #[.int .i64 (((rising xs).countP (· < d) : Nat) : Int), .bool ((rising xs).contains d)]) ∧ w' = W.drewN q := by
  have hrl := rising_length xs
  rcases Nat.eq_zero_or_pos n with h0 | h0
  · subst h0
    have hx : rising xs = [] := List.eq_nil_of_length_eq_zero (by omega)
    refine (Try.slices_BinarySearch_int_empty A c d W).mono ?_
    rintro e w' ⟨rfl, rfl⟩
    exact ⟨0, by rw [hx]; rfl, rfl⟩
  · obtain ⟨b, cc, eA, hcc, hbg⟩ := own_posC hown h0
    injection eA with e1 e2 e3
    subst e1
    subst e3
    have ht : (rising xs).take n = rising xs := List.take_of_length_le (by omega)
    refine (Try.slices_BinarySearch_int b 0 n c (rising xs) d W (by omega) (by omega) (fun j hj => by
      rw [Nat.zero_add]; exact own_at hown (by omega) (by omega)) (by rw [ht]; exact rising_le xs)).mono ?_
    rintro e w' ⟨rfl, q, rfl⟩
    exact ⟨q, by rw [ht], rfl⟩
end Go.Proofs.Ytndogafihaooiaa.insr
