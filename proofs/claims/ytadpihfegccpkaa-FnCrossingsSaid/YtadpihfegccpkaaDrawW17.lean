/- spec's DrawSameSector. -/
import Derived.Test.YtadpihfegccpkaaDrawT17
import Derived.Test.YtadpihfegccpkaaDrawV17
import Derived.Test.YtadpihfegccpkaaSctO
namespace Go.Proofs.Ytadpihfegccpkaa.draww17
set_option linter.unusedVariables false
set_option linter.unusedSimpArgs false
open Go.RowKit Go.Proofs.Ytadpihfegccpkaa.cur Go.Proofs.Ytadpihfegccpkaa.atc Go.Proofs.Ytadpihfegccpkaa.ats Go.Proofs.Ytadpihfegccpkaa.ints Go.Proofs.Ytadpihfegccpkaa.lst Go.Proofs.Ytadpihfegccpkaa.scte Go.Proofs.Ytadpihfegccpkaa.scth Go.Proofs.Ytadpihfegccpkaa.tailh Go.Proofs.Ytadpihfegccpkaa.draws17 Go.Proofs.Ytadpihfegccpkaa.drawt17 Go.Proofs.Ytadpihfegccpkaa.drawv17

/-- What a Draw of two sectors returns. -/
def SecSS (w : World) (e : Ending) (w' : World) : Prop := ∃ (d1 d2 : Int) (A1 A2 : Option Addr) (n1 c1 n2 c2 : Nat) (zs1 zs2 : List Int), e = .returned (.tuple #[.agg #[.int .i64 d1, .slice A1 n1 c1], .agg #[.int .i64 d2, .slice A2 n2 c2]]) ∧ (w'.ownsRow w.heap.size 28 2 (.slice A1 n1 c1) n1 (cellsI zs1) ∧ n1 ≤ 6 ∧ n1 ≤ c1) ∧ (w'.ownsRow w.heap.size 28 2 (.slice A2 n2 c2) n2 (cellsI zs2) ∧ n2 ≤ 6 ∧ n2 ≤ c2) ∧ Below w.heap.size w w'
theorem own_lt {W : World} {B e s n : Nat} {v : Value} {xs : List Value} (h : W.ownsRow B e s v n xs) : ∀ g, v.ownBlock = some g → g < W.heap.size := by
  intro g hg
  rcases h.2 with ⟨rfl, _⟩ | ⟨g', cap', cur, rfl, _, hh, _⟩
  · cases hg
  · obtain rfl : g' = g := Option.some.inj hg
    exact (Array.getElem?_eq_some_iff.1 hh).1
theorem row_neA {W : World} {B n c b T : Nat} {A : Option Addr} {xs : List Value} {cs : Array Value} (h : W.ownsRow B 28 2 (.slice A n c) n xs) (hb : Blk T cs W b) (ht : T ≠ 28) : ∀ q, (Value.slice A n c).ownBlock = some q → b ≠ q := by
  intro q e
  rcases h.2 with ⟨h', _⟩ | ⟨g', cap', cur, h', hrest⟩
  · rw [h'] at e; cases e
  · rw [h'] at e
    obtain rfl : g' = q := Option.some.inj e
    rw [h'] at h
    simp only [Value.slice.injEq] at h'
    obtain ⟨rfl, -, rfl⟩ := h'
    exact row_ne h hb ht
theorem add_eq (g o j : Nat) : (⟨g, o, none⟩ : Addr).add j = ⟨g, o + j, none⟩ := by
  unfold Addr.add
  split
  · subst_vars; rfl
  · rfl
theorem own_len2 {W : World} {B e n : Nat} {v : Value} {zs : List Int} (h : W.ownsRow B e 2 v n (cellsI zs)) : zs.length = n * 2 := by have := h.1; unfold cellsI at this; simpa using this
theorem own_put0 {W : World} {B g n c : Nat} {zs : List Int} (h : W.ownsRow B 28 2 (.slice (some ⟨g, 0, none⟩) n c) n (cellsI zs)) (a b : Int) : ((W.setCell ⟨g, 0, none⟩ (.int .i64 a)).setCell ⟨g, 1, none⟩ (.int .i64 b)).ownsRow B 28 2 (.slice (some ⟨g, 0, none⟩) n c) n (cellsI ((zs.set 0 a).set 1 b)) := own_put2 h 0 a b
theorem cells_drop {W : World} {B g n c : Nat} {zs : List Int} (h : W.ownsRow B 28 2 (.slice (some ⟨g, 0, none⟩) n c) n (cellsI zs)) (k : Nat) : ∀ j u, ((cellsI zs).drop (k * 2))[j]? = some u → W.cell? ((⟨g, k * 2, none⟩ : Addr).add j) = some u := by
  intro j u hj
  rw [List.getElem?_drop] at hj
  have hlt : k * 2 + j < n * 2 := by have := (List.getElem?_eq_some_iff.1 hj).1; rw [h.1] at this; exact this
  rw [add_eq]
  rw [h.cellAt (k * 2 + j) hlt]
  exact hj
theorem cells_take {W : World} {B g n c : Nat} {zs : List Int} (h : W.ownsRow B 28 2 (.slice (some ⟨g, 0, none⟩) n c) n (cellsI zs)) (k : Nat) : ∀ j u, ((cellsI zs).take (k * 2))[j]? = some u → W.cell? ((⟨g, 0, none⟩ : Addr).add j) = some u := by
  intro j u hj
  rw [List.getElem?_take] at hj
  split at hj
  · have hlt : j < n * 2 := by have := (List.getElem?_eq_some_iff.1 hj).1; rw [h.1] at this; exact this
    rw [add_eq, Nat.zero_add, h.cellAt j hlt]
    exact hj
  · cases hj
theorem ints_one (xs : List Int) : ∀ u ∈ cellsI xs, u.oneCell' = true := by
  intro u hu
  unfold cellsI at hu
  obtain ⟨x, _, rfl⟩ := List.mem_map.mp hu
  rfl
theorem own_ints {W : World} {B e s n k : Nat} {v : Value} {zs : List Int} (h : W.ownsRow B e s v n ((cellsI zs).drop k ++ (cellsI zs).take k)) : W.ownsRow B e s v n (cellsI (zs.drop k ++ zs.take k)) := by
  unfold cellsI at h ⊢
  rw [List.map_append, List.map_drop, List.map_take]
  exact h
set_option maxRecDepth 100000 in
set_option maxHeartbeats 8000000 in
theorem sameSector (A : Option Addr) (n c0 : Nat) (w : World) (hn : n ≤ 65536) (h : Bytes w w.heap.size A n) :
    Calls Try.prog 34 #[.slice A n c0] w (SecSS w) := by
  obtain ⟨inf, hi, hz0, hz1, hz2⟩ := info_parts infoP
  have S0 := Lib.hid (((newS 26 #[.int .i64 0, .slice none 0 0] w).alloc (.cells #[.int .i64 0, .slice none 0 0] 26)).alloc (.cells #[.slice A n c0, .int .i64 0, .int .u64 0] 78))
  have S1 := Lib.hid (((newS 26 #[.int .i64 0, .slice none 0 0] w).next 26 #[.int .i64 0, .slice none 0 0]).alloc (.cells #[.slice A n c0, .int .i64 0, .int .u64 0] 78))
  rw [World.size_alloc] at S1
  have S2 := Lib.hid (((newS 26 #[.int .i64 0, .slice none 0 0] w).alloc (.cells #[.int .i64 0, .slice none 0 0] 26)).next 78 #[.slice A n c0, .int .i64 0, .int .u64 0])
  rw [World.size_alloc, World.size_alloc] at S2
  have hc := new_cur c0 (by omega) (bytes_al (.cells #[.int .i64 0, .slice none 0 0] 26) (bytes_al (.cells #[.int .i64 0, .slice none 0 0] 26) h))
  rw [World.size_alloc, World.size_alloc] at hc
  have HC := Lib.hid hc
  clear h hc
  have hw0_ : w.heap.size ≤ w.heap.size + 1 + 1 := by omega
  have hp0_ : w.heap.size ≠ w.heap.size + 1 + 1 := by omega
  have R0 := Lib.hid S0.out
  have hw1_ : w.heap.size ≤ w.heap.size + 1 + 1 := by omega
  have hp1_ : w.heap.size + 1 ≠ w.heap.size + 1 + 1 := by omega
  have R1 := Lib.hid S1.out
  have LW := Lib.hid (show w.heap.size + 1 + 1 < ((((w.alloc (.cells #[.int .i64 0, .slice none 0 0] 26)).alloc (.cells #[.int .i64 0, .slice none 0 0] 26)).alloc (.cells #[.slice A n c0, .int .i64 0, .int .u64 0] 78))).heap.size from S2.out.2.2.1)
  clear S0 S1 S2
  go_enter Try.func34, Try.ntmps34
  go_wp2_with fail
  generalize (((w.alloc (.cells #[.int .i64 0, .slice none 0 0] 26)).alloc (.cells #[.int .i64 0, .slice none 0 0] 26)).alloc (.cells #[.slice A n c0, .int .i64 0, .int .u64 0] 78)) = W1 at *
  refine (sector _ _ W1 HC.out (by omega)).mono ?_
  rintro e w1 ⟨d1, v, k1, zs1, rfl, ho, hk1, -, hc, hg⟩
  obtain ⟨A1, c1, rfl⟩ := own_sliceZ ho
  have R0 := Lib.hid (at_gr R0.out hg hp0_ hw0_)
  have R1 := Lib.hid (at_gr R1.out hg hp1_ hw1_)
  have R0 := Lib.hid (R0.out.alloc (.cells #[.int .i64 d1, .slice A1 k1 c1] 26))
  have R1 := Lib.hid (R1.out.alloc (.cells #[.int .i64 d1, .slice A1 k1 c1] 26))
  have OA := Lib.hid (own_.own_below ho ((Below.refl _ _).alloc (Nat.le_refl _) (.cells #[.int .i64 d1, .slice A1 k1 c1] 26)))
  have HS2 := Lib.hid (Nat.le_trans hg.size (show w1.heap.size ≤ (w1.alloc (.cells #[.int .i64 d1, .slice A1 k1 c1] 26)).heap.size by rw [World.size_alloc]; omega))
  have H5 := Lib.hid (Blk.new 26 #[.int .i64 d1, .slice A1 k1 c1] w1)
  have l5_ : w.heap.size + 1 + 1 < w1.heap.size := hc.lt
  have HC := Lib.hid (Cur.alloc hc (.cells #[.int .i64 d1, .slice A1 k1 c1] 26))
  clear ho hc hg
  go_upto_region 3 with fail
  generalize w1.alloc (.cells #[.int .i64 d1, .slice A1 k1 c1] 26) = W2 at *
  generalize w1.heap.size = b5 at *
  go_wp2_with fail
  have HAL := Lib.hid (fun g (e : (Value.slice A1 k1 c1).ownBlock = some g) => show g < W2.heap.size from own_lt OA.out g e)
  have hLW2 : W1.heap.size ≤ W1.heap.size := Nat.le_refl _
  refine (sector _ _ W2 HC.out (by omega)).mono ?_
  rintro e w2 ⟨d2, v, k2, zs2, rfl, ho, hk2, -, hc, hg⟩
  obtain ⟨A2, c2, rfl⟩ := own_sliceZ ho
  have R0 := Lib.hid (at_gr R0.out hg hp0_ hw0_)
  have R1 := Lib.hid (at_gr R1.out hg hp1_ hw1_)
  have OA := Lib.hid (own_kept OA.out hg (fun g e => by cases e; exact LW.out))
  have H5 := Lib.hid (H5.out.grown hg (show b5 ≠ w.heap.size + 1 + 1 by omega))
  have l56_ : b5 < w2.heap.size := H5.out.lt
  have NE := Lib.hid (fun g (e1 : (Value.slice A1 k1 c1).ownBlock = some g) (e2 : (Value.slice A2 k2 c2).ownBlock = some g) => Nat.lt_irrefl _ (Nat.lt_of_lt_of_le (HAL.out g e1) (own_.row_ge ho g e2)))
  have R0 := Lib.hid (R0.out.alloc (.cells #[.int .i64 d2, .slice A2 k2 c2] 26))
  have R1 := Lib.hid (R1.out.alloc (.cells #[.int .i64 d2, .slice A2 k2 c2] 26))
  have OA := Lib.hid (own_.own_below OA.out ((Below.refl _ _).alloc (Nat.le_refl _) (.cells #[.int .i64 d2, .slice A2 k2 c2] 26)))
  have OB := Lib.hid (own_.own_below (own_.own_base ho HS2.out) ((Below.refl _ _).alloc (Nat.le_refl _) (.cells #[.int .i64 d2, .slice A2 k2 c2] 26)))
  have H6 := Lib.hid (Blk.new 26 #[.int .i64 d2, .slice A2 k2 c2] w2)
  have H5 := Lib.hid (H5.out.alloc (.cells #[.int .i64 d2, .slice A2 k2 c2] 26))
  have HC := Lib.hid (Cur.alloc hc (.cells #[.int .i64 d2, .slice A2 k2 c2] 26))
  clear ho hc hg HAL
  go_upto_region 4 with fail
  generalize w2.alloc (.cells #[.int .i64 d2, .slice A2 k2 c2] 26) = W3 at *
  generalize w2.heap.size = b6 at *
  have H50_ : W3.cell? ⟨b5, 0, none⟩ = some (.int .i64 d1) := H5.out.cell 0 _ rfl
  have H51_ : W3.cell? ⟨b5, 1, none⟩ = some (.slice A1 k1 c1) := H5.out.cell 1 _ rfl
  by_cases h0_ : ¬ (0 : Int) < (k1 : Int)
  · go_upto_region 14 with fail
    clear H50_ H51_
    have R0 := Lib.hid R0.out.drew
    have R1 := Lib.hid R1.out.drew
    have OA := Lib.hid (own_drew OA.out)
    have OB := Lib.hid (own_drew OB.out)
    have H5 := Lib.hid H5.out.drew
    have H6 := Lib.hid H6.out.drew
    refine wp_region_tail (S := fun w' => World.cell? w' ⟨b5, 0, none⟩ = some (.int .i64 d1) ∧ World.cell? w' ⟨b5, 1, none⟩ = some (.slice A1 k1 c1) ∧ World.cell? w' ⟨b6, 0, none⟩ = some (.int .i64 d2) ∧ World.cell? w' ⟨b6, 1, none⟩ = some (.slice A2 k2 c2)) 3 (by kernel_rfl) ⟨H5.out.cell 0 _ rfl, H5.out.cell 1 _ rfl, H6.out.cell 0 _ rfl, H6.out.cell 1 _ rfl⟩ (fun hHeld => ?_)
    generalize W3.drew = F0 at *
    try simp only [Act.put, List.getElem_toArray, List.getElem_cons_succ, List.getElem_cons_zero, List.setIfInBounds_toArray, List.set_cons_succ, List.set_cons_zero]
    refine wpAnyE_take (i := 0) (v := ?vt1_0) rfl (by decide +kernel) (fun _ _ _ h => h) (Or.inl ⟨by first | rfl | kernel_rfl, ?ht1_0⟩) (by assumption) ?rt1_0
    case ht1_0 =>
      intro wS hSw
      obtain ⟨h0, h1, h2, h3⟩ := hSw
      go_simp
      try with_reducible rfl
    try simp only [Act.put, List.getElem_toArray, List.getElem_cons_succ, List.getElem_cons_zero, List.setIfInBounds_toArray, List.set_cons_succ, List.set_cons_zero]
    refine wpAnyE_take (i := 1) (v := ?vt1_1) rfl (by decide +kernel) (fun _ _ _ h => h) (Or.inl ⟨by first | rfl | kernel_rfl, ?ht1_1⟩) (by assumption) ?rt1_1
    case ht1_1 =>
      intro wS hSw
      obtain ⟨h0, h1, h2, h3⟩ := hSw
      go_simp
      try with_reducible rfl
    try simp only [Act.put, List.getElem_toArray, List.getElem_cons_succ, List.getElem_cons_zero, List.setIfInBounds_toArray, List.set_cons_succ, List.set_cons_zero]
    refine wpAnyE_ready (rs := [2]) (by kernel_rfl) (by simp) ?_
    refine AllReadyE.cons (i := 2) rfl (by decide) (fun K hK => ?_) AllReadyE.nil
    have r00_ : F0.cell? ⟨w.heap.size, 0, none⟩ = some (.int .i64 0) := R0.out.cell 0
    have rf00_ := R0.out.frozen 0
    have r01_ : F0.cell? ⟨w.heap.size, 1, none⟩ = some (.slice none 0 0) := R0.out.cell 1
    have rf01_ := R0.out.frozen 1
    go_simp
    have R0 := Lib.hid ((R0.out.set 0 (.int .i64 d1)).set 1 (.slice A1 k1 c1))
    have R1 := Lib.hid ((R1.out.other (b' := w.heap.size) (show w.heap.size ≤ w.heap.size by omega) (show w.heap.size + 1 ≠ w.heap.size by omega) 0 (.int .i64 d1)).other (b' := w.heap.size) (show w.heap.size ≤ w.heap.size by omega) (show w.heap.size + 1 ≠ w.heap.size by omega) 1 (.slice A1 k1 c1))
    have H5 := Lib.hid (draws17.Blk.other (draws17.Blk.other H5.out (show b5 ≠ w.heap.size by omega) 0 (.int .i64 d1)) (show b5 ≠ w.heap.size by omega) 1 (.slice A1 k1 c1))
    have H6 := Lib.hid (draws17.Blk.other (draws17.Blk.other H6.out (show b6 ≠ w.heap.size by omega) 0 (.int .i64 d1)) (show b6 ≠ w.heap.size by omega) 1 (.slice A1 k1 c1))
    have OA := Lib.hid (own_kept (own_kept OA.out (grown_set (grown_refl _ (some (w.heap.size))) 0 (.int .i64 d1)) (fun g e => by injection e with e; have := LW.out; omega)) (grown_set (grown_refl _ (some (w.heap.size))) 1 (.slice A1 k1 c1)) (fun g e => by injection e with e; have := LW.out; omega))
    have OB := Lib.hid (own_kept (own_kept OB.out (grown_set (grown_refl _ (some (w.heap.size))) 0 (.int .i64 d1)) (fun g e => by injection e with e; have := LW.out; omega)) (grown_set (grown_refl _ (some (w.heap.size))) 1 (.slice A1 k1 c1)) (fun g e => by injection e with e; have := LW.out; omega))
    clear r00_ r01_ rf00_ rf01_
    generalize (F0.setCell ⟨w.heap.size, 0, none⟩ (.int .i64 d1)).setCell ⟨w.heap.size, 1, none⟩ (.slice A1 k1 c1) = F1 at *
    refine hK.out _ _ ⟨H5.out.cell 0 _ rfl, H5.out.cell 1 _ rfl, H6.out.cell 0 _ rfl, H6.out.cell 1 _ rfl⟩ (fun hHeld => ?_)
    clear hK K
    try simp only [Act.put, List.getElem_toArray, List.getElem_cons_succ, List.getElem_cons_zero, List.setIfInBounds_toArray, List.set_cons_succ, List.set_cons_zero]
    have r10_ : F1.cell? ⟨w.heap.size + 1, 0, none⟩ = some (.int .i64 0) := R1.out.cell 0
    have rf10_ := R1.out.frozen 0
    have r11_ : F1.cell? ⟨w.heap.size + 1, 1, none⟩ = some (.slice none 0 0) := R1.out.cell 1
    have rf11_ := R1.out.frozen 1
    refine wpAnyE_ready (rs := [3]) (by kernel_rfl) (by simp) ?_
    refine AllReadyE.last (i := 3) rfl rfl (fun K hK => ?_)
    go_simp
    refine hK.out _ _ ?_
    clear hK K
    try simp only [Act.put, List.getElem_toArray, List.getElem_cons_succ, List.getElem_cons_zero, List.setIfInBounds_toArray, List.set_cons_succ, List.set_cons_zero]
    refine wpAnyE_done (by kernel_rfl) ?_ _
    try simp only [List.getElem_toArray, List.getElem_cons_succ, List.getElem_cons_zero, List.setIfInBounds_toArray, List.set_cons_succ, List.set_cons_zero]
    have R0 := Lib.hid ((R0.out.other (b' := w.heap.size + 1) (show w.heap.size ≤ w.heap.size + 1 by omega) (show w.heap.size ≠ w.heap.size + 1 by omega) 0 (.int .i64 d2)).other (b' := w.heap.size + 1) (show w.heap.size ≤ w.heap.size + 1 by omega) (show w.heap.size ≠ w.heap.size + 1 by omega) 1 (.slice A2 k2 c2))
    have R1 := Lib.hid ((R1.out.set 0 (.int .i64 d2)).set 1 (.slice A2 k2 c2))
    have H5 := Lib.hid (draws17.Blk.other (draws17.Blk.other H5.out (show b5 ≠ w.heap.size + 1 by omega) 0 (.int .i64 d2)) (show b5 ≠ w.heap.size + 1 by omega) 1 (.slice A2 k2 c2))
    have H6 := Lib.hid (draws17.Blk.other (draws17.Blk.other H6.out (show b6 ≠ w.heap.size + 1 by omega) 0 (.int .i64 d2)) (show b6 ≠ w.heap.size + 1 by omega) 1 (.slice A2 k2 c2))
    have OA := Lib.hid (own_kept (own_kept OA.out (grown_set (grown_refl _ (some (w.heap.size + 1))) 0 (.int .i64 d2)) (fun g e => by injection e with e; have := LW.out; omega)) (grown_set (grown_refl _ (some (w.heap.size + 1))) 1 (.slice A2 k2 c2)) (fun g e => by injection e with e; have := LW.out; omega))
    have OB := Lib.hid (own_kept (own_kept OB.out (grown_set (grown_refl _ (some (w.heap.size + 1))) 0 (.int .i64 d2)) (fun g e => by injection e with e; have := LW.out; omega)) (grown_set (grown_refl _ (some (w.heap.size + 1))) 1 (.slice A2 k2 c2)) (fun g e => by injection e with e; have := LW.out; omega))
    have NC := Lib.hid (own_nc OA.out)
    have ND := Lib.hid (own_nc OB.out)
    have LB := Lib.hid (show w.heap.size ≤ _ from Nat.le_trans (show w.heap.size ≤ w.heap.size + 1 + 1 by omega) (Nat.le_of_lt LW.out))
    have OE := Lib.hid (own_.own_base OA.out LB.out)
    have OF := Lib.hid (own_.own_base OB.out LB.out)
    clear OA OB H5 H6
    go_wp2_with fail
    have hl0 := R0.out.load Try.underlying26 rfl (by kernel_rfl)
    have hl1 := R1.out.load Try.underlying26 rfl (by kernel_rfl)
    refine bodyPost_ret (v := .tuple #[.agg #[.int .i64 d1, .slice A1 k1 c1], .agg #[.int .i64 d2, .slice A2 k2 c2]]) ?_ rfl ⟨_, _, _, _, _, _, _, _, _, _, rfl, ⟨OE.out, by omega, NC.out⟩, ⟨OF.out, by omega, ND.out⟩, R0.out.1⟩
    rw [results_cc rfl]
    simp [asAddr, Result.andThen, hl0, hl1]
  · have h0i : (0 : Int) < (k1 : Int) := Classical.not_not.1 h0_
    clear h0_
    go_wp2_with fail
    clear H50_ H51_
    refine (one _ _ 3 W3 HC.out (by omega) (by omega) (by omega)).mono ?_
    rintro e w3 ⟨q, rfl, hc, hg⟩
    have R0 := Lib.hid (at_gr R0.out hg hp0_ hw0_)
    have R1 := Lib.hid (at_gr R1.out hg hp1_ hw1_)
    have OA := Lib.hid (own_kept OA.out hg (fun g e => by cases e; exact LW.out))
    have OB := Lib.hid (own_kept OB.out hg (fun g e => by cases e; exact LW.out))
    have H5 := Lib.hid (H5.out.grown hg (show b5 ≠ w.heap.size + 1 + 1 by omega))
    have H6 := Lib.hid (H6.out.grown hg (show b6 ≠ w.heap.size + 1 + 1 by omega))
    have HC := Lib.hid hc
    clear hc hg
    cases q
    · go_wp2_with fail
      refine (pick _ _ (k1 : Int) w3 HC.out (by omega) (by omega) (by omega)).mono ?_
      rintro e w4 ⟨j, rfl, j0, j1, hc, hg⟩
      obtain ⟨jn, rfl⟩ := Int.eq_ofNat_of_zero_le j0
      have hj : jn < k1 := by omega
      have hji : (jn : Int) < (k1 : Int) := by omega
      have hjl : (jn : Int) ≤ (k1 : Int) := by omega
      have R0 := Lib.hid (at_gr R0.out hg hp0_ hw0_)
      have R1 := Lib.hid (at_gr R1.out hg hp1_ hw1_)
      have OA := Lib.hid (own_kept OA.out hg (fun g e => by cases e; exact LW.out))
      have OB := Lib.hid (own_kept OB.out hg (fun g e => by cases e; exact LW.out))
      have H5 := Lib.hid (H5.out.grown hg (show b5 ≠ w.heap.size + 1 + 1 by omega))
      have H6 := Lib.hid (H6.out.grown hg (show b6 ≠ w.heap.size + 1 + 1 by omega))
      have HC := Lib.hid hc
      clear hc hg
      go_upto_region 7 with fail
      have hjc : jn ≤ c1 := by have := own_nc OA.out; omega
      have hjne : ¬ c1 = jn := by have := own_nc OA.out; omega
      obtain ⟨g1, rfl⟩ := row_some OA.out (by omega)
      have hkc : k1 ≤ c1 := (own_le OA.out).1
      have R0 := Lib.hid R0.out.drew
      have R1 := Lib.hid R1.out.drew
      have OA := Lib.hid (own_drew OA.out)
      have H5 := Lib.hid H5.out.drew
      have H6 := Lib.hid H6.out.drew
      have HC := Lib.hid (HC.out.keep (Below.refl _ _).drew)
      clear OB NE
      refine wp_region_tail (S := fun w' => World.cell? w' ⟨b5, 1, none⟩ = some (.slice (some ⟨g1, 0, none⟩) k1 c1)) 12 (by kernel_rfl) (H5.out.cell 1 _ rfl) (fun hHeld => ?_)
      generalize w4.drew = G0 at *
      try simp only [Act.put, List.getElem_toArray, List.getElem_cons_succ, List.getElem_cons_zero, List.setIfInBounds_toArray, List.set_cons_succ, List.set_cons_zero]
      refine wpAnyE_take (i := 1) (v := ?vt2_1) rfl (by decide +kernel) (fun _ _ _ h => h) (Or.inl ⟨by first | rfl | kernel_rfl, ?ht2_1⟩) (by assumption) ?rt2_1
      case ht2_1 =>
        intro wS hSw
        go_simp
        try with_reducible rfl
      try simp only [Act.put, List.getElem_toArray, List.getElem_cons_succ, List.getElem_cons_zero, List.setIfInBounds_toArray, List.set_cons_succ, List.set_cons_zero]
      refine wpAnyE_take (i := 2) (v := ?vt2_2) rfl (by decide +kernel) (fun _ _ _ h => h) (Or.inl ⟨by first | rfl | kernel_rfl, ?ht2_2⟩) (by assumption) ?rt2_2
      case ht2_2 =>
        intro wS hSw
        go_simp
        try with_reducible rfl
      try simp only [Act.put, List.getElem_toArray, List.getElem_cons_succ, List.getElem_cons_zero, List.setIfInBounds_toArray, List.set_cons_succ, List.set_cons_zero]
      refine wpAnyE_take (i := 3) (v := ?vt2_3) rfl (by decide +kernel) (fun _ _ _ h => h) (Or.inl ⟨by first | rfl | kernel_rfl, ?ht2_3⟩) (by assumption) ?rt2_3
      case ht2_3 =>
        intro wS hSw
        go_simp
        try with_reducible rfl
      try simp only [Act.put, List.getElem_toArray, List.getElem_cons_succ, List.getElem_cons_zero, List.setIfInBounds_toArray, List.set_cons_succ, List.set_cons_zero]
      refine wpAnyE_take (i := 4) (v := ?vt2_4) rfl (by decide +kernel) (fun _ _ _ h => h) (Or.inl ⟨by first | rfl | kernel_rfl, ?ht2_4⟩) (by assumption) ?rt2_4
      case ht2_4 =>
        intro wS hSw
        go_simp
        try with_reducible rfl
      try simp only [Act.put, List.getElem_toArray, List.getElem_cons_succ, List.getElem_cons_zero, List.setIfInBounds_toArray, List.set_cons_succ, List.set_cons_zero]
      refine wpAnyE_take (i := 6) (v := ?vt2_6) rfl (by decide +kernel) (fun _ _ _ h => h) (Or.inl ⟨by first | rfl | kernel_rfl, ?ht2_6⟩) (by assumption) ?rt2_6
      case ht2_6 =>
        intro wS hSw
        go_simp
        try with_reducible rfl
      try simp only [Act.put, List.getElem_toArray, List.getElem_cons_succ, List.getElem_cons_zero, List.setIfInBounds_toArray, List.set_cons_succ, List.set_cons_zero]
      refine wpAnyE_take (i := 7) (v := ?vt2_7) rfl (by decide +kernel) (fun _ _ _ h => h) (Or.inl ⟨by first | rfl | kernel_rfl, ?ht2_7⟩) (by assumption) ?rt2_7
      case ht2_7 =>
        intro wS hSw
        go_simp
        try with_reducible rfl
      try simp only [Act.put, List.getElem_toArray, List.getElem_cons_succ, List.getElem_cons_zero, List.setIfInBounds_toArray, List.set_cons_succ, List.set_cons_zero]
      refine wpAnyE_take (i := 8) (v := ?vt2_8) rfl (by decide +kernel) (fun _ _ _ h => h) (Or.inl ⟨by first | rfl | kernel_rfl, ?ht2_8⟩) (by assumption) ?rt2_8
      case ht2_8 =>
        intro wS hSw
        go_simp
        try with_reducible rfl
      try simp only [Act.put, List.getElem_toArray, List.getElem_cons_succ, List.getElem_cons_zero, List.setIfInBounds_toArray, List.set_cons_succ, List.set_cons_zero]
      refine wpAnyE_take (i := 9) (v := ?vt2_9) rfl (by decide +kernel) (fun _ _ _ h => h) (Or.inl ⟨by first | rfl | kernel_rfl, ?ht2_9⟩) (by assumption) ?rt2_9
      case ht2_9 =>
        intro wS hSw
        go_simp
        try with_reducible rfl
      try simp only [Act.put, List.getElem_toArray, List.getElem_cons_succ, List.getElem_cons_zero, List.setIfInBounds_toArray, List.set_cons_succ, List.set_cons_zero]
      refine wpAnyE_ready (rs := [0]) (by kernel_rfl) (by simp) ?_
      refine AllReadyE.cons (i := 0) rfl (by decide) (fun K hK => ?_) AllReadyE.nil
      go_simp
      have lg1 : g1 < G0.heap.size := own_lt OA.out _ rfl
      have lgw : W1.heap.size ≤ g1 := own_.row_ge OA.out _ rfl
      have lpw : w.heap.size + 1 + 1 < W1.heap.size := LW.out
      have l5 : b5 < G0.heap.size := H5.out.lt
      have l6 : b6 < G0.heap.size := H6.out.lt
      have OE := Lib.hid (own_emptyZ G0 28 2)
      have R0 := Lib.hid (R0.out.alloc (.cells #[] 28))
      have R1 := Lib.hid (R1.out.alloc (.cells #[] 28))
      have OA := Lib.hid (own_.own_below OA.out ((Below.refl _ _).alloc (Nat.le_refl _) (.cells #[] 28)))
      have H5 := Lib.hid (H5.out.alloc (.cells #[] 28))
      have H6 := Lib.hid (H6.out.alloc (.cells #[] 28))
      have HC := Lib.hid (Cur.alloc HC.out (.cells #[] 28))
      have LGS := Lib.hid (show G0.heap.size ≤ (G0.alloc (.cells #[] 28)).heap.size by rw [World.size_alloc]; omega)
      generalize G0.alloc (.cells #[] 28) = G1 at *
      generalize G0.heap.size = S0 at *
      refine hK.out _ _ (H5.out.cell 1 _ rfl) (fun hHeld => ?_)
      clear hK K
      try simp only [Act.put, List.getElem_toArray, List.getElem_cons_succ, List.getElem_cons_zero, List.setIfInBounds_toArray, List.set_cons_succ, List.set_cons_zero]
      refine wpAnyE_ready (rs := [5]) (by kernel_rfl) (by simp) ?_
      refine AllReadyE.cons (i := 5) rfl (by decide) (fun K hK => ?_) AllReadyE.nil
      refine step_append_sz rfl (.tmp 30) (.tmp 34) 24 rfl S0 28 inf (.agg #[.int .i64 0, .int .i64 0]) 2 16 Try.underlying24 hi hz0 hz1 hz2 rfl (by decide) (.slice (some ⟨S0, 0, none⟩) 0 0) 0 [] rfl OE.out ⟨g1, jn * 2, none⟩ (k1 - jn) (c1 - jn) ((cellsI zs1).drop (jn * 2)) rfl (by rw [List.length_drop, OA.out.1]; omega) (cells_drop OA.out jn) (fun u hu => ints_one _ u (List.mem_of_mem_drop hu)) (by unfold maxLen; omega) (by omega) LGS.out ?_
      intro v5 W5 o5 g5 r5
      rw [Nat.zero_add, List.nil_append] at o5
      have R0 := Lib.hid (at_own R0.out OE.out g5 (fun q e h => by have := own_.row_ge OE.out q e; omega) (by omega))
      have R1 := Lib.hid (at_own R1.out OE.out g5 (fun q e h => by have := own_.row_ge OE.out q e; omega) (by omega))
      have OA := Lib.hid (own_kept_at OA.out g5 (fun q e h => by have h1 := own_.row_ge OE.out q h; have h2 : g1 = q := Option.some.inj e; omega))
      have H5 := Lib.hid (Blk.app H5.out g5 (fun q e h => by have := own_.row_ge OE.out q e; omega))
      have H6 := Lib.hid (Blk.app H6.out g5 (fun q e h => by have := own_.row_ge OE.out q e; omega))
      have HC := Lib.hid (HC.out.keep ((Below.refl (w.heap.size + 1 + 1 + 1) _).grown g5 (by have := LGS.out; omega) (fun q e => by have := own_.row_ge OE.out q e; omega)))
      have LGS := Lib.hid (Nat.le_trans LGS.out g5.size)
      have O5 := Lib.hid o5
      obtain ⟨A5, c5, rfl⟩ := own_sliceZ o5
      clear o5 g5 r5 OE
      refine hK.out _ _ (H5.out.cell 1 _ rfl) (fun hHeld => ?_)
      clear hK K
      try simp only [Act.put, List.getElem_toArray, List.getElem_cons_succ, List.getElem_cons_zero, List.setIfInBounds_toArray, List.set_cons_succ, List.set_cons_zero]
      refine wpAnyE_ready (rs := [10]) (by kernel_rfl) (by simp) ?_
      refine AllReadyE.cons (i := 10) rfl (by decide) (fun K hK => ?_) AllReadyE.nil
      refine step_append_sz rfl (.tmp 35) (.tmp 39) 24 rfl S0 28 inf (.agg #[.int .i64 0, .int .i64 0]) 2 16 Try.underlying24 hi hz0 hz1 hz2 rfl (by decide) (.slice A5 (k1 - jn) c5) (k1 - jn) ((cellsI zs1).drop (jn * 2)) rfl O5.out ⟨g1, 0, none⟩ jn c1 ((cellsI zs1).take (jn * 2)) rfl (by rw [List.length_take, OA.out.1]; omega) (cells_take OA.out jn) (fun u hu => ints_one _ u (List.mem_of_mem_take hu)) (by unfold maxLen; omega) (by omega) LGS.out ?_
      intro v6 W6 o6 g6 r6
      rw [show k1 - jn + jn = k1 by omega] at o6
      have R0 := Lib.hid (at_own R0.out O5.out g6 (fun q e h => by have := own_.row_ge O5.out q e; omega) (by omega))
      have R1 := Lib.hid (at_own R1.out O5.out g6 (fun q e h => by have := own_.row_ge O5.out q e; omega) (by omega))
      have OA := Lib.hid (own_kept_at OA.out g6 (fun q e h => by have h1 := own_.row_ge O5.out q h; have h2 : g1 = q := Option.some.inj e; omega))
      have H5 := Lib.hid (Blk.app H5.out g6 (fun q e h => by have := own_.row_ge O5.out q e; omega))
      have H6 := Lib.hid (Blk.app H6.out g6 (fun q e h => by have := own_.row_ge O5.out q e; omega))
      have HC := Lib.hid (HC.out.keep ((Below.refl (w.heap.size + 1 + 1 + 1) _).grown g6 (by have := LGS.out; omega) (fun q e => by have := own_.row_ge O5.out q e; omega)))
      have LGS := Lib.hid (Nat.le_trans LGS.out g6.size)
      have OB := Lib.hid (own_ints o6)
      obtain ⟨A6, c6, rfl⟩ := own_sliceZ o6
      clear o6 g6 r6 O5
      generalize zs1.drop (jn * 2) ++ zs1.take (jn * 2) = zs6 at *
      refine hK.out _ _ (H5.out.cell 1 _ rfl) (fun hHeld => ?_)
      clear hK K
      try simp only [Act.put, List.getElem_toArray, List.getElem_cons_succ, List.getElem_cons_zero, List.setIfInBounds_toArray, List.set_cons_succ, List.set_cons_zero]
      refine wpAnyE_take (i := 11) (v := ?vt2_11) rfl (by decide +kernel) (fun _ _ _ h => h) (Or.inl ⟨by first | rfl | kernel_rfl, ?ht2_11⟩) (by assumption) ?rt2_11
      case ht2_11 =>
        intro wS hSw
        go_simp
        try with_reducible rfl
      try simp only [Act.put, List.getElem_toArray, List.getElem_cons_succ, List.getElem_cons_zero, List.setIfInBounds_toArray, List.set_cons_succ, List.set_cons_zero]
      have H60_ : W6.cell? ⟨b6, 0, none⟩ = some (.int .i64 d2) := H6.out.cell 0 _ rfl
      have H61_ : W6.cell? ⟨b6, 1, none⟩ = some (.slice A2 k2 c2) := H6.out.cell 1 _ rfl
      have hf0_ := H6.out.frozen 0
      have hf1_ := H6.out.frozen 1
      refine wpAnyE_ready (rs := [12]) (by kernel_rfl) (by simp) ?_
      refine AllReadyE.last (i := 12) rfl rfl (fun K hK => ?_)
      go_simp
      refine hK.out _ _ ?_
      clear hK K
      try simp only [Act.put, List.getElem_toArray, List.getElem_cons_succ, List.getElem_cons_zero, List.setIfInBounds_toArray, List.set_cons_succ, List.set_cons_zero]
      refine wpAnyE_done (by kernel_rfl) ?_ _
      try simp only [List.getElem_toArray, List.getElem_cons_succ, List.getElem_cons_zero, List.setIfInBounds_toArray, List.set_cons_succ, List.set_cons_zero]
      clear H60_ H61_ hf0_ hf1_
      have N6 : b6 ≠ g1 := row_ne OA.out H6.out (by decide)
      have N6B : ∀ q, (Value.slice A6 k1 c6).ownBlock = some q → b6 ≠ q := fun q e => row_neA OB.out H6.out (by decide) q e
      have NE0 := Lib.hid (fun q (e : (Value.slice A6 k1 c6).ownBlock = some q) => show S0 ≤ q from own_.row_ge OB.out q e)
      have OA := Lib.hid (own_kept_at (own_kept_at OA.out (grown_set (grown_refl _ (some b6)) 0 (.int .i64 7)) (fun q e h => N6 ((Option.some.inj h).trans (Option.some.inj (show some g1 = some q from e)).symm))) (grown_set (grown_refl _ (some b6)) 1 (.slice A6 k1 c6)) (fun q e h => N6 ((Option.some.inj h).trans (Option.some.inj (show some g1 = some q from e)).symm)))
      have OB := Lib.hid (own_kept_at (own_kept_at OB.out (grown_set (grown_refl _ (some b6)) 0 (.int .i64 7)) (fun q e h => N6B q e (Option.some.inj h))) (grown_set (grown_refl _ (some b6)) 1 (.slice A6 k1 c6)) (fun q e h => N6B q e (Option.some.inj h)))
      have R0 := Lib.hid ((R0.out.other (b' := b6) (show w.heap.size ≤ b6 by omega) (show w.heap.size ≠ b6 by omega) 0 (.int .i64 7)).other (b' := b6) (show w.heap.size ≤ b6 by omega) (show w.heap.size ≠ b6 by omega) 1 (.slice A6 k1 c6))
      have R1 := Lib.hid ((R1.out.other (b' := b6) (show w.heap.size ≤ b6 by omega) (show w.heap.size + 1 ≠ b6 by omega) 0 (.int .i64 7)).other (b' := b6) (show w.heap.size ≤ b6 by omega) (show w.heap.size + 1 ≠ b6 by omega) 1 (.slice A6 k1 c6))
      have H5 := Lib.hid (draws17.Blk.other (draws17.Blk.other H5.out (show b5 ≠ b6 by omega) 0 (.int .i64 7)) (show b5 ≠ b6 by omega) 1 (.slice A6 k1 c6))
      have H6 := Lib.hid (draws17.Blk.set (draws17.Blk.set H6.out 0 (.int .i64 7)) 1 (.slice A6 k1 c6))
      have HC := Lib.hid (Cur.set (Cur.set HC.out (show w.heap.size + 1 + 1 < b6 by omega) (i := 0) (v := .int .i64 7)) (show w.heap.size + 1 + 1 < b6 by omega) (i := 1) (v := .slice A6 k1 c6))
      have OB := Lib.hid (own_.own_base OB.out (show W1.heap.size ≤ S0 by omega))
      have NE := Lib.hid (fun q (e : (Value.slice A6 k1 c6).ownBlock = some q) => show g1 ≠ q by have := NE0.out q e; omega)
      clear N6 N6B NE0
      generalize (W6.setCell ⟨b6, 0, none⟩ (.int .i64 7)).setCell ⟨b6, 1, none⟩ (.slice A6 k1 c6) = W7 at *
      go_wp2_with fail
      refine (one _ _ 2 W7 HC.out (by omega) (by omega) (by omega)).mono ?_
      rintro e w8 ⟨q, rfl, hc, hg⟩
      have R0 := Lib.hid (at_gr R0.out hg hp0_ hw0_)
      have R1 := Lib.hid (at_gr R1.out hg hp1_ hw1_)
      have OA := Lib.hid (own_kept OA.out hg (fun g e => by cases e; exact LW.out))
      have OB := Lib.hid (own_kept OB.out hg (fun g e => by cases e; exact LW.out))
      have H5 := Lib.hid (H5.out.grown hg (show b5 ≠ w.heap.size + 1 + 1 by omega))
      have H6 := Lib.hid (H6.out.grown hg (show b6 ≠ w.heap.size + 1 + 1 by omega))
      have HC := Lib.hid hc
      clear hc hg
      cases q
      · go_wp2_with fail
        refine (one _ _ 4 w8 HC.out (by omega) (by omega) (by omega)).mono ?_
        rintro e y1 ⟨q, rfl, hc, hg⟩
        have R0 := Lib.hid (at_gr R0.out hg hp0_ hw0_)
        have R1 := Lib.hid (at_gr R1.out hg hp1_ hw1_)
        have OA := Lib.hid (own_kept OA.out hg (fun g e => by cases e; exact LW.out))
        have OB := Lib.hid (own_kept OB.out hg (fun g e => by cases e; exact LW.out))
        have H5 := Lib.hid (H5.out.grown hg (show b5 ≠ w.heap.size + 1 + 1 by omega))
        have H6 := Lib.hid (H6.out.grown hg (show b6 ≠ w.heap.size + 1 + 1 by omega))
        have HC := Lib.hid hc
        clear hc hg
        cases q
        · go_upto_region 14 with fail
          have R0 := Lib.hid R0.out.drew
          have R1 := Lib.hid R1.out.drew
          have OA := Lib.hid (own_drew OA.out)
          have OB := Lib.hid (own_drew OB.out)
          have H5 := Lib.hid H5.out.drew
          have H6 := Lib.hid H6.out.drew
          refine wp_region_tail (S := fun w' => World.cell? w' ⟨b5, 0, none⟩ = some (.int .i64 d1) ∧ World.cell? w' ⟨b5, 1, none⟩ = some (.slice (some ⟨g1, 0, none⟩) k1 c1) ∧ World.cell? w' ⟨b6, 0, none⟩ = some (.int .i64 7) ∧ World.cell? w' ⟨b6, 1, none⟩ = some (.slice A6 k1 c6)) 3 (by kernel_rfl) ⟨H5.out.cell 0 _ rfl, H5.out.cell 1 _ rfl, H6.out.cell 0 _ rfl, H6.out.cell 1 _ rfl⟩ (fun hHeld => ?_)
          generalize y1.drew = F0 at *
          try simp only [Act.put, List.getElem_toArray, List.getElem_cons_succ, List.getElem_cons_zero, List.setIfInBounds_toArray, List.set_cons_succ, List.set_cons_zero]
          refine wpAnyE_take (i := 0) (v := ?vt3_0) rfl (by decide +kernel) (fun _ _ _ h => h) (Or.inl ⟨by first | rfl | kernel_rfl, ?ht3_0⟩) (by assumption) ?rt3_0
          case ht3_0 =>
            intro wS hSw
            obtain ⟨h0, h1, h2, h3⟩ := hSw
            go_simp
            try with_reducible rfl
          try simp only [Act.put, List.getElem_toArray, List.getElem_cons_succ, List.getElem_cons_zero, List.setIfInBounds_toArray, List.set_cons_succ, List.set_cons_zero]
          refine wpAnyE_take (i := 1) (v := ?vt3_1) rfl (by decide +kernel) (fun _ _ _ h => h) (Or.inl ⟨by first | rfl | kernel_rfl, ?ht3_1⟩) (by assumption) ?rt3_1
          case ht3_1 =>
            intro wS hSw
            obtain ⟨h0, h1, h2, h3⟩ := hSw
            go_simp
            try with_reducible rfl
          try simp only [Act.put, List.getElem_toArray, List.getElem_cons_succ, List.getElem_cons_zero, List.setIfInBounds_toArray, List.set_cons_succ, List.set_cons_zero]
          refine wpAnyE_ready (rs := [2]) (by kernel_rfl) (by simp) ?_
          refine AllReadyE.cons (i := 2) rfl (by decide) (fun K hK => ?_) AllReadyE.nil
          have r00_ : F0.cell? ⟨w.heap.size, 0, none⟩ = some (.int .i64 0) := R0.out.cell 0
          have rf00_ := R0.out.frozen 0
          have r01_ : F0.cell? ⟨w.heap.size, 1, none⟩ = some (.slice none 0 0) := R0.out.cell 1
          have rf01_ := R0.out.frozen 1
          go_simp
          have R0 := Lib.hid ((R0.out.set 0 (.int .i64 d1)).set 1 (.slice (some ⟨g1, 0, none⟩) k1 c1))
          have R1 := Lib.hid ((R1.out.other (b' := w.heap.size) (show w.heap.size ≤ w.heap.size by omega) (show w.heap.size + 1 ≠ w.heap.size by omega) 0 (.int .i64 d1)).other (b' := w.heap.size) (show w.heap.size ≤ w.heap.size by omega) (show w.heap.size + 1 ≠ w.heap.size by omega) 1 (.slice (some ⟨g1, 0, none⟩) k1 c1))
          have H5 := Lib.hid (draws17.Blk.other (draws17.Blk.other H5.out (show b5 ≠ w.heap.size by omega) 0 (.int .i64 d1)) (show b5 ≠ w.heap.size by omega) 1 (.slice (some ⟨g1, 0, none⟩) k1 c1))
          have H6 := Lib.hid (draws17.Blk.other (draws17.Blk.other H6.out (show b6 ≠ w.heap.size by omega) 0 (.int .i64 d1)) (show b6 ≠ w.heap.size by omega) 1 (.slice (some ⟨g1, 0, none⟩) k1 c1))
          have OA := Lib.hid (own_kept (own_kept OA.out (grown_set (grown_refl _ (some (w.heap.size))) 0 (.int .i64 d1)) (fun g e => by injection e with e; have := LW.out; omega)) (grown_set (grown_refl _ (some (w.heap.size))) 1 (.slice (some ⟨g1, 0, none⟩) k1 c1)) (fun g e => by injection e with e; have := LW.out; omega))
          have OB := Lib.hid (own_kept (own_kept OB.out (grown_set (grown_refl _ (some (w.heap.size))) 0 (.int .i64 d1)) (fun g e => by injection e with e; have := LW.out; omega)) (grown_set (grown_refl _ (some (w.heap.size))) 1 (.slice (some ⟨g1, 0, none⟩) k1 c1)) (fun g e => by injection e with e; have := LW.out; omega))
          clear r00_ r01_ rf00_ rf01_
          generalize (F0.setCell ⟨w.heap.size, 0, none⟩ (.int .i64 d1)).setCell ⟨w.heap.size, 1, none⟩ (.slice (some ⟨g1, 0, none⟩) k1 c1) = F1 at *
          refine hK.out _ _ ⟨H5.out.cell 0 _ rfl, H5.out.cell 1 _ rfl, H6.out.cell 0 _ rfl, H6.out.cell 1 _ rfl⟩ (fun hHeld => ?_)
          clear hK K
          try simp only [Act.put, List.getElem_toArray, List.getElem_cons_succ, List.getElem_cons_zero, List.setIfInBounds_toArray, List.set_cons_succ, List.set_cons_zero]
          have r10_ : F1.cell? ⟨w.heap.size + 1, 0, none⟩ = some (.int .i64 0) := R1.out.cell 0
          have rf10_ := R1.out.frozen 0
          have r11_ : F1.cell? ⟨w.heap.size + 1, 1, none⟩ = some (.slice none 0 0) := R1.out.cell 1
          have rf11_ := R1.out.frozen 1
          refine wpAnyE_ready (rs := [3]) (by kernel_rfl) (by simp) ?_
          refine AllReadyE.last (i := 3) rfl rfl (fun K hK => ?_)
          go_simp
          refine hK.out _ _ ?_
          clear hK K
          try simp only [Act.put, List.getElem_toArray, List.getElem_cons_succ, List.getElem_cons_zero, List.setIfInBounds_toArray, List.set_cons_succ, List.set_cons_zero]
          refine wpAnyE_done (by kernel_rfl) ?_ _
          try simp only [List.getElem_toArray, List.getElem_cons_succ, List.getElem_cons_zero, List.setIfInBounds_toArray, List.set_cons_succ, List.set_cons_zero]
          have R0 := Lib.hid ((R0.out.other (b' := w.heap.size + 1) (show w.heap.size ≤ w.heap.size + 1 by omega) (show w.heap.size ≠ w.heap.size + 1 by omega) 0 (.int .i64 7)).other (b' := w.heap.size + 1) (show w.heap.size ≤ w.heap.size + 1 by omega) (show w.heap.size ≠ w.heap.size + 1 by omega) 1 (.slice A6 k1 c6))
          have R1 := Lib.hid ((R1.out.set 0 (.int .i64 7)).set 1 (.slice A6 k1 c6))
          have H5 := Lib.hid (draws17.Blk.other (draws17.Blk.other H5.out (show b5 ≠ w.heap.size + 1 by omega) 0 (.int .i64 7)) (show b5 ≠ w.heap.size + 1 by omega) 1 (.slice A6 k1 c6))
          have H6 := Lib.hid (draws17.Blk.other (draws17.Blk.other H6.out (show b6 ≠ w.heap.size + 1 by omega) 0 (.int .i64 7)) (show b6 ≠ w.heap.size + 1 by omega) 1 (.slice A6 k1 c6))
          have OA := Lib.hid (own_kept (own_kept OA.out (grown_set (grown_refl _ (some (w.heap.size + 1))) 0 (.int .i64 7)) (fun g e => by injection e with e; have := LW.out; omega)) (grown_set (grown_refl _ (some (w.heap.size + 1))) 1 (.slice A6 k1 c6)) (fun g e => by injection e with e; have := LW.out; omega))
          have OB := Lib.hid (own_kept (own_kept OB.out (grown_set (grown_refl _ (some (w.heap.size + 1))) 0 (.int .i64 7)) (fun g e => by injection e with e; have := LW.out; omega)) (grown_set (grown_refl _ (some (w.heap.size + 1))) 1 (.slice A6 k1 c6)) (fun g e => by injection e with e; have := LW.out; omega))
          have NC := Lib.hid (own_nc OA.out)
          have ND := Lib.hid (own_nc OB.out)
          have LB := Lib.hid (show w.heap.size ≤ _ from Nat.le_trans (show w.heap.size ≤ w.heap.size + 1 + 1 by omega) (Nat.le_of_lt LW.out))
          have OE := Lib.hid (own_.own_base OA.out LB.out)
          have OF := Lib.hid (own_.own_base OB.out LB.out)
          clear OA OB H5 H6
          go_wp2_with fail
          have hl0 := R0.out.load Try.underlying26 rfl (by kernel_rfl)
          have hl1 := R1.out.load Try.underlying26 rfl (by kernel_rfl)
          refine bodyPost_ret (v := .tuple #[.agg #[.int .i64 d1, .slice (some ⟨g1, 0, none⟩) k1 c1], .agg #[.int .i64 7, .slice A6 k1 c6]]) ?_ rfl ⟨_, _, _, _, _, _, _, _, _, _, rfl, ⟨OE.out, by omega, NC.out⟩, ⟨OF.out, by omega, ND.out⟩, R0.out.1⟩
          rw [results_cc rfl]
          simp [asAddr, Result.andThen, hl0, hl1]
        · obtain ⟨g6, rfl⟩ := row_some OB.out (by omega)
          have hne : g1 ≠ g6 := NE.out g6 rfl
          obtain ⟨⟨p0_, p1_⟩, -⟩ := sctu.corner (RdZ.of_own OB.out (own_len2 OB.out)) (show 0 < k1 by omega) (Below.refl _ y1)
          rw [Nat.zero_mul] at p0_ p1_
          obtain ⟨x0, hx0⟩ : ∃ x0, x0 = sctj.cX zs6 0 := ⟨_, rfl⟩
          obtain ⟨y0, hy0⟩ : ∃ y0, y0 = sctj.cY zs6 0 := ⟨_, rfl⟩
          rw [← hx0] at p0_
          rw [← hy0] at p1_
          clear hx0 hy0
          have H60_ : y1.cell? ⟨b6, 0, none⟩ = some (.int .i64 7) := H6.out.cell 0 _ rfl
          have H61_ : y1.cell? ⟨b6, 1, none⟩ = some (.slice (some ⟨g6, 0, none⟩) k1 c6) := H6.out.cell 1 _ rfl
          have l6g : g6 < y1.heap.size := own_lt OB.out _ rfl
          have l6b : b6 < y1.heap.size := H6.out.lt
          have l5b : b5 < y1.heap.size := H5.out.lt
          have l1b : g1 < y1.heap.size := own_lt OA.out _ rfl
          have lpb : w.heap.size + 1 + 1 < y1.heap.size := HC.out.lt
          have R0 := Lib.hid (R0.out.alloc (.cells #[.int .i64 x0, .int .i64 y0] 28))
          have R1 := Lib.hid (R1.out.alloc (.cells #[.int .i64 x0, .int .i64 y0] 28))
          have OA := Lib.hid (own_.own_below OA.out ((Below.refl _ _).alloc (Nat.le_refl _) (.cells #[.int .i64 x0, .int .i64 y0] 28)))
          have OB := Lib.hid (own_.own_below OB.out ((Below.refl _ _).alloc (Nat.le_refl _) (.cells #[.int .i64 x0, .int .i64 y0] 28)))
          have H5 := Lib.hid (H5.out.alloc (.cells #[.int .i64 x0, .int .i64 y0] 28))
          have H6 := Lib.hid (H6.out.alloc (.cells #[.int .i64 x0, .int .i64 y0] 28))
          have H9 := Lib.hid (Blk.new 28 #[.int .i64 x0, .int .i64 y0] y1)
          have HC := Lib.hid (Cur.alloc HC.out (.cells #[.int .i64 x0, .int .i64 y0] 28))
          go_upto_region 12 with fail
          clear H60_ H61_ p0_ p1_
          generalize y1.alloc (.cells #[.int .i64 x0, .int .i64 y0] 28) = y2 at *
          generalize y1.heap.size = b9 at *
          have q0_ : y2.cell? ⟨b9, 0, none⟩ = some (.int .i64 x0) := H9.out.cell 0 _ rfl
          have qf_ := H9.out.frozen 0
          obtain ⟨x9, e9_⟩ : ∃ x9, IntKind.i64.wrap (x0 + 1) = x9 := ⟨_, rfl⟩
          have R0 := Lib.hid (R0.out.other (b' := b9) (show w.heap.size ≤ b9 by omega) (show w.heap.size ≠ b9 by omega) 0 (.int .i64 x9))
          have R1 := Lib.hid (R1.out.other (b' := b9) (show w.heap.size ≤ b9 by omega) (show w.heap.size + 1 ≠ b9 by omega) 0 (.int .i64 x9))
          have OA := Lib.hid (own_kept_at OA.out (grown_set (grown_refl _ (some b9)) 0 (.int .i64 x9)) (fun q e h => by have h1 := Option.some.inj h; have h2 : g1 = q := Option.some.inj e; omega))
          have OB := Lib.hid (own_kept_at OB.out (grown_set (grown_refl _ (some b9)) 0 (.int .i64 x9)) (fun q e h => by have h1 := Option.some.inj h; have h2 : g6 = q := Option.some.inj e; omega))
          have H5 := Lib.hid (draws17.Blk.other H5.out (show b5 ≠ b9 by omega) 0 (.int .i64 x9))
          have H6 := Lib.hid (draws17.Blk.other H6.out (show b6 ≠ b9 by omega) 0 (.int .i64 x9))
          have H9 := Lib.hid (draws17.Blk.set H9.out 0 (.int .i64 x9))
          have HC := Lib.hid (Cur.set HC.out (show w.heap.size + 1 + 1 < b9 by omega) (i := 0) (v := .int .i64 x9))
          go_upto_region 13 with fail
          clear q0_ qf_ e9_
          generalize y2.setCell ⟨b9, 0, none⟩ (.int .i64 x9) = y3 at *
          have H60_ : y3.cell? ⟨b6, 0, none⟩ = some (.int .i64 7) := H6.out.cell 0 _ rfl
          have H61_ : y3.cell? ⟨b6, 1, none⟩ = some (.slice (some ⟨g6, 0, none⟩) k1 c6) := H6.out.cell 1 _ rfl
          have H90_ : y3.cell? ⟨b9, 0, none⟩ = some (.int .i64 x9) := H9.out.cell 0 _ rfl
          have H91_ : y3.cell? ⟨b9, 1, none⟩ = some (.int .i64 y0) := H9.out.cell 1 _ rfl
          obtain ⟨⟨p0_, p1_⟩, -⟩ := sctu.corner (RdZ.of_own OB.out (own_len2 OB.out)) (show 0 < k1 by omega) (Below.refl _ y3)
          rw [Nat.zero_mul] at p0_ p1_
          have pf0_ := OB.out.frozenAt 0
          have pf1_ := OB.out.frozenAt 1
          have lgW : W1.heap.size ≤ g6 := own_.row_ge OB.out _ rfl
          have lpW : w.heap.size + 1 + 1 < W1.heap.size := LW.out
          have N5 := Lib.hid (row_ne OB.out H5.out (by decide))
          have N6 := Lib.hid (row_ne OB.out H6.out (by decide))
          have R0 := Lib.hid ((R0.out.other (b' := g6) (show w.heap.size ≤ g6 by omega) (show w.heap.size ≠ g6 by omega) 0 (.int .i64 x9)).other (b' := g6) (show w.heap.size ≤ g6 by omega) (show w.heap.size ≠ g6 by omega) 1 (.int .i64 y0))
          have R1 := Lib.hid ((R1.out.other (b' := g6) (show w.heap.size ≤ g6 by omega) (show w.heap.size + 1 ≠ g6 by omega) 0 (.int .i64 x9)).other (b' := g6) (show w.heap.size ≤ g6 by omega) (show w.heap.size + 1 ≠ g6 by omega) 1 (.int .i64 y0))
          have OA := Lib.hid (own_kept_at (own_kept_at OA.out (grown_set (grown_refl _ (some g6)) 0 (.int .i64 x9)) (fun q e h => by have h1 := Option.some.inj h; have h2 : g1 = q := Option.some.inj e; omega)) (grown_set (grown_refl _ (some g6)) 1 (.int .i64 y0)) (fun q e h => by have h1 := Option.some.inj h; have h2 : g1 = q := Option.some.inj e; omega))
          have OB := Lib.hid (own_put0 OB.out x9 y0)
          have H5 := Lib.hid (draws17.Blk.other (draws17.Blk.other H5.out N5.out 0 (.int .i64 x9)) N5.out 1 (.int .i64 y0))
          have H6 := Lib.hid (draws17.Blk.other (draws17.Blk.other H6.out N6.out 0 (.int .i64 x9)) N6.out 1 (.int .i64 y0))
          have HC := Lib.hid (Cur.set (Cur.set HC.out (show w.heap.size + 1 + 1 < g6 by omega) (i := 0) (v := .int .i64 x9)) (show w.heap.size + 1 + 1 < g6 by omega) (i := 1) (v := .int .i64 y0))
          go_upto_region 14 with fail
          clear H60_ H61_ H90_ H91_ p0_ p1_ pf0_ pf1_ H9 N5 N6
          generalize (y3.setCell ⟨g6, 0, none⟩ (.int .i64 x9)).setCell ⟨g6, 1, none⟩ (.int .i64 y0) = y4 at *
          have R0 := Lib.hid R0.out.drew
          have R1 := Lib.hid R1.out.drew
          have OA := Lib.hid (own_drew OA.out)
          have OB := Lib.hid (own_drew OB.out)
          have H5 := Lib.hid H5.out.drew
          have H6 := Lib.hid H6.out.drew
          refine wp_region_tail (S := fun w' => World.cell? w' ⟨b5, 0, none⟩ = some (.int .i64 d1) ∧ World.cell? w' ⟨b5, 1, none⟩ = some (.slice (some ⟨g1, 0, none⟩) k1 c1) ∧ World.cell? w' ⟨b6, 0, none⟩ = some (.int .i64 7) ∧ World.cell? w' ⟨b6, 1, none⟩ = some (.slice (some ⟨g6, 0, none⟩) k1 c6)) 3 (by kernel_rfl) ⟨H5.out.cell 0 _ rfl, H5.out.cell 1 _ rfl, H6.out.cell 0 _ rfl, H6.out.cell 1 _ rfl⟩ (fun hHeld => ?_)
          generalize y4.drew = F0 at *
          try simp only [Act.put, List.getElem_toArray, List.getElem_cons_succ, List.getElem_cons_zero, List.setIfInBounds_toArray, List.set_cons_succ, List.set_cons_zero]
          refine wpAnyE_take (i := 0) (v := ?vt4_0) rfl (by decide +kernel) (fun _ _ _ h => h) (Or.inl ⟨by first | rfl | kernel_rfl, ?ht4_0⟩) (by assumption) ?rt4_0
          case ht4_0 =>
            intro wS hSw
            obtain ⟨h0, h1, h2, h3⟩ := hSw
            go_simp
            try with_reducible rfl
          try simp only [Act.put, List.getElem_toArray, List.getElem_cons_succ, List.getElem_cons_zero, List.setIfInBounds_toArray, List.set_cons_succ, List.set_cons_zero]
          refine wpAnyE_take (i := 1) (v := ?vt4_1) rfl (by decide +kernel) (fun _ _ _ h => h) (Or.inl ⟨by first | rfl | kernel_rfl, ?ht4_1⟩) (by assumption) ?rt4_1
          case ht4_1 =>
            intro wS hSw
            obtain ⟨h0, h1, h2, h3⟩ := hSw
            go_simp
            try with_reducible rfl
          try simp only [Act.put, List.getElem_toArray, List.getElem_cons_succ, List.getElem_cons_zero, List.setIfInBounds_toArray, List.set_cons_succ, List.set_cons_zero]
          refine wpAnyE_ready (rs := [2]) (by kernel_rfl) (by simp) ?_
          refine AllReadyE.cons (i := 2) rfl (by decide) (fun K hK => ?_) AllReadyE.nil
          have r00_ : F0.cell? ⟨w.heap.size, 0, none⟩ = some (.int .i64 0) := R0.out.cell 0
          have rf00_ := R0.out.frozen 0
          have r01_ : F0.cell? ⟨w.heap.size, 1, none⟩ = some (.slice none 0 0) := R0.out.cell 1
          have rf01_ := R0.out.frozen 1
          go_simp
          have R0 := Lib.hid ((R0.out.set 0 (.int .i64 d1)).set 1 (.slice (some ⟨g1, 0, none⟩) k1 c1))
          have R1 := Lib.hid ((R1.out.other (b' := w.heap.size) (show w.heap.size ≤ w.heap.size by omega) (show w.heap.size + 1 ≠ w.heap.size by omega) 0 (.int .i64 d1)).other (b' := w.heap.size) (show w.heap.size ≤ w.heap.size by omega) (show w.heap.size + 1 ≠ w.heap.size by omega) 1 (.slice (some ⟨g1, 0, none⟩) k1 c1))
          have H5 := Lib.hid (draws17.Blk.other (draws17.Blk.other H5.out (show b5 ≠ w.heap.size by omega) 0 (.int .i64 d1)) (show b5 ≠ w.heap.size by omega) 1 (.slice (some ⟨g1, 0, none⟩) k1 c1))
          have H6 := Lib.hid (draws17.Blk.other (draws17.Blk.other H6.out (show b6 ≠ w.heap.size by omega) 0 (.int .i64 d1)) (show b6 ≠ w.heap.size by omega) 1 (.slice (some ⟨g1, 0, none⟩) k1 c1))
          have OA := Lib.hid (own_kept (own_kept OA.out (grown_set (grown_refl _ (some (w.heap.size))) 0 (.int .i64 d1)) (fun g e => by injection e with e; have := LW.out; omega)) (grown_set (grown_refl _ (some (w.heap.size))) 1 (.slice (some ⟨g1, 0, none⟩) k1 c1)) (fun g e => by injection e with e; have := LW.out; omega))
          have OB := Lib.hid (own_kept (own_kept OB.out (grown_set (grown_refl _ (some (w.heap.size))) 0 (.int .i64 d1)) (fun g e => by injection e with e; have := LW.out; omega)) (grown_set (grown_refl _ (some (w.heap.size))) 1 (.slice (some ⟨g1, 0, none⟩) k1 c1)) (fun g e => by injection e with e; have := LW.out; omega))
          clear r00_ r01_ rf00_ rf01_
          generalize (F0.setCell ⟨w.heap.size, 0, none⟩ (.int .i64 d1)).setCell ⟨w.heap.size, 1, none⟩ (.slice (some ⟨g1, 0, none⟩) k1 c1) = F1 at *
          refine hK.out _ _ ⟨H5.out.cell 0 _ rfl, H5.out.cell 1 _ rfl, H6.out.cell 0 _ rfl, H6.out.cell 1 _ rfl⟩ (fun hHeld => ?_)
          clear hK K
          try simp only [Act.put, List.getElem_toArray, List.getElem_cons_succ, List.getElem_cons_zero, List.setIfInBounds_toArray, List.set_cons_succ, List.set_cons_zero]
          have r10_ : F1.cell? ⟨w.heap.size + 1, 0, none⟩ = some (.int .i64 0) := R1.out.cell 0
          have rf10_ := R1.out.frozen 0
          have r11_ : F1.cell? ⟨w.heap.size + 1, 1, none⟩ = some (.slice none 0 0) := R1.out.cell 1
          have rf11_ := R1.out.frozen 1
          refine wpAnyE_ready (rs := [3]) (by kernel_rfl) (by simp) ?_
          refine AllReadyE.last (i := 3) rfl rfl (fun K hK => ?_)
          go_simp
          refine hK.out _ _ ?_
          clear hK K
          try simp only [Act.put, List.getElem_toArray, List.getElem_cons_succ, List.getElem_cons_zero, List.setIfInBounds_toArray, List.set_cons_succ, List.set_cons_zero]
          refine wpAnyE_done (by kernel_rfl) ?_ _
          try simp only [List.getElem_toArray, List.getElem_cons_succ, List.getElem_cons_zero, List.setIfInBounds_toArray, List.set_cons_succ, List.set_cons_zero]
          have R0 := Lib.hid ((R0.out.other (b' := w.heap.size + 1) (show w.heap.size ≤ w.heap.size + 1 by omega) (show w.heap.size ≠ w.heap.size + 1 by omega) 0 (.int .i64 7)).other (b' := w.heap.size + 1) (show w.heap.size ≤ w.heap.size + 1 by omega) (show w.heap.size ≠ w.heap.size + 1 by omega) 1 (.slice (some ⟨g6, 0, none⟩) k1 c6))
          have R1 := Lib.hid ((R1.out.set 0 (.int .i64 7)).set 1 (.slice (some ⟨g6, 0, none⟩) k1 c6))
          have H5 := Lib.hid (draws17.Blk.other (draws17.Blk.other H5.out (show b5 ≠ w.heap.size + 1 by omega) 0 (.int .i64 7)) (show b5 ≠ w.heap.size + 1 by omega) 1 (.slice (some ⟨g6, 0, none⟩) k1 c6))
          have H6 := Lib.hid (draws17.Blk.other (draws17.Blk.other H6.out (show b6 ≠ w.heap.size + 1 by omega) 0 (.int .i64 7)) (show b6 ≠ w.heap.size + 1 by omega) 1 (.slice (some ⟨g6, 0, none⟩) k1 c6))
          have OA := Lib.hid (own_kept (own_kept OA.out (grown_set (grown_refl _ (some (w.heap.size + 1))) 0 (.int .i64 7)) (fun g e => by injection e with e; have := LW.out; omega)) (grown_set (grown_refl _ (some (w.heap.size + 1))) 1 (.slice (some ⟨g6, 0, none⟩) k1 c6)) (fun g e => by injection e with e; have := LW.out; omega))
          have OB := Lib.hid (own_kept (own_kept OB.out (grown_set (grown_refl _ (some (w.heap.size + 1))) 0 (.int .i64 7)) (fun g e => by injection e with e; have := LW.out; omega)) (grown_set (grown_refl _ (some (w.heap.size + 1))) 1 (.slice (some ⟨g6, 0, none⟩) k1 c6)) (fun g e => by injection e with e; have := LW.out; omega))
          have NC := Lib.hid (own_nc OA.out)
          have ND := Lib.hid (own_nc OB.out)
          have LB := Lib.hid (show w.heap.size ≤ _ from Nat.le_trans (show w.heap.size ≤ w.heap.size + 1 + 1 by omega) (Nat.le_of_lt LW.out))
          have OE := Lib.hid (own_.own_base OA.out LB.out)
          have OF := Lib.hid (own_.own_base OB.out LB.out)
          clear OA OB H5 H6
          go_wp2_with fail
          have hl0 := R0.out.load Try.underlying26 rfl (by kernel_rfl)
          have hl1 := R1.out.load Try.underlying26 rfl (by kernel_rfl)
          refine bodyPost_ret (v := .tuple #[.agg #[.int .i64 d1, .slice (some ⟨g1, 0, none⟩) k1 c1], .agg #[.int .i64 7, .slice (some ⟨g6, 0, none⟩) k1 c6]]) ?_ rfl ⟨_, _, _, _, _, _, _, _, _, _, rfl, ⟨OE.out, by omega, NC.out⟩, ⟨OF.out, by omega, ND.out⟩, R0.out.1⟩
          rw [results_cc rfl]
          simp [asAddr, Result.andThen, hl0, hl1]
      · have H60_ : w8.cell? ⟨b6, 0, none⟩ = some (.int .i64 7) := H6.out.cell 0 _ rfl
        have H61_ : w8.cell? ⟨b6, 1, none⟩ = some (.slice A6 k1 c6) := H6.out.cell 1 _ rfl
        go_wp2_with fail
        clear H60_ H61_
        refine (scto.turnedAny 7 zs6 A6 k1 c6 w8 (by omega) (by omega) (RdZ.of_own OB.out (own_len2 OB.out))).mono ?_
        rintro e w9 ⟨v9, rfl, o9, hb9⟩
        have LG1 : g1 < w8.heap.size := own_lt OA.out _ rfl
        have LB8 : W1.heap.size ≤ w8.heap.size := by have := own_.row_ge OA.out _ rfl; omega
        have R0 := Lib.hid (R0.out.old hb9)
        have R1 := Lib.hid (R1.out.old hb9)
        have OA := Lib.hid (own_.own_below OA.out hb9)
        have H5 := Lib.hid (H5.out.below hb9)
        have H6 := Lib.hid (H6.out.below hb9)
        have HC := Lib.hid (Cur.below HC.out hb9)
        have OB := Lib.hid o9
        obtain ⟨A9, c9, rfl⟩ := own_sliceZ o9
        clear o9 hb9 NE
        generalize sctl.prL (sctj.cX zs6) (sctj.cY zs6) (sctt.rv k1) k1 = zs6 at *
        have H60_ : w9.cell? ⟨b6, 0, none⟩ = some (.int .i64 7) := H6.out.cell 0 _ rfl
        have H61_ : w9.cell? ⟨b6, 1, none⟩ = some (.slice A6 k1 c6) := H6.out.cell 1 _ rfl
        have hf0_ := H6.out.frozen 0
        have hf1_ := H6.out.frozen 1
        have N6 : b6 ≠ g1 := row_ne OA.out H6.out (by decide)
        have N6B : ∀ q, (Value.slice A9 k1 c9).ownBlock = some q → b6 ≠ q := fun q e => row_neA OB.out H6.out (by decide) q e
        have NE0 := Lib.hid (fun q (e : (Value.slice A9 k1 c9).ownBlock = some q) => show w8.heap.size ≤ q from own_.row_ge OB.out q e)
        have OA := Lib.hid (own_kept_at (own_kept_at OA.out (grown_set (grown_refl _ (some b6)) 0 (.int .i64 7)) (fun q e h => N6 ((Option.some.inj h).trans (Option.some.inj (show some g1 = some q from e)).symm))) (grown_set (grown_refl _ (some b6)) 1 (.slice A9 k1 c9)) (fun q e h => N6 ((Option.some.inj h).trans (Option.some.inj (show some g1 = some q from e)).symm)))
        have OB := Lib.hid (own_kept_at (own_kept_at OB.out (grown_set (grown_refl _ (some b6)) 0 (.int .i64 7)) (fun q e h => N6B q e (Option.some.inj h))) (grown_set (grown_refl _ (some b6)) 1 (.slice A9 k1 c9)) (fun q e h => N6B q e (Option.some.inj h)))
        have R0 := Lib.hid ((R0.out.other (b' := b6) (show w.heap.size ≤ b6 by omega) (show w.heap.size ≠ b6 by omega) 0 (.int .i64 7)).other (b' := b6) (show w.heap.size ≤ b6 by omega) (show w.heap.size ≠ b6 by omega) 1 (.slice A9 k1 c9))
        have R1 := Lib.hid ((R1.out.other (b' := b6) (show w.heap.size ≤ b6 by omega) (show w.heap.size + 1 ≠ b6 by omega) 0 (.int .i64 7)).other (b' := b6) (show w.heap.size ≤ b6 by omega) (show w.heap.size + 1 ≠ b6 by omega) 1 (.slice A9 k1 c9))
        have H5 := Lib.hid (draws17.Blk.other (draws17.Blk.other H5.out (show b5 ≠ b6 by omega) 0 (.int .i64 7)) (show b5 ≠ b6 by omega) 1 (.slice A9 k1 c9))
        have H6 := Lib.hid (draws17.Blk.set (draws17.Blk.set H6.out 0 (.int .i64 7)) 1 (.slice A9 k1 c9))
        have HC := Lib.hid (Cur.set (Cur.set HC.out (show w.heap.size + 1 + 1 < b6 by omega) (i := 0) (v := .int .i64 7)) (show w.heap.size + 1 + 1 < b6 by omega) (i := 1) (v := .slice A9 k1 c9))
        have OB := Lib.hid (own_.own_base OB.out (show W1.heap.size ≤ w8.heap.size by omega))
        have NE := Lib.hid (fun q (e : (Value.slice A9 k1 c9).ownBlock = some q) => show g1 ≠ q by have := NE0.out q e; omega)
        clear N6 N6B NE0
        go_upto_region 10 with fail
        clear H60_ H61_ hf0_ hf1_
        generalize (w9.setCell ⟨b6, 0, none⟩ (.int .i64 7)).setCell ⟨b6, 1, none⟩ (.slice A9 k1 c9) = w10 at *
        go_wp2_with fail
        refine (one _ _ 4 w10 HC.out (by omega) (by omega) (by omega)).mono ?_
        rintro e y1 ⟨q, rfl, hc, hg⟩
        have R0 := Lib.hid (at_gr R0.out hg hp0_ hw0_)
        have R1 := Lib.hid (at_gr R1.out hg hp1_ hw1_)
        have OA := Lib.hid (own_kept OA.out hg (fun g e => by cases e; exact LW.out))
        have OB := Lib.hid (own_kept OB.out hg (fun g e => by cases e; exact LW.out))
        have H5 := Lib.hid (H5.out.grown hg (show b5 ≠ w.heap.size + 1 + 1 by omega))
        have H6 := Lib.hid (H6.out.grown hg (show b6 ≠ w.heap.size + 1 + 1 by omega))
        have HC := Lib.hid hc
        clear hc hg
        cases q
        · go_upto_region 14 with fail
          have R0 := Lib.hid R0.out.drew
          have R1 := Lib.hid R1.out.drew
          have OA := Lib.hid (own_drew OA.out)
          have OB := Lib.hid (own_drew OB.out)
          have H5 := Lib.hid H5.out.drew
          have H6 := Lib.hid H6.out.drew
          refine wp_region_tail (S := fun w' => World.cell? w' ⟨b5, 0, none⟩ = some (.int .i64 d1) ∧ World.cell? w' ⟨b5, 1, none⟩ = some (.slice (some ⟨g1, 0, none⟩) k1 c1) ∧ World.cell? w' ⟨b6, 0, none⟩ = some (.int .i64 7) ∧ World.cell? w' ⟨b6, 1, none⟩ = some (.slice A9 k1 c9)) 3 (by kernel_rfl) ⟨H5.out.cell 0 _ rfl, H5.out.cell 1 _ rfl, H6.out.cell 0 _ rfl, H6.out.cell 1 _ rfl⟩ (fun hHeld => ?_)
          generalize y1.drew = F0 at *
          try simp only [Act.put, List.getElem_toArray, List.getElem_cons_succ, List.getElem_cons_zero, List.setIfInBounds_toArray, List.set_cons_succ, List.set_cons_zero]
          refine wpAnyE_take (i := 0) (v := ?vt5_0) rfl (by decide +kernel) (fun _ _ _ h => h) (Or.inl ⟨by first | rfl | kernel_rfl, ?ht5_0⟩) (by assumption) ?rt5_0
          case ht5_0 =>
            intro wS hSw
            obtain ⟨h0, h1, h2, h3⟩ := hSw
            go_simp
            try with_reducible rfl
          try simp only [Act.put, List.getElem_toArray, List.getElem_cons_succ, List.getElem_cons_zero, List.setIfInBounds_toArray, List.set_cons_succ, List.set_cons_zero]
          refine wpAnyE_take (i := 1) (v := ?vt5_1) rfl (by decide +kernel) (fun _ _ _ h => h) (Or.inl ⟨by first | rfl | kernel_rfl, ?ht5_1⟩) (by assumption) ?rt5_1
          case ht5_1 =>
            intro wS hSw
            obtain ⟨h0, h1, h2, h3⟩ := hSw
            go_simp
            try with_reducible rfl
          try simp only [Act.put, List.getElem_toArray, List.getElem_cons_succ, List.getElem_cons_zero, List.setIfInBounds_toArray, List.set_cons_succ, List.set_cons_zero]
          refine wpAnyE_ready (rs := [2]) (by kernel_rfl) (by simp) ?_
          refine AllReadyE.cons (i := 2) rfl (by decide) (fun K hK => ?_) AllReadyE.nil
          have r00_ : F0.cell? ⟨w.heap.size, 0, none⟩ = some (.int .i64 0) := R0.out.cell 0
          have rf00_ := R0.out.frozen 0
          have r01_ : F0.cell? ⟨w.heap.size, 1, none⟩ = some (.slice none 0 0) := R0.out.cell 1
          have rf01_ := R0.out.frozen 1
          go_simp
          have R0 := Lib.hid ((R0.out.set 0 (.int .i64 d1)).set 1 (.slice (some ⟨g1, 0, none⟩) k1 c1))
          have R1 := Lib.hid ((R1.out.other (b' := w.heap.size) (show w.heap.size ≤ w.heap.size by omega) (show w.heap.size + 1 ≠ w.heap.size by omega) 0 (.int .i64 d1)).other (b' := w.heap.size) (show w.heap.size ≤ w.heap.size by omega) (show w.heap.size + 1 ≠ w.heap.size by omega) 1 (.slice (some ⟨g1, 0, none⟩) k1 c1))
          have H5 := Lib.hid (draws17.Blk.other (draws17.Blk.other H5.out (show b5 ≠ w.heap.size by omega) 0 (.int .i64 d1)) (show b5 ≠ w.heap.size by omega) 1 (.slice (some ⟨g1, 0, none⟩) k1 c1))
          have H6 := Lib.hid (draws17.Blk.other (draws17.Blk.other H6.out (show b6 ≠ w.heap.size by omega) 0 (.int .i64 d1)) (show b6 ≠ w.heap.size by omega) 1 (.slice (some ⟨g1, 0, none⟩) k1 c1))
          have OA := Lib.hid (own_kept (own_kept OA.out (grown_set (grown_refl _ (some (w.heap.size))) 0 (.int .i64 d1)) (fun g e => by injection e with e; have := LW.out; omega)) (grown_set (grown_refl _ (some (w.heap.size))) 1 (.slice (some ⟨g1, 0, none⟩) k1 c1)) (fun g e => by injection e with e; have := LW.out; omega))
          have OB := Lib.hid (own_kept (own_kept OB.out (grown_set (grown_refl _ (some (w.heap.size))) 0 (.int .i64 d1)) (fun g e => by injection e with e; have := LW.out; omega)) (grown_set (grown_refl _ (some (w.heap.size))) 1 (.slice (some ⟨g1, 0, none⟩) k1 c1)) (fun g e => by injection e with e; have := LW.out; omega))
          clear r00_ r01_ rf00_ rf01_
          generalize (F0.setCell ⟨w.heap.size, 0, none⟩ (.int .i64 d1)).setCell ⟨w.heap.size, 1, none⟩ (.slice (some ⟨g1, 0, none⟩) k1 c1) = F1 at *
          refine hK.out _ _ ⟨H5.out.cell 0 _ rfl, H5.out.cell 1 _ rfl, H6.out.cell 0 _ rfl, H6.out.cell 1 _ rfl⟩ (fun hHeld => ?_)
          clear hK K
          try simp only [Act.put, List.getElem_toArray, List.getElem_cons_succ, List.getElem_cons_zero, List.setIfInBounds_toArray, List.set_cons_succ, List.set_cons_zero]
          have r10_ : F1.cell? ⟨w.heap.size + 1, 0, none⟩ = some (.int .i64 0) := R1.out.cell 0
          have rf10_ := R1.out.frozen 0
          have r11_ : F1.cell? ⟨w.heap.size + 1, 1, none⟩ = some (.slice none 0 0) := R1.out.cell 1
          have rf11_ := R1.out.frozen 1
          refine wpAnyE_ready (rs := [3]) (by kernel_rfl) (by simp) ?_
          refine AllReadyE.last (i := 3) rfl rfl (fun K hK => ?_)
          go_simp
          refine hK.out _ _ ?_
          clear hK K
          try simp only [Act.put, List.getElem_toArray, List.getElem_cons_succ, List.getElem_cons_zero, List.setIfInBounds_toArray, List.set_cons_succ, List.set_cons_zero]
          refine wpAnyE_done (by kernel_rfl) ?_ _
          try simp only [List.getElem_toArray, List.getElem_cons_succ, List.getElem_cons_zero, List.setIfInBounds_toArray, List.set_cons_succ, List.set_cons_zero]
          have R0 := Lib.hid ((R0.out.other (b' := w.heap.size + 1) (show w.heap.size ≤ w.heap.size + 1 by omega) (show w.heap.size ≠ w.heap.size + 1 by omega) 0 (.int .i64 7)).other (b' := w.heap.size + 1) (show w.heap.size ≤ w.heap.size + 1 by omega) (show w.heap.size ≠ w.heap.size + 1 by omega) 1 (.slice A9 k1 c9))
          have R1 := Lib.hid ((R1.out.set 0 (.int .i64 7)).set 1 (.slice A9 k1 c9))
          have H5 := Lib.hid (draws17.Blk.other (draws17.Blk.other H5.out (show b5 ≠ w.heap.size + 1 by omega) 0 (.int .i64 7)) (show b5 ≠ w.heap.size + 1 by omega) 1 (.slice A9 k1 c9))
          have H6 := Lib.hid (draws17.Blk.other (draws17.Blk.other H6.out (show b6 ≠ w.heap.size + 1 by omega) 0 (.int .i64 7)) (show b6 ≠ w.heap.size + 1 by omega) 1 (.slice A9 k1 c9))
          have OA := Lib.hid (own_kept (own_kept OA.out (grown_set (grown_refl _ (some (w.heap.size + 1))) 0 (.int .i64 7)) (fun g e => by injection e with e; have := LW.out; omega)) (grown_set (grown_refl _ (some (w.heap.size + 1))) 1 (.slice A9 k1 c9)) (fun g e => by injection e with e; have := LW.out; omega))
          have OB := Lib.hid (own_kept (own_kept OB.out (grown_set (grown_refl _ (some (w.heap.size + 1))) 0 (.int .i64 7)) (fun g e => by injection e with e; have := LW.out; omega)) (grown_set (grown_refl _ (some (w.heap.size + 1))) 1 (.slice A9 k1 c9)) (fun g e => by injection e with e; have := LW.out; omega))
          have NC := Lib.hid (own_nc OA.out)
          have ND := Lib.hid (own_nc OB.out)
          have LB := Lib.hid (show w.heap.size ≤ _ from Nat.le_trans (show w.heap.size ≤ w.heap.size + 1 + 1 by omega) (Nat.le_of_lt LW.out))
          have OE := Lib.hid (own_.own_base OA.out LB.out)
          have OF := Lib.hid (own_.own_base OB.out LB.out)
          clear OA OB H5 H6
          go_wp2_with fail
          have hl0 := R0.out.load Try.underlying26 rfl (by kernel_rfl)
          have hl1 := R1.out.load Try.underlying26 rfl (by kernel_rfl)
          refine bodyPost_ret (v := .tuple #[.agg #[.int .i64 d1, .slice (some ⟨g1, 0, none⟩) k1 c1], .agg #[.int .i64 7, .slice A9 k1 c9]]) ?_ rfl ⟨_, _, _, _, _, _, _, _, _, _, rfl, ⟨OE.out, by omega, NC.out⟩, ⟨OF.out, by omega, ND.out⟩, R0.out.1⟩
          rw [results_cc rfl]
          simp [asAddr, Result.andThen, hl0, hl1]
        · obtain ⟨g6, rfl⟩ := row_some OB.out (by omega)
          have hne : g1 ≠ g6 := NE.out g6 rfl
          obtain ⟨⟨p0_, p1_⟩, -⟩ := sctu.corner (RdZ.of_own OB.out (own_len2 OB.out)) (show 0 < k1 by omega) (Below.refl _ y1)
          rw [Nat.zero_mul] at p0_ p1_
          obtain ⟨x0, hx0⟩ : ∃ x0, x0 = sctj.cX zs6 0 := ⟨_, rfl⟩
          obtain ⟨y0, hy0⟩ : ∃ y0, y0 = sctj.cY zs6 0 := ⟨_, rfl⟩
          rw [← hx0] at p0_
          rw [← hy0] at p1_
          clear hx0 hy0
          have H60_ : y1.cell? ⟨b6, 0, none⟩ = some (.int .i64 7) := H6.out.cell 0 _ rfl
          have H61_ : y1.cell? ⟨b6, 1, none⟩ = some (.slice (some ⟨g6, 0, none⟩) k1 c9) := H6.out.cell 1 _ rfl
          have l6g : g6 < y1.heap.size := own_lt OB.out _ rfl
          have l6b : b6 < y1.heap.size := H6.out.lt
          have l5b : b5 < y1.heap.size := H5.out.lt
          have l1b : g1 < y1.heap.size := own_lt OA.out _ rfl
          have lpb : w.heap.size + 1 + 1 < y1.heap.size := HC.out.lt
          have R0 := Lib.hid (R0.out.alloc (.cells #[.int .i64 x0, .int .i64 y0] 28))
          have R1 := Lib.hid (R1.out.alloc (.cells #[.int .i64 x0, .int .i64 y0] 28))
          have OA := Lib.hid (own_.own_below OA.out ((Below.refl _ _).alloc (Nat.le_refl _) (.cells #[.int .i64 x0, .int .i64 y0] 28)))
          have OB := Lib.hid (own_.own_below OB.out ((Below.refl _ _).alloc (Nat.le_refl _) (.cells #[.int .i64 x0, .int .i64 y0] 28)))
          have H5 := Lib.hid (H5.out.alloc (.cells #[.int .i64 x0, .int .i64 y0] 28))
          have H6 := Lib.hid (H6.out.alloc (.cells #[.int .i64 x0, .int .i64 y0] 28))
          have H9 := Lib.hid (Blk.new 28 #[.int .i64 x0, .int .i64 y0] y1)
          have HC := Lib.hid (Cur.alloc HC.out (.cells #[.int .i64 x0, .int .i64 y0] 28))
          go_upto_region 12 with fail
          clear H60_ H61_ p0_ p1_
          generalize y1.alloc (.cells #[.int .i64 x0, .int .i64 y0] 28) = y2 at *
          generalize y1.heap.size = b9 at *
          have q0_ : y2.cell? ⟨b9, 0, none⟩ = some (.int .i64 x0) := H9.out.cell 0 _ rfl
          have qf_ := H9.out.frozen 0
          obtain ⟨x9, e9_⟩ : ∃ x9, IntKind.i64.wrap (x0 + 1) = x9 := ⟨_, rfl⟩
          have R0 := Lib.hid (R0.out.other (b' := b9) (show w.heap.size ≤ b9 by omega) (show w.heap.size ≠ b9 by omega) 0 (.int .i64 x9))
          have R1 := Lib.hid (R1.out.other (b' := b9) (show w.heap.size ≤ b9 by omega) (show w.heap.size + 1 ≠ b9 by omega) 0 (.int .i64 x9))
          have OA := Lib.hid (own_kept_at OA.out (grown_set (grown_refl _ (some b9)) 0 (.int .i64 x9)) (fun q e h => by have h1 := Option.some.inj h; have h2 : g1 = q := Option.some.inj e; omega))
          have OB := Lib.hid (own_kept_at OB.out (grown_set (grown_refl _ (some b9)) 0 (.int .i64 x9)) (fun q e h => by have h1 := Option.some.inj h; have h2 : g6 = q := Option.some.inj e; omega))
          have H5 := Lib.hid (draws17.Blk.other H5.out (show b5 ≠ b9 by omega) 0 (.int .i64 x9))
          have H6 := Lib.hid (draws17.Blk.other H6.out (show b6 ≠ b9 by omega) 0 (.int .i64 x9))
          have H9 := Lib.hid (draws17.Blk.set H9.out 0 (.int .i64 x9))
          have HC := Lib.hid (Cur.set HC.out (show w.heap.size + 1 + 1 < b9 by omega) (i := 0) (v := .int .i64 x9))
          go_upto_region 13 with fail
          clear q0_ qf_ e9_
          generalize y2.setCell ⟨b9, 0, none⟩ (.int .i64 x9) = y3 at *
          have H60_ : y3.cell? ⟨b6, 0, none⟩ = some (.int .i64 7) := H6.out.cell 0 _ rfl
          have H61_ : y3.cell? ⟨b6, 1, none⟩ = some (.slice (some ⟨g6, 0, none⟩) k1 c9) := H6.out.cell 1 _ rfl
          have H90_ : y3.cell? ⟨b9, 0, none⟩ = some (.int .i64 x9) := H9.out.cell 0 _ rfl
          have H91_ : y3.cell? ⟨b9, 1, none⟩ = some (.int .i64 y0) := H9.out.cell 1 _ rfl
          obtain ⟨⟨p0_, p1_⟩, -⟩ := sctu.corner (RdZ.of_own OB.out (own_len2 OB.out)) (show 0 < k1 by omega) (Below.refl _ y3)
          rw [Nat.zero_mul] at p0_ p1_
          have pf0_ := OB.out.frozenAt 0
          have pf1_ := OB.out.frozenAt 1
          have lgW : W1.heap.size ≤ g6 := own_.row_ge OB.out _ rfl
          have lpW : w.heap.size + 1 + 1 < W1.heap.size := LW.out
          have N5 := Lib.hid (row_ne OB.out H5.out (by decide))
          have N6 := Lib.hid (row_ne OB.out H6.out (by decide))
          have R0 := Lib.hid ((R0.out.other (b' := g6) (show w.heap.size ≤ g6 by omega) (show w.heap.size ≠ g6 by omega) 0 (.int .i64 x9)).other (b' := g6) (show w.heap.size ≤ g6 by omega) (show w.heap.size ≠ g6 by omega) 1 (.int .i64 y0))
          have R1 := Lib.hid ((R1.out.other (b' := g6) (show w.heap.size ≤ g6 by omega) (show w.heap.size + 1 ≠ g6 by omega) 0 (.int .i64 x9)).other (b' := g6) (show w.heap.size ≤ g6 by omega) (show w.heap.size + 1 ≠ g6 by omega) 1 (.int .i64 y0))
          have OA := Lib.hid (own_kept_at (own_kept_at OA.out (grown_set (grown_refl _ (some g6)) 0 (.int .i64 x9)) (fun q e h => by have h1 := Option.some.inj h; have h2 : g1 = q := Option.some.inj e; omega)) (grown_set (grown_refl _ (some g6)) 1 (.int .i64 y0)) (fun q e h => by have h1 := Option.some.inj h; have h2 : g1 = q := Option.some.inj e; omega))
          have OB := Lib.hid (own_put0 OB.out x9 y0)
          have H5 := Lib.hid (draws17.Blk.other (draws17.Blk.other H5.out N5.out 0 (.int .i64 x9)) N5.out 1 (.int .i64 y0))
          have H6 := Lib.hid (draws17.Blk.other (draws17.Blk.other H6.out N6.out 0 (.int .i64 x9)) N6.out 1 (.int .i64 y0))
          have HC := Lib.hid (Cur.set (Cur.set HC.out (show w.heap.size + 1 + 1 < g6 by omega) (i := 0) (v := .int .i64 x9)) (show w.heap.size + 1 + 1 < g6 by omega) (i := 1) (v := .int .i64 y0))
          go_upto_region 14 with fail
          clear H60_ H61_ H90_ H91_ p0_ p1_ pf0_ pf1_ H9 N5 N6
          generalize (y3.setCell ⟨g6, 0, none⟩ (.int .i64 x9)).setCell ⟨g6, 1, none⟩ (.int .i64 y0) = y4 at *
          have R0 := Lib.hid R0.out.drew
          have R1 := Lib.hid R1.out.drew
          have OA := Lib.hid (own_drew OA.out)
          have OB := Lib.hid (own_drew OB.out)
          have H5 := Lib.hid H5.out.drew
          have H6 := Lib.hid H6.out.drew
          refine wp_region_tail (S := fun w' => World.cell? w' ⟨b5, 0, none⟩ = some (.int .i64 d1) ∧ World.cell? w' ⟨b5, 1, none⟩ = some (.slice (some ⟨g1, 0, none⟩) k1 c1) ∧ World.cell? w' ⟨b6, 0, none⟩ = some (.int .i64 7) ∧ World.cell? w' ⟨b6, 1, none⟩ = some (.slice (some ⟨g6, 0, none⟩) k1 c9)) 3 (by kernel_rfl) ⟨H5.out.cell 0 _ rfl, H5.out.cell 1 _ rfl, H6.out.cell 0 _ rfl, H6.out.cell 1 _ rfl⟩ (fun hHeld => ?_)
          generalize y4.drew = F0 at *
          try simp only [Act.put, List.getElem_toArray, List.getElem_cons_succ, List.getElem_cons_zero, List.setIfInBounds_toArray, List.set_cons_succ, List.set_cons_zero]
          refine wpAnyE_take (i := 0) (v := ?vt6_0) rfl (by decide +kernel) (fun _ _ _ h => h) (Or.inl ⟨by first | rfl | kernel_rfl, ?ht6_0⟩) (by assumption) ?rt6_0
          case ht6_0 =>
            intro wS hSw
            obtain ⟨h0, h1, h2, h3⟩ := hSw
            go_simp
            try with_reducible rfl
          try simp only [Act.put, List.getElem_toArray, List.getElem_cons_succ, List.getElem_cons_zero, List.setIfInBounds_toArray, List.set_cons_succ, List.set_cons_zero]
          refine wpAnyE_take (i := 1) (v := ?vt6_1) rfl (by decide +kernel) (fun _ _ _ h => h) (Or.inl ⟨by first | rfl | kernel_rfl, ?ht6_1⟩) (by assumption) ?rt6_1
          case ht6_1 =>
            intro wS hSw
            obtain ⟨h0, h1, h2, h3⟩ := hSw
            go_simp
            try with_reducible rfl
          try simp only [Act.put, List.getElem_toArray, List.getElem_cons_succ, List.getElem_cons_zero, List.setIfInBounds_toArray, List.set_cons_succ, List.set_cons_zero]
          refine wpAnyE_ready (rs := [2]) (by kernel_rfl) (by simp) ?_
          refine AllReadyE.cons (i := 2) rfl (by decide) (fun K hK => ?_) AllReadyE.nil
          have r00_ : F0.cell? ⟨w.heap.size, 0, none⟩ = some (.int .i64 0) := R0.out.cell 0
          have rf00_ := R0.out.frozen 0
          have r01_ : F0.cell? ⟨w.heap.size, 1, none⟩ = some (.slice none 0 0) := R0.out.cell 1
          have rf01_ := R0.out.frozen 1
          go_simp
          have R0 := Lib.hid ((R0.out.set 0 (.int .i64 d1)).set 1 (.slice (some ⟨g1, 0, none⟩) k1 c1))
          have R1 := Lib.hid ((R1.out.other (b' := w.heap.size) (show w.heap.size ≤ w.heap.size by omega) (show w.heap.size + 1 ≠ w.heap.size by omega) 0 (.int .i64 d1)).other (b' := w.heap.size) (show w.heap.size ≤ w.heap.size by omega) (show w.heap.size + 1 ≠ w.heap.size by omega) 1 (.slice (some ⟨g1, 0, none⟩) k1 c1))
          have H5 := Lib.hid (draws17.Blk.other (draws17.Blk.other H5.out (show b5 ≠ w.heap.size by omega) 0 (.int .i64 d1)) (show b5 ≠ w.heap.size by omega) 1 (.slice (some ⟨g1, 0, none⟩) k1 c1))
          have H6 := Lib.hid (draws17.Blk.other (draws17.Blk.other H6.out (show b6 ≠ w.heap.size by omega) 0 (.int .i64 d1)) (show b6 ≠ w.heap.size by omega) 1 (.slice (some ⟨g1, 0, none⟩) k1 c1))
          have OA := Lib.hid (own_kept (own_kept OA.out (grown_set (grown_refl _ (some (w.heap.size))) 0 (.int .i64 d1)) (fun g e => by injection e with e; have := LW.out; omega)) (grown_set (grown_refl _ (some (w.heap.size))) 1 (.slice (some ⟨g1, 0, none⟩) k1 c1)) (fun g e => by injection e with e; have := LW.out; omega))
          have OB := Lib.hid (own_kept (own_kept OB.out (grown_set (grown_refl _ (some (w.heap.size))) 0 (.int .i64 d1)) (fun g e => by injection e with e; have := LW.out; omega)) (grown_set (grown_refl _ (some (w.heap.size))) 1 (.slice (some ⟨g1, 0, none⟩) k1 c1)) (fun g e => by injection e with e; have := LW.out; omega))
          clear r00_ r01_ rf00_ rf01_
          generalize (F0.setCell ⟨w.heap.size, 0, none⟩ (.int .i64 d1)).setCell ⟨w.heap.size, 1, none⟩ (.slice (some ⟨g1, 0, none⟩) k1 c1) = F1 at *
          refine hK.out _ _ ⟨H5.out.cell 0 _ rfl, H5.out.cell 1 _ rfl, H6.out.cell 0 _ rfl, H6.out.cell 1 _ rfl⟩ (fun hHeld => ?_)
          clear hK K
          try simp only [Act.put, List.getElem_toArray, List.getElem_cons_succ, List.getElem_cons_zero, List.setIfInBounds_toArray, List.set_cons_succ, List.set_cons_zero]
          have r10_ : F1.cell? ⟨w.heap.size + 1, 0, none⟩ = some (.int .i64 0) := R1.out.cell 0
          have rf10_ := R1.out.frozen 0
          have r11_ : F1.cell? ⟨w.heap.size + 1, 1, none⟩ = some (.slice none 0 0) := R1.out.cell 1
          have rf11_ := R1.out.frozen 1
          refine wpAnyE_ready (rs := [3]) (by kernel_rfl) (by simp) ?_
          refine AllReadyE.last (i := 3) rfl rfl (fun K hK => ?_)
          go_simp
          refine hK.out _ _ ?_
          clear hK K
          try simp only [Act.put, List.getElem_toArray, List.getElem_cons_succ, List.getElem_cons_zero, List.setIfInBounds_toArray, List.set_cons_succ, List.set_cons_zero]
          refine wpAnyE_done (by kernel_rfl) ?_ _
          try simp only [List.getElem_toArray, List.getElem_cons_succ, List.getElem_cons_zero, List.setIfInBounds_toArray, List.set_cons_succ, List.set_cons_zero]
          have R0 := Lib.hid ((R0.out.other (b' := w.heap.size + 1) (show w.heap.size ≤ w.heap.size + 1 by omega) (show w.heap.size ≠ w.heap.size + 1 by omega) 0 (.int .i64 7)).other (b' := w.heap.size + 1) (show w.heap.size ≤ w.heap.size + 1 by omega) (show w.heap.size ≠ w.heap.size + 1 by omega) 1 (.slice (some ⟨g6, 0, none⟩) k1 c9))
          have R1 := Lib.hid ((R1.out.set 0 (.int .i64 7)).set 1 (.slice (some ⟨g6, 0, none⟩) k1 c9))
          have H5 := Lib.hid (draws17.Blk.other (draws17.Blk.other H5.out (show b5 ≠ w.heap.size + 1 by omega) 0 (.int .i64 7)) (show b5 ≠ w.heap.size + 1 by omega) 1 (.slice (some ⟨g6, 0, none⟩) k1 c9))
          have H6 := Lib.hid (draws17.Blk.other (draws17.Blk.other H6.out (show b6 ≠ w.heap.size + 1 by omega) 0 (.int .i64 7)) (show b6 ≠ w.heap.size + 1 by omega) 1 (.slice (some ⟨g6, 0, none⟩) k1 c9))
          have OA := Lib.hid (own_kept (own_kept OA.out (grown_set (grown_refl _ (some (w.heap.size + 1))) 0 (.int .i64 7)) (fun g e => by injection e with e; have := LW.out; omega)) (grown_set (grown_refl _ (some (w.heap.size + 1))) 1 (.slice (some ⟨g6, 0, none⟩) k1 c9)) (fun g e => by injection e with e; have := LW.out; omega))
          have OB := Lib.hid (own_kept (own_kept OB.out (grown_set (grown_refl _ (some (w.heap.size + 1))) 0 (.int .i64 7)) (fun g e => by injection e with e; have := LW.out; omega)) (grown_set (grown_refl _ (some (w.heap.size + 1))) 1 (.slice (some ⟨g6, 0, none⟩) k1 c9)) (fun g e => by injection e with e; have := LW.out; omega))
          have NC := Lib.hid (own_nc OA.out)
          have ND := Lib.hid (own_nc OB.out)
          have LB := Lib.hid (show w.heap.size ≤ _ from Nat.le_trans (show w.heap.size ≤ w.heap.size + 1 + 1 by omega) (Nat.le_of_lt LW.out))
          have OE := Lib.hid (own_.own_base OA.out LB.out)
          have OF := Lib.hid (own_.own_base OB.out LB.out)
          clear OA OB H5 H6
          go_wp2_with fail
          have hl0 := R0.out.load Try.underlying26 rfl (by kernel_rfl)
          have hl1 := R1.out.load Try.underlying26 rfl (by kernel_rfl)
          refine bodyPost_ret (v := .tuple #[.agg #[.int .i64 d1, .slice (some ⟨g1, 0, none⟩) k1 c1], .agg #[.int .i64 7, .slice (some ⟨g6, 0, none⟩) k1 c9]]) ?_ rfl ⟨_, _, _, _, _, _, _, _, _, _, rfl, ⟨OE.out, by omega, NC.out⟩, ⟨OF.out, by omega, ND.out⟩, R0.out.1⟩
          rw [results_cc rfl]
          simp [asAddr, Result.andThen, hl0, hl1]
    · go_upto_region 14 with fail
      have R0 := Lib.hid R0.out.drew
      have R1 := Lib.hid R1.out.drew
      have OA := Lib.hid (own_drew OA.out)
      have OB := Lib.hid (own_drew OB.out)
      have H5 := Lib.hid H5.out.drew
      have H6 := Lib.hid H6.out.drew
      refine wp_region_tail (S := fun w' => World.cell? w' ⟨b5, 0, none⟩ = some (.int .i64 d1) ∧ World.cell? w' ⟨b5, 1, none⟩ = some (.slice A1 k1 c1) ∧ World.cell? w' ⟨b6, 0, none⟩ = some (.int .i64 d2) ∧ World.cell? w' ⟨b6, 1, none⟩ = some (.slice A2 k2 c2)) 3 (by kernel_rfl) ⟨H5.out.cell 0 _ rfl, H5.out.cell 1 _ rfl, H6.out.cell 0 _ rfl, H6.out.cell 1 _ rfl⟩ (fun hHeld => ?_)
      generalize w3.drew = F0 at *
      try simp only [Act.put, List.getElem_toArray, List.getElem_cons_succ, List.getElem_cons_zero, List.setIfInBounds_toArray, List.set_cons_succ, List.set_cons_zero]
      refine wpAnyE_take (i := 0) (v := ?vt7_0) rfl (by decide +kernel) (fun _ _ _ h => h) (Or.inl ⟨by first | rfl | kernel_rfl, ?ht7_0⟩) (by assumption) ?rt7_0
      case ht7_0 =>
        intro wS hSw
        obtain ⟨h0, h1, h2, h3⟩ := hSw
        go_simp
        try with_reducible rfl
      try simp only [Act.put, List.getElem_toArray, List.getElem_cons_succ, List.getElem_cons_zero, List.setIfInBounds_toArray, List.set_cons_succ, List.set_cons_zero]
      refine wpAnyE_take (i := 1) (v := ?vt7_1) rfl (by decide +kernel) (fun _ _ _ h => h) (Or.inl ⟨by first | rfl | kernel_rfl, ?ht7_1⟩) (by assumption) ?rt7_1
      case ht7_1 =>
        intro wS hSw
        obtain ⟨h0, h1, h2, h3⟩ := hSw
        go_simp
        try with_reducible rfl
      try simp only [Act.put, List.getElem_toArray, List.getElem_cons_succ, List.getElem_cons_zero, List.setIfInBounds_toArray, List.set_cons_succ, List.set_cons_zero]
      refine wpAnyE_ready (rs := [2]) (by kernel_rfl) (by simp) ?_
      refine AllReadyE.cons (i := 2) rfl (by decide) (fun K hK => ?_) AllReadyE.nil
      have r00_ : F0.cell? ⟨w.heap.size, 0, none⟩ = some (.int .i64 0) := R0.out.cell 0
      have rf00_ := R0.out.frozen 0
      have r01_ : F0.cell? ⟨w.heap.size, 1, none⟩ = some (.slice none 0 0) := R0.out.cell 1
      have rf01_ := R0.out.frozen 1
      go_simp
      have R0 := Lib.hid ((R0.out.set 0 (.int .i64 d1)).set 1 (.slice A1 k1 c1))
      have R1 := Lib.hid ((R1.out.other (b' := w.heap.size) (show w.heap.size ≤ w.heap.size by omega) (show w.heap.size + 1 ≠ w.heap.size by omega) 0 (.int .i64 d1)).other (b' := w.heap.size) (show w.heap.size ≤ w.heap.size by omega) (show w.heap.size + 1 ≠ w.heap.size by omega) 1 (.slice A1 k1 c1))
      have H5 := Lib.hid (draws17.Blk.other (draws17.Blk.other H5.out (show b5 ≠ w.heap.size by omega) 0 (.int .i64 d1)) (show b5 ≠ w.heap.size by omega) 1 (.slice A1 k1 c1))
      have H6 := Lib.hid (draws17.Blk.other (draws17.Blk.other H6.out (show b6 ≠ w.heap.size by omega) 0 (.int .i64 d1)) (show b6 ≠ w.heap.size by omega) 1 (.slice A1 k1 c1))
      have OA := Lib.hid (own_kept (own_kept OA.out (grown_set (grown_refl _ (some (w.heap.size))) 0 (.int .i64 d1)) (fun g e => by injection e with e; have := LW.out; omega)) (grown_set (grown_refl _ (some (w.heap.size))) 1 (.slice A1 k1 c1)) (fun g e => by injection e with e; have := LW.out; omega))
      have OB := Lib.hid (own_kept (own_kept OB.out (grown_set (grown_refl _ (some (w.heap.size))) 0 (.int .i64 d1)) (fun g e => by injection e with e; have := LW.out; omega)) (grown_set (grown_refl _ (some (w.heap.size))) 1 (.slice A1 k1 c1)) (fun g e => by injection e with e; have := LW.out; omega))
      clear r00_ r01_ rf00_ rf01_
      generalize (F0.setCell ⟨w.heap.size, 0, none⟩ (.int .i64 d1)).setCell ⟨w.heap.size, 1, none⟩ (.slice A1 k1 c1) = F1 at *
      refine hK.out _ _ ⟨H5.out.cell 0 _ rfl, H5.out.cell 1 _ rfl, H6.out.cell 0 _ rfl, H6.out.cell 1 _ rfl⟩ (fun hHeld => ?_)
      clear hK K
      try simp only [Act.put, List.getElem_toArray, List.getElem_cons_succ, List.getElem_cons_zero, List.setIfInBounds_toArray, List.set_cons_succ, List.set_cons_zero]
      have r10_ : F1.cell? ⟨w.heap.size + 1, 0, none⟩ = some (.int .i64 0) := R1.out.cell 0
      have rf10_ := R1.out.frozen 0
      have r11_ : F1.cell? ⟨w.heap.size + 1, 1, none⟩ = some (.slice none 0 0) := R1.out.cell 1
      have rf11_ := R1.out.frozen 1
      refine wpAnyE_ready (rs := [3]) (by kernel_rfl) (by simp) ?_
      refine AllReadyE.last (i := 3) rfl rfl (fun K hK => ?_)
      go_simp
      refine hK.out _ _ ?_
      clear hK K
      try simp only [Act.put, List.getElem_toArray, List.getElem_cons_succ, List.getElem_cons_zero, List.setIfInBounds_toArray, List.set_cons_succ, List.set_cons_zero]
      refine wpAnyE_done (by kernel_rfl) ?_ _
      try simp only [List.getElem_toArray, List.getElem_cons_succ, List.getElem_cons_zero, List.setIfInBounds_toArray, List.set_cons_succ, List.set_cons_zero]
      have R0 := Lib.hid ((R0.out.other (b' := w.heap.size + 1) (show w.heap.size ≤ w.heap.size + 1 by omega) (show w.heap.size ≠ w.heap.size + 1 by omega) 0 (.int .i64 d2)).other (b' := w.heap.size + 1) (show w.heap.size ≤ w.heap.size + 1 by omega) (show w.heap.size ≠ w.heap.size + 1 by omega) 1 (.slice A2 k2 c2))
      have R1 := Lib.hid ((R1.out.set 0 (.int .i64 d2)).set 1 (.slice A2 k2 c2))
      have H5 := Lib.hid (draws17.Blk.other (draws17.Blk.other H5.out (show b5 ≠ w.heap.size + 1 by omega) 0 (.int .i64 d2)) (show b5 ≠ w.heap.size + 1 by omega) 1 (.slice A2 k2 c2))
      have H6 := Lib.hid (draws17.Blk.other (draws17.Blk.other H6.out (show b6 ≠ w.heap.size + 1 by omega) 0 (.int .i64 d2)) (show b6 ≠ w.heap.size + 1 by omega) 1 (.slice A2 k2 c2))
      have OA := Lib.hid (own_kept (own_kept OA.out (grown_set (grown_refl _ (some (w.heap.size + 1))) 0 (.int .i64 d2)) (fun g e => by injection e with e; have := LW.out; omega)) (grown_set (grown_refl _ (some (w.heap.size + 1))) 1 (.slice A2 k2 c2)) (fun g e => by injection e with e; have := LW.out; omega))
      have OB := Lib.hid (own_kept (own_kept OB.out (grown_set (grown_refl _ (some (w.heap.size + 1))) 0 (.int .i64 d2)) (fun g e => by injection e with e; have := LW.out; omega)) (grown_set (grown_refl _ (some (w.heap.size + 1))) 1 (.slice A2 k2 c2)) (fun g e => by injection e with e; have := LW.out; omega))
      have NC := Lib.hid (own_nc OA.out)
      have ND := Lib.hid (own_nc OB.out)
      have LB := Lib.hid (show w.heap.size ≤ _ from Nat.le_trans (show w.heap.size ≤ w.heap.size + 1 + 1 by omega) (Nat.le_of_lt LW.out))
      have OE := Lib.hid (own_.own_base OA.out LB.out)
      have OF := Lib.hid (own_.own_base OB.out LB.out)
      clear OA OB H5 H6
      go_wp2_with fail
      have hl0 := R0.out.load Try.underlying26 rfl (by kernel_rfl)
      have hl1 := R1.out.load Try.underlying26 rfl (by kernel_rfl)
      refine bodyPost_ret (v := .tuple #[.agg #[.int .i64 d1, .slice A1 k1 c1], .agg #[.int .i64 d2, .slice A2 k2 c2]]) ?_ rfl ⟨_, _, _, _, _, _, _, _, _, _, rfl, ⟨OE.out, by omega, NC.out⟩, ⟨OF.out, by omega, ND.out⟩, R0.out.1⟩
      rw [results_cc rfl]
      simp [asAddr, Result.andThen, hl0, hl1]
end Go.Proofs.Ytadpihfegccpkaa.draww17
