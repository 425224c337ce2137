/- spec's l1Put, walked. -/
import Derived.Test.YtglonedhoenkpaaPutQ
namespace Go.Proofs.Ytglonedhoenkpaa.putr
open Go.RowKit Go.Proofs.Ytglonedhoenkpaa.ints Go.Proofs.Ytglonedhoenkpaa.putq

theorem src_take {w : World} {g n k : Nat} {xs : List Int} (h : ∀ j, j < n → w.cell? ⟨g, j, none⟩ = some (.int .i64 (xs.getD j 0)) ∧ g < w.heap.size) (hl : xs.length = n) (hk : k ≤ n) :
    ∀ W, Below w.heap.size w W → ∀ j u, (cellsI (xs.take k))[j]? = some u → W.cell? ((⟨g, 0, none⟩ : Addr).add j) = some u := by
  intro W hb j u hu
  obtain ⟨x, hx, rfl⟩ := cellsI_at hu
  have hj : j < n := by have := (List.getElem?_eq_some_iff.1 hx).1; rw [List.length_take] at this; omega
  have hjk : j < k := by have := (List.getElem?_eq_some_iff.1 hx).1; rw [List.length_take] at this; omega
  rw [Addr.add_lit, Nat.zero_add, hb.cell (p := ⟨g, j, none⟩) (h j hj).2, (h j hj).1, List.getD_eq_getElem?_getD]
  rw [List.getElem?_take, if_pos hjk] at hx
  rw [hx]; rfl
theorem src_drop {w : World} {g n k : Nat} {xs : List Int} (h : ∀ j, j < n → w.cell? ⟨g, j, none⟩ = some (.int .i64 (xs.getD j 0)) ∧ g < w.heap.size) (hl : xs.length = n) :
    ∀ W, Below w.heap.size w W → ∀ j u, (cellsI (xs.drop k))[j]? = some u → W.cell? ((⟨g, k, none⟩ : Addr).add j) = some u := by
  intro W hb j u hu
  obtain ⟨x, hx, rfl⟩ := cellsI_at hu
  have hj : k + j < n := by have := (List.getElem?_eq_some_iff.1 hx).1; rw [List.length_drop] at this; omega
  rw [Addr.add_lit, hb.cell (p := ⟨g, k + j, none⟩) (h _ hj).2, (h _ hj).1, List.getD_eq_getElem?_getD]
  rw [List.getElem?_drop] at hx
  rw [hx]; rfl
theorem src_none {w : World} {n k : Nat} {xs : List Int} (g o : Nat) (hl : xs.length = n) (hk : n ≤ k) :
    ∀ W, Below w.heap.size w W → ∀ j u, (cellsI (xs.drop k))[j]? = some u → W.cell? ((⟨g, o, none⟩ : Addr).add j) = some u := by
  intro W _ j u hu
  rw [List.drop_eq_nil_of_le (by omega)] at hu
  simp [cellsI] at hu
theorem two_last (w : World) (e : TypeId) (y : Int) : ((w.alloc (.cells #[] e)).alloc (.cells #[.int .i64 y] e)).drew.cell? ⟨w.heap.size + 1, 0, none⟩ = some (.int .i64 y) := by
  have := cell_one_new (w.alloc (.cells #[] e)) (.int .i64 y) e 0 (.int .i64 y) rfl
  rw [Addr.add_zero', World.size_alloc] at this
  exact this
theorem two_first (w : World) (e : TypeId) (y : Int) : ((w.alloc (.cells #[.int .i64 y] e)).alloc (.cells #[] e)).drew.cell? ⟨w.heap.size, 0, none⟩ = some (.int .i64 y) := by
  have := cell_one_new w (.int .i64 y) e 0 (.int .i64 y) rfl
  rw [Addr.add_zero'] at this
  have h2 := World.cell?_alloc_lt (w.alloc (.cells #[.int .i64 y] e)) (.cells #[] e) ⟨w.heap.size, 0, none⟩ (by rw [World.size_alloc]; exact Nat.lt_succ_self _)
  exact h2.trans this
theorem own_second (w : World) (e : TypeId) (o : Obj) : ((w.alloc o).alloc (.cells #[] e)).ownsRow w.heap.size e 1 (.slice (some ⟨w.heap.size + 1, 0, none⟩) 0 0) 0 [] := by
  have h := own_.own_empty (w.alloc o) e
  rw [World.size_alloc] at h
  exact own_.own_base h (by omega)
theorem news_far {W w1 : World} {b : Nat} {x : Value} {r : Option Nat} (hg : W.grownBy w1 r) (hc : W.cell? ⟨b, 0, none⟩ = some x) (hr : some b ≠ r) : ∀ j u, [x][j]? = some u → w1.cell? ((⟨b, 0, none⟩ : Addr).add j) = some u := by
  intro j u hu
  match j, hu with
  | 0, hu =>
    rw [Addr.add_zero', hg.cell_far ⟨b, 0, none⟩ (World.block_lt_of_cell? _ _ hc) hr, hc]
    exact hu
  | j + 1, hu => simp at hu
theorem own_three {w : World} {B e n k : Nat} {v : Value} {xs : List Int} {y : Int} (hl : xs.length = n) (hk : k ≤ n) (h : w.ownsRow B e 1 v (k + 1 + (n - k)) (cellsI (xs.take k) ++ [.int .i64 y] ++ cellsI (xs.drop k))) :
    w.ownsRow B e 1 v (xs.take k ++ [y] ++ xs.drop k).length (cellsI (xs.take k ++ [y] ++ xs.drop k)) := by
  have e1 : (xs.take k ++ [y] ++ xs.drop k).length = k + 1 + (n - k) := by simp; omega
  rw [e1]
  unfold cellsI at h ⊢
  rw [List.map_append, List.map_append]
  exact h

set_option maxRecDepth 100000 in
set_option maxHeartbeats 8000000 in
theorem l1Put (B : Nat) (xs : List Int) (y : Int) (g n c : Nat) (w : World) (hn : n ≤ 1048576) (hB : B ≤ w.heap.size) (hnc : n ≤ c) (hown : w.ownsRow B 3 1 (.slice (some ⟨g, 0, none⟩) n c) n (cellsI xs)) :
    Calls Try.prog 62 #[.slice (some ⟨g, 0, none⟩) n c, .int .i64 y] w fun e w' => ∃ v, e = .returned v ∧ w'.ownsRow B 3 1 v (put xs y).length (cellsI (put xs y)) ∧ Below w.heap.size w w' := by
  have hl : xs.length = n := by have := hown.1; unfold cellsI at this; simpa using this
  have hr := RdI.of_own (by rw [hl]; exact hown) hl.symm
  have hcell : ∀ j, j < n → w.cell? ⟨g, j, none⟩ = some (.int .i64 (xs.getD j 0)) ∧ g < w.heap.size := by
    intro j hj
    obtain ⟨b, o, x, e, hb, hx, hcl⟩ := hr.at_ hj
    obtain ⟨rfl, rfl⟩ : g = b ∧ 0 = o := by injection e with e; injection e with e1 e2; exact ⟨e1, e2⟩
    rw [Nat.zero_add] at hcl
    refine ⟨?_, hb⟩
    rw [hcl, List.getD_eq_getElem?_getD, hx]; rfl
  have HC := Lib.hid hcell
  have HO := Lib.hid hown
  have HL := Lib.hid hl
  have hk : lead xs y ≤ n := by rw [← hl]; exact lead_le xs y
  have HLT := Lib.hid (fun j (hj : j < lead xs y) => lead_lt hj)
  have HEN := Lib.hid (fun h => lead_end (xs := xs) (y := y) h)
  have HPS := Lib.hid (fun h he => put_same (xs := xs) (y := y) h he)
  have HPN := Lib.hid (fun h => put_new (xs := xs) (y := y) h)
  clear hown hl hr hcell
  generalize lead xs y = k at *
  go_enter Try.func62, Try.ntmps62
  go_upto_block 0 with fail
  go_cut [5] from 6 to 19 (fun i wx => i = .int .i64 k ∧ wx = w)
  case first =>
    go_wp2_with fail
    go_loop [5] (fun i => ∃ j : Nat, j ≤ k ∧ i = .int .i64 j) (fun i => k - (intOf i).toNat)
    case atStart => exact ⟨0, Nat.zero_le _, rfl⟩
    case round =>
      obtain ⟨j, hj, rfl⟩ := hrel
      by_cases hjk : j < k
      · have hc := (HC.out j (by omega)).1
        have hx := HLT.out j hjk
        have hjn : (j : Int) < (n : Int) := by omega
        generalize xs.getD j 0 = x at *
        go_wp2_with fail
        go_round
        case rel => exact ⟨j + 1, by omega, by go_num⟩
        case measure => simp [intOf]; omega
      · obtain rfl : j = k := by omega
        by_cases hjn : j < n
        · have hc := (HC.out j (by omega)).1
          have hx := HEN.out (by rw [HL.out]; exact hjn)
          have hjn2 : (j : Int) < (n : Int) := by omega
          generalize xs.getD j 0 = x at *
          go_wp2_with fail
          go_meet
          exact ⟨rfl, rfl⟩
        · have hjn2 : ¬ (j : Int) < (n : Int) := by omega
          go_wp2_with fail
          go_meet
          exact ⟨rfl, rfl⟩
  case rest =>
    obtain ⟨rfl, rfl⟩ := hcut
    by_cases hkn : k < n
    · have hc := (HC.out k hkn).1
      have hkn2 : (k : Int) < (n : Int) := by omega
      by_cases he : xs.getD k 0 = y
      · have HP := Lib.hid (HPS.out (by rw [HL.out]; exact hkn) he)
        have he2 : (xs.getD k 0 == y) = true := beq_iff_eq.mpr he
        generalize xs.getD k 0 = x at *
        clear he
        go_wp2_with fail
        go_ret
        exact ⟨_, rfl, by rw [HP.out, HL.out]; exact HO.out, Below.refl _ _⟩
      · have HP := Lib.hid (HPN.out (fun _ => he))
        have he2 : (xs.getD k 0 == y) = false := beq_eq_false_iff_ne.mpr he
        generalize xs.getD k 0 = x at *
        clear he
        have hck : ¬ c = k := by omega
        go_upto_region 6 with fail
        have k0 : (0 : Int) ≤ (k : Int) := Int.natCast_nonneg _
        have k1 : (k : Int) ≤ (c : Int) := by omega
        have k2 : (k : Int) ≤ (n : Int) := by omega
        have k3 : (n : Int) ≤ (c : Int) := by omega
        obtain ⟨i0, hi, hz0, hz1, hz2⟩ := info_parts lst.infoI
        have SRC1 := Lib.hid (src_take HC.out HL.out hk)
        have SRC2 := Lib.hid (src_drop (k := k) HC.out HL.out)
        have cA := two_last wc 3 y
        have cB := two_first wc 3 y
        have l1 : (cellsI (xs.take k)).length = k := by unfold cellsI; rw [List.length_map, List.length_take, HL.out]; omega
        have l2 : (cellsI (xs.drop k)).length = n - k := by unfold cellsI; rw [List.length_map, List.length_drop, HL.out]
        have L1 := Lib.hid l1
        have L2 := Lib.hid l2
        clear l1 l2
        go_region_held3 (fun w' => Below wc.heap.size wc w') (first
          | exact (Below.refl _ _).drew
          | assumption
          | exact ((Below.refl _ _).alloc (Nat.le_refl _) _).drew
          | exact (((Below.refl _ _).alloc (Nat.le_refl _) _).alloc (by rw [World.size_alloc]; omega) _).drew
          | exact Below.alloc (by assumption) (Below.size (by assumption)) _) (first
          | (refine step_append_any rfl (.tmp 33) (.tmp 36) 32 rfl wc.heap.size 3 i0 (.int .i64 0) Try.underlying32 hi hz0 hz1 hz2 rfl _ 0 [] rfl (by first | exact own_.own_empty wc _ | exact (own_.own_empty wc _).alloc _ | exact own_second wc _ _) _ k _ (cellsI (xs.take k)) rfl L1.out (SRC1.out _ (by assumption)) (ints_one _) (by omega) (Below.size (by assumption)) ?_
             intro v1 w1 o1 g1
             rw [Nat.zero_add, List.nil_append] at o1
             have hB1 := below_step (by assumption) (Below.size (by assumption)) (by first | exact own_.own_empty wc _ | exact (own_.own_empty wc _).alloc _ | exact own_second wc _ _) g1)
          | (refine step_append_any rfl (.tmp 37) (.tmp 39) 32 rfl wc.heap.size 3 i0 (.int .i64 0) Try.underlying32 hi hz0 hz1 hz2 rfl _ k (cellsI (xs.take k)) rfl (by first | exact o1 | exact o1.alloc _) _ 1 1 [.int .i64 y] rfl rfl (by first | exact cell_one_new _ _ _ | exact news_far g1 cA (show some (wc.heap.size + 1) ≠ some wc.heap.size by simp) | exact news_far g1 cB (show some wc.heap.size ≠ some (wc.heap.size + 1) by simp)) (own_.one_cell _ rfl) (by omega) (Below.size (by assumption)) ?_
             intro v2 w2 o2 g2
             have hB2 := below_step (by assumption) (Below.size (by assumption)) (by first | exact o1 | exact o1.alloc _) g2)
          | (refine step_append_any rfl (.tmp 40) (.tmp 43) 32 rfl wc.heap.size 3 i0 (.int .i64 0) Try.underlying32 hi hz0 hz1 hz2 rfl _ (k + 1) (cellsI (xs.take k) ++ [Value.int .i64 y]) rfl o2 _ (n - k) _ (cellsI (xs.drop k)) rfl L2.out (SRC2.out _ (by assumption)) (ints_one _) (by omega) (Below.size (by assumption)) ?_
             intro v3 w3 o3 g3
             have hB3 := below_step (by assumption) (Below.size (by assumption)) o2 g3))
        all_goals (
          go_wp2_with fail
          go_ret
          exact ⟨_, rfl, by rw [HP.out]; exact own_.own_base (own_three (HL.out) hk (by assumption)) hB, by assumption⟩)
    · have HP := Lib.hid (HPN.out (fun h => absurd (by rw [HL.out] at h; exact h) hkn))
      have hkn2 : ¬ (k : Int) < (n : Int) := by omega
      by_cases hck : c = k
      · go_upto_region 6 with fail
        have k0 : (0 : Int) ≤ (k : Int) := Int.natCast_nonneg _
        have k1 : (k : Int) ≤ (c : Int) := by omega
        have k2 : (k : Int) ≤ (n : Int) := by omega
        have k3 : (n : Int) ≤ (c : Int) := by omega
        obtain ⟨i0, hi, hz0, hz1, hz2⟩ := info_parts lst.infoI
        have SRC1 := Lib.hid (src_take HC.out HL.out hk)
        have SRC2 := Lib.hid (src_none (w := wc) (k := k) g 0 HL.out (by omega))
        have cA := two_last wc 3 y
        have cB := two_first wc 3 y
        have l1 : (cellsI (xs.take k)).length = k := by unfold cellsI; rw [List.length_map, List.length_take, HL.out]; omega
        have l2 : (cellsI (xs.drop k)).length = n - k := by unfold cellsI; rw [List.length_map, List.length_drop, HL.out]
        have L1 := Lib.hid l1
        have L2 := Lib.hid l2
        clear l1 l2
        go_region_held3 (fun w' => Below wc.heap.size wc w') (first
          | exact (Below.refl _ _).drew
          | assumption
          | exact ((Below.refl _ _).alloc (Nat.le_refl _) _).drew
          | exact (((Below.refl _ _).alloc (Nat.le_refl _) _).alloc (by rw [World.size_alloc]; omega) _).drew
          | exact Below.alloc (by assumption) (Below.size (by assumption)) _) (first
          | (refine step_append_any rfl (.tmp 33) (.tmp 36) 32 rfl wc.heap.size 3 i0 (.int .i64 0) Try.underlying32 hi hz0 hz1 hz2 rfl _ 0 [] rfl (by first | exact own_.own_empty wc _ | exact (own_.own_empty wc _).alloc _ | exact own_second wc _ _) _ k _ (cellsI (xs.take k)) rfl L1.out (SRC1.out _ (by assumption)) (ints_one _) (by omega) (Below.size (by assumption)) ?_
             intro v1 w1 o1 g1
             rw [Nat.zero_add, List.nil_append] at o1
             have hB1 := below_step (by assumption) (Below.size (by assumption)) (by first | exact own_.own_empty wc _ | exact (own_.own_empty wc _).alloc _ | exact own_second wc _ _) g1)
          | (refine step_append_any rfl (.tmp 37) (.tmp 39) 32 rfl wc.heap.size 3 i0 (.int .i64 0) Try.underlying32 hi hz0 hz1 hz2 rfl _ k (cellsI (xs.take k)) rfl (by first | exact o1 | exact o1.alloc _) _ 1 1 [.int .i64 y] rfl rfl (by first | exact cell_one_new _ _ _ | exact news_far g1 cA (show some (wc.heap.size + 1) ≠ some wc.heap.size by simp) | exact news_far g1 cB (show some wc.heap.size ≠ some (wc.heap.size + 1) by simp)) (own_.one_cell _ rfl) (by omega) (Below.size (by assumption)) ?_
             intro v2 w2 o2 g2
             have hB2 := below_step (by assumption) (Below.size (by assumption)) (by first | exact o1 | exact o1.alloc _) g2)
          | (refine step_append_any rfl (.tmp 40) (.tmp 43) 32 rfl wc.heap.size 3 i0 (.int .i64 0) Try.underlying32 hi hz0 hz1 hz2 rfl _ (k + 1) (cellsI (xs.take k) ++ [Value.int .i64 y]) rfl o2 _ (n - k) _ (cellsI (xs.drop k)) rfl L2.out (SRC2.out _ (by assumption)) (ints_one _) (by omega) (Below.size (by assumption)) ?_
             intro v3 w3 o3 g3
             have hB3 := below_step (by assumption) (Below.size (by assumption)) o2 g3))
        all_goals (
          go_wp2_with fail
          go_ret
          exact ⟨_, rfl, by rw [HP.out]; exact own_.own_base (own_three (HL.out) hk (by assumption)) hB, by assumption⟩)
      · go_upto_region 6 with fail
        have k0 : (0 : Int) ≤ (k : Int) := Int.natCast_nonneg _
        have k1 : (k : Int) ≤ (c : Int) := by omega
        have k2 : (k : Int) ≤ (n : Int) := by omega
        have k3 : (n : Int) ≤ (c : Int) := by omega
        obtain ⟨i0, hi, hz0, hz1, hz2⟩ := info_parts lst.infoI
        have SRC1 := Lib.hid (src_take HC.out HL.out hk)
        have SRC2 := Lib.hid (src_drop (k := k) HC.out HL.out)
        have cA := two_last wc 3 y
        have cB := two_first wc 3 y
        have l1 : (cellsI (xs.take k)).length = k := by unfold cellsI; rw [List.length_map, List.length_take, HL.out]; omega
        have l2 : (cellsI (xs.drop k)).length = n - k := by unfold cellsI; rw [List.length_map, List.length_drop, HL.out]
        have L1 := Lib.hid l1
        have L2 := Lib.hid l2
        clear l1 l2
        go_region_held3 (fun w' => Below wc.heap.size wc w') (first
          | exact (Below.refl _ _).drew
          | assumption
          | exact ((Below.refl _ _).alloc (Nat.le_refl _) _).drew
          | exact (((Below.refl _ _).alloc (Nat.le_refl _) _).alloc (by rw [World.size_alloc]; omega) _).drew
          | exact Below.alloc (by assumption) (Below.size (by assumption)) _) (first
          | (refine step_append_any rfl (.tmp 33) (.tmp 36) 32 rfl wc.heap.size 3 i0 (.int .i64 0) Try.underlying32 hi hz0 hz1 hz2 rfl _ 0 [] rfl (by first | exact own_.own_empty wc _ | exact (own_.own_empty wc _).alloc _ | exact own_second wc _ _) _ k _ (cellsI (xs.take k)) rfl L1.out (SRC1.out _ (by assumption)) (ints_one _) (by omega) (Below.size (by assumption)) ?_
             intro v1 w1 o1 g1
             rw [Nat.zero_add, List.nil_append] at o1
             have hB1 := below_step (by assumption) (Below.size (by assumption)) (by first | exact own_.own_empty wc _ | exact (own_.own_empty wc _).alloc _ | exact own_second wc _ _) g1)
          | (refine step_append_any rfl (.tmp 37) (.tmp 39) 32 rfl wc.heap.size 3 i0 (.int .i64 0) Try.underlying32 hi hz0 hz1 hz2 rfl _ k (cellsI (xs.take k)) rfl (by first | exact o1 | exact o1.alloc _) _ 1 1 [.int .i64 y] rfl rfl (by first | exact cell_one_new _ _ _ | exact news_far g1 cA (show some (wc.heap.size + 1) ≠ some wc.heap.size by simp) | exact news_far g1 cB (show some wc.heap.size ≠ some (wc.heap.size + 1) by simp)) (own_.one_cell _ rfl) (by omega) (Below.size (by assumption)) ?_
             intro v2 w2 o2 g2
             have hB2 := below_step (by assumption) (Below.size (by assumption)) (by first | exact o1 | exact o1.alloc _) g2)
          | (refine step_append_any rfl (.tmp 40) (.tmp 43) 32 rfl wc.heap.size 3 i0 (.int .i64 0) Try.underlying32 hi hz0 hz1 hz2 rfl _ (k + 1) (cellsI (xs.take k) ++ [Value.int .i64 y]) rfl o2 _ (n - k) _ (cellsI (xs.drop k)) rfl L2.out (SRC2.out _ (by assumption)) (ints_one _) (by omega) (Below.size (by assumption)) ?_
             intro v3 w3 o3 g3
             have hB3 := below_step (by assumption) (Below.size (by assumption)) o2 g3))
        all_goals (
          go_wp2_with fail
          go_ret
          exact ⟨_, rfl, by rw [HP.out]; exact own_.own_base (own_three (HL.out) hk (by assumption)) hB, by assumption⟩)
end Go.Proofs.Ytglonedhoenkpaa.putr
