/- spec's DropSite. -/
import Derived.Test.YtpbopiecfnedgaaSitT
namespace Go.Proofs.Ytpbopiecfnedgaa.sitv
open Go.RowKit Go.Proofs.Ytpbopiecfnedgaa.ints Go.Proofs.Ytpbopiecfnedgaa.lst Go.Proofs.Ytpbopiecfnedgaa.sit Go.Proofs.Ytpbopiecfnedgaa.in_ Go.Proofs.Ytpbopiecfnedgaa.ats Go.Proofs.Ytpbopiecfnedgaa.sits Go.Proofs.Ytpbopiecfnedgaa.sitt

theorem cellsI_at {xs : List Int} {j : Nat} {u : Value} (h : (cellsI xs)[j]? = some u) : ∃ x, xs[j]? = some x ∧ u = .int .i64 x := by
  unfold cellsI at h
  rw [List.getElem?_map] at h
  cases hx : xs[j]? with
  | none => rw [hx] at h; cases h
  | some x => rw [hx] at h; exact ⟨x, rfl, by simpa using h.symm⟩
theorem ints_one (xs : List Int) : ∀ u ∈ cellsI xs, u.oneCell' = true := by
  intro u hu
  unfold cellsI at hu
  obtain ⟨x, _, rfl⟩ := List.mem_map.mp hu
  rfl
theorem src_take {w : World} {b o n k : Nat} {zs : List Int} (h : RdZ 2 w w.heap.size (some ⟨b, o, none⟩) n zs) (hn : 0 < n) :
    ∀ W, Below w.heap.size w W → ∀ j u, (cellsI (zs.take (k * 2)))[j]? = some u → W.cell? ((⟨b, o, none⟩ : Addr).add j) = some u := by
  intro W hb j u hu
  obtain ⟨x, hx, rfl⟩ := cellsI_at hu
  obtain ⟨b', o', e, hlt, hc⟩ := h.2 hn
  obtain ⟨rfl, rfl⟩ : b = b' ∧ o = o' := by injection e with e; injection e with e1 e2; exact ⟨e1, e2⟩
  have hj := (List.getElem?_eq_some_iff.1 hx).1
  rw [List.length_take] at hj
  rw [List.getElem?_take, if_pos (by omega)] at hx
  rw [Addr.add_lit, hb.cell (p := ⟨b, o + j, none⟩) hlt]
  exact hc j x hx
theorem src_drop {w : World} {b o n k : Nat} {zs : List Int} (h : RdZ 2 w w.heap.size (some ⟨b, o, none⟩) n zs) (hn : 0 < n) :
    ∀ W, Below w.heap.size w W → ∀ j u, (cellsI (zs.drop (k * 2)))[j]? = some u → W.cell? ((⟨b, o + k * 2, none⟩ : Addr).add j) = some u := by
  intro W hb j u hu
  obtain ⟨x, hx, rfl⟩ := cellsI_at hu
  obtain ⟨b', o', e, hlt, hc⟩ := h.2 hn
  obtain ⟨rfl, rfl⟩ : b = b' ∧ o = o' := by injection e with e; injection e with e1 e2; exact ⟨e1, e2⟩
  rw [List.getElem?_drop] at hx
  rw [Addr.add_lit, hb.cell (p := ⟨b, o + k * 2 + j, none⟩) hlt, Nat.add_assoc]
  exact hc _ x hx
theorem src_none {w : World} {n k : Nat} {zs : List Int} (g o : Nat) (hl : zs.length = n * 2) (hk : n ≤ k) :
    ∀ W, Below w.heap.size w W → ∀ j u, (cellsI (zs.drop (k * 2)))[j]? = some u → W.cell? ((⟨g, o, none⟩ : Addr).add j) = some u := by
  intro W _ j u hu
  rw [List.drop_eq_nil_of_le (by omega)] at hu
  simp [cellsI] at hu
theorem drV_no {zs : List Int} {n : Nat} {i : Int} (h : drB zs n i = false) : drV zs n i = [] := by unfold drV; rw [h]; rfl
theorem drV_yes {zs : List Int} {n : Nat} {i : Int} (h : drB zs n i = true) : drV zs n i = drT zs i.toNat := by unfold drV; rw [h]; rfl
theorem drN_no {zs : List Int} {n : Nat} {i : Int} (h : drB zs n i = false) : drN zs n i = 0 := by unfold drN; rw [h]; rfl
theorem drN_yes {zs : List Int} {n : Nat} {i : Int} (h : drB zs n i = true) : drN zs n i = n - 1 := by unfold drN; rw [h]; rfl
theorem infoS : (Try.prog.info? 34).map (fun i => (i.zero, i.size, i.bytes)) = some (some (.agg #[.int .i64 0, .int .i64 0]), 2, 16) := by kernel_rfl
theorem own_two {w : World} {B e n k : Nat} {v : Value} {zs : List Int} (h : w.ownsRow B e 2 v (k + (n - (k + 1))) (cellsI (zs.take (k * 2)) ++ cellsI (zs.drop ((k + 1) * 2)))) (hk : k < n) : w.ownsRow B e 2 v (n - 1) (cellsI (drT zs k)) := by
  unfold cellsI at h ⊢
  rw [← List.map_append, show k + (n - (k + 1)) = n - 1 by omega] at h
  exact h

set_option maxRecDepth 100000 in
set_option maxHeartbeats 4000000 in
theorem dropSite (zs : List Int) (i : Int) (A : Option Addr) (n c : Nat) (w : World) (hc : n ≤ c) (hn : n ≤ 1048576) (h1 : RdZ 2 w w.heap.size A n zs) :
    Calls Try.prog 36 #[.slice A n c, .int .i64 i] w fun e w' => ∃ v, e = .returned (.tuple #[v, .bool (drB zs n i)]) ∧ w'.ownsRow w.heap.size 34 2 v (drN zs n i) (cellsI (drV zs n i)) ∧ Below w.heap.size w w' := by
  have T := good10 zs A n c w (by omega) h1
  have T1 := Lib.hid (fun w => l1In i 0 ((n : Int) - 1) w)
  cases hq0 : siB zs n
  · rw [hq0] at T
    have T := Lib.hid T
    have HE := Lib.hid (show drB zs n i = false by unfold drB; rw [hq0]; rfl)
    clear h1 hq0 T1
    go_enter Try.func36, Try.ntmps36
    go_wp2_with fail
    refine T.out.mono ?_
    rintro e w1 ⟨rfl, hb⟩
    have OX := Lib.hid (own_emptyZ w1 34 2)
    have BX := Lib.hid (hb.alloc hb.size (.cells #[] 34))
    have LX := Lib.hid hb.size
    clear hb
    go_wp2_with fail
    go_ret2
    exact ⟨_, by rw [HE.out]; rfl, by rw [drN_no HE.out, drV_no HE.out]; exact own_.own_base OX.out LX.out, BX.out⟩
  rw [hq0] at T
  have T := Lib.hid T
  have hn1 := (siB_yes hq0).1
  have hn5 := (siB_yes hq0).2.1
  have e1 : IntKind.i64.wrap ((n : Int) - 1) = (n : Int) - 1 := IntWalk.i64_in _ (by omega)
  cases hq1 : isIn i 0 ((n : Int) - 1)
  · rw [hq1] at T1
    have HE := Lib.hid (show drB zs n i = false by unfold drB; rw [hq0, hq1]; rfl)
    clear h1 hq0 hq1
    go_enter Try.func36, Try.ntmps36
    go_wp2_with fail
    refine T.out.mono ?_
    rintro e w1 ⟨rfl, hb⟩
    have OX := Lib.hid (own_emptyZ w1 34 2)
    have BX := Lib.hid (hb.alloc hb.size (.cells #[] 34))
    have LX := Lib.hid hb.size
    clear hb
    go_wp2_with fail
    refine (T1.out w1).mono ?_
    rintro e w' ⟨rfl, rfl⟩
    go_wp2_with fail
    go_ret2
    exact ⟨_, by rw [HE.out]; rfl, by rw [drN_no HE.out, drV_no HE.out]; exact own_.own_base OX.out LX.out, BX.out⟩
  rw [hq1] at T1
  by_cases hone : n = 1
  · have HE := Lib.hid (show drB zs n i = false by unfold drB; rw [hq0, hq1, decide_eq_false (fun h => h hone)]; rfl)
    have o1 : ((n : Int) == 1) = true := beq_iff_eq.mpr (by omega)
    clear h1 hq0 hq1 hone
    go_enter Try.func36, Try.ntmps36
    go_wp2_with fail
    refine T.out.mono ?_
    rintro e w1 ⟨rfl, hb⟩
    have OX := Lib.hid (own_emptyZ w1 34 2)
    have BX := Lib.hid (hb.alloc hb.size (.cells #[] 34))
    have LX := Lib.hid hb.size
    clear hb
    go_wp2_with fail
    refine (T1.out w1).mono ?_
    rintro e w' ⟨rfl, rfl⟩
    go_wp2_with fail
    go_ret2
    exact ⟨_, by rw [HE.out]; rfl, by rw [drN_no HE.out, drV_no HE.out]; exact own_.own_base OX.out LX.out, BX.out⟩
  have o1 : ((n : Int) == 1) = false := beq_eq_false_iff_ne.mpr (by omega)
  have HE := Lib.hid (show drB zs n i = true by unfold drB; rw [hq0, hq1, decide_eq_true (show n ≠ 1 from hone)]; rfl)
  obtain ⟨k, rfl⟩ : ∃ k : Nat, i = (k : Int) := ⟨i.toNat, by have : 0 ≤ i ∧ i ≤ (n : Int) - 1 := of_decide_eq_true hq1; omega⟩
  have hk : k < n := by have : 0 ≤ (k : Int) ∧ (k : Int) ≤ (n : Int) - 1 := of_decide_eq_true hq1; omega
  have HV := Lib.hid (show drV zs n k = drT zs k by rw [drV_yes HE.out]; rfl)
  have HN := Lib.hid (drN_yes HE.out)
  have HL := Lib.hid h1.1
  obtain ⟨b, o, rfl, hbl, -⟩ := h1.2 (by omega)
  have HR := Lib.hid h1
  clear h1 hq0 hq1 hone
  obtain ⟨i0, hi, hz0, hz1, hz2⟩ := info_parts infoS
  obtain ⟨p, hp⟩ : ∃ p : Nat, p = k + 1 := ⟨_, rfl⟩
  have hpk : (p : Int) = (k : Int) + 1 := by omega
  have e2 : IntKind.i64.wrap ((k : Int) + 1) = (p : Int) := by rw [IntWalk.i64_in _ (by omega)]; omega
  have L1 := Lib.hid (show (cellsI (zs.take (k * 2))).length = k * 2 by unfold cellsI; rw [List.length_map, List.length_take, HL.out]; omega)
  have L2 := Lib.hid (show (cellsI (zs.drop (p * 2))).length = (n - p) * 2 by unfold cellsI; rw [List.length_map, List.length_drop, HL.out]; omega)
  have HP := Lib.hid hp
  have k0 : (0 : Int) ≤ (k : Int) := Int.natCast_nonneg _
  have k1 : (k : Int) ≤ (c : Int) := by omega
  have k2 : (p : Int) ≤ (n : Int) := by omega
  have k3 : (n : Int) ≤ (c : Int) := by omega
  have k4 : (0 : Int) ≤ (p : Int) := by omega
  have k5 : (p : Int) ≤ (c : Int) := by omega
  have kp : (k : Int) ≤ (p : Int) := by omega
  have hkn : k + (n - p) ≤ 1048576 := by omega
  have hcc : c = p ∨ ¬ c = p := by omega
  clear hp hpk
  rcases hcc with hck | hck
  · obtain rfl : p = c := hck.symm
    have HNP := Lib.hid (show n ≤ k + 1 by have := HP.out; omega)
    clear hck
    go_enter Try.func36, Try.ntmps36
    go_wp2_with fail
    refine T.out.mono ?_
    rintro e w1 ⟨rfl, hb⟩
    have BX := Lib.hid hb
    clear hb
    go_wp2_with fail
    refine (T1.out w1).mono ?_
    rintro e w' ⟨rfl, rfl⟩
    go_upto_region 3 with fail
    have SRC1 := Lib.hid (src_take (k := k) (HR.out.next BX.out) (by omega))
    have SRC2 := Lib.hid (src_drop (k := p) (HR.out.next BX.out) (by omega))
    have SRC3 := Lib.hid (fun (h : n ≤ p) => src_none (w := w1) b o HL.out h)
    have HD0 := Lib.hid (show cellsI (zs.drop ((k + 1) * 2)) = [] by unfold cellsI; rw [List.drop_eq_nil_of_le (by rw [HL.out]; have := HNP.out; omega)]; rfl)
    clear HR
    go_region_held3 (fun w' => Below w1.heap.size w1 w') (first
      | exact (Below.refl _ _).drew
      | assumption
      | exact ((Below.refl _ _).alloc (Nat.le_refl _) _).drew
      | exact Below.alloc (by assumption) (Below.size (by assumption)) _) (first
      | (refine step_append_sz rfl (.tmp 23) (.tmp 26) 25 rfl w1.heap.size 34 i0 (.agg #[.int .i64 0, .int .i64 0]) 2 16 Try.underlying25 hi hz0 hz1 hz2 rfl (by decide) _ 0 [] rfl (own_emptyZ w1 _ 2) _ k _ (cellsI (zs.take (k * 2))) rfl L1.out (SRC1.out _ (by assumption)) (ints_one _) (by unfold maxLen; omega) (by omega) (Below.size (by assumption)) ?_
         intro v1 w2 oA gA nA
         rw [Nat.zero_add, List.nil_append] at oA
         have hB1 : Below w1.heap.size w1 w2 := (((Below.refl w1.heap.size w1).alloc (Nat.le_refl _) (.cells #[] 34)).drew).grown gA (by simp) (own_.row_ge (own_emptyZ w1 34 2)))
      | (refine step_append_sz rfl (.tmp 27) (.tmp 31) 25 rfl w1.heap.size 34 i0 (.agg #[.int .i64 0, .int .i64 0]) 2 16 Try.underlying25 hi hz0 hz1 hz2 rfl (by decide) _ k (cellsI (zs.take (k * 2))) rfl oA _ 0 _ [] rfl rfl (fun j u hu => by simp at hu) (fun u hu => by simp at hu) (by unfold maxLen; omega) (by omega) (Below.size hB1) ?_
         intro v2 w3 oB gB nB
         have hB2 : Below w1.heap.size w1 w3 := hB1.grown gB hB1.size (own_.row_ge oA)))
    all_goals (
      have OX := Lib.hid (own_two (n := n) (by rw [HD0.out, List.append_nil] ; rw [List.append_nil] at oB; rw [show k + (n - (k + 1)) = k + 0 by have := HNP.out; omega]; exact oB) hk)
      have BY := Lib.hid hB2
      clear oA gA nA hB1 oB gB nB hB2
      go_wp2_with fail
      go_ret2
      exact ⟨_, by rw [HE.out]; rfl, by rw [HN.out, HV.out]; exact own_.own_base OX.out BX.out.size, BX.out.trans (BY.out.mono BX.out.size)⟩)
  · skip
    go_enter Try.func36, Try.ntmps36
    go_wp2_with fail
    refine T.out.mono ?_
    rintro e w1 ⟨rfl, hb⟩
    have BX := Lib.hid hb
    clear hb
    go_wp2_with fail
    refine (T1.out w1).mono ?_
    rintro e w' ⟨rfl, rfl⟩
    go_upto_region 3 with fail
    have SRC1 := Lib.hid (src_take (k := k) (HR.out.next BX.out) (by omega))
    have SRC2 := Lib.hid (src_drop (k := p) (HR.out.next BX.out) (by omega))
    have SRC3 := Lib.hid (fun (h : n ≤ p) => src_none (w := w1) b o HL.out h)
    clear HR
    go_region_held3 (fun w' => Below w1.heap.size w1 w') (first
      | exact (Below.refl _ _).drew
      | assumption
      | exact ((Below.refl _ _).alloc (Nat.le_refl _) _).drew
      | exact Below.alloc (by assumption) (Below.size (by assumption)) _) (first
      | (refine step_append_sz rfl (.tmp 23) (.tmp 26) 25 rfl w1.heap.size 34 i0 (.agg #[.int .i64 0, .int .i64 0]) 2 16 Try.underlying25 hi hz0 hz1 hz2 rfl (by decide) _ 0 [] rfl (own_emptyZ w1 _ 2) _ k _ (cellsI (zs.take (k * 2))) rfl L1.out (SRC1.out _ (by assumption)) (ints_one _) (by unfold maxLen; omega) (by omega) (Below.size (by assumption)) ?_
         intro v1 w2 oA gA nA
         rw [Nat.zero_add, List.nil_append] at oA
         have hB1 : Below w1.heap.size w1 w2 := (((Below.refl w1.heap.size w1).alloc (Nat.le_refl _) (.cells #[] 34)).drew).grown gA (by simp) (own_.row_ge (own_emptyZ w1 34 2)))
      | (refine step_append_sz rfl (.tmp 27) (.tmp 31) 25 rfl w1.heap.size 34 i0 (.agg #[.int .i64 0, .int .i64 0]) 2 16 Try.underlying25 hi hz0 hz1 hz2 rfl (by decide) _ k (cellsI (zs.take (k * 2))) rfl oA _ (n - p) _ (cellsI (zs.drop (p * 2))) rfl L2.out (by first | exact SRC2.out _ hB1 | exact SRC3.out (by omega) _ hB1) (ints_one _) (by unfold maxLen; omega) (by omega) (Below.size hB1) ?_
         intro v2 w3 oB gB nB
         have hB2 : Below w1.heap.size w1 w3 := hB1.grown gB hB1.size (own_.row_ge oA)))
    all_goals (
      rw [HP.out] at oB
      have OX := Lib.hid (own_two oB hk)
      have BY := Lib.hid hB2
      clear oA gA nA hB1 oB gB nB hB2
      go_wp2_with fail
      go_ret2
      exact ⟨_, by rw [HE.out]; rfl, by rw [HN.out, HV.out]; exact own_.own_base OX.out BX.out.size, BX.out.trans (BY.out.mono BX.out.size)⟩)
end Go.Proofs.Ytpbopiecfnedgaa.sitv
