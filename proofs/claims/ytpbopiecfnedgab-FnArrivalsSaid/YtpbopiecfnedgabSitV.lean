/- spec's DropSite. -/
import Derived.Test.YtpbopiecfnedgabSitT
namespace Go.Proofs.Ytpbopiecfnedgab.sitv
open Go.RowKit Go.Proofs.Ytpbopiecfnedgab.ints Go.Proofs.Ytpbopiecfnedgab.lst Go.Proofs.Ytpbopiecfnedgab.sit Go.Proofs.Ytpbopiecfnedgab.in_ Go.Proofs.Ytpbopiecfnedgab.ats Go.Proofs.Ytpbopiecfnedgab.sits Go.Proofs.Ytpbopiecfnedgab.sitt

theorem cellsI_at {xs : List Int} {j : Nat} {u : Value} (h : (cellsI xs)[j]? = some u) : ∃ x, xs[j]? = some x ∧ u = .int .i64 x := by
  unfold cellsI at h
  rw [List.getElem?_map] at h
  cases hx : xs[j]? with
  | none => rw [hx] at h; cases h
  | some x => rw [hx] at h; exact ⟨x, rfl, by simpa using h.symm⟩
theorem ints_one (xs : List Int) : ∀ u ∈ cellsI xs, u.oneCell' = true := by
  intro u hu
  unfold cellsI at hu
  obtain ⟨x, _, rfl⟩ := List.mem_map.mp hu
  rfl
theorem src_take {w : World} {b o n k : Nat} {zs : List Int} (h : RdZ 2 w w.heap.size (some ⟨b, o, none⟩) n zs) (hn : 0 < n) :
    ∀ W, Below w.heap.size w W → ∀ j u, (cellsI (zs.take (k * 2)))[j]? = some u → W.cell? ((⟨b, o, none⟩ : Addr).add j) = some u := by
  intro W hb j u hu
  obtain ⟨x, hx, rfl⟩ := cellsI_at hu
  obtain ⟨b', o', e, hlt, hc⟩ := h.2 hn
  obtain ⟨rfl, rfl⟩ : b = b' ∧ o = o' := by injection e with e; injection e with e1 e2; exact ⟨e1, e2⟩
  have hj := (List.getElem?_eq_some_iff.1 hx).1
  rw [List.length_take] at hj
  rw [List.getElem?_take, if_pos (by omega)] at hx
  rw [Addr.add_lit, hb.cell (p := ⟨b, o + j, none⟩) hlt]
  exact hc j x hx
theorem src_drop {w : World} {b o n k : Nat} {zs : List Int} (h : RdZ 2 w w.heap.size (some ⟨b, o, none⟩) n zs) (hn : 0 < n) :
    ∀ W, Below w.heap.size w W → ∀ j u, (cellsI (zs.drop (k * 2)))[j]? = some u → W.cell? ((⟨b, o + k * 2, none⟩ : Addr).add j) = some u := by
  intro W hb j u hu
  obtain ⟨x, hx, rfl⟩ := cellsI_at hu
  obtain ⟨b', o', e, hlt, hc⟩ := h.2 hn
  obtain ⟨rfl, rfl⟩ : b = b' ∧ o = o' := by injection e with e; injection e with e1 e2; exact ⟨e1, e2⟩
  rw [List.getElem?_drop] at hx
  rw [Addr.add_lit, hb.cell (p := ⟨b, o + k * 2 + j, none⟩) hlt, Nat.add_assoc]
  exact hc _ x hx
theorem src_none {w : World} {n k : Nat} {zs : List Int} (g o : Nat) (hl : zs.length = n * 2) (hk : n ≤ k) :
    ∀ W, Below w.heap.size w W → ∀ j u, (cellsI (zs.drop (k * 2)))[j]? = some u → W.cell? ((⟨g, o, none⟩ : Addr).add j) = some u := by
  intro W _ j u hu
  rw [List.drop_eq_nil_of_le (by omega)] at hu
  simp [cellsI] at hu
theorem drV_no {zs : List Int} {n : Nat} {i : Int} (h : drB zs n i = false) : drV zs n i = [] := by unfold drV; rw [h]; rfl
theorem drV_yes {zs : List Int} {n : Nat} {i : Int} (h : drB zs n i = true) : drV zs n i = drT zs i.toNat := by unfold drV; rw [h]; rfl
theorem drN_no {zs : List Int} {n : Nat} {i : Int} (h : drB zs n i = false) : drN zs n i = 0 := by unfold drN; rw [h]; rfl
theorem drN_yes {zs : List Int} {n : Nat} {i : Int} (h : drB zs n i = true) : drN zs n i = n - 1 := by unfold drN; rw [h]; rfl
theorem infoS : (Try.prog.info? 32).map (fun i => (i.zero, i.size, i.bytes)) = some (some (.agg #[.int .i64 0, .int .i64 0]), 2, 16) := by kernel_rfl
theorem own_two {w : World} {B e n k : Nat} {v : Value} {zs : List Int} (h : w.ownsRow B e 2 v (k + (n - (k + 1))) (cellsI (zs.take (k * 2)) ++ cellsI (zs.drop ((k + 1) * 2)))) (hk : k < n) : w.ownsRow B e 2 v (n - 1) (cellsI (drT zs k)) := by
  unfold cellsI at h ⊢
  rw [← List.map_append, show k + (n - (k + 1)) = n - 1 by omega] at h
  exact h

end Go.Proofs.Ytpbopiecfnedgab.sitv
