/- spec's HitTrack and MissTrack. -/
import Derived.Test.YtmandeiiaioodaaTrkT
import Derived.Test.YtmandeiiaioodaaRws
import Derived.Test.YtmandeiiaioodaaTailH
import Derived.OwnWalk
namespace Go.Proofs.Ytmandeiiaioodaa.trku
open Go.RowKit Go.Proofs.Ytmandeiiaioodaa.ints Go.Proofs.Ytmandeiiaioodaa.lst Go.Proofs.Ytmandeiiaioodaa.in_ Go.Proofs.Ytmandeiiaioodaa.ats Go.Proofs.Ytmandeiiaioodaa.pos Go.Proofs.Ytmandeiiaioodaa.trk Go.Proofs.Ytmandeiiaioodaa.trkm Go.Proofs.Ytmandeiiaioodaa.trke Go.Proofs.Ytmandeiiaioodaa.intc Go.Proofs.Ytmandeiiaioodaa.rws Go.Proofs.Ytmandeiiaioodaa.trks Go.Proofs.Ytmandeiiaioodaa.trkt Go.Proofs.Ytmandeiiaioodaa.tailh
set_option linter.unusedSimpArgs false

theorem cellsI_at {xs : List Int} {j : Nat} {u : Value} (h : (cellsI xs)[j]? = some u) : ∃ x, xs[j]? = some x ∧ u = .int .i64 x := by
  unfold cellsI at h
  rw [List.getElem?_map] at h
  cases hx : xs[j]? with
  | none => rw [hx] at h; cases h
  | some x => rw [hx] at h; exact ⟨x, rfl, by simpa using h.symm⟩
theorem ints_one (xs : List Int) : ∀ u ∈ cellsI xs, u.oneCell' = true := by
  intro u hu
  unfold cellsI at hu
  obtain ⟨x, _, rfl⟩ := List.mem_map.mp hu
  rfl
/-- The cells of a list, from number m on. -/
theorem src_at {w : World} {B n m b o : Nat} {zs : List Int} (h : RdZ 6 w B (some ⟨b, o, none⟩) n zs) (hn : 0 < n) : ∀ j u, (cellsI (zs.drop m))[j]? = some u → w.cell? ((⟨b, o + m, none⟩ : Addr).add j) = some u := by
  intro j u hu
  obtain ⟨x, hx, rfl⟩ := cellsI_at hu
  obtain ⟨b', o', e, hlt, hc⟩ := h.2 hn
  obtain ⟨rfl, rfl⟩ : b = b' ∧ o = o' := by injection e with e; injection e with e1 e2; exact ⟨e1, e2⟩
  rw [List.getElem?_drop] at hx
  rw [Addr.add_lit, Nat.add_assoc]
  exact hc _ x hx
theorem src_take {w : World} {B n b o : Nat} {zs : List Int} (k : Nat) (h : RdZ 6 w B (some ⟨b, o, none⟩) n zs) (hn : 0 < n) : ∀ j u, (cellsI (zs.take k))[j]? = some u → w.cell? ((⟨b, o, none⟩ : Addr).add j) = some u := by
  intro j u hu
  obtain ⟨x, hx, rfl⟩ := cellsI_at hu
  rw [List.getElem?_take] at hx
  split at hx
  · have := src_at (m := 0) h hn j (.int .i64 x) (by rw [List.drop_zero]; unfold cellsI; rw [List.getElem?_map, hx]; rfl)
    exact this
  · cases hx
theorem cells_len (zs : List Int) : (cellsI zs).length = zs.length := by unfold cellsI; rw [List.length_map]
theorem cell_fld {zs : List Int} {n k i : Nat} (hl : zs.length = n * 6) (hk : k < n) (hi : i < 6) : (cellsI zs)[k * 6 + i]? = some (.int .i64 (fld 6 zs k i)) := by
  unfold cellsI fld
  rw [List.getElem?_map, List.getD_eq_getElem?_getD, List.getElem?_eq_getElem (show k * 6 + i < zs.length by omega)]; rfl
/-- Six cells are written anew. -/
theorem set_six {zs : List Int} {n k : Nat} (a b d f g q : Int) (hl : zs.length = n * 6) (hk : k < n) :
    ((((((cellsI zs).set (k * 6) (.int .i64 a)).set (k * 6 + 1) (.int .i64 b)).set (k * 6 + 2) (.int .i64 d)).set (k * 6 + 3) (.int .i64 f)).set (k * 6 + 4) (.int .i64 g)).set (k * 6 + 5) (.int .i64 q) = cellsI (putR zs k (six a b d f g q)) := by
  unfold cellsI putR
  refine List.ext_getElem? fun i => ?_
  simp only [List.getElem?_set, List.length_set, List.length_map, List.getElem?_map]
  rcases Nat.lt_or_ge i (k * 6) with h | h
  · rw [if_neg (by omega), if_neg (by omega), if_neg (by omega), if_neg (by omega), if_neg (by omega), if_neg (by omega), List.append_assoc, List.getElem?_append_left (by rw [List.length_take]; omega), List.getElem?_take, if_pos h]
  · rcases Nat.lt_or_ge i (k * 6 + 6) with h2 | h2
    · obtain ⟨j, rfl⟩ : ∃ j, i = k * 6 + j := ⟨i - k * 6, by omega⟩
      rw [List.append_assoc, List.getElem?_append_right (by rw [List.length_take]; omega), List.length_take, Nat.min_eq_left (by omega), Nat.add_sub_cancel_left, List.getElem?_append_left (by rw [six_length]; omega)]
      have : j = 0 ∨ j = 1 ∨ j = 2 ∨ j = 3 ∨ j = 4 ∨ j = 5 := by omega
      rcases this with h | h | h | h | h | h <;> subst h <;> (repeat (first | rw [if_pos (by omega)] | rw [if_neg (by omega)])) <;> first | rfl | (rw [if_pos (by omega)]; rfl) | (simp; omega)
    · rw [if_neg (by omega), if_neg (by omega), if_neg (by omega), if_neg (by omega), if_neg (by omega), if_neg (by omega), List.getElem?_append_right (by rw [List.length_append, List.length_take, six_length]; omega), List.length_append, List.length_take, six_length, List.getElem?_drop]
      congr 2
      omega
theorem put_length {zs : List Int} {n k : Nat} (a b d f g q : Int) (hl : zs.length = n * 6) (hk : k < n) : (putR zs k (six a b d f g q)).length = n * 6 := by
  unfold putR
  rw [List.length_append, List.length_append, List.length_take, List.length_drop, six_length, hl]; omega

end Go.Proofs.Ytmandeiiaioodaa.trku
