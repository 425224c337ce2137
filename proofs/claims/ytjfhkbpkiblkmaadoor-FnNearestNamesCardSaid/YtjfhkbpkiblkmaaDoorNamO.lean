/- Chapter 3, plain mathematics for the law of nearest names: a nearest name's own bits differ in nothing; what is divided is put together again. -/
import Derived.Test.YtjfhkbpkiblkmaaDoorNamM
import Derived.Test.YtjfhkbpkiblkmaaDoorNamN
import Derived.Test.YtjfhkbpkiblkmaaDoorNamLS
namespace Go.Proofs.YtjfhkbpkiblkmaaDoor.namo
open Go.RowKit Go.Proofs.YtjfhkbpkiblkmaaDoor.bin Go.Proofs.YtjfhkbpkiblkmaaDoor.good_ Go.Proofs.YtjfhkbpkiblkmaaDoor.bitsi Go.Proofs.YtjfhkbpkiblkmaaDoor.nam Go.Proofs.YtjfhkbpkiblkmaaDoor.strs

theorem s_char (f : Nat → Nat) : ∀ n, (∀ j, j < n → f j ≤ 48) → (∀ j, j < n → sL f n ≤ f j) ∧ (0 < n → sB f n < n ∧ f (sB f n) = sL f n) ∧ (sT f n = false → ∀ j, j < n → f j = sL f n → j = sB f n) ∧ (sT f n = true → ∃ j, j < n ∧ j ≠ sB f n ∧ f j = sL f n)
  | 0, _ => ⟨fun j h => absurd h (Nat.not_lt_zero _), fun h => absurd h (Nat.lt_irrefl _), fun _ j h => absurd h (Nat.not_lt_zero _), fun h => by simp [sT] at h⟩
  | k + 1, hf => by
    obtain ⟨h1, h2, h3, h4⟩ := s_char f k (fun j hj => hf j (by omega))
    have hk := hf k (by omega)
    have h0 : k = 0 → sL f k = 49 := fun e => by subst e; rfl
    by_cases c1 : f k < sL f k
    · rw [sL, sB, sT, if_pos c1, if_pos c1, if_pos c1]
      refine ⟨fun j hj => ?_, fun _ => ⟨by omega, rfl⟩, fun _ j hj he => ?_, fun h => by cases h⟩
      · rcases Nat.lt_or_ge j k with hl | hl
        · have := h1 j hl; omega
        · obtain rfl : j = k := by omega
          exact Nat.le_refl _
      · rcases Nat.lt_or_ge j k with hl | hl
        · have := h1 j hl; omega
        · omega
    · rw [sL, sB, sT, if_neg c1, if_neg c1, if_neg c1]
      have hk0 : 0 < k := by
        rcases Nat.eq_zero_or_pos k with e | e
        · have := h0 e; omega
        · exact e
      obtain ⟨g1, g2⟩ := h2 hk0
      refine ⟨fun j hj => ?_, fun _ => ⟨by omega, g2⟩, ?_, ?_⟩
      · rcases Nat.lt_or_ge j k with hl | hl
        · exact h1 j hl
        · obtain rfl : j = k := by omega
          omega
      · intro ht j hj he
        split at ht
        · cases ht
        · rename_i c2
          rcases Nat.lt_or_ge j k with hl | hl
          · exact h3 ht j hl he
          · obtain rfl : j = k := by omega
            exact absurd he c2
      · intro ht
        split at ht
        · rename_i c2
          exact ⟨k, by omega, by omega, c2⟩
        · obtain ⟨j, a, b, c⟩ := h4 ht
          exact ⟨j, by omega, b, c⟩
theorem s_only {f : Nat → Nat} {n i : Nat} (hf : ∀ j, j < n → f j ≤ 48) (hi : i < n) (h : ∀ j, j < n → j ≠ i → f i < f j) : sB f n = i ∧ sL f n = f i ∧ sT f n = false := by
  obtain ⟨h1, h2, _, h4⟩ := s_char f n hf
  obtain ⟨g1, g2⟩ := h2 (by omega)
  have hB : sB f n = i := Decidable.byContradiction fun hne => by
    have := h (sB f n) g1 hne
    have := h1 i hi
    omega
  rw [hB] at g2
  refine ⟨hB, g2.symm, ?_⟩
  cases ht : sT f n
  · rfl
  · obtain ⟨j, a, b, c⟩ := h4 ht
    rw [hB] at b
    have := h j a b
    omega
theorem df_zero : ∀ (l m : List UInt8), l.length = m.length → (ones (List.zipWith df l m) = 0 ↔ l = m)
  | [], [], _ => by simp [ones]
  | [], _ :: _, h => by simp at h
  | _ :: _, [], h => by simp at h
  | a :: l, b :: m, h => by
    have ih := df_zero l m (by simpa using h)
    unfold ones at *
    rw [List.zipWith_cons_cons, List.countP_cons]
    by_cases hab : a = b
    · subst hab
      have : df a a = 48 := by unfold df; rw [if_pos rfl]
      rw [this]
      simp [ih]
    · have : df a b = 49 := by unfold df; rw [if_neg hab]
      rw [this]
      simp [hab]
theorem dst_zero {b x : ByteArray} (h : b.size = 48) : dst b x = 0 ↔ nbA x = b := by
  unfold dst
  rw [df_zero _ _ (by rw [len_list, len_list, nbA_size, h])]
  exact ⟨fun h => aid.str_ext h, fun h => by rw [h]⟩
theorem nb_inj {x y : ByteArray} (hx : nmB x = true) (hy : nmB y = true) (h : nbA x = nbA y) : x = y := by
  have h1 := pn_all (l := x.data.toList) hx
  have h2 := pn_all (l := y.data.toList) hy
  have h3 : nbL x.data.toList 8 = nbL y.data.toList 8 := congrArg (fun z : ByteArray => z.data.toList) h
  rw [h3, h2] at h1
  exact aid.str_ext h1.symm
theorem nrI_of {xs : List ByteArray} {b : ByteArray} (h : nrB xs b = true) : nrI xs b = sB (fun i => dst b (at_ xs i)) xs.length := by unfold nrI; rw [h, if_pos rfl]
theorem nrV_of {xs : List ByteArray} {b : ByteArray} (h : nrB xs b = true) : nrV xs b = sL (fun i => dst b (at_ xs i)) xs.length := by unfold nrV; rw [h, if_pos rfl]
/-- A nearest name, asked again with its own bits. -/
theorem near_own {xs : List ByteArray} {b : ByteArray} (h : nrB xs b = true) : ∃ x, nrI xs b < xs.length ∧ xs[nrI xs b]? = some x ∧ nmB x = true ∧ nrB xs (nbA x) = true ∧ nrI xs (nbA x) = nrI xs b ∧ nrV xs (nbA x) = 0 ∧ (nrV xs b = 0 ↔ nbA x = b) := by
  have h0 := h
  unfold nrB at h0
  simp only [Bool.and_eq_true, decide_eq_true_eq, Bool.not_eq_true'] at h0
  obtain ⟨hlen, hrd, h48, hall, ht⟩ := h0
  have hI : nrI xs b = sB (fun i => dst b (at_ xs i)) xs.length := by unfold nrI; rw [h, if_pos rfl]
  have hV : nrV xs b = sL (fun i => dst b (at_ xs i)) xs.length := by unfold nrV; rw [h, if_pos rfl]
  obtain ⟨h1, h2, h3, _⟩ := s_char (fun i => dst b (at_ xs i)) xs.length (fun j _ => dst_le _ _)
  obtain ⟨g1, g2⟩ := h2 (by omega)
  rw [← hI] at g1 g2
  have hu := h3 ht
  rw [← hI, ← hV] at hu
  rw [← hV] at g2
  refine ⟨xs[nrI xs b], g1, List.getElem?_eq_getElem g1, ?_⟩
  have hat : ∀ j (hj : j < xs.length), at_ xs j = xs[j] := fun j hj => at_of (List.getElem?_eq_getElem hj)
  have hnm : ∀ j (hj : j < xs.length), nmB xs[j] = true := fun j hj => List.all_eq_true.1 hall _ (List.getElem_mem hj)
  have hx := hnm _ g1
  have g3 : dst b xs[nrI xs b] = nrV xs b := by rw [← hat _ g1]; exact g2
  have hz : dst (nbA xs[nrI xs b]) xs[nrI xs b] = 0 := (dst_zero (nbA_size _)).2 rfl
  have hfi : (fun i => dst (nbA xs[nrI xs b]) (at_ xs i)) (nrI xs b) = 0 := by show dst _ (at_ xs _) = 0; rw [hat _ g1]; exact hz
  obtain ⟨s1, s2, s3⟩ := s_only (f := fun i => dst (nbA xs[nrI xs b]) (at_ xs i)) (n := xs.length) (i := nrI xs b) (fun j _ => dst_le _ _) g1 (fun j hj hne => by
    show dst _ (at_ xs (nrI xs b)) < dst _ (at_ xs j)
    rw [hat _ g1, hz, hat j hj]
    refine Nat.pos_of_ne_zero fun he => hne ?_
    have e1 := (dst_zero (nbA_size _)).1 he
    have e2 := nb_inj (hnm j hj) hx e1
    exact hu j hj (by show dst b (at_ xs j) = _; rw [hat j hj, e2]; exact g3))
  have hB : nrB xs (nbA xs[nrI xs b]) = true := by
    unfold nrB
    rw [decide_eq_true hlen, nbA_rd, decide_eq_true (nbA_size _), hall, s3]
    rfl
  refine ⟨hx, hB, ?_, ?_, ?_⟩
  · rw [nrI_of hB, s1]
  · rw [nrV_of hB, s2]
    exact hfi
  · rw [← g3]
    exact dst_zero h48
/-- What is divided is put together again. -/
theorem split_back {s : ByteArray} (h : naml.sfB s = true) : naml.sfL s ++ num.txt (naml.sfN s) = s ∧ 1 ≤ naml.sfN s ∧ naml.sfN s ≤ 9999 := by
  have h0 := h
  unfold naml.sfB at h0
  simp only [Bool.and_eq_true, decide_eq_true_eq] at h0
  obtain ⟨h1, h2, h3⟩ := h0
  have ht := (naml.num_text h2 h3.1 h3.2).2.2
  have hN : naml.sfN s = read.rdN (naml.rest s) := by unfold naml.sfN; rw [h, if_pos rfl]
  have hL : naml.sfL s = s.extract 0 (naml.lead s.data.toList) := by unfold naml.sfL; rw [h, if_pos rfl]
  refine ⟨?_, by rw [hN]; exact h3.1, by rw [hN]; exact h3.2⟩
  rw [hN, ht, hL]
  apply aid.str_ext
  rw [aid.str_app, naml.rest_list, sub_list, List.drop_zero, Nat.sub_zero, List.take_append_drop]
/-- The row of a list of strings is a slice. -/
theorem own_slice {w : World} {B e : Nat} {v : Value} {xs : List ByteArray} (h : w.ownsRow B e 1 v xs.length (xs.map Value.string)) : ∃ A c, v = .slice A xs.length c := by
  rcases h.2 with ⟨rfl, h0⟩ | ⟨g, cap, cur, rfl, _⟩
  · exact ⟨_, _, by rw [h0]⟩
  · exact ⟨_, _, rfl⟩
end Go.Proofs.YtjfhkbpkiblkmaaDoor.namo
