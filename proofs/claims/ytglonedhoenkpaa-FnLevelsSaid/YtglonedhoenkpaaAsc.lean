/- Ascending lists of integers: plain mathematics (slices.Compact behind slices.Sort leaves each member once, ascending), and what a slice owns behind slices.Sort and slices.Compact. -/
import Derived.Test.YtglonedhoenkpaaAid
import Derived.Lib.SlicesCompact
import Derived.Sort.OwnSortedInts
namespace Go.Proofs.Ytglonedhoenkpaa.asc
open Go.RowKit Go.Sort

theorem asc_ext : ∀ {xs ys : List Int}, xs.Pairwise (· < ·) → ys.Pairwise (· < ·) → (∀ z, z ∈ xs ↔ z ∈ ys) → xs = ys
  | [], [], _, _, _ => rfl
  | [], y :: ys, _, _, h => absurd ((h y).2 List.mem_cons_self) (by simp)
  | x :: xs, [], _, _, h => absurd ((h x).1 List.mem_cons_self) (by simp)
  | x :: xs, y :: ys, hx, hy, h => by
    rw [List.pairwise_cons] at hx hy
    have h1 := List.mem_cons.1 ((h x).1 List.mem_cons_self)
    have h2 := List.mem_cons.1 ((h y).2 List.mem_cons_self)
    have e : x = y := by
      rcases h1 with h1 | h1
      · exact h1
      · rcases h2 with h2 | h2
        · exact h2.symm
        · have a1 := hy.1 x h1
          have a2 := hx.1 y h2
          omega
    subst e
    have : xs = ys := asc_ext hx.2 hy.2 fun z => by
      constructor
      · intro hz
        have hlt := hx.1 z hz
        rcases List.mem_cons.1 ((h z).1 (List.mem_cons_of_mem _ hz)) with e | hh
        · omega
        · exact hh
      · intro hz
        have hlt := hy.1 z hz
        rcases List.mem_cons.1 ((h z).2 (List.mem_cons_of_mem _ hz)) with e | hh
        · omega
        · exact hh
    rw [this]

theorem up_asc (d : Array Int) (hd : ∀ i j, i ≤ j → j < d.size → d[i]! ≤ d[j]!) : ∀ m, m ≤ d.size →
    (Lib.compactUpTo d m).Pairwise (· < ·) ∧ (∀ z, z ∈ Lib.compactUpTo d m ↔ ∃ j, j < m ∧ d[j]! = z)
  | 0, _ => ⟨by simp [Lib.compactUpTo], fun z => by simp [Lib.compactUpTo]⟩
  | m + 1, hm => by
    have ih := up_asc d hd m (by omega)
    rw [Lib.compactUpTo_succ]
    by_cases hk : m = 0 ∨ d[m]! ≠ d[m - 1]!
    · have hkk : Lib.keeps d m = true := by unfold Lib.keeps; exact decide_eq_true hk
      rw [if_pos hkk]
      refine ⟨?_, fun z => ?_⟩
      · rw [List.pairwise_append]
        refine ⟨ih.1, by simp, fun a ha b hb => ?_⟩
        obtain rfl : b = d[m]! := by simpa using hb
        obtain ⟨j, hj, rfl⟩ := (ih.2 a).1 ha
        have h1 := hd j (m - 1) (by omega) (by omega)
        have h2 := hd (m - 1) m (by omega) (by omega)
        rcases hk with rfl | hk
        · omega
        · omega
      · rw [List.mem_append, ih.2 z]
        constructor
        · rintro (⟨j, hj, e⟩ | h)
          · exact ⟨j, by omega, e⟩
          · exact ⟨m, by omega, by simpa using (List.mem_singleton.1 h).symm⟩
        · rintro ⟨j, hj, e⟩
          by_cases hjm : j < m
          · exact .inl ⟨j, hjm, e⟩
          · obtain rfl : j = m := by omega
            exact .inr (by rw [← e]; exact List.mem_singleton.2 rfl)
    · have h0 : m ≠ 0 := fun h => hk (.inl h)
      have he : d[m]! = d[m - 1]! := Classical.not_not.1 fun h => hk (.inr h)
      have hkk : ¬ Lib.keeps d m = true := by rw [Lib.keeps_neg (by omega) he]; decide
      rw [if_neg hkk, List.append_nil]
      refine ⟨ih.1, fun z => ?_⟩
      rw [ih.2 z]
      constructor
      · rintro ⟨j, hj, e⟩
        exact ⟨j, by omega, e⟩
      · rintro ⟨j, hj, e⟩
        by_cases hjm : j < m
        · exact ⟨j, hjm, e⟩
        · obtain rfl : j = m := by omega
          exact ⟨j - 1, by omega, by rw [← he, e]⟩
theorem sorted_le (zs : List Int) : (zs.mergeSort fun x y => decide (x ≤ y)).Pairwise (fun x y => x ≤ y) := by
  have h := List.pairwise_mergeSort (le := fun x y : Int => decide (x ≤ y)) (fun a b c h1 h2 => by simp at *; omega) (fun a b => by simp; omega) zs
  exact h.imp fun h => by simpa using h
theorem compact_sort (zs : List Int) : (Lib.compact (zs.mergeSort fun x y => decide (x ≤ y))).Pairwise (· < ·) ∧ ∀ z, z ∈ Lib.compact (zs.mergeSort fun x y => decide (x ≤ y)) ↔ z ∈ zs := by
  have hs := sorted_le zs
  have hm : ∀ z, z ∈ (zs.mergeSort fun x y => decide (x ≤ y)) ↔ z ∈ zs := fun z => (List.mergeSort_perm zs _).mem_iff
  generalize (zs.mergeSort fun x y => decide (x ≤ y)) = ss at *
  have h := up_asc ss.toArray (fun i j hij hj => by
    rw [List.pairwise_iff_getElem] at hs
    have hj' : j < ss.length := by simpa using hj
    simp only [List.getElem!_toArray]
    rw [getElem!_pos ss i (by omega), getElem!_pos ss j hj']
    rcases Nat.lt_or_ge i j with h | h
    · exact hs i j (by omega) hj' h
    · obtain rfl : i = j := by omega
      exact Int.le_refl _) ss.length (by simp)
  unfold Lib.compact
  refine ⟨h.1, fun z => ?_⟩
  rw [h.2 z, ← hm z, List.mem_iff_getElem]
  constructor
  · rintro ⟨j, hj, e⟩
    refine ⟨j, hj, ?_⟩
    rw [← e, List.getElem!_toArray, getElem!_pos ss j hj]
  · rintro ⟨j, hj, e⟩
    refine ⟨j, hj, ?_⟩
    rw [← e, List.getElem!_toArray, getElem!_pos ss j hj]
theorem compact_eq {zs ys : List Int} (hy : ys.Pairwise (· < ·)) (h : ∀ z, z ∈ ys ↔ z ∈ zs) : Lib.compact (zs.mergeSort fun x y => decide (x ≤ y)) = ys :=
  asc_ext (compact_sort zs).1 hy fun z => ((compact_sort zs).2 z).trans (h z).symm

/-- Behind slices.Compact the slice is shorter and owns what is left. -/
theorem heap_put {w : World} {g q : Nat} {cur : Array Value} {e : TypeId} {fr : Nat × Nat} (d : Array Int) (hb : w.heap[g]? = some (.cells cur e fr)) :
    (putRow (Value.int .i64) (Sort.ahead w q) g 0 d).heap[g]? = some (.cells (putCells (Value.int .i64) 0 d cur) e fr) := by
  simp [putRow, mapBlock, Sort.ahead, Array.getElem?_modify, hb, onCells]
theorem grown_put {w : World} {g q : Nat} (d : Array Int) : w.grownBy (putRow (Value.int .i64) (Sort.ahead w q) g 0 d) (some g) := by
  refine ⟨rfl, rfl, rfl, by simp [putRow, mapBlock, Sort.ahead], fun k hk hne => ?_⟩
  have : g ≠ k := fun e => hne (by rw [e])
  simp [putRow, mapBlock, Sort.ahead, Array.getElem?_modify, this]
theorem own_put {w : World} {base g cap n q : Nat} {e : TypeId} {xs zs : List Int} (h : w.ownsRow base e 1 (.slice (some ⟨g, 0, none⟩) n cap) n (zs.map (Value.int .i64))) (hl : xs.length ≤ n) (ys : List Int) (hy : (xs ++ ys).length = n) :
    (putRow (Value.int .i64) (Sort.ahead w q) g 0 (xs ++ ys).toArray).ownsRow base e 1 (.slice (some ⟨g, 0, none⟩) xs.length cap) xs.length (xs.map (Value.int .i64)) := by
  rcases h.2 with ⟨h0, _⟩ | ⟨g', cap', cur, hv, hg, hh, hn, hc, hz, ht⟩
  · cases h0
  cases hv
  refine ⟨by simp, .inr ⟨g, cap, _, rfl, hg, heap_put _ hh, by omega, hc, by simp [putCells, hz], ?_⟩⟩
  rw [Nat.mul_one]
  have h1 := take_putCellsI cur (xs ++ ys) (by omega)
  have h2 := congrArg (List.take xs.length) h1
  rw [List.take_take, Nat.min_eq_left (by rw [List.length_append]; omega), List.map_append, List.take_left' (by simp)] at h2
  exact h2
end Go.Proofs.Ytglonedhoenkpaa.asc
