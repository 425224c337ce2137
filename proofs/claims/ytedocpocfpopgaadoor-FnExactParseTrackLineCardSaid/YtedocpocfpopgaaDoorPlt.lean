/- Sightings and their groups in plain mathematics (no program in it). -/
import Derived.Test.YtedocpocfpopgaaDoorLst
import Derived.Test.YtedocpocfpopgaaDoorPos
import Derived.Test.YtedocpocfpopgaaDoorAsc
namespace Go.Proofs.YtedocpocfpopgaaDoor.plt
open Go.RowKit Go.Proofs.YtedocpocfpopgaaDoor.in_ Go.Proofs.YtedocpocfpopgaaDoor.lst Go.Proofs.YtedocpocfpopgaaDoor.pos Go.Proofs.YtedocpocfpopgaaDoor.ints

theorem isIn_yes {x a b : Int} (h : isIn x a b = true) : a ≤ x ∧ x ≤ b := of_decide_eq_true h
theorem isIn_of {x a b : Int} (h1 : a ≤ x) (h2 : x ≤ b) : isIn x a b = true := decide_eq_true ⟨h1, h2⟩
/-- One sighting is valid. -/
def sgB (s t a x y : Int) : Bool := isIn s 0 86400 && (isIn t 1 9 && (isIn a 1 65535 && pB x y))
theorem sgB_yes {s t a x y : Int} (h : sgB s t a x y = true) : (0 ≤ s ∧ s ≤ 86400) ∧ (1 ≤ t ∧ t ≤ 9) ∧ (1 ≤ a ∧ a ≤ 65535) ∧ (0 ≤ x ∧ x ≤ 9899) ∧ 0 ≤ y ∧ y ≤ 9899 := by
  unfold sgB at h
  rw [Bool.and_eq_true, Bool.and_eq_true, Bool.and_eq_true] at h
  exact ⟨isIn_yes h.1, isIn_yes h.2.1, isIn_yes h.2.2.1, pB_yes h.2.2.2⟩
def sgK (zs : List Int) (k : Nat) : Bool := sgB (fld 5 zs k 0) (fld 5 zs k 1) (fld 5 zs k 2) (fld 5 zs k 3) (fld 5 zs k 4)
/-- All of the first k sightings are valid. -/
def alT (zs : List Int) : Nat → Bool
  | 0 => true
  | k + 1 => alT zs k && sgK zs k
/-- .. and in ascending order. -/
def okT (zs : List Int) : Nat → Bool
  | 0 => true
  | k + 1 => okT zs k && (sgK zs k && (decide (k = 0) || decide (fld 5 zs (k - 1) 0 ≤ fld 5 zs k 0)))
/-- Ascending from behind: no sighting with a number in k..n-1 is before the one ahead of it. -/
def srB (zs : List Int) (n : Nat) : Bool := decide (∀ k, k < n → 0 < k → fld 5 zs (k - 1) 0 ≤ fld 5 zs k 0)
def svB (zs : List Int) (n : Nat) : Bool := okT zs n && decide (n ≤ 20)
theorem okT_all {zs : List Int} {n : Nat} (h : okT zs n = true) : ∀ k, k < n → sgK zs k = true ∧ (0 < k → fld 5 zs (k - 1) 0 ≤ fld 5 zs k 0) := by
  induction n with
  | zero => intro k hk; omega
  | succ m ih =>
    intro k hk
    rw [okT, Bool.and_eq_true, Bool.and_eq_true, Bool.or_eq_true] at h
    rcases Nat.lt_or_ge k m with h1 | h1
    · exact ih h.1 k h1
    · obtain rfl : k = m := by omega
      refine ⟨h.2.1, fun h0 => ?_⟩
      rcases h.2.2 with h2 | h2
      · have := of_decide_eq_true h2; omega
      · exact of_decide_eq_true h2
theorem okT_of {zs : List Int} {n : Nat} (h : ∀ k, k < n → sgK zs k = true ∧ (0 < k → fld 5 zs (k - 1) 0 ≤ fld 5 zs k 0)) : okT zs n = true := by
  induction n with
  | zero => rfl
  | succ m ih =>
    rw [okT, ih (fun k hk => h k (by omega)), (h m (by omega)).1, Bool.true_and, Bool.true_and]
    rcases Nat.eq_zero_or_pos m with h0 | h0
    · rw [decide_eq_true h0]; rfl
    · rw [decide_eq_true ((h m (by omega)).2 h0), Bool.or_true]
theorem okT_cut {zs : List Int} {n k : Nat} (h : okT zs k = false) (hk : k ≤ n) : okT zs n = false := by
  cases hq : okT zs n
  · rfl
  · have := okT_of (fun j hj => okT_all hq j (by omega)) (n := k)
    rw [h] at this; cases this
theorem alT_all {zs : List Int} {n : Nat} (h : alT zs n = true) : ∀ k, k < n → sgK zs k = true := by
  induction n with
  | zero => intro k hk; omega
  | succ m ih =>
    intro k hk
    rw [alT, Bool.and_eq_true] at h
    rcases Nat.lt_or_ge k m with h1 | h1
    · exact ih h.1 k h1
    · obtain rfl : k = m := by omega
      exact h.2
theorem alT_of {zs : List Int} {n : Nat} (h : ∀ k, k < n → sgK zs k = true) : alT zs n = true := by
  induction n with
  | zero => rfl
  | succ m ih => rw [alT, ih (fun k hk => h k (by omega)), h m (by omega)]; rfl
theorem ok_is (zs : List Int) (n : Nat) : okT zs n = (alT zs n && srB zs n) := by
  cases h : okT zs n
  · cases h1 : alT zs n
    · rfl
    · cases h2 : srB zs n
      · rfl
      · have := okT_of (fun k hk => ⟨alT_all h1 k hk, of_decide_eq_true h2 k hk⟩)
        rw [h] at this; cases this
  · rw [alT_of (fun k hk => (okT_all h k hk).1)]
    unfold srB
    rw [decide_eq_true (fun k hk => (okT_all h k hk).2)]; rfl
theorem svB_yes {zs : List Int} {n : Nat} (h : svB zs n = true) : okT zs n = true ∧ n ≤ 20 := by
  unfold svB at h
  rw [Bool.and_eq_true] at h
  exact ⟨h.1, of_decide_eq_true h.2⟩
theorem sv_at {zs : List Int} {n k : Nat} (h : svB zs n = true) (hk : k < n) : (0 ≤ fld 5 zs k 0 ∧ fld 5 zs k 0 ≤ 86400) ∧ (1 ≤ fld 5 zs k 1 ∧ fld 5 zs k 1 ≤ 9) ∧ (1 ≤ fld 5 zs k 2 ∧ fld 5 zs k 2 ≤ 65535) ∧ (0 ≤ fld 5 zs k 3 ∧ fld 5 zs k 3 ≤ 9899) ∧ 0 ≤ fld 5 zs k 4 ∧ fld 5 zs k 4 ≤ 9899 :=
  sgB_yes (okT_all (svB_yes h).1 k hk).1
theorem sv_asc {zs : List Int} {n : Nat} (h : svB zs n = true) : ∀ k j, k ≤ j → j < n → fld 5 zs k 0 ≤ fld 5 zs j 0 := by
  intro k j hkj hj
  induction j with
  | zero => obtain rfl : k = 0 := by omega
            exact Int.le_refl _
  | succ j ih =>
    rcases Nat.lt_or_ge k (j + 1) with h1 | h1
    · have h2 := (okT_all (svB_yes h).1 (j + 1) hj).2 (by omega)
      exact Int.le_trans (ih (by omega) (by omega)) h2
    · obtain rfl : k = j + 1 := by omega
      exact Int.le_refl _
/-- The list and the numbers are valid. -/
def asB (zs : List Int) (n : Nat) (w r : Int) : Bool := svB zs n && (isIn w 0 60 && isIn r 0 1000)
theorem asB_yes {zs : List Int} {n : Nat} {w r : Int} (h : asB zs n w r = true) : svB zs n = true ∧ (0 ≤ w ∧ w ≤ 60) ∧ 0 ≤ r ∧ r ≤ 1000 := by
  unfold asB at h
  rw [Bool.and_eq_true, Bool.and_eq_true] at h
  exact ⟨h.1, isIn_yes h.2.1, isIn_yes h.2.2⟩

/-- Two sightings are duplicates. -/
def tw (w r s a x y s' a' x' y' : Int) : Bool :=
  decide (a = a') && (decide (((s - s').natAbs : Int) ≤ w) && (decide (((x - x').natAbs : Int) ≤ r) && decide (((y - y').natAbs : Int) ≤ r)))
theorem tw_comm (w r s a x y s' a' x' y' : Int) : tw w r s a x y s' a' x' y' = tw w r s' a' x' y' s a x y := by
  unfold tw
  rw [show (s - s').natAbs = (s' - s).natAbs by omega, show (x - x').natAbs = (x' - x).natAbs by omega, show (y - y').natAbs = (y' - y).natAbs by omega]
  congr 1
  simp only [eq_comm]
def twK (zs : List Int) (w r : Int) (i k : Nat) : Bool := tw w r (fld 5 zs i 0) (fld 5 zs i 2) (fld 5 zs i 3) (fld 5 zs i 4) (fld 5 zs k 0) (fld 5 zs k 2) (fld 5 zs k 3) (fld 5 zs k 4)
theorem twK_yes {zs : List Int} {w r : Int} {i k : Nat} (h : twK zs w r i k = true) : fld 5 zs i 2 = fld 5 zs k 2 ∧ ((fld 5 zs i 0 - fld 5 zs k 0).natAbs : Int) ≤ w ∧ ((fld 5 zs i 3 - fld 5 zs k 3).natAbs : Int) ≤ r ∧ ((fld 5 zs i 4 - fld 5 zs k 4).natAbs : Int) ≤ r := by
  unfold twK tw at h
  rw [Bool.and_eq_true, Bool.and_eq_true, Bool.and_eq_true] at h
  exact ⟨of_decide_eq_true h.1, of_decide_eq_true h.2.1, of_decide_eq_true h.2.2.1, of_decide_eq_true h.2.2.2⟩
/-- The site of k does not occur in a group. -/
def noB (zs : List Int) (k : Nat) (g : List Nat) : Bool := g.all fun j => decide (fld 5 zs j 1 ≠ fld 5 zs k 1)
/-- Sighting k joins a group. -/
def fitB (zs : List Int) (w r : Int) (k : Nat) (g : List Nat) : Bool := twK zs w r (g.headD 0) k && noB zs k g
theorem noB_take {zs : List Int} {k j m : Nat} {g : List Nat} (h : g[j]? = some m) : noB zs k (g.take (j + 1)) = (noB zs k (g.take j) && decide (fld 5 zs m 1 ≠ fld 5 zs k 1)) := by
  unfold noB
  have hl := (List.getElem?_eq_some_iff.1 h).1
  rw [List.take_succ_eq_append_getElem hl, List.all_append, (List.getElem?_eq_some_iff.1 h).2]
  simp
/-- The number of the first group that k joins, or the number of groups. -/
def pos (zs : List Int) (w r : Int) (k : Nat) (gs : List (List Nat)) : Nat := gs.findIdx (fitB zs w r k)
def put (gs : List (List Nat)) (p k : Nat) : List (List Nat) := if p < gs.length then gs.set p (gs.getD p [] ++ [k]) else gs ++ [[k]]
/-- The groups of the first k sightings. -/
def grp (zs : List Int) (w r : Int) : Nat → List (List Nat)
  | 0 => []
  | k + 1 => put (grp zs w r k) (pos zs w r k (grp zs w r k)) k
/-- The number of the group of sighting k. -/
def num (zs : List Int) (w r : Int) (k : Nat) : Nat := pos zs w r k (grp zs w r k)
theorem pos_le (zs : List Int) (w r : Int) (k : Nat) (gs : List (List Nat)) : pos zs w r k gs ≤ gs.length := List.findIdx_le_length
theorem pos_not {zs : List Int} {w r : Int} {k j : Nat} {gs : List (List Nat)} {g : List Nat} (h : j < pos zs w r k gs) (hg : gs[j]? = some g) : fitB zs w r k g = false := by
  have := List.not_of_lt_findIdx h
  rw [(List.getElem?_eq_some_iff.1 hg).2] at this
  simpa using this
theorem pos_is {zs : List Int} {w r : Int} {k j : Nat} {gs : List (List Nat)} {g : List Nat} (hlt : ∀ i q, i < j → gs[i]? = some q → fitB zs w r k q = false) (hg : gs[j]? = some g) (hf : fitB zs w r k g = true) : pos zs w r k gs = j := by
  have hl := (List.getElem?_eq_some_iff.1 hg).1
  rcases Nat.lt_trichotomy (pos zs w r k gs) j with h | h | h
  · have h1 : pos zs w r k gs < gs.length := by omega
    have h2 : fitB zs w r k (gs[pos zs w r k gs]'h1) = true := List.findIdx_getElem (p := fitB zs w r k) (xs := gs) (w := h1)
    rw [hlt _ _ h (List.getElem?_eq_getElem h1)] at h2; cases h2
  · exact h
  · have := pos_not h hg
    rw [hf] at this; cases this
theorem pos_end {zs : List Int} {w r : Int} {k : Nat} {gs : List (List Nat)} (hlt : ∀ i q, i < gs.length → gs[i]? = some q → fitB zs w r k q = false) : pos zs w r k gs = gs.length := by
  rcases Nat.lt_or_ge (pos zs w r k gs) gs.length with h | h
  · have h2 : fitB zs w r k (gs[pos zs w r k gs]'h) = true := List.findIdx_getElem (p := fitB zs w r k) (xs := gs) (w := h)
    rw [hlt _ _ h (List.getElem?_eq_getElem h)] at h2; cases h2
  · exact Nat.le_antisymm (pos_le ..) h
theorem pos_fit {zs : List Int} {w r : Int} {k : Nat} {gs : List (List Nat)} {g : List Nat} (h : pos zs w r k gs < gs.length) (hg : gs[pos zs w r k gs]? = some g) : fitB zs w r k g = true := by
  have h2 : fitB zs w r k (gs[pos zs w r k gs]'h) = true := List.findIdx_getElem (p := fitB zs w r k) (xs := gs) (w := h)
  rw [(List.getElem?_eq_some_iff.1 hg).2] at h2
  exact h2
theorem put_old {gs : List (List Nat)} {p k : Nat} {g : List Nat} (hg : gs[p]? = some g) : put gs p k = gs.set p (g ++ [k]) := by
  unfold put
  rw [if_pos (List.getElem?_eq_some_iff.1 hg).1, List.getD_eq_getElem?_getD, hg]; rfl
theorem put_end {gs : List (List Nat)} {k : Nat} : put gs gs.length k = gs ++ [[k]] := by
  unfold put
  rw [if_neg (Nat.lt_irrefl _)]
theorem put_len (gs : List (List Nat)) (p k : Nat) (h : p ≤ gs.length) : (put gs p k).length = max gs.length (p + 1) := by
  unfold put
  split
  · rw [List.length_set]; omega
  · rw [List.length_append]; simp; omega
theorem grp_len (zs : List Int) (w r : Int) (k : Nat) : (grp zs w r k).length ≤ k := by
  induction k with
  | zero => exact Nat.le_refl _
  | succ k ih => rw [grp, put_len _ _ _ (pos_le ..)]; have := pos_le zs w r k (grp zs w r k); omega
theorem num_lt {zs : List Int} {w r : Int} {k : Nat} : ∀ i, i < k → num zs w r i < (grp zs w r k).length := by
  induction k with
  | zero => intro i h; omega
  | succ k ih =>
    intro i h
    rw [grp, put_len _ _ _ (pos_le ..)]
    rcases Nat.lt_or_ge i k with h1 | h1
    · have := ih i h1; omega
    · obtain rfl : i = k := by omega
      show num zs w r i < _
      unfold num; omega
/-- A group holds the sightings with its number, in their order. -/
theorem grp_at {zs : List Int} {w r : Int} {k : Nat} : ∀ g, g < (grp zs w r k).length → (grp zs w r k)[g]? = some ((List.range k).filter fun i => num zs w r i == g) := by
  induction k with
  | zero => intro g h; simp [grp] at h
  | succ k ih =>
    intro g hg
    rw [List.range_succ, List.filter_append]
    have hk : ∀ b, ([k].filter fun i => num zs w r i == b) = if num zs w r k = b then [k] else [] := by
      intro b; by_cases h : num zs w r k = b <;> simp [h]
    rw [hk]
    have hp := pos_le zs w r k (grp zs w r k)
    rw [grp] at hg ⊢
    rw [put_len _ _ _ hp] at hg
    rcases Nat.lt_or_ge (pos zs w r k (grp zs w r k)) (grp zs w r k).length with h | h
    · rw [put_old (ih _ h), List.getElem?_set]
      by_cases he : pos zs w r k (grp zs w r k) = g
      · rw [if_pos he, if_pos h, if_pos (show num zs w r k = g from he), he]
      · rw [if_neg he, ih g (by omega), if_neg (show ¬ num zs w r k = g from he), List.append_nil]
    · have he : pos zs w r k (grp zs w r k) = (grp zs w r k).length := by omega
      rw [he, put_end]
      rcases Nat.lt_or_ge g (grp zs w r k).length with h1 | h1
      · rw [List.getElem?_append_left h1, ih g h1, if_neg (show ¬ num zs w r k = g by unfold num; omega), List.append_nil]
      · have h2 : g = (grp zs w r k).length := by omega
        rw [List.getElem?_append_right h1, h2, Nat.sub_self, if_pos (show num zs w r k = _ from he)]
        have h3 : ((List.range k).filter fun i => num zs w r i == (grp zs w r k).length) = [] := by
          rw [List.filter_eq_nil_iff]
          intro i hi
          have := num_lt (zs := zs) (w := w) (r := r) i (List.mem_range.1 hi)
          simp; omega
        rw [h3]; rfl
theorem grp_mem {zs : List Int} {w r : Int} {k g : Nat} {q : List Nat} (h : (grp zs w r k)[g]? = some q) (i : Nat) : i ∈ q ↔ i < k ∧ num zs w r i = g := by
  have hl := (List.getElem?_eq_some_iff.1 h).1
  rw [grp_at g hl] at h
  injection h with h
  rw [← h, List.mem_filter, List.mem_range]
  simp
theorem grp_ne {zs : List Int} {w r : Int} {k : Nat} : ∀ (g : Nat) (q : List Nat), (grp zs w r k)[g]? = some q → 0 < q.length := by
  induction k with
  | zero => intro g q h; simp [grp] at h
  | succ k ih =>
    intro g q h
    rw [grp] at h
    have hp := pos_le zs w r k (grp zs w r k)
    rcases Nat.lt_or_ge (pos zs w r k (grp zs w r k)) (grp zs w r k).length with h1 | h1
    · rw [put_old (List.getElem?_eq_getElem h1), List.getElem?_set] at h
      split at h
      · injection h with h; rw [← h, List.length_append]; simp
      · exact ih g q h
    · have he : pos zs w r k (grp zs w r k) = (grp zs w r k).length := by omega
      rw [he, put_end] at h
      rcases Nat.lt_or_ge g (grp zs w r k).length with h2 | h2
      · rw [List.getElem?_append_left h2] at h; exact ih g q h
      · rw [List.getElem?_append_right h2] at h
        have := List.mem_of_getElem? h
        simp at this
        rw [this]; simp
theorem grp_small {zs : List Int} {w r : Int} {k g : Nat} {q : List Nat} (h : (grp zs w r k)[g]? = some q) : q.length ≤ k := by
  have hl := (List.getElem?_eq_some_iff.1 h).1
  rw [grp_at g hl] at h
  injection h with h
  rw [← h]
  exact Nat.le_trans (List.length_filter_le _ _) (by simp)

/- What the functions return. -/
def gsT (zs : List Int) (w r : Int) (k : Nat) : List Int := (List.range k).map fun i => ((num zs w r i : Nat) : Int)
theorem gsT_succ (zs : List Int) (w r : Int) (k : Nat) : gsT zs w r (k + 1) = gsT zs w r k ++ [((num zs w r k : Nat) : Int)] := by
  unfold gsT
  rw [List.range_succ, List.map_append]; rfl
theorem gsT_length (zs : List Int) (w r : Int) (k : Nat) : (gsT zs w r k).length = k := by simp [gsT]
def gsV (zs : List Int) (n : Nat) (w r : Int) : List Int := if asB zs n w r then gsT zs w r n else []
theorem gsV_yes {zs : List Int} {n : Nat} {w r : Int} (h : asB zs n w r = true) : gsV zs n w r = gsT zs w r n := by unfold gsV; rw [h]; rfl
theorem gsV_no {zs : List Int} {n : Nat} {w r : Int} (h : asB zs n w r = false) : gsV zs n w r = [] := by unfold gsV; rw [h]; rfl
def ggV (zs : List Int) (n : Nat) (w r : Int) : List (List Nat) := if asB zs n w r then grp zs w r n else []
theorem ggV_yes {zs : List Int} {n : Nat} {w r : Int} (h : asB zs n w r = true) : ggV zs n w r = grp zs w r n := by unfold ggV; rw [h]; rfl
theorem ggV_no {zs : List Int} {n : Nat} {w r : Int} (h : asB zs n w r = false) : ggV zs n w r = [] := by unfold ggV; rw [h]; rfl
theorem gsV_le (zs : List Int) (n : Nat) (w r : Int) : (gsV zs n w r).length ≤ n := by
  unfold gsV; split
  · rw [gsT_length]; exact Nat.le_refl _
  · simp
/-- How spec fills the numbers in: the groups ahead of g, and the first k of group g. -/
def scT (zs : List Int) (w r : Int) (n g k : Nat) (q : List Nat) : List Int := (List.range n).map fun i => if num zs w r i < g ∨ i ∈ q.take k then ((num zs w r i : Nat) : Int) else 0
theorem scT_length (zs : List Int) (w r : Int) (n g k : Nat) (q : List Nat) : (scT zs w r n g k q).length = n := by simp [scT]
theorem scT_set {zs : List Int} {w r : Int} {n g k i : Nat} {q : List Nat} (hq : (grp zs w r n)[g]? = some q) (hk : q[k]? = some i) : (scT zs w r n g k q).set i ((g : Nat) : Int) = scT zs w r n g (k + 1) q := by
  have hi := (grp_mem hq i).1 (List.mem_of_getElem? hk)
  have ht : q.take (k + 1) = q.take k ++ [i] := by rw [List.take_succ_eq_append_getElem (List.getElem?_eq_some_iff.1 hk).1, (List.getElem?_eq_some_iff.1 hk).2]
  refine List.ext_getElem? fun j => ?_
  rw [List.getElem?_set, scT_length]
  by_cases e : i = j
  · subst e
    rw [if_pos rfl, if_pos hi.1]
    unfold scT
    rw [List.getElem?_map, List.getElem?_range hi.1, Option.map_some, if_pos (by right; rw [ht]; simp), hi.2]
  · rw [if_neg e]
    unfold scT
    rw [List.getElem?_map, List.getElem?_map, ht]
    rcases Nat.lt_or_ge j n with hj | hj
    · have : j ∈ q.take k ++ [i] ↔ j ∈ q.take k := by simp; intro h; exact absurd h.symm e
      rw [List.getElem?_range hj, Option.map_some, Option.map_some]
      simp only [this]
    · rw [List.getElem?_eq_none (by simpa using hj)]; rfl
theorem scT_next {zs : List Int} {w r : Int} {n g : Nat} {q : List Nat} (q' : List Nat) (hq : (grp zs w r n)[g]? = some q) : scT zs w r n g q.length q = scT zs w r n (g + 1) 0 q' := by
  unfold scT
  refine List.map_congr_left fun i hi => ?_
  rw [List.take_length, List.take_zero]
  have h1 := grp_mem hq i
  have h2 := List.mem_range.1 hi
  have : (num zs w r i < g ∨ i ∈ q) ↔ (num zs w r i < g + 1 ∨ i ∈ ([] : List Nat)) := by
    rw [h1]; simp [h2]; omega
  simp only [this]
theorem scT_zero (zs : List Int) (w r : Int) (n : Nat) (q : List Nat) : scT zs w r n 0 0 q = List.replicate n 0 := by
  unfold scT
  refine List.ext_getElem (by simp) fun i h1 h2 => ?_
  simp
theorem scT_all (zs : List Int) (w r : Int) (n : Nat) (q : List Nat) : scT zs w r n (grp zs w r n).length 0 q = gsT zs w r n := by
  unfold scT gsT
  refine List.map_congr_left fun i hi => ?_
  rw [if_pos (.inl (num_lt i (List.mem_range.1 hi)))]

/- Heads of groups. -/
theorem heads_put {gs : List (List Nat)} {p k : Nat} (hp : p ≤ gs.length) (hne : ∀ (g : Nat) (q : List Nat), gs[g]? = some q → 0 < q.length) : (put gs p k).map (List.headD · 0) = if p < gs.length then gs.map (List.headD · 0) else gs.map (List.headD · 0) ++ [k] := by
  split
  · rename_i h
    rw [put_old (List.getElem?_eq_getElem h), List.map_set]
    have h1 : (gs[p] ++ [k]).headD 0 = gs[p].headD 0 := by
      have := hne p _ (List.getElem?_eq_getElem h)
      cases hq : gs[p] with
      | nil => rw [hq] at this; simp at this
      | cons a l => rfl
    rw [h1]
    refine List.ext_getElem (by simp) fun i h2 h3 => ?_
    rw [List.getElem_set]
    split
    · rename_i e; subst e; simp
    · rfl
  · rename_i h
    obtain rfl : p = gs.length := by omega
    rw [put_end, List.map_append]; rfl
theorem heads_asc (zs : List Int) (w r : Int) (k : Nat) : ((grp zs w r k).map (List.headD · 0)).Pairwise (· < ·) ∧ ∀ h ∈ (grp zs w r k).map (List.headD · 0), h < k := by
  induction k with
  | zero => exact ⟨List.Pairwise.nil, by intro h hh; simp [grp] at hh⟩
  | succ k ih =>
    rw [grp, heads_put (pos_le ..) grp_ne]
    split
    · exact ⟨ih.1, fun h hh => by have := ih.2 h hh; omega⟩
    · refine ⟨List.pairwise_append.2 ⟨ih.1, by simp, fun a ha b hb => ?_⟩, fun h hh => ?_⟩
      · obtain rfl := List.mem_singleton.1 hb
        exact ih.2 a ha
      · rcases List.mem_append.1 hh with h1 | h1
        · have := ih.2 h h1; omega
        · obtain rfl := List.mem_singleton.1 h1; omega
/-- The heads of the groups with one sighting, of the first g groups. -/
def lsT (gs : List (List Nat)) : Nat → List Int
  | 0 => []
  | g + 1 => if (gs.getD g []).length = 1 then lsT gs g ++ [(((gs.getD g []).headD 0 : Nat) : Int)] else lsT gs g
theorem lsT_mem {gs : List (List Nat)} {z : Int} : ∀ g, z ∈ lsT gs g ↔ ∃ j, j < g ∧ (gs.getD j []).length = 1 ∧ z = (((gs.getD j []).headD 0 : Nat) : Int) := by
  intro g
  induction g with
  | zero => simp [lsT]
  | succ g ih =>
    rw [lsT]
    split
    · rename_i h
      rw [List.mem_append, ih, List.mem_singleton]
      refine ⟨fun hz => ?_, fun ⟨j, h1, h2, h3⟩ => ?_⟩
      · rcases hz with ⟨j, h1, h2, h3⟩ | hz
        · exact ⟨j, by omega, h2, h3⟩
        · exact ⟨g, by omega, h, hz⟩
      · rcases Nat.lt_or_ge j g with h4 | h4
        · exact .inl ⟨j, h4, h2, h3⟩
        · obtain rfl : j = g := by omega
          exact .inr h3
    · rename_i h
      rw [ih]
      refine ⟨fun ⟨j, h1, h2, h3⟩ => ⟨j, by omega, h2, h3⟩, fun ⟨j, h1, h2, h3⟩ => ?_⟩
      rcases Nat.lt_or_ge j g with h4 | h4
      · exact ⟨j, h4, h2, h3⟩
      · obtain rfl : j = g := by omega
        exact absurd h2 h
theorem lsT_asc {gs : List (List Nat)} (h : (gs.map (List.headD · 0)).Pairwise (· < ·)) : ∀ g, g ≤ gs.length → (lsT gs g).Pairwise (· < ·) := by
  intro g
  induction g with
  | zero => intro _; exact List.Pairwise.nil
  | succ g ih =>
    intro hg
    rw [lsT]
    split
    · refine List.pairwise_append.2 ⟨ih (by omega), by simp, fun a ha b hb => ?_⟩
      obtain ⟨j, h1, -, rfl⟩ := (lsT_mem g).1 ha
      obtain rfl := List.mem_singleton.1 hb
      have := List.pairwise_iff_getElem.1 h j g (by simp; omega) (by simp; omega) h1
      rw [List.getElem_map, List.getElem_map] at this
      rw [List.getD_eq_getElem?_getD, List.getElem?_eq_getElem (show j < gs.length by omega), List.getD_eq_getElem?_getD, List.getElem?_eq_getElem (show g < gs.length by omega)]
      show ((gs[j].headD 0 : Nat) : Int) < ((gs[g].headD 0 : Nat) : Int)
      omega
    · exact ih (by omega)
theorem lsT_len (gs : List (List Nat)) : ∀ g, (lsT gs g).length ≤ g := by
  intro g
  induction g with
  | zero => exact Nat.le_refl _
  | succ g ih =>
    rw [lsT]
    split
    · rw [List.length_append]; simp; omega
    · omega
/-- The sightings that are alone, of the first k. -/
def loT (zs : List Int) (n : Nat) (w r : Int) : Nat → List Int
  | 0 => []
  | k + 1 => if ((grp zs w r n).getD (num zs w r k) []).length = 1 then loT zs n w r k ++ [(k : Int)] else loT zs n w r k
theorem loT_mem {zs : List Int} {n : Nat} {w r z : Int} : ∀ k, z ∈ loT zs n w r k ↔ ∃ j, j < k ∧ ((grp zs w r n).getD (num zs w r j) []).length = 1 ∧ z = (j : Int) := by
  intro k
  induction k with
  | zero => simp [loT]
  | succ g ih =>
    rw [loT]
    split
    · rename_i h
      rw [List.mem_append, ih, List.mem_singleton]
      refine ⟨fun hz => ?_, fun ⟨j, h1, h2, h3⟩ => ?_⟩
      · rcases hz with ⟨j, h1, h2, h3⟩ | hz
        · exact ⟨j, by omega, h2, h3⟩
        · exact ⟨g, by omega, h, hz⟩
      · rcases Nat.lt_or_ge j g with h4 | h4
        · exact .inl ⟨j, h4, h2, h3⟩
        · obtain rfl : j = g := by omega
          exact .inr h3
    · rename_i h
      rw [ih]
      refine ⟨fun ⟨j, h1, h2, h3⟩ => ⟨j, by omega, h2, h3⟩, fun ⟨j, h1, h2, h3⟩ => ?_⟩
      rcases Nat.lt_or_ge j g with h4 | h4
      · exact ⟨j, h4, h2, h3⟩
      · obtain rfl : j = g := by omega
        exact absurd h2 h
theorem loT_asc (zs : List Int) (n : Nat) (w r : Int) : ∀ k, (loT zs n w r k).Pairwise (· < ·) := by
  intro k
  induction k with
  | zero => exact List.Pairwise.nil
  | succ g ih =>
    rw [loT]
    split
    · refine List.pairwise_append.2 ⟨ih, by simp, fun a ha b hb => ?_⟩
      obtain ⟨j, h1, -, rfl⟩ := (loT_mem g).1 ha
      obtain rfl := List.mem_singleton.1 hb
      omega
    · exact ih
theorem lo_is (zs : List Int) (n : Nat) (w r : Int) : lsT (grp zs w r n) (grp zs w r n).length = loT zs n w r n := by
  refine asc.asc_ext (lsT_asc (heads_asc ..).1 _ (Nat.le_refl _)) (loT_asc ..) fun z => ?_
  rw [lsT_mem, loT_mem]
  refine ⟨fun ⟨g, h1, h2, h3⟩ => ?_, fun ⟨j, h1, h2, h3⟩ => ?_⟩
  · have hq := List.getElem?_eq_getElem h1
    have hd : (grp zs w r n).getD g [] = (grp zs w r n)[g] := by rw [List.getD_eq_getElem?_getD, hq]; rfl
    rw [hd] at h2 h3
    obtain ⟨i, hi⟩ := List.length_eq_one_iff.1 h2
    have hm := (grp_mem hq i).1 (by rw [hi]; simp)
    refine ⟨i, hm.1, ?_, ?_⟩
    · rw [hm.2, hd]; exact h2
    · rw [h3, hi]; rfl
  · refine ⟨num zs w r j, num_lt j h1, h2, ?_⟩
    have hq := List.getElem?_eq_getElem (num_lt (zs := zs) (w := w) (r := r) j h1)
    have hd : (grp zs w r n).getD (num zs w r j) [] = (grp zs w r n)[num zs w r j]'(num_lt j h1) := by rw [List.getD_eq_getElem?_getD, hq]; rfl
    rw [hd] at h2 ⊢
    obtain ⟨i, hi⟩ := List.length_eq_one_iff.1 h2
    have hm := (grp_mem hq j).2 ⟨h1, rfl⟩
    rw [hi] at hm ⊢
    rw [h3, List.mem_singleton.1 hm]; rfl
theorem loT_len (zs : List Int) (n : Nat) (w r : Int) : ∀ k, (loT zs n w r k).length ≤ k := by
  intro g
  induction g with
  | zero => exact Nat.le_refl _
  | succ g ih =>
    rw [loT]
    split
    · rw [List.length_append]; simp; omega
    · omega
def loV (zs : List Int) (n : Nat) (w r : Int) : List Int := if asB zs n w r then loT zs n w r n else []
theorem loV_yes {zs : List Int} {n : Nat} {w r : Int} (h : asB zs n w r = true) : loV zs n w r = loT zs n w r n := by unfold loV; rw [h]; rfl
theorem loV_no {zs : List Int} {n : Nat} {w r : Int} (h : asB zs n w r = false) : loV zs n w r = [] := by unfold loV; rw [h]; rfl
theorem loV_le (zs : List Int) (n : Nat) (w r : Int) : (loV zs n w r).length ≤ n := by
  unfold loV; split
  · exact loT_len ..
  · simp

/- Counts of sites. -/
def cnT (zs : List Int) (k : Nat) : List Int := (List.range 9).map fun s => ((((List.range k).filter fun i => fld 5 zs i 1 == ((s + 1 : Nat) : Int)).length : Nat) : Int)
theorem cnT_length (zs : List Int) (k : Nat) : (cnT zs k).length = 9 := by simp [cnT]
theorem cnT_zero (zs : List Int) : cnT zs 0 = List.replicate 9 0 := rfl
theorem cnT_at {zs : List Int} {k s : Nat} (hs : s < 9) : (cnT zs k)[s]? = some ((((List.range k).filter fun i => fld 5 zs i 1 == ((s + 1 : Nat) : Int)).length : Nat) : Int) := by simp [cnT, hs]
theorem cnT_get {zs : List Int} {k s : Nat} (hs : s < 9) : ∃ v : Int, (cnT zs k)[s]? = some v ∧ 0 ≤ v ∧ v ≤ k ∧ (fld 5 zs k 1 = ((s + 1 : Nat) : Int) → (cnT zs k).set s (v + 1) = cnT zs (k + 1)) := by
  refine ⟨_, cnT_at hs, by omega, by have := List.length_filter_le (fun i => fld 5 zs i 1 == ((s + 1 : Nat) : Int)) (List.range k); rw [List.length_range] at this; omega, fun h => ?_⟩
  refine List.ext_getElem? fun j => ?_
  rw [List.getElem?_set, cnT_length]
  by_cases e : s = j
  · subst e
    rw [if_pos rfl, if_pos hs, cnT_at hs, List.range_succ, List.filter_append, List.length_append]
    simp [h]
  · rw [if_neg e]
    rcases Nat.lt_or_ge j 9 with hj | hj
    · rw [cnT_at hj, cnT_at hj, List.range_succ, List.filter_append, List.length_append]
      have : ([k].filter fun i => fld 5 zs i 1 == ((j + 1 : Nat) : Int)) = [] := by
        rw [List.filter_eq_nil_iff]
        intro i hi
        rw [List.mem_singleton.1 hi, h]
        simp; omega
      rw [this]; rfl
    · rw [List.getElem?_eq_none (by rw [cnT_length]; exact hj), List.getElem?_eq_none (by rw [cnT_length]; exact hj)]
def cnV (zs : List Int) (n : Nat) : List Int := if svB zs n then cnT zs n else []
theorem cnV_yes {zs : List Int} {n : Nat} (h : svB zs n = true) : cnV zs n = cnT zs n := by unfold cnV; rw [h]; rfl
theorem cnV_no {zs : List Int} {n : Nat} (h : svB zs n = false) : cnV zs n = [] := by unfold cnV; rw [h]; rfl
theorem cnV_le (zs : List Int) (n : Nat) : (cnV zs n).length ≤ 9 := by
  unfold cnV; split
  · rw [cnT_length]; exact Nat.le_refl _
  · simp
end Go.Proofs.YtedocpocfpopgaaDoor.plt
