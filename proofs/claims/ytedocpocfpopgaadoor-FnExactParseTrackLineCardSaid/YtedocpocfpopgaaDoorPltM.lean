/- Groups of sightings in plain mathematics: spreads, plots, their sites (no program in it). -/
import Derived.Test.YtedocpocfpopgaaDoorPlt
import Derived.Test.YtedocpocfpopgaaDoorLoc
import Derived.Test.YtedocpocfpopgaaDoorPutQ
namespace Go.Proofs.YtedocpocfpopgaaDoor.pltm
open Go.RowKit Go.Proofs.YtedocpocfpopgaaDoor.in_ Go.Proofs.YtedocpocfpopgaaDoor.lst Go.Proofs.YtedocpocfpopgaaDoor.pos Go.Proofs.YtedocpocfpopgaaDoor.plt Go.Proofs.YtedocpocfpopgaaDoor.loc

/-- What holds of every group. -/
theorem grp_ind {zs : List Int} {w r : Int} (P : Nat → List Nat → Prop) (mono : ∀ (k : Nat) (q : List Nat), P k q → P (k + 1) q) (one : ∀ k, P (k + 1) [k])
    (add : ∀ (k : Nat) (q : List Nat), P k q → 0 < q.length → fitB zs w r k q = true → P (k + 1) (q ++ [k])) : ∀ (k g : Nat) (q : List Nat), (grp zs w r k)[g]? = some q → P k q := by
  intro k
  induction k with
  | zero => intro g q h; simp [grp] at h
  | succ k ih =>
    intro g q h
    rw [grp] at h
    have hp := pos_le zs w r k (grp zs w r k)
    rcases Nat.lt_or_ge (pos zs w r k (grp zs w r k)) (grp zs w r k).length with h1 | h1
    · have hq := List.getElem?_eq_getElem h1
      rw [put_old hq, List.getElem?_set] at h
      split at h
      · injection h with h
        rw [← h]
        exact add k _ (ih _ _ hq) (grp_ne _ _ hq) (pos_fit h1 hq)
      · exact mono k q (ih g q h)
    · have he : pos zs w r k (grp zs w r k) = (grp zs w r k).length := by omega
      rw [he, put_end] at h
      rcases Nat.lt_or_ge g (grp zs w r k).length with h2 | h2
      · rw [List.getElem?_append_left h2] at h; exact mono k q (ih g q h)
      · rw [List.getElem?_append_right h2] at h
        have := List.mem_of_getElem? h
        simp at this
        rw [this]; exact one k
theorem headD_app {q : List Nat} {k : Nat} (h : 0 < q.length) : (q ++ [k]).headD 0 = q.headD 0 := by
  cases q with
  | nil => simp at h
  | cons a l => rfl
theorem grp_twin {zs : List Int} {w r : Int} {k g : Nat} {q : List Nat} (h : (grp zs w r k)[g]? = some q) : ∀ i ∈ q, q.headD 0 ≤ i ∧ (i = q.headD 0 ∨ twK zs w r (q.headD 0) i = true) := by
  refine (grp_ind (zs := zs) (w := w) (r := r) (fun k q => (∀ i ∈ q, i < k) ∧ q.headD 0 < k ∧ ∀ i ∈ q, q.headD 0 ≤ i ∧ (i = q.headD 0 ∨ twK zs w r (q.headD 0) i = true)) ?_ ?_ ?_ k g q h).2.2
  · intro k q ⟨h1, h2, h3⟩
    exact ⟨fun i hi => by have := h1 i hi; omega, by omega, h3⟩
  · intro k
    refine ⟨fun i hi => by have := List.mem_singleton.1 hi; omega, by simp, fun i hi => ?_⟩
    obtain rfl := List.mem_singleton.1 hi
    exact ⟨by simp, .inl (by simp)⟩
  · intro k q ⟨h1, h2, h3⟩ hq hf
    rw [headD_app hq]
    refine ⟨fun i hi => ?_, by omega, fun i hi => ?_⟩
    · rcases List.mem_append.1 hi with hi | hi
      · have := h1 i hi; omega
      · have := List.mem_singleton.1 hi; omega
    · rcases List.mem_append.1 hi with hi | hi
      · exact h3 i hi
      · obtain rfl := List.mem_singleton.1 hi
        unfold fitB at hf
        rw [Bool.and_eq_true] at hf
        exact ⟨by omega, .inr hf.1⟩
theorem grp_site {zs : List Int} {w r : Int} {k g : Nat} {q : List Nat} (h : (grp zs w r k)[g]? = some q) : q.Pairwise (fun i j => fld 5 zs i 1 ≠ fld 5 zs j 1) := by
  refine grp_ind (zs := zs) (w := w) (r := r) (fun _ q => q.Pairwise (fun i j => fld 5 zs i 1 ≠ fld 5 zs j 1)) (fun _ _ h => h) (fun k => List.pairwise_singleton _ _) ?_ k g q h
  intro k q h1 _ hf
  refine List.pairwise_append.2 ⟨h1, List.pairwise_singleton _ _, fun a ha b hb => ?_⟩
  obtain rfl := List.mem_singleton.1 hb
  unfold fitB noB at hf
  rw [Bool.and_eq_true, List.all_eq_true] at hf
  exact of_decide_eq_true (hf.2 a ha)
theorem grp_lt {zs : List Int} {w r : Int} {k g : Nat} {q : List Nat} (h : (grp zs w r k)[g]? = some q) : ∀ i ∈ q, i < k := fun i hi => ((grp_mem h i).1 hi).1
theorem head_mem {q : List Nat} (h : 0 < q.length) : q.headD 0 ∈ q := by
  cases q with
  | nil => simp at h
  | cons a l => simp
theorem sum_set {k : Nat} : ∀ (gs : List (List Nat)) (p : Nat) (g : List Nat), gs[p]? = some g → ((gs.set p (g ++ [k])).map List.length).sum = (gs.map List.length).sum + 1
  | [], _, _, h => by simp at h
  | a :: l, 0, g, h => by
    simp at h
    subst h
    simp
    omega
  | a :: l, p + 1, g, h => by
    have := sum_set (k := k) l p g (by simpa using h)
    simp at this ⊢
    omega
theorem grp_tot (zs : List Int) (w r : Int) (k : Nat) : ((grp zs w r k).map List.length).sum = k := by
  induction k with
  | zero => rfl
  | succ k ih =>
    have hp := pos_le zs w r k (grp zs w r k)
    rw [grp]
    rcases Nat.lt_or_ge (pos zs w r k (grp zs w r k)) (grp zs w r k).length with h1 | h1
    · have hq := List.getElem?_eq_getElem h1
      rw [put_old hq, sum_set _ _ _ hq, ih]
    · have he : pos zs w r k (grp zs w r k) = (grp zs w r k).length := by omega
      rw [he, put_end, List.map_append, List.sum_append, ih]; rfl

/- Coordinates of a group. -/
def cx (zs : List Int) (j : Nat) (q : List Nat) : List Int := q.map fun k => fld 5 zs k j
theorem cx_length (zs : List Int) (j : Nat) (q : List Nat) : (cx zs j q).length = q.length := by simp [cx]
theorem cx_at {zs : List Int} {j k i : Nat} {q : List Nat} (h : q[k]? = some i) : (cx zs j q)[k]? = some (fld 5 zs i j) := by simp [cx, h]
theorem cx_get {zs : List Int} {j k i : Nat} {q : List Nat} (h : q[k]? = some i) : (cx zs j q).getD k 0 = fld 5 zs i j := by rw [List.getD_eq_getElem?_getD, cx_at h]; rfl
theorem cx_take {zs : List Int} {j k i : Nat} {q : List Nat} (h : q[k]? = some i) : cx zs j (q.take (k + 1)) = cx zs j (q.take k) ++ [fld 5 zs i j] := by
  rw [List.take_succ_eq_append_getElem (List.getElem?_eq_some_iff.1 h).1, (List.getElem?_eq_some_iff.1 h).2]
  simp [cx]
/-- The sum of the first k numbers. -/
def smT (xs : List Int) : Nat → Int
  | 0 => 0
  | k + 1 => smT xs k + xs.getD k 0
theorem smT_in {xs : List Int} {b : Int} {k : Nat} (h : ∀ j, j < k → 0 ≤ xs.getD j 0 ∧ xs.getD j 0 ≤ b) : 0 ≤ smT xs k ∧ smT xs k ≤ (k : Int) * b := by
  induction k with
  | zero => simp [smT]
  | succ k ih =>
    have h1 := ih (fun j hj => h j (by omega))
    have h2 := h k (by omega)
    have e : ((k + 1 : Nat) : Int) * b = (k : Int) * b + b := by rw [Int.natCast_succ, Int.add_mul, Int.one_mul]
    rw [smT, e]
    omega
def mean (xs : List Int) (n : Nat) : Int := (2 * smT xs n + n) / (2 * n)
theorem mean_in {xs : List Int} {b : Int} {k : Nat} (h0 : 0 < k) (h : ∀ j, j < k → 0 ≤ xs.getD j 0 ∧ xs.getD j 0 ≤ b) : 0 ≤ mean xs k ∧ mean xs k ≤ b := by
  obtain ⟨h1, h2⟩ := smT_in h
  have hk : (0 : Int) < 2 * (k : Int) := by omega
  unfold mean
  refine ⟨Int.ediv_nonneg (by omega) (by omega), ?_⟩
  have h3 : (2 * smT xs k + (k : Int)) / (2 * k) < b + 1 := by
    refine Int.ediv_lt_of_lt_mul hk ?_
    rw [Int.add_mul, Int.one_mul]
    have : b * (2 * (k : Int)) = 2 * ((k : Int) * b) := by rw [Int.mul_comm b, Int.mul_assoc]
    omega
  omega
/- Spreads. -/
def sdV (xs : List Int) (n : Nat) : Int := mxT xs (n - 1) - mnT xs (n - 1)
theorem mxT_is (xs : List Int) : ∀ k, ∃ j, j ≤ k ∧ xs.getD j 0 = mxT xs k
  | 0 => ⟨0, Nat.le_refl _, rfl⟩
  | k + 1 => by
    obtain ⟨j, h1, h2⟩ := mxT_is xs k
    rw [mxT]
    rcases Int.le_total (xs.getD (k + 1) 0) (mxT xs k) with h | h
    · exact ⟨j, by omega, by omega⟩
    · exact ⟨k + 1, Nat.le_refl _, by omega⟩
theorem mnT_is (xs : List Int) : ∀ k, ∃ j, j ≤ k ∧ xs.getD j 0 = mnT xs k
  | 0 => ⟨0, Nat.le_refl _, rfl⟩
  | k + 1 => by
    obtain ⟨j, h1, h2⟩ := mnT_is xs k
    rw [mnT]
    rcases Int.le_total (xs.getD (k + 1) 0) (mnT xs k) with h | h
    · exact ⟨k + 1, Nat.le_refl _, by omega⟩
    · exact ⟨j, by omega, by omega⟩
/-- The greatest difference: of all pairs ahead of number i, and of i with the first k. -/
def rowM (xs : List Int) (x : Int) (i : Nat) : Nat → Int
  | 0 => x
  | k + 1 => max (rowM xs x i k) ((xs.getD i 0 - xs.getD k 0).natAbs : Int)
def allM (xs : List Int) : Nat → Int
  | 0 => 0
  | i + 1 => rowM xs (allM xs i) i i
theorem rowM_ge (xs : List Int) (x : Int) (i : Nat) : ∀ k, x ≤ rowM xs x i k ∧ ∀ j, j < k → ((xs.getD i 0 - xs.getD j 0).natAbs : Int) ≤ rowM xs x i k
  | 0 => ⟨Int.le_refl _, fun j h => by omega⟩
  | k + 1 => by
    obtain ⟨h1, h2⟩ := rowM_ge xs x i k
    rw [rowM]
    refine ⟨by omega, fun j hj => ?_⟩
    rcases Nat.lt_or_ge j k with h | h
    · have := h2 j h; omega
    · obtain rfl : j = k := by omega
      omega
theorem rowM_le {xs : List Int} {x b : Int} {i : Nat} (hx : x ≤ b) : ∀ k, (∀ j, j < k → ((xs.getD i 0 - xs.getD j 0).natAbs : Int) ≤ b) → rowM xs x i k ≤ b
  | 0, _ => hx
  | k + 1, h => by
    have h1 := rowM_le hx k (fun j hj => h j (by omega))
    have h2 := h k (by omega)
    rw [rowM]; omega
theorem allM_ge (xs : List Int) : ∀ n, 0 ≤ allM xs n ∧ ∀ i k, k < i → i < n → ((xs.getD i 0 - xs.getD k 0).natAbs : Int) ≤ allM xs n
  | 0 => ⟨Int.le_refl _, fun i k _ h => by omega⟩
  | n + 1 => by
    obtain ⟨h1, h2⟩ := allM_ge xs n
    obtain ⟨h3, h4⟩ := rowM_ge xs (allM xs n) n n
    rw [allM]
    refine ⟨by omega, fun i k hk hi => ?_⟩
    rcases Nat.lt_or_ge i n with h | h
    · have := h2 i k hk h; omega
    · obtain rfl : i = n := by omega
      exact h4 k hk
theorem allM_le {xs : List Int} {b : Int} (hb : 0 ≤ b) : ∀ n, (∀ i k, k < i → i < n → ((xs.getD i 0 - xs.getD k 0).natAbs : Int) ≤ b) → allM xs n ≤ b
  | 0, _ => hb
  | n + 1, h => by
    rw [allM]
    exact rowM_le (allM_le hb n (fun i k h1 h2 => h i k h1 (by omega))) n (fun j hj => h n j hj (by omega))
theorem all_is (xs : List Int) (n : Nat) (h0 : 0 < n) : allM xs n = sdV xs n := by
  unfold sdV
  refine Int.le_antisymm (allM_le (by have := mnT_max xs (n - 1); omega) n fun i k hk hi => ?_) ?_
  · have h1 := mxT_ge (xs := xs) (k := n - 1) (j := i) (by omega)
    have h2 := mxT_ge (xs := xs) (k := n - 1) (j := k) (by omega)
    have h3 := mnT_le (xs := xs) (k := n - 1) (j := i) (by omega)
    have h4 := mnT_le (xs := xs) (k := n - 1) (j := k) (by omega)
    omega
  · obtain ⟨a, ha, ea⟩ := mxT_is xs (n - 1)
    obtain ⟨b, hb, eb⟩ := mnT_is xs (n - 1)
    obtain ⟨h1, h2⟩ := allM_ge xs n
    rw [← ea, ← eb]
    rcases Nat.lt_trichotomy a b with h | h | h
    · have := h2 b a h (by omega); omega
    · subst h; omega
    · have := h2 a b h (by omega); omega
theorem rowM_in {xs : List Int} {x b : Int} {i k : Nat} (h0 : 0 ≤ x) (hx : x ≤ b) (h : ∀ j, j < k → ((xs.getD i 0 - xs.getD j 0).natAbs : Int) ≤ b) : 0 ≤ rowM xs x i k ∧ rowM xs x i k ≤ b :=
  ⟨Int.le_trans h0 (rowM_ge xs x i k).1, rowM_le hx k h⟩
/-- SpreadOf. -/
def spB (zs : List Int) (n : Nat) (w r g : Int) : Bool := asB zs n w r && isIn g 0 (((grp zs w r n).length : Int) - 1)
def spV (zs : List Int) (n : Nat) (w r g : Int) (j : Nat) : Int := if spB zs n w r g then sdV (cx zs j ((grp zs w r n).getD g.toNat [])) ((grp zs w r n).getD g.toNat []).length else 0
theorem spV_yes {zs : List Int} {n j : Nat} {w r g : Int} (h : spB zs n w r g = true) : spV zs n w r g j = sdV (cx zs j ((grp zs w r n).getD g.toNat [])) ((grp zs w r n).getD g.toNat []).length := by unfold spV; rw [h]; rfl
theorem spV_no {zs : List Int} {n j : Nat} {w r g : Int} (h : spB zs n w r g = false) : spV zs n w r g j = 0 := by unfold spV; rw [h]; rfl
theorem spB_yes {zs : List Int} {n : Nat} {w r g : Int} (h : spB zs n w r g = true) : asB zs n w r = true ∧ 0 ≤ g ∧ g.toNat < (grp zs w r n).length := by
  unfold spB at h
  rw [Bool.and_eq_true] at h
  have := isIn_yes h.2
  exact ⟨h.1, this.1, by omega⟩
/- Plots. -/
def plS (zs : List Int) (q : List Nat) : Int := fld 5 zs (q.headD 0) 0
def plA (zs : List Int) (q : List Nat) : Int := fld 5 zs (q.headD 0) 2
def plX (zs : List Int) (q : List Nat) : Int := mean (cx zs 3 q) q.length
def plY (zs : List Int) (q : List Nat) : Int := mean (cx zs 4 q) q.length
def plL (zs : List Int) (q : List Nat) : List Int := (cx zs 1 q).mergeSort fun x y => decide (x ≤ y)
theorem plL_length (zs : List Int) (q : List Nat) : (plL zs q).length = q.length := by unfold plL; rw [List.length_mergeSort, cx_length]
def ptT (zs : List Int) (q : List Nat) : Nat → List Int
  | 0 => []
  | k + 1 => putq.put (ptT zs q k) (fld 5 zs (q.getD k 0) 1)
theorem ptT_asc (zs : List Int) (q : List Nat) : ∀ k, (ptT zs q k).Pairwise (· < ·)
  | 0 => List.Pairwise.nil
  | k + 1 => by rw [ptT, putq.put_ins]; exact putq.ins_asc (ptT_asc zs q k)
theorem ptT_mem {zs : List Int} {q : List Nat} {z : Int} : ∀ k, k ≤ q.length → (z ∈ ptT zs q k ↔ z ∈ cx zs 1 (q.take k))
  | 0, _ => by simp [ptT, cx]
  | k + 1, h => by
    have hq := List.getElem?_eq_getElem (show k < q.length by omega)
    rw [ptT, putq.put_ins, putq.mem_ins, ptT_mem k (by omega), cx_take hq, List.mem_append, List.mem_singleton, List.getD_eq_getElem?_getD, hq]; rfl
theorem ptT_len (zs : List Int) (q : List Nat) : ∀ k, (ptT zs q k).length ≤ k
  | 0 => Nat.le_refl _
  | k + 1 => by have := ptT_len zs q k; have h := putq.put_length (ptT zs q k) (fld 5 zs (q.getD k 0) 1); rw [ptT]; omega
theorem plL_asc {zs : List Int} {q : List Nat} (h : q.Pairwise (fun i j => fld 5 zs i 1 ≠ fld 5 zs j 1)) : (plL zs q).Pairwise (· < ·) := by
  have h1 := asc.sorted_le (cx zs 1 q)
  have h2 : (cx zs 1 q).Pairwise (· ≠ ·) := by unfold cx; rw [List.pairwise_map]; exact h
  have h3 : (plL zs q).Pairwise (· ≠ ·) := (List.Perm.pairwise_iff (fun hab => hab.symm) (List.mergeSort_perm (cx zs 1 q) fun x y => decide (x ≤ y))).2 h2
  have h1' : (plL zs q).Pairwise (fun x y => x ≤ y) := h1
  exact (h1'.and h3).imp (fun ⟨h4, h5⟩ => by omega)
theorem pt_is {zs : List Int} {q : List Nat} (h : q.Pairwise (fun i j => fld 5 zs i 1 ≠ fld 5 zs j 1)) : ptT zs q q.length = plL zs q := by
  refine asc.asc_ext (ptT_asc ..) (plL_asc h) fun z => ?_
  rw [ptT_mem _ (Nat.le_refl _), List.take_length]
  unfold plL
  rw [List.mem_mergeSort]
/-- A plot is valid. -/
def riT (xs : List Int) : Nat → Bool
  | 0 => true
  | k + 1 => riT xs k && (isIn (xs.getD k 0) 1 9 && (decide (k = 0) || decide (xs.getD (k - 1) 0 < xs.getD k 0)))
def plB (s a x y : Int) (xs : List Int) (n : Nat) : Bool := isIn s 0 86400 && (isIn a 1 65535 && (pB x y && (isIn n 1 9 && riT xs n)))
theorem riT_all {xs : List Int} {n : Nat} (h : riT xs n = true) : ∀ k, k < n → (1 ≤ xs.getD k 0 ∧ xs.getD k 0 ≤ 9) ∧ (0 < k → xs.getD (k - 1) 0 < xs.getD k 0) := by
  induction n with
  | zero => intro k hk; omega
  | succ m ih =>
    intro k hk
    rw [riT, Bool.and_eq_true, Bool.and_eq_true, Bool.or_eq_true] at h
    rcases Nat.lt_or_ge k m with h1 | h1
    · exact ih h.1 k h1
    · obtain rfl : k = m := by omega
      refine ⟨isIn_yes h.2.1, fun h0 => ?_⟩
      rcases h.2.2 with h2 | h2
      · have := of_decide_eq_true h2; omega
      · exact of_decide_eq_true h2
theorem riT_of {xs : List Int} {n : Nat} (h : ∀ k, k < n → (1 ≤ xs.getD k 0 ∧ xs.getD k 0 ≤ 9) ∧ (0 < k → xs.getD (k - 1) 0 < xs.getD k 0)) : riT xs n = true := by
  induction n with
  | zero => rfl
  | succ m ih =>
    rw [riT, ih (fun k hk => h k (by omega)), isIn_of (h m (by omega)).1.1 (h m (by omega)).1.2, Bool.true_and, Bool.true_and]
    rcases Nat.eq_zero_or_pos m with h0 | h0
    · rw [decide_eq_true h0]; rfl
    · rw [decide_eq_true ((h m (by omega)).2 h0), Bool.or_true]
theorem riT_ge {xs : List Int} {n : Nat} (h : riT xs n = true) : ∀ k, k < n → ((k : Int) + 1) ≤ xs.getD k 0 := by
  intro k
  induction k with
  | zero => intro hk; have := (riT_all h 0 hk).1.1; omega
  | succ k ih =>
    intro hk
    have h1 := ih (by omega)
    have h2 := (riT_all h (k + 1) hk).2 (by omega)
    rw [Nat.add_sub_cancel] at h2
    omega
theorem riT_le {xs : List Int} {n : Nat} (h : riT xs n = true) : n ≤ 9 := by
  rcases Nat.eq_zero_or_pos n with h0 | h0
  · omega
  · have h1 := riT_ge h (n - 1) (by omega)
    have h2 := (riT_all h (n - 1) (by omega)).1.2
    omega
theorem riT_cut {xs : List Int} {n k : Nat} (h : riT xs k = false) (hk : k ≤ n) : riT xs n = false := by
  cases hq : riT xs n
  · rfl
  · have := riT_of (fun j hj => riT_all hq j (by omega)) (n := k)
    rw [h] at this; cases this
theorem plB_yes {s a x y : Int} {xs : List Int} {n : Nat} (h : plB s a x y xs n = true) : (0 ≤ s ∧ s ≤ 86400) ∧ (1 ≤ a ∧ a ≤ 65535) ∧ ((0 ≤ x ∧ x ≤ 9899) ∧ 0 ≤ y ∧ y ≤ 9899) ∧ (1 ≤ n ∧ n ≤ 9) ∧ riT xs n = true := by
  unfold plB at h
  rw [Bool.and_eq_true, Bool.and_eq_true, Bool.and_eq_true, Bool.and_eq_true] at h
  have := isIn_yes h.2.2.2.1
  exact ⟨isIn_yes h.1, isIn_yes h.2.1, pB_yes h.2.2.1, ⟨by omega, by omega⟩, h.2.2.2.2⟩
theorem plot_ok {zs : List Int} {n g : Nat} {w r : Int} {q : List Nat} (hs : svB zs n = true) (hq : (grp zs w r n)[g]? = some q) : plB (plS zs q) (plA zs q) (plX zs q) (plY zs q) (plL zs q) q.length = true := by
  have h0 := grp_ne _ _ hq
  have hh := sv_at hs (grp_lt hq _ (head_mem h0))
  have hin : ∀ (j b : Nat), (∀ i, i < n → 0 ≤ fld 5 zs i j ∧ fld 5 zs i j ≤ b) → ∀ k, k < q.length → 0 ≤ (cx zs j q).getD k 0 ∧ (cx zs j q).getD k 0 ≤ b := by
    intro j b h k hk
    have e := List.getElem?_eq_getElem hk
    rw [cx_get e]
    exact h _ (grp_lt hq _ (List.mem_of_getElem? e))
  have hX := mean_in h0 (hin 3 9899 (fun i hi => (sv_at hs hi).2.2.2.1))
  have hY := mean_in h0 (hin 4 9899 (fun i hi => (sv_at hs hi).2.2.2.2))
  have hri : riT (plL zs q) q.length = true := by
    have hp := plL_asc (grp_site hq)
    refine riT_of fun k hk => ?_
    have hk' : k < (plL zs q).length := by rw [plL_length]; exact hk
    have e := List.getElem?_eq_getElem hk'
    have hm : (plL zs q).getD k 0 ∈ plL zs q := by rw [List.getD_eq_getElem?_getD, e]; exact List.getElem_mem hk'
    refine ⟨?_, fun h1 => ?_⟩
    · unfold plL at hm
      rw [List.mem_mergeSort] at hm
      obtain ⟨i, hi, he⟩ := List.mem_map.1 hm
      have := (sv_at hs (grp_lt hq i hi)).2.1
      unfold plL
      rw [← he]
      exact this
    · have := List.pairwise_iff_getElem.1 hp (k - 1) k (by omega) hk' (by omega)
      rw [List.getD_eq_getElem?_getD, List.getD_eq_getElem?_getD, e, List.getElem?_eq_getElem (show k - 1 < (plL zs q).length by omega)]
      exact this
  have e1 : isIn (plS zs q) 0 86400 = true := isIn_of hh.1.1 hh.1.2
  have e2 : isIn (plA zs q) 1 65535 = true := isIn_of hh.2.2.1.1 hh.2.2.1.2
  have e3 : pB (plX zs q) (plY zs q) = true := pB_of hX hY
  have e4 : isIn (q.length : Int) 1 9 = true := isIn_of (by omega) (by have := riT_le hri; omega)
  unfold plB
  rw [e1, e2, e3, e4, hri]; rfl
/-- Two sightings of one group. -/
theorem same_group {zs : List Int} {n i k : Nat} {w r : Int} (hs : svB zs n = true) (hki : k < i) (hi : i < n) (he : num zs w r k = num zs w r i) :
    fld 5 zs k 1 ≠ fld 5 zs i 1 ∧ fld 5 zs k 2 = fld 5 zs i 2 ∧ (0 ≤ w → fld 5 zs i 0 - fld 5 zs k 0 ≤ w) := by
  have hl := num_lt (zs := zs) (w := w) (r := r) i hi
  have hq := List.getElem?_eq_getElem hl
  have h1 := grp_at _ hl
  generalize hqq : (grp zs w r n)[num zs w r i] = q at *
  have mi := (grp_mem hq i).2 ⟨hi, rfl⟩
  have mk := (grp_mem hq k).2 ⟨by omega, he⟩
  have ti := grp_twin hq i mi
  have tk := grp_twin hq k mk
  have ha : ∀ j, (j = q.headD 0 ∨ twK zs w r (q.headD 0) j = true) → fld 5 zs j 2 = fld 5 zs (q.headD 0) 2 := by
    intro j h
    rcases h with h | h
    · rw [h]
    · exact (twK_yes h).1.symm
  refine ⟨?_, (ha k tk.2).trans (ha i ti.2).symm, fun hw => ?_⟩
  · have hp := grp_site hq
    intro e
    have hfil : q.Pairwise (· < ·) := by
      rw [hq] at h1
      injection h1 with h1
      rw [h1]
      exact List.Pairwise.filter _ List.pairwise_lt_range
    obtain ⟨a, ha', ea⟩ := List.mem_iff_getElem.1 mk
    obtain ⟨b, hb', eb⟩ := List.mem_iff_getElem.1 mi
    rcases Nat.lt_trichotomy a b with h | h | h
    · exact List.pairwise_iff_getElem.1 hp a b ha' hb' h (by rw [ea, eb]; exact e)
    · subst h; omega
    · have := List.pairwise_iff_getElem.1 hfil b a hb' ha' h
      omega
  · have h2 := sv_asc hs (q.headD 0) k tk.1 (by omega)
    rcases ti.2 with h | h
    · have := sv_asc hs i k (by omega) (by omega)
      omega
    · have := (twK_yes h).2.1
      omega
theorem sd_small {zs : List Int} {n g : Nat} {w r : Int} {q : List Nat} (hr : 0 ≤ r) (hq : (grp zs w r n)[g]? = some q) : sdV (cx zs 3 q) q.length ≤ 2 * r ∧ sdV (cx zs 4 q) q.length ≤ 2 * r := by
  have h0 := grp_ne _ _ hq
  have hd : ∀ j, j ≤ q.length - 1 → ((fld 5 zs (q.headD 0) 3 - r ≤ (cx zs 3 q).getD j 0 ∧ (cx zs 3 q).getD j 0 ≤ fld 5 zs (q.headD 0) 3 + r) ∧ (fld 5 zs (q.headD 0) 4 - r ≤ (cx zs 4 q).getD j 0 ∧ (cx zs 4 q).getD j 0 ≤ fld 5 zs (q.headD 0) 4 + r)) := by
    intro j hj
    have e := List.getElem?_eq_getElem (show j < q.length by omega)
    rw [cx_get e, cx_get e]
    rcases (grp_twin hq _ (List.mem_of_getElem? e)).2 with h | h
    · rw [h]; omega
    · have := twK_yes h; omega
  have a1 := mxT_in (fun j hj => (hd j hj).1)
  have a2 := mnT_in (fun j hj => (hd j hj).1)
  have b1 := mxT_in (fun j hj => (hd j hj).2)
  have b2 := mnT_in (fun j hj => (hd j hj).2)
  unfold sdV
  omega
end Go.Proofs.YtedocpocfpopgaaDoor.pltm
