/- Assigning plots to tracks in plain mathematics (no program in it). -/
import Derived.Test.YtfigjfckelichaaGreatDoorTrkM
namespace Go.Proofs.YtfigjfckelichaaGreatDoor.asg
open Go.Proofs.YtfigjfckelichaaGreatDoor.in_ Go.Proofs.YtfigjfckelichaaGreatDoor.lst Go.Proofs.YtfigjfckelichaaGreatDoor.pos Go.Proofs.YtfigjfckelichaaGreatDoor.trk Go.Proofs.YtfigjfckelichaaGreatDoor.trkm

/-- The distance of track i and plot k. -/
def pst (zs ps : List Int) (i k : Nat) : Int := ((fld 6 zs i 2 - fld 2 ps k 0).natAbs : Int) + ((fld 6 zs i 3 - fld 2 ps k 1).natAbs : Int)
theorem pst_nonneg (zs ps : List Int) (i k : Nat) : 0 ≤ pst zs ps i k := by unfold pst; omega
/-- Tracks, plots and gate are valid. -/
def akB (zs : List Int) (n : Nat) (ps : List Int) (m : Nat) (g : Int) : Bool := tvB zs n && (plT ps m && decide (m ≤ 5) && isIn g 0 1000)
theorem akB_yes {zs ps : List Int} {n m : Nat} {g : Int} (h : akB zs n ps m g = true) : tvB zs n = true ∧ plT ps m = true ∧ m ≤ 5 ∧ 0 ≤ g ∧ g ≤ 1000 := by
  unfold akB at h
  rw [Bool.and_eq_true, Bool.and_eq_true, Bool.and_eq_true] at h
  exact ⟨h.1, h.2.1.1, of_decide_eq_true h.2.1.2, (isIn_yes h.2.2).1, (isIn_yes h.2.2).2⟩
/-- The number in place i of the list is -1 or a plot within the gate that comes at no place before. -/
def pairOk (D : Nat → Nat → Int) (g : Int) (m : Nat) (xs : List Int) (i : Nat) : Bool :=
  isIn (xs.getD i 0) (-1) ((m : Int) - 1) && (decide (xs.getD i 0 < 0) || (!(xs.take i).contains (xs.getD i 0) && decide (D i (xs.getD i 0).toNat ≤ g)))
def prB (D : Nat → Nat → Int) (g : Int) (m : Nat) (xs : List Int) : Nat → Bool
  | 0 => true
  | i + 1 => prB D g m xs i && pairOk D g m xs i
/-- An assignment. -/
def agB (zs : List Int) (n : Nat) (ps : List Int) (m : Nat) (g : Int) (xs : List Int) (c : Nat) : Bool :=
  akB zs n ps m g && (decide (c = n) && prB (pst zs ps) g m xs n)
theorem agB_yes {zs ps xs : List Int} {n m c : Nat} {g : Int} (h : agB zs n ps m g xs c = true) : akB zs n ps m g = true ∧ c = n ∧ prB (pst zs ps) g m xs n = true := by
  unfold agB at h
  rw [Bool.and_eq_true, Bool.and_eq_true] at h
  exact ⟨h.1, of_decide_eq_true h.2.1, h.2.2⟩
theorem prB_at {D : Nat → Nat → Int} {g : Int} {m : Nat} {xs : List Int} {n i : Nat} (h : prB D g m xs n = true) (hi : i < n) : pairOk D g m xs i = true := by
  induction n with
  | zero => omega
  | succ n ih =>
    rw [prB, Bool.and_eq_true] at h
    rcases Nat.lt_or_ge i n with h1 | h1
    · exact ih h.1 h1
    · obtain rfl : i = n := by omega
      exact h.2
theorem prB_cut {D : Nat → Nat → Int} {g : Int} {m : Nat} {xs : List Int} {n k : Nat} (h : prB D g m xs k = false) (hk : k ≤ n) : prB D g m xs n = false := by
  cases hq : prB D g m xs n
  · rfl
  · have : ∀ j, j ≤ n → prB D g m xs j = true := by
      intro j
      induction j with
      | zero => intro _; rfl
      | succ j ih => intro hj; rw [prB, ih (by omega), prB_at hq (by omega)]; rfl
    rw [this k hk] at h; cases h
theorem pairOk_yes {D : Nat → Nat → Int} {g : Int} {m : Nat} {xs : List Int} {i : Nat} (h : pairOk D g m xs i = true) :
    xs.getD i 0 = -1 ∨ ∃ k : Nat, k < m ∧ xs.getD i 0 = (k : Int) ∧ (xs.take i).contains (k : Int) = false ∧ D i k ≤ g := by
  unfold pairOk at h
  rw [Bool.and_eq_true, Bool.or_eq_true, Bool.and_eq_true] at h
  have h1 := isIn_yes h.1
  rcases h.2 with h2 | h2
  · have := of_decide_eq_true h2; left; omega
  · rcases Int.lt_or_le (xs.getD i 0) 0 with h3 | h3
    · left; omega
    · right
      obtain ⟨k, hk⟩ : ∃ k : Nat, xs.getD i 0 = (k : Int) := ⟨_, (Int.toNat_of_nonneg h3).symm⟩
      rw [hk] at h1 h2
      rw [Int.toNat_natCast] at h2
      exact ⟨k, by omega, hk, by simpa using h2.1, of_decide_eq_true h2.2⟩
theorem pairOk_none {D : Nat → Nat → Int} {g : Int} {m : Nat} {xs : List Int} {i : Nat} (h : xs.getD i 0 = -1) : pairOk D g m xs i = true := by
  unfold pairOk
  rw [h, isIn_of (by omega) (by omega)]; rfl
theorem pairOk_some {D : Nat → Nat → Int} {g : Int} {m : Nat} {xs : List Int} {i k : Nat} (hk : k < m) (h : xs.getD i 0 = (k : Int)) (hc : (xs.take i).contains (k : Int) = false) (hd : D i k ≤ g) : pairOk D g m xs i = true := by
  unfold pairOk
  rw [h, isIn_of (by omega) (by omega), hc, Int.toNat_natCast, decide_eq_true hd]; simp

theorem pairOk_out {D : Nat → Nat → Int} {g : Int} {m : Nat} {xs : List Int} {i : Nat} (h : xs.getD i 0 < -1 ∨ (m : Int) ≤ xs.getD i 0) : pairOk D g m xs i = false := by
  cases hq : pairOk D g m xs i
  · rfl
  · rcases pairOk_yes hq with h1 | ⟨k, h1, h2, _⟩ <;> omega
theorem pairOk_has {D : Nat → Nat → Int} {g : Int} {m : Nat} {xs : List Int} {i k : Nat} (h : xs.getD i 0 = (k : Int)) (hc : (xs.take i).contains (k : Int) = true) : pairOk D g m xs i = false := by
  cases hq : pairOk D g m xs i
  · rfl
  · rcases pairOk_yes hq with h1 | ⟨j, h1, h2, h3, _⟩
    · omega
    · obtain rfl : j = k := by omega
      rw [hc] at h3; cases h3
theorem pairOk_far {D : Nat → Nat → Int} {g : Int} {m : Nat} {xs : List Int} {i k : Nat} (h : xs.getD i 0 = (k : Int)) (hd : ¬ D i k ≤ g) : pairOk D g m xs i = false := by
  cases hq : pairOk D g m xs i
  · rfl
  · rcases pairOk_yes hq with h1 | ⟨j, h1, h2, _, h3⟩
    · omega
    · obtain rfl : j = k := by omega
      exact absurd h3 hd
theorem agB_no {zs ps xs : List Int} {n m c : Nat} {g : Int} (h : prB (pst zs ps) g m xs n = false) : agB zs n ps m g xs c = false := by unfold agB; rw [h, Bool.and_false, Bool.and_false]
theorem agB_ask {zs ps xs : List Int} {n m c : Nat} {g : Int} (h : akB zs n ps m g = false) : agB zs n ps m g xs c = false := by unfold agB; rw [h]; rfl
theorem agB_len {zs ps xs : List Int} {n m c : Nat} {g : Int} (h : c ≠ n) : agB zs n ps m g xs c = false := by unfold agB; rw [decide_eq_false h, Bool.false_and, Bool.and_false]
theorem agB_of {zs ps xs : List Int} {n m : Nat} {g : Int} (h : akB zs n ps m g = true) (h2 : prB (pst zs ps) g m xs n = true) : agB zs n ps m g xs n = true := by unfold agB; rw [h, h2, decide_eq_true rfl]; rfl
/-- The places of valid tracks and plots. -/
theorem ak_track {zs ps : List Int} {n m i : Nat} {g : Int} (h : akB zs n ps m g = true) (hi : i < n) : pB (fld 6 zs i 2) (fld 6 zs i 3) = true := (tkB_yes (tv_at (akB_yes h).1 hi)).2.1
theorem ak_plot {zs ps : List Int} {n m k : Nat} {g : Int} (h : akB zs n ps m g = true) (hk : k < m) : pB (fld 2 ps k 0) (fld 2 ps k 1) = true := plT_at (akB_yes h).2.1 hk
theorem getD_some {xs : List Int} {k : Nat} {x : Int} (h : xs[k]? = some x) : xs.getD k 0 = x := by rw [List.getD_eq_getElem?_getD, h]; rfl

/- The cost. -/
/-- The sum of the distances of the first pairs, and how many there are. -/
def sdT (D : Nat → Nat → Int) (xs : List Int) : Nat → Int
  | 0 => 0
  | i + 1 => sdT D xs i + (if xs.getD i 0 < 0 then 0 else D i (xs.getD i 0).toNat)
def npT (xs : List Int) : Nat → Nat
  | 0 => 0
  | i + 1 => npT xs i + (if xs.getD i 0 < 0 then 0 else 1)
theorem npT_le (xs : List Int) (i : Nat) : npT xs i ≤ i := by
  induction i with
  | zero => exact Nat.le_refl _
  | succ i ih => rw [npT]; split <;> omega
theorem sdT_le {D : Nat → Nat → Int} {g : Int} {m : Nat} {xs : List Int} {n : Nat} (h : prB D g m xs n = true) (hD : ∀ i k, 0 ≤ D i k) (hg : 0 ≤ g ∧ g ≤ 1000) : ∀ i, i ≤ n → 0 ≤ sdT D xs i ∧ sdT D xs i ≤ 1000 * (i : Int) := by
  intro i
  induction i with
  | zero => intro _; exact ⟨Int.le_refl _, Int.le_refl _⟩
  | succ i ih =>
    intro hi
    have h1 := ih (by omega)
    rw [sdT]
    rcases pairOk_yes (prB_at h (show i < n by omega)) with h2 | ⟨k, _, h2, _, h3⟩
    · rw [h2, if_pos (by omega)]; omega
    · rw [h2, if_neg (by omega), Int.toNat_natCast]
      have := hD i k
      omega
/-- What the model says of the cost of the first i of t tracks and plots. -/
def coT (D : Nat → Nat → Int) (g : Int) (t : Nat) (xs : List Int) (i : Nat) : Int := (g + 1) * (t : Int) + sdT D xs i - 2 * ((g + 1) * (npT xs i : Int))
theorem coT_none {D : Nat → Nat → Int} {g : Int} {t i : Nat} {xs : List Int} (h : xs.getD i 0 < 0) : coT D g t xs (i + 1) = coT D g t xs i := by
  unfold coT
  rw [sdT, npT, if_pos h, if_pos h, Int.add_zero, Nat.add_zero]
theorem coT_some {D : Nat → Nat → Int} {g : Int} {t i : Nat} {xs : List Int} (h : ¬ xs.getD i 0 < 0) : coT D g t xs (i + 1) = coT D g t xs i + D i (xs.getD i 0).toNat - 2 * (g + 1) := by
  unfold coT
  rw [sdT, npT, if_neg h, if_neg h, show ((npT xs i + 1 : Nat) : Int) = (npT xs i : Int) + 1 by omega, Int.mul_add, Int.mul_one]
  omega
theorem mul_in {g : Int} {t b : Nat} (hg : 0 ≤ g ∧ g ≤ 1000) (ht : t ≤ b) : 0 ≤ (g + 1) * (t : Int) ∧ (g + 1) * (t : Int) ≤ 1001 * (b : Int) := by
  refine ⟨Int.mul_nonneg (by omega) (by omega), ?_⟩
  have h1 : (g + 1) * (t : Int) ≤ 1001 * (t : Int) := Int.mul_le_mul_of_nonneg_right (by omega) (by omega)
  have h2 : 1001 * (t : Int) ≤ 1001 * (b : Int) := by omega
  omega
theorem coT_in {D : Nat → Nat → Int} {g : Int} {m t : Nat} {xs : List Int} {n i : Nat} (h : prB D g m xs n = true) (hD : ∀ i k, 0 ≤ D i k) (hg : 0 ≤ g ∧ g ≤ 1000) (hi : i ≤ n) (hn : n ≤ 6) (ht : t ≤ 11) : -20000 ≤ coT D g t xs i ∧ coT D g t xs i ≤ 20000 := by
  have h1 := sdT_le h hD hg i hi
  have h2 := mul_in hg ht
  have h3 := mul_in hg (show npT xs i ≤ 6 from Nat.le_trans (npT_le xs i) (by omega))
  unfold coT
  omega
/-- What a pair's list costs. -/
def csV (zs : List Int) (n : Nat) (ps : List Int) (m : Nat) (g : Int) (xs : List Int) (c : Nat) : Int := if agB zs n ps m g xs c then coT (pst zs ps) g (n + m) xs n else 0
theorem csV_yes {zs ps xs : List Int} {n m c : Nat} {g : Int} (h : agB zs n ps m g xs c = true) : csV zs n ps m g xs c = coT (pst zs ps) g (n + m) xs n := by unfold csV; rw [h]; rfl
theorem csV_no {zs ps xs : List Int} {n m c : Nat} {g : Int} (h : agB zs n ps m g xs c = false) : csV zs n ps m g xs c = 0 := by unfold csV; rw [h]; rfl
theorem coT_is (D : Nat → Nat → Int) (g : Int) (t i : Nat) (xs : List Int) : coT D g t xs i = sdT D xs i + ((t : Int) - 2 * (npT xs i : Int)) * (g + 1) := by
  unfold coT
  rw [Int.sub_mul, Int.mul_comm (g + 1), Int.mul_comm (g + 1), Int.mul_assoc]
  omega

/- The nearest assignment. -/
/-- The nearest plot within the gate that is not in P, among the first k. -/
def nrK (D : Nat → Int) (g : Int) (P : List Int) : Nat → Int
  | 0 => -1
  | k + 1 => if D k ≤ g ∧ P.contains (k : Int) = false ∧ (nrK D g P k < 0 ∨ D k < D (nrK D g P k).toNat) then (k : Int) else nrK D g P k
theorem nrK_in (D : Nat → Int) (g : Int) (P : List Int) (k : Nat) : nrK D g P k = -1 ∨ ∃ j : Nat, j < k ∧ nrK D g P k = (j : Int) ∧ P.contains (j : Int) = false ∧ D j ≤ g := by
  induction k with
  | zero => exact Or.inl rfl
  | succ k ih =>
    rw [nrK]
    split
    · rename_i h; exact Or.inr ⟨k, by omega, rfl, h.2.1, h.1⟩
    · rcases ih with h | ⟨j, h1, h2⟩
      · exact Or.inl h
      · exact Or.inr ⟨j, by omega, h2⟩
/-- The least distance that the search for the nearest plot has met. -/
def lsT (D : Nat → Int) (g : Int) (P : List Int) (k : Nat) : Int := if nrK D g P k < 0 then g + 1 else D (nrK D g P k).toNat
theorem ls_lt {D : Nat → Int} {g : Int} {P : List Int} {k : Nat} : (D k < lsT D g P k) ↔ (D k ≤ g ∧ (nrK D g P k < 0 ∨ D k < D (nrK D g P k).toNat)) := by
  unfold lsT
  rcases nrK_in D g P k with h | ⟨j, _, h, _, hd⟩
  · rw [h, if_pos (by omega)]; omega
  · rw [h, if_neg (by omega), Int.toNat_natCast]; omega
theorem nr_yes {D : Nat → Int} {g : Int} {P : List Int} {k : Nat} (h1 : P.contains (k : Int) = false) (h2 : D k < lsT D g P k) : nrK D g P (k + 1) = (k : Int) ∧ lsT D g P (k + 1) = D k := by
  have e : nrK D g P (k + 1) = (k : Int) := by rw [nrK, if_pos ⟨(ls_lt.1 h2).1, h1, (ls_lt.1 h2).2⟩]
  exact ⟨e, by unfold lsT; rw [e, if_neg (by omega), Int.toNat_natCast]⟩
theorem nr_no {D : Nat → Int} {g : Int} {P : List Int} {k : Nat} (h : P.contains (k : Int) = true ∨ lsT D g P k ≤ D k) : nrK D g P (k + 1) = nrK D g P k ∧ lsT D g P (k + 1) = lsT D g P k := by
  have e : nrK D g P (k + 1) = nrK D g P k := by
    rw [nrK, if_neg]
    rintro ⟨a, b, c⟩
    rcases h with h | h
    · rw [b] at h; cases h
    · have := ls_lt.2 ⟨a, c⟩
      omega
  exact ⟨e, by unfold lsT; rw [e]⟩
theorem ls_in {D : Nat → Int} {g : Int} {P : List Int} (hD : ∀ k, 0 ≤ D k) (hg : 0 ≤ g ∧ g ≤ 1000) (k : Nat) : 0 ≤ lsT D g P k ∧ lsT D g P k ≤ 1001 := by
  unfold lsT
  rcases nrK_in D g P k with h | ⟨j, _, h, _, hd⟩
  · rw [h, if_pos (by omega)]; omega
  · rw [h, if_neg (by omega), Int.toNat_natCast]
    have := hD j
    omega
def neT (D : Nat → Nat → Int) (g : Int) (m : Nat) : Nat → List Int
  | 0 => []
  | i + 1 => neT D g m i ++ [nrK (D i) g (neT D g m i) m]
theorem neT_length (D : Nat → Nat → Int) (g : Int) (m i : Nat) : (neT D g m i).length = i := by
  induction i with
  | zero => rfl
  | succ i ih => rw [neT, List.length_append, ih]; rfl
def neV (zs : List Int) (n : Nat) (ps : List Int) (m : Nat) (g : Int) : List Int := if akB zs n ps m g then neT (pst zs ps) g m n else []
theorem neV_yes {zs ps : List Int} {n m : Nat} {g : Int} (h : akB zs n ps m g = true) : neV zs n ps m g = neT (pst zs ps) g m n := by unfold neV; rw [h]; rfl
theorem neV_no {zs ps : List Int} {n m : Nat} {g : Int} (h : akB zs n ps m g = false) : neV zs n ps m g = [] := by unfold neV; rw [h]; rfl
theorem neV_le (zs : List Int) (n : Nat) (ps : List Int) (m : Nat) (g : Int) : (neV zs n ps m g).length ≤ 6 := by
  cases h : akB zs n ps m g
  · rw [neV_no h]; exact Nat.zero_le _
  · rw [neV_yes h, neT_length]; exact (tvB_yes (akB_yes h).1).2

/- Free plots. -/
def unT (P : List Int) : Nat → List Int
  | 0 => []
  | k + 1 => unT P k ++ (if P.contains (k : Int) then [] else [(k : Int)])
theorem unT_le (P : List Int) (k : Nat) : (unT P k).length ≤ k := by
  induction k with
  | zero => exact Nat.le_refl _
  | succ k ih => rw [unT, List.length_append]; split <;> simp <;> omega
theorem un_yes {P : List Int} {k : Nat} (h : P.contains (k : Int) = true) : unT P (k + 1) = unT P k := by rw [unT, h]; exact List.append_nil _
theorem un_no {P : List Int} {k : Nat} (h : P.contains (k : Int) = false) : unT P (k + 1) = unT P k ++ [(k : Int)] := by rw [unT, h]; rfl
def frV (zs : List Int) (n : Nat) (ps : List Int) (m : Nat) (g : Int) (xs : List Int) (c : Nat) : List Int := if agB zs n ps m g xs c then unT xs m else []
theorem frV_yes {zs ps xs : List Int} {n m c : Nat} {g : Int} (h : agB zs n ps m g xs c = true) : frV zs n ps m g xs c = unT xs m := by unfold frV; rw [h]; rfl
theorem frV_no {zs ps xs : List Int} {n m c : Nat} {g : Int} (h : agB zs n ps m g xs c = false) : frV zs n ps m g xs c = [] := by unfold frV; rw [h]; rfl
theorem frV_le (zs : List Int) (n : Nat) (ps : List Int) (m : Nat) (g : Int) (xs : List Int) (c : Nat) : (frV zs n ps m g xs c).length ≤ 5 := by
  cases h : agB zs n ps m g xs c
  · rw [frV_no h]; exact Nat.zero_le _
  · rw [frV_yes h]
    exact Nat.le_trans (unT_le xs m) (akB_yes (agB_yes h).1).2.2.1

/- Swapped pairs. -/
def swB (D : Nat → Nat → Int) (xs : List Int) (i j : Nat) : Bool :=
  !decide (xs.getD i 0 < 0) && (!decide (xs.getD j 0 < 0) && decide (D i (xs.getD j 0).toNat + D j (xs.getD i 0).toNat < D i (xs.getD i 0).toNat + D j (xs.getD j 0).toNat))
def swI (D : Nat → Nat → Int) (xs : List Int) (i : Nat) (s : Nat) : Nat → Nat
  | 0 => s
  | j + 1 => swI D xs i s j + (if swB D xs i j then 1 else 0)
def swT (D : Nat → Nat → Int) (xs : List Int) : Nat → Nat
  | 0 => 0
  | i + 1 => swI D xs i (swT D xs i) i
theorem sw_yes {D : Nat → Nat → Int} {xs : List Int} {i j s : Nat} (h : swB D xs i j = true) : swI D xs i s (j + 1) = swI D xs i s j + 1 := by rw [swI, h]; rfl
theorem sw_no {D : Nat → Nat → Int} {xs : List Int} {i j s : Nat} (h : swB D xs i j = false) : swI D xs i s (j + 1) = swI D xs i s j := by rw [swI, h]; rfl
theorem swI_le (D : Nat → Nat → Int) (xs : List Int) (i s j : Nat) : swI D xs i s j ≤ s + j := by
  induction j with
  | zero => exact Nat.le_refl _
  | succ j ih => rw [swI]; split <;> omega
theorem swT_le (D : Nat → Nat → Int) (xs : List Int) (i : Nat) : swT D xs i ≤ i * i := by
  induction i with
  | zero => exact Nat.le_refl _
  | succ i ih =>
    rw [swT]
    have := swI_le D xs i (swT D xs i) i
    have h2 : (i + 1) * (i + 1) = i * i + i + i + 1 := by rw [Nat.add_mul, Nat.mul_add]; omega
    omega
def spV (zs : List Int) (n : Nat) (ps : List Int) (m : Nat) (g : Int) (xs : List Int) (c : Nat) : Int := if agB zs n ps m g xs c then (swT (pst zs ps) xs n : Int) else 0
theorem spV_yes {zs ps xs : List Int} {n m c : Nat} {g : Int} (h : agB zs n ps m g xs c = true) : spV zs n ps m g xs c = (swT (pst zs ps) xs n : Int) := by unfold spV; rw [h]; rfl
theorem spV_no {zs ps xs : List Int} {n m c : Nat} {g : Int} (h : agB zs n ps m g xs c = false) : spV zs n ps m g xs c = 0 := by unfold spV; rw [h]; rfl
/- PlotDistance. -/
def dst (x y u v : Int) : Int := ((x - u).natAbs : Int) + ((y - v).natAbs : Int)
def pdB (i s x y h l u v : Int) : Bool := tkB i s x y h l && pB u v
def pdV (i s x y h l u v : Int) : Int := if pdB i s x y h l u v then dst x y u v else 0
theorem pd_yes {i s x y h l u v : Int} (h1 : tkB i s x y h l = true) (h2 : pB u v = true) : pdB i s x y h l u v = true ∧ pdV i s x y h l u v = dst x y u v := by
  have : pdB i s x y h l u v = true := by unfold pdB; rw [h1, h2]; rfl
  exact ⟨this, by unfold pdV; rw [this]; rfl⟩
theorem pd_no {i s x y h l u v : Int} (hh : (tkB i s x y h l && pB u v) = false) : pdB i s x y h l u v = false ∧ pdV i s x y h l u v = 0 := ⟨hh, by unfold pdV pdB; rw [hh]; rfl⟩
theorem sd_none {D : Nat → Nat → Int} {xs : List Int} {i : Nat} (h : xs.getD i 0 < 0) : sdT D xs (i + 1) = sdT D xs i ∧ npT xs (i + 1) = npT xs i := by rw [sdT, npT, if_pos h, if_pos h]; exact ⟨Int.add_zero _, rfl⟩
theorem sd_some {D : Nat → Nat → Int} {xs : List Int} {i k : Nat} (h : xs.getD i 0 = (k : Int)) : sdT D xs (i + 1) = sdT D xs i + D i k ∧ npT xs (i + 1) = npT xs i + 1 := by
  rw [sdT, npT, if_neg (by omega), if_neg (by omega), h, Int.toNat_natCast]; exact ⟨rfl, rfl⟩
theorem co_some {D : Nat → Nat → Int} {g : Int} {t i k : Nat} {xs : List Int} (h : xs.getD i 0 = (k : Int)) : coT D g t xs (i + 1) = coT D g t xs i + D i k - 2 * (g + 1) := by
  rw [coT_some (by omega), h, Int.toNat_natCast]
theorem swB_no {D : Nat → Nat → Int} {xs : List Int} {i j : Nat} (h : xs.getD i 0 = -1 ∨ xs.getD j 0 = -1) : swB D xs i j = false := by
  unfold swB
  rcases h with h | h <;> rw [h] <;> simp
theorem swB_is {D : Nat → Nat → Int} {xs : List Int} {i j a b : Nat} (h1 : xs.getD i 0 = (a : Int)) (h2 : xs.getD j 0 = (b : Int)) : swB D xs i j = decide (D i b + D j a < D i a + D j b) := by
  unfold swB
  rw [h1, h2, decide_eq_false (show ¬ (a : Int) < 0 by omega), decide_eq_false (show ¬ (b : Int) < 0 by omega)]
  rfl
end Go.Proofs.YtfigjfckelichaaGreatDoor.asg
