/- Clocks of receivers in plain mathematics (no program in it): pairs, the median, the drift, the worst pair, the shared time. -/
import Derived.Test.YtndogafihaooiaaIn
import Derived.Test.YtndogafihaooiaaLst
import Derived.Test.YtndogafihaooiaaAsc
namespace Go.Proofs.Ytndogafihaooiaa.clk
open Go.Proofs.Ytndogafihaooiaa.in_ Go.Proofs.Ytndogafihaooiaa.lst

/- Lists in rising order. -/
def rising (xs : List Int) : List Int := xs.mergeSort fun x y => decide (x ≤ y)
theorem rising_length (xs : List Int) : (rising xs).length = xs.length := List.length_mergeSort ..
theorem rising_le (xs : List Int) : (rising xs).Pairwise (fun x y => x ≤ y) := asc.sorted_le xs
theorem rising_perm (xs : List Int) : (rising xs).Perm xs := List.mergeSort_perm xs _
theorem le_ext : ∀ {xs ys : List Int}, xs.Pairwise (fun x y => x ≤ y) → ys.Pairwise (fun x y => x ≤ y) → xs.Perm ys → xs = ys
  | [], ys, _, _, h => (List.Perm.nil_eq h)
  | x :: r, [], _, _, h => by have := h.length_eq; simp at this
  | x :: r, y :: s, h1, h2, h => by
    obtain ⟨a1, a2⟩ := List.pairwise_cons.1 h1
    obtain ⟨b1, b2⟩ := List.pairwise_cons.1 h2
    have hxy : x = y := by
      have hx : x ∈ y :: s := h.mem_iff.1 (by simp)
      have hy : y ∈ x :: r := h.mem_iff.2 (by simp)
      rcases List.mem_cons.1 hx with e | hx
      · exact e
      · rcases List.mem_cons.1 hy with e | hy
        · exact e.symm
        · have := a1 y hy; have := b1 x hx; omega
    subst hxy
    rw [le_ext a2 b2 (h.cons_inv)]
theorem rising_of {xs ys : List Int} (hs : ys.Pairwise (fun x y => x ≤ y)) (hp : ys.Perm xs) : ys = rising xs := le_ext hs (rising_le xs) (hp.trans (rising_perm xs).symm)
theorem rising_at {xs : List Int} {i j : Nat} (hij : i ≤ j) (hj : j < xs.length) : (rising xs).getD i 0 ≤ (rising xs).getD j 0 := by
  rcases Nat.lt_or_ge i j with h | h
  · have h1 := List.pairwise_iff_getElem.1 (rising_le xs) i j (by rw [rising_length]; omega) (by rw [rising_length]; omega) h
    rw [List.getD_eq_getElem?_getD, List.getD_eq_getElem?_getD, List.getElem?_eq_getElem (by rw [rising_length]; omega), List.getElem?_eq_getElem (by rw [rising_length]; omega)]
    exact h1
  · obtain rfl : i = j := by omega
    exact Int.le_refl _
theorem mem_getD {xs : List Int} {x : Int} (h : x ∈ xs) : ∃ i, i < xs.length ∧ xs.getD i 0 = x := by
  obtain ⟨i, hi, e⟩ := List.getElem_of_mem h
  exact ⟨i, hi, by rw [List.getD_eq_getElem?_getD, List.getElem?_eq_getElem hi, e]; rfl⟩
/-- A number put in behind all that are no greater. -/
theorem ins_rising {xs : List Int} {d : Int} {j : Nat} (hj : j ≤ xs.length) (h1 : j = 0 ∨ (rising xs).getD (j - 1) 0 ≤ d) (h2 : ∀ i, j ≤ i → i < xs.length → d < (rising xs).getD i 0) :
    (rising xs).take j ++ [d] ++ (rising xs).drop j = rising (xs ++ [d]) := by
  have hl := rising_length xs
  have hp := rising_le xs
  have ht : ∀ x ∈ (rising xs).take j, x ≤ d := fun x hx => by
    obtain ⟨i, hi, e⟩ := mem_getD hx
    rw [List.length_take, hl] at hi
    rw [List.getD_eq_getElem?_getD, List.getElem?_take, if_pos (by omega), ← List.getD_eq_getElem?_getD] at e
    rcases h1 with h | h
    · omega
    · have := rising_at (xs := xs) (i := i) (j := j - 1) (by omega) (by omega)
      omega
  have hd : ∀ x ∈ (rising xs).drop j, d ≤ x := fun x hx => by
    obtain ⟨i, hi, e⟩ := mem_getD hx
    rw [List.length_drop, hl] at hi
    rw [List.getD_eq_getElem?_getD, List.getElem?_drop, ← List.getD_eq_getElem?_getD] at e
    have := h2 (j + i) (by omega) (by omega)
    omega
  refine rising_of ?_ ?_
  · rw [List.append_assoc, List.pairwise_append]
    refine ⟨hp.sublist (List.take_sublist _ _), ?_, fun a ha b hb => ?_⟩
    · rw [List.singleton_append, List.pairwise_cons]
      exact ⟨hd, hp.sublist (List.drop_sublist _ _)⟩
    · rw [List.singleton_append, List.mem_cons] at hb
      have hab := ht a ha
      rcases hb with rfl | hb
      · exact hab
      · have := hd b hb; omega
  · rw [List.append_assoc]
    refine (List.perm_middle (l₁ := (rising xs).take j) (l₂ := (rising xs).drop j) (a := d)).trans ?_
    rw [List.take_append_drop]
    refine ((rising_perm xs).cons d).trans ?_
    exact (List.perm_append_singleton d xs).symm

/- Pairs. -/
def tkB (x : Int) : Bool := isIn x 0 1000000
theorem tkB_yes {x : Int} (h : tkB x = true) : 0 ≤ x ∧ x ≤ 1000000 := of_decide_eq_true h
/-- The k-th pair is good behind those ahead of it. -/
def oneB (zs : List Int) (k : Nat) : Bool := tkB (fld 2 zs k 0) && (tkB (fld 2 zs k 1) && (decide (k = 0) || decide (fld 2 zs (k - 1) 0 < fld 2 zs k 0)))
def ckT (zs : List Int) : Nat → Bool
  | 0 => true
  | k + 1 => ckT zs k && oneB zs k
theorem ckT_at {zs : List Int} {n k : Nat} (h : ckT zs n = true) (hk : k < n) : oneB zs k = true := by
  induction n with
  | zero => omega
  | succ n ih =>
    rw [ckT, Bool.and_eq_true] at h
    by_cases e : k = n
    · subst e; exact h.2
    · exact ih h.1 (by omega)
theorem ckT_no {zs : List Int} {n k : Nat} (hk : k < n) (h : oneB zs k = false) : ckT zs n = false := by
  cases e : ckT zs n with
  | false => rfl
  | true => rw [ckT_at e hk] at h; cases h
theorem oneB_yes {zs : List Int} {k : Nat} (h : oneB zs k = true) : (0 ≤ fld 2 zs k 0 ∧ fld 2 zs k 0 ≤ 1000000) ∧ (0 ≤ fld 2 zs k 1 ∧ fld 2 zs k 1 ≤ 1000000) ∧ (0 < k → fld 2 zs (k - 1) 0 < fld 2 zs k 0) := by
  unfold oneB at h
  rw [Bool.and_eq_true, Bool.and_eq_true, Bool.or_eq_true] at h
  refine ⟨tkB_yes h.1, tkB_yes h.2.1, fun hk => ?_⟩
  rcases h.2.2 with e | e
  · have := of_decide_eq_true e; omega
  · exact of_decide_eq_true e
def ckB (zs : List Int) (n : Nat) : Bool := ckT zs n && decide (1 ≤ n ∧ n ≤ 12)
theorem ckB_yes {zs : List Int} {n : Nat} (h : ckB zs n = true) : ckT zs n = true ∧ 1 ≤ n ∧ n ≤ 12 := by
  unfold ckB at h
  rw [Bool.and_eq_true] at h
  exact ⟨h.1, of_decide_eq_true h.2⟩
theorem ckB_no {zs : List Int} {n : Nat} (h : ckT zs n = false) : ckB zs n = false := by unfold ckB; rw [h]; rfl
theorem ckB_len {zs : List Int} {n : Nat} (h : ¬ (1 ≤ n ∧ n ≤ 12)) : ckB zs n = false := by unfold ckB; rw [decide_eq_false h]; simp
theorem ckT_asc {zs : List Int} {n i j : Nat} (h : ckT zs n = true) (hij : i < j) (hj : j < n) : fld 2 zs i 0 < fld 2 zs j 0 := by
  induction j with
  | zero => omega
  | succ j ih =>
    have h1 := (oneB_yes (ckT_at h hj)).2.2 (by omega)
    rw [Nat.add_sub_cancel] at h1
    by_cases e : i = j
    · rw [e]; exact h1
    · have := ih (by omega) (by omega); omega

/- Differences, the median. -/
def df (zs : List Int) (k : Nat) : Int := fld 2 zs k 1 - fld 2 zs k 0
def dfL (zs : List Int) (n : Nat) : List Int := (List.range n).map (df zs)
theorem dfL_length (zs : List Int) (n : Nat) : (dfL zs n).length = n := by simp [dfL]
theorem dfL_succ (zs : List Int) (n : Nat) : dfL zs (n + 1) = dfL zs n ++ [df zs n] := by simp [dfL, List.range_succ]
theorem dfL_at {zs : List Int} {n k : Nat} (h : k < n) : (dfL zs n)[k]? = some (df zs k) := by simp [dfL, h]
theorem df_in {zs : List Int} {n k : Nat} (h : ckT zs n = true) (hk : k < n) : -1000000 ≤ df zs k ∧ df zs k ≤ 1000000 := by
  have := oneB_yes (ckT_at h hk)
  unfold df; omega
def srL (zs : List Int) (n : Nat) : List Int := rising (dfL zs n)
theorem srL_length (zs : List Int) (n : Nat) : (srL zs n).length = n := by unfold srL; rw [rising_length, dfL_length]
theorem srL_zero (zs : List Int) : srL zs 0 = [] := by simp [srL, rising, dfL]
theorem srL_in {zs : List Int} {n k i : Nat} (h : ckT zs n = true) (hk : k ≤ n) (hi : i < k) : -1000000 ≤ (srL zs k).getD i 0 ∧ (srL zs k).getD i 0 ≤ 1000000 := by
  have hm : (srL zs k).getD i 0 ∈ srL zs k := by
    rw [List.getD_eq_getElem?_getD, List.getElem?_eq_getElem (by rw [srL_length]; exact hi)]
    exact List.getElem_mem _
  have hm2 := (rising_perm (dfL zs k)).mem_iff.1 hm
  unfold dfL at hm2
  rw [List.mem_map] at hm2
  obtain ⟨j, hj, e⟩ := hm2
  rw [← e]
  exact df_in h (by have := List.mem_range.1 hj; omega)
theorem srL_ins {zs : List Int} {k j : Nat} (hj : j ≤ k) (h1 : j = 0 ∨ (srL zs k).getD (j - 1) 0 ≤ df zs k) (h2 : ∀ i, j ≤ i → i < k → df zs k < (srL zs k).getD i 0) :
    (srL zs k).take j ++ [df zs k] ++ (srL zs k).drop j = srL zs (k + 1) := by
  unfold srL at h1 h2 ⊢
  rw [dfL_succ]
  exact ins_rising (by rw [dfL_length]; exact hj) h1 (fun i hi hik => h2 i hi (by rw [dfL_length] at hik; exact hik))
def mdT (zs : List Int) (n : Nat) : Int := (srL zs n).getD ((n - 1) / 2) 0
theorem mdT_in {zs : List Int} {n : Nat} (h : ckT zs n = true) (h0 : 0 < n) : -1000000 ≤ mdT zs n ∧ mdT zs n ≤ 1000000 := srL_in h (Nat.le_refl n) (by omega)
def ofV (zs : List Int) (n : Nat) : Int := if ckB zs n then mdT zs n else 0
theorem of_yes {zs : List Int} {n : Nat} (h : ckB zs n = true) : ofV zs n = mdT zs n := by unfold ofV; rw [h]; rfl
theorem of_no {zs : List Int} {n : Nat} (h : ckB zs n = false) : ofV zs n = 0 := by unfold ofV; rw [h]; rfl

/- The drift. -/
def drB (zs : List Int) (n : Nat) : Bool := ckB zs n && decide (n ≠ 1)
def drX (zs : List Int) (n : Nat) : Int := fld 2 zs (n - 1) 1 - fld 2 zs 0 1 - fld 2 zs (n - 1) 0 + fld 2 zs 0 0
def drY (zs : List Int) (n : Nat) : Nat := (fld 2 zs (n - 1) 0 - fld 2 zs 0 0).toNat
def drG (zs : List Int) (n : Nat) : Nat := Nat.gcd (drX zs n).natAbs (drY zs n)
def drN (zs : List Int) (n : Nat) : Int := if drB zs n then (drX zs n).tdiv (drG zs n) else 0
def drD (zs : List Int) (n : Nat) : Int := if drB zs n then ((drY zs n / drG zs n : Nat) : Int) else 0
theorem dr_yes {zs : List Int} {n : Nat} (h : drB zs n = true) : drN zs n = (drX zs n).tdiv (drG zs n) ∧ drD zs n = ((drY zs n / drG zs n : Nat) : Int) := by unfold drN drD; rw [h]; exact ⟨rfl, rfl⟩
theorem dr_no {zs : List Int} {n : Nat} (h : drB zs n = false) : drN zs n = 0 ∧ drD zs n = 0 := by unfold drN drD; rw [h]; exact ⟨rfl, rfl⟩
theorem dr_in {zs : List Int} {n : Nat} (h : ckT zs n = true) (hn : 2 ≤ n) : (-2000000 ≤ drX zs n ∧ drX zs n ≤ 2000000) ∧ 1 ≤ drY zs n ∧ drY zs n ≤ 1000000 ∧ (drY zs n : Int) = fld 2 zs (n - 1) 0 - fld 2 zs 0 0 := by
  have h1 := oneB_yes (ckT_at h (show n - 1 < n by omega))
  have h2 := oneB_yes (ckT_at h (show 0 < n by omega))
  have h3 := ckT_asc h (show 0 < n - 1 by omega) (show n - 1 < n by omega)
  unfold drX drY; omega

/- The worst pair: the first one of those among the first k that differ most from a number o. -/
def dv (zs : List Int) (o : Int) (k : Nat) : Nat := (df zs k - o).natAbs
def wsT (zs : List Int) (o : Int) : Nat → Nat
  | 0 => 0
  | k + 1 => if dv zs o (wsT zs o k) < dv zs o k then k else wsT zs o k
theorem wsT_yes {zs : List Int} {o : Int} {k : Nat} (h : dv zs o (wsT zs o k) < dv zs o k) : wsT zs o (k + 1) = k := by rw [wsT, if_pos h]
theorem wsT_no {zs : List Int} {o : Int} {k : Nat} (h : ¬ dv zs o (wsT zs o k) < dv zs o k) : wsT zs o (k + 1) = wsT zs o k := by rw [wsT, if_neg h]
theorem wsT_one (zs : List Int) (o : Int) : wsT zs o 1 = 0 := by rw [wsT, if_neg (by rw [wsT]; omega), wsT]
theorem wsT_lt (zs : List Int) (o : Int) (k : Nat) (h : 0 < k) : wsT zs o k < k := by
  induction k with
  | zero => omega
  | succ k ih =>
    by_cases h1 : dv zs o (wsT zs o k) < dv zs o k
    · rw [wsT_yes h1]; omega
    · rw [wsT_no h1]
      rcases Nat.eq_zero_or_pos k with rfl | h2
      · rw [wsT]; omega
      · have := ih h2; omega
theorem wsT_max {zs : List Int} {o : Int} {k j : Nat} (hj : j < k) : dv zs o j ≤ dv zs o (wsT zs o k) := by
  induction k with
  | zero => omega
  | succ k ih =>
    by_cases h1 : dv zs o (wsT zs o k) < dv zs o k
    · rw [wsT_yes h1]
      by_cases e : j = k
      · rw [e]; exact Nat.le_refl _
      · have := ih (by omega); omega
    · rw [wsT_no h1]
      by_cases e : j = k
      · rw [e]; omega
      · exact ih (by omega)
/-- What is known of the greatest difference: none yet (z), or that of the worst one. -/
def wsM (zs : List Int) (o z : Int) (k : Nat) : Int := if k = 0 then z else (dv zs o (wsT zs o k) : Int)
theorem wsM_zero (zs : List Int) (o z : Int) : wsM zs o z 0 = z := rfl
theorem wsM_pos {zs : List Int} {o z : Int} {k : Nat} (h : 0 < k) : wsM zs o z k = (dv zs o (wsT zs o k) : Int) := by unfold wsM; rw [if_neg (by omega)]
theorem wsM_yes {zs : List Int} {o z : Int} {k : Nat} (h : wsM zs o z k < (dv zs o k : Int)) : wsT zs o (k + 1) = k ∧ wsM zs o z (k + 1) = (dv zs o k : Int) := by
  have e : wsT zs o (k + 1) = k := by
    unfold wsM at h
    by_cases hk : k = 0
    · rw [hk]; exact wsT_one _ _
    · rw [if_neg hk] at h; exact wsT_yes (by omega)
  exact ⟨e, by unfold wsM; rw [if_neg (by omega), e]⟩
theorem wsM_no {zs : List Int} {o z : Int} {k : Nat} (hz : z ≤ 0) (h : ¬ wsM zs o z k < (dv zs o k : Int)) : wsT zs o (k + 1) = wsT zs o k ∧ wsM zs o z (k + 1) = wsM zs o z k := by
  unfold wsM at h ⊢
  rw [if_neg (Nat.succ_ne_zero k)]
  by_cases hk : k = 0
  · subst hk
    rw [if_pos rfl] at h ⊢
    have e : wsT zs o (0 + 1) = 0 := wsT_one _ _
    have e0 : wsT zs o 0 = 0 := rfl
    rw [e, e0]
    exact ⟨rfl, by omega⟩
  · rw [if_neg hk] at h ⊢
    have e := wsT_no (zs := zs) (o := o) (k := k) (by omega)
    rw [e]
    exact ⟨rfl, rfl⟩
def wpI (zs : List Int) (n : Nat) : Int := if ckB zs n then (wsT zs (mdT zs n) n : Int) else 0
def wpD (zs : List Int) (n : Nat) : Int := if ckB zs n then (dv zs (mdT zs n) (wsT zs (mdT zs n) n) : Int) else 0
theorem wp_yes {zs : List Int} {n : Nat} (h : ckB zs n = true) : wpI zs n = (wsT zs (mdT zs n) n : Int) ∧ wpD zs n = (dv zs (mdT zs n) (wsT zs (mdT zs n) n) : Int) := by unfold wpI wpD; rw [h]; exact ⟨rfl, rfl⟩
theorem wp_no {zs : List Int} {n : Nat} (h : ckB zs n = false) : wpI zs n = 0 ∧ wpD zs n = 0 := by unfold wpI wpD; rw [h]; exact ⟨rfl, rfl⟩
theorem dv_in {zs : List Int} {n k : Nat} (h : ckT zs n = true) (h0 : 0 < n) (hk : k < n) : (dv zs (mdT zs n) k : Int) ≤ 2000000 := by
  have h1 := df_in h hk
  have h2 := mdT_in h h0
  unfold dv; omega
def scB (zs : List Int) (n : Nat) (m : Int) : Bool := ckB zs n && tkB m
def scV (zs : List Int) (n : Nat) (m : Int) : Bool := scB zs n m && decide ((dv zs (mdT zs n) (wsT zs (mdT zs n) n) : Int) ≤ m)

/- The shared time. -/
def shT (os ts : List Int) : Nat → Bool
  | 0 => true
  | k + 1 => shT os ts k && (isIn (os.getD k 0) (-1000000) 1000000 && isIn (ts.getD k 0) (-1) 1000000)
theorem shT_at {os ts : List Int} {n k : Nat} (h : shT os ts n = true) (hk : k < n) : (-1000000 ≤ os.getD k 0 ∧ os.getD k 0 ≤ 1000000) ∧ -1 ≤ ts.getD k 0 ∧ ts.getD k 0 ≤ 1000000 := by
  induction n with
  | zero => omega
  | succ n ih =>
    rw [shT, Bool.and_eq_true, Bool.and_eq_true] at h
    by_cases e : k = n
    · subst e; exact ⟨of_decide_eq_true h.2.1, of_decide_eq_true h.2.2⟩
    · exact ih h.1 (by omega)
theorem shT_no {os ts : List Int} {n k : Nat} (hk : k < n) (h : (isIn (os.getD k 0) (-1000000) 1000000 && isIn (ts.getD k 0) (-1) 1000000) = false) : shT os ts n = false := by
  cases e : shT os ts n with
  | false => rfl
  | true =>
    obtain ⟨h1, h2⟩ := shT_at e hk
    rw [show isIn (os.getD k 0) (-1000000) 1000000 = true from decide_eq_true h1, show isIn (ts.getD k 0) (-1) 1000000 = true from decide_eq_true h2] at h
    cases h
def shS (os ts : List Int) : Nat → Int
  | 0 => 0
  | k + 1 => if 0 ≤ ts.getD k 0 then shS os ts k + ts.getD k 0 - os.getD k 0 else shS os ts k
def shC (os ts : List Int) : Nat → Nat
  | 0 => 0
  | k + 1 => if 0 ≤ ts.getD k 0 then shC os ts k + 1 else shC os ts k
theorem sh_yes {os ts : List Int} {k : Nat} (h : 0 ≤ ts.getD k 0) : shS os ts (k + 1) = shS os ts k + ts.getD k 0 - os.getD k 0 ∧ shC os ts (k + 1) = shC os ts k + 1 := by rw [shS, shC, if_pos h, if_pos h]; exact ⟨rfl, rfl⟩
theorem sh_no {os ts : List Int} {k : Nat} (h : ¬ 0 ≤ ts.getD k 0) : shS os ts (k + 1) = shS os ts k ∧ shC os ts (k + 1) = shC os ts k := by rw [shS, shC, if_neg h, if_neg h]; exact ⟨rfl, rfl⟩
theorem shC_le (os ts : List Int) (k : Nat) : shC os ts k ≤ k := by
  induction k with
  | zero => exact Nat.le_refl _
  | succ k ih =>
    by_cases h : 0 ≤ ts.getD k 0
    · rw [(sh_yes (os := os) h).2]; omega
    · rw [(sh_no (os := os) h).2]; omega
theorem shS_in {os ts : List Int} {n k : Nat} (h : shT os ts n = true) (hk : k ≤ n) : -2000000 * (k : Int) ≤ shS os ts k ∧ shS os ts k ≤ 2000000 * (k : Int) := by
  induction k with
  | zero => exact ⟨by show -2000000 * ((0 : Nat) : Int) ≤ 0; omega, by show (0 : Int) ≤ 2000000 * ((0 : Nat) : Int); omega⟩
  | succ k ih =>
    have h1 := shT_at h (show k < n by omega)
    have h2 := ih (by omega)
    by_cases h3 : 0 ≤ ts.getD k 0
    · rw [(sh_yes (os := os) h3).1]; omega
    · rw [(sh_no (os := os) h3).1]; omega
def shB (os : List Int) (n : Nat) (ts : List Int) (m : Nat) : Bool := decide (1 ≤ n ∧ n ≤ 6) && (decide (m = n) && (shT os ts n && decide (shC os ts n ≠ 0)))
def shV (os : List Int) (n : Nat) (ts : List Int) (m : Nat) : Int := if shB os n ts m then shS os ts n / (shC os ts n : Int) else 0
theorem shV_yes {os ts : List Int} {n m : Nat} (h : shB os n ts m = true) : shV os n ts m = shS os ts n / (shC os ts n : Int) := by unfold shV; rw [h]; rfl
theorem shV_no {os ts : List Int} {n m : Nat} (h : shB os n ts m = false) : shV os n ts m = 0 := by unfold shV; rw [h]; rfl
/-- A quotient towards 0, one less where it is too great, is the quotient rounded down. -/
theorem down_yes {s c : Int} (hc : 0 < c) (h : s < s.tdiv c * c) : s / c = s.tdiv c - 1 := by
  have h1 := Int.mul_tdiv_add_tmod s c
  have h2 := Int.lt_tmod_of_pos s hc
  have h3 : s.tdiv c * c = c * s.tdiv c := Int.mul_comm _ _
  have h4 : c * (s.tdiv c - 1) = c * s.tdiv c - c := by rw [Int.mul_sub, Int.mul_one]
  exact ((Int.ediv_emod_unique (r := s.tmod c + c) (q := s.tdiv c - 1) hc).2 ⟨by omega, by omega, by omega⟩).1
theorem down_no {s c : Int} (hc : 0 < c) (h : ¬ s < s.tdiv c * c) : s / c = s.tdiv c := by
  have h1 := Int.mul_tdiv_add_tmod s c
  have h2 := Int.tmod_lt_of_pos s hc
  have h3 : s.tdiv c * c = c * s.tdiv c := Int.mul_comm _ _
  exact ((Int.ediv_emod_unique (r := s.tmod c) (q := s.tdiv c) hc).2 ⟨by omega, by omega, by omega⟩).1
end Go.Proofs.Ytndogafihaooiaa.clk
