/- Flight levels and clearances: the mathematics of the two laws (no program in it). -/
import Derived.Test.YtglonedhoenkpaaLvl
namespace Go.Proofs.Ytglonedhoenkpaa.lvlm
open Go.Proofs.Ytglonedhoenkpaa.in_ Go.Proofs.Ytglonedhoenkpaa.lst Go.Proofs.Ytglonedhoenkpaa.putq Go.Proofs.Ytglonedhoenkpaa.vel Go.Proofs.Ytglonedhoenkpaa.lvl

theorem cfB_iff {a l u f t b m v g s : Int} : cfB a l u f t b m v g s = true ↔ a ≠ b ∧ f < s ∧ g < t ∧ l ≤ v ∧ m ≤ u := by
  unfold cfB
  simp only [Bool.and_eq_true, Bool.not_eq_true', decide_eq_false_iff_not, decide_eq_true_eq, ne_eq]
theorem cfB_no {a l u f t b m v g s : Int} : cfB a l u f t b m v g s = false ↔ ¬ (a ≠ b ∧ f < s ∧ g < t ∧ l ≤ v ∧ m ≤ u) := by
  rw [← cfB_iff, Bool.not_eq_true]
/-- What was put into a list conflicts with nothing of it. -/
theorem ci_free {zs : List Int} {n : Nat} {a l u f t : Int} (hl : zs.length = n * 5) (h : ciB zs n a l u f t = true) : lcB zs n a l u f t = true ∧ (lcV zs n a l u f t).length = 0 := by
  unfold ciB at h
  have hp := ldI_le zs n a f
  generalize ldI zs n a f = p at *
  have h1 : lcB zs n a l u f t = true := by unfold lcB; rw [inR_old hl hp h, inR_x hl hp h]; rfl
  refine ⟨h1, ?_⟩
  rw [lcV_yes h1, lcT_nil]
  refine noT_of fun k hk => ?_
  unfold cfK
  rcases Nat.lt_or_ge k p with h2 | h2
  · have h3 := cv_no h (i := k) (k := p) h2 (by omega)
    rwa [inR_low hl hp h2 (by omega), inR_low hl hp h2 (by omega), inR_low hl hp h2 (by omega), inR_low hl hp h2 (by omega), inR_low hl hp h2 (by omega), inR_new hl hp (by omega), inR_new hl hp (by omega), inR_new hl hp (by omega), inR_new hl hp (by omega), inR_new hl hp (by omega)] at h3
  · have h3 := cv_no h (i := p) (k := k + 1) (by omega) (by omega)
    rw [inR_high hl hp h2 (by omega), inR_high hl hp h2 (by omega), inR_high hl hp h2 (by omega), inR_high hl hp h2 (by omega), inR_high hl hp h2 (by omega), inR_new hl hp (by omega), inR_new hl hp (by omega), inR_new hl hp (by omega), inR_new hl hp (by omega), inR_new hl hp (by omega)] at h3
    rw [cfB_no] at h3 ⊢
    intro ⟨e1, e2, e3, e4, e5⟩
    exact h3 ⟨fun e => e1 e.symm, e3, e2, e5, e4⟩
/-- .. and the aircraft is cleared to it in each of its minutes. -/
theorem ci_at {zs : List Int} {n : Nat} {a l u f t m : Int} (hl : zs.length = n * 5) (h : ciB zs n a l u f t = true) (h1 : f ≤ m) (h2 : m < t) :
    caB (ciV zs n a l u f t) (ciN zs n a l u f t) a m = true ∧ caL (ciV zs n a l u f t) (ciN zs n a l u f t) a m = l ∧ caU (ciV zs n a l u f t) (ciN zs n a l u f t) a m = u := by
  rw [ciV_yes h, ciN_yes h]
  unfold ciB at h
  have hp := ldI_le zs n a f
  generalize ldI zs n a f = p at *
  have h3 : atK (inR zs p a l u f t) a m p = true := by
    rw [atK_iff, inR_new hl hp (by omega), inR_new hl hp (by omega), inR_new hl hp (by omega)]
    exact ⟨rfl, h1, h2⟩
  have h4 : ∀ j, j < p → atK (inR zs p a l u f t) a m j = false := fun j hj => by
    cases hq : atK (inR zs p a l u f t) a m j
    · rfl
    · have h5 := atK_iff.1 hq
      rw [inR_low hl hp hj (by omega), inR_low hl hp hj (by omega), inR_low hl hp hj (by omega)] at h5
      have h6 := befB_iff.1 (inR_before hl hp h hj)
      omega
  have h5 : fsT (atK (inR zs p a l u f t) a m) p = p := fsT_all h4
  obtain ⟨e1, e2, e3⟩ := ca_found h (show p < n + 1 by omega) h5 h3
  refine ⟨e1, ?_, ?_⟩
  · rw [e2, inR_new hl hp (by omega)]; rfl
  · rw [e3, inR_new hl hp (by omega)]; rfl
theorem ci_x {zs : List Int} {n : Nat} {a l u f t : Int} (hl : zs.length = n * 5) (h : ciB zs n a l u f t = true) : 0 ≤ f ∧ f < t ∧ t ≤ 1440 := mnB_yes (clB_yes (inR_x hl (ldI_le zs n a f) h)).2.2.2.2
theorem ci_valid {zs : List Int} {n : Nat} {a l u f t : Int} (h : ciB zs n a l u f t = true) : cvB (ciV zs n a l u f t) (ciN zs n a l u f t) = true := by rw [ciV_yes h, ciN_yes h]; exact h

/- ReleaseLevels. -/
theorem most_le (a b : Int) : a ≤ most a b ∧ b ≤ most a b ∧ (most a b = a ∨ most a b = b) := by unfold most; split <;> omega
theorem rl_from {zs : List Int} {m : Int} (k : Nat) : ∀ i, i < rlC zs m k → ∃ j, j < k ∧ m < fld 5 zs j 4 ∧ fld 5 (rlT zs m k) i 0 = fld 5 zs j 0 ∧ fld 5 (rlT zs m k) i 1 = fld 5 zs j 1 ∧ fld 5 (rlT zs m k) i 2 = fld 5 zs j 2 ∧ fld 5 (rlT zs m k) i 3 = most (fld 5 zs j 3) m ∧ fld 5 (rlT zs m k) i 4 = fld 5 zs j 4 := by
  induction k with
  | zero => intro i hi; rw [rlC] at hi; omega
  | succ k ih =>
    intro i hi
    by_cases h : m < fld 5 zs k 4
    · rw [rlT_yes h]
      rw [rlC_yes h] at hi
      have hl := rlT_length zs m k
      rcases Nat.lt_or_ge i (rlC zs m k) with h1 | h1
      · obtain ⟨j, h2, h3, h4⟩ := ih i h1
        refine ⟨j, by omega, h3, ?_⟩
        rw [fld_old hl h1 (by omega), fld_old hl h1 (by omega), fld_old hl h1 (by omega), fld_old hl h1 (by omega), fld_old hl h1 (by omega)]
        exact h4
      · obtain rfl : i = rlC zs m k := by omega
        refine ⟨k, by omega, h, ?_⟩
        rw [fld_new hl (by omega), fld_new hl (by omega), fld_new hl (by omega), fld_new hl (by omega), fld_new hl (by omega)]
        exact ⟨rfl, rfl, rfl, rfl, rfl⟩
    · rw [rlT_not h]
      rw [rlC_not h] at hi
      obtain ⟨j, h2, h3⟩ := ih i hi
      exact ⟨j, by omega, h3⟩
theorem rl_pair {zs : List Int} {m : Int} (k : Nat) : ∀ i i', i < i' → i' < rlC zs m k → ∃ j j', j < j' ∧ j' < k ∧ m < fld 5 zs j 4 ∧ m < fld 5 zs j' 4
    ∧ (fld 5 (rlT zs m k) i 0 = fld 5 zs j 0 ∧ fld 5 (rlT zs m k) i 1 = fld 5 zs j 1 ∧ fld 5 (rlT zs m k) i 2 = fld 5 zs j 2 ∧ fld 5 (rlT zs m k) i 3 = most (fld 5 zs j 3) m ∧ fld 5 (rlT zs m k) i 4 = fld 5 zs j 4)
    ∧ (fld 5 (rlT zs m k) i' 0 = fld 5 zs j' 0 ∧ fld 5 (rlT zs m k) i' 1 = fld 5 zs j' 1 ∧ fld 5 (rlT zs m k) i' 2 = fld 5 zs j' 2 ∧ fld 5 (rlT zs m k) i' 3 = most (fld 5 zs j' 3) m ∧ fld 5 (rlT zs m k) i' 4 = fld 5 zs j' 4) := by
  induction k with
  | zero => intro i i' h hi; rw [rlC] at hi; omega
  | succ k ih =>
    intro i i' hii hi
    by_cases h : m < fld 5 zs k 4
    · rw [rlT_yes h]
      rw [rlC_yes h] at hi
      have hl := rlT_length zs m k
      have h0 : i < rlC zs m k := by omega
      rcases Nat.lt_or_ge i' (rlC zs m k) with h1 | h1
      · obtain ⟨j, j', h2, h3, h4, h5, h6, h7⟩ := ih i i' hii h1
        refine ⟨j, j', h2, by omega, h4, h5, ?_, ?_⟩
        · rw [fld_old hl h0 (by omega), fld_old hl h0 (by omega), fld_old hl h0 (by omega), fld_old hl h0 (by omega), fld_old hl h0 (by omega)]
          exact h6
        · rw [fld_old hl h1 (by omega), fld_old hl h1 (by omega), fld_old hl h1 (by omega), fld_old hl h1 (by omega), fld_old hl h1 (by omega)]
          exact h7
      · obtain rfl : i' = rlC zs m k := by omega
        obtain ⟨j, h2, h3, h4⟩ := rl_from k i h0
        refine ⟨j, k, h2, by omega, h3, h, ?_, ?_⟩
        · rw [fld_old hl h0 (by omega), fld_old hl h0 (by omega), fld_old hl h0 (by omega), fld_old hl h0 (by omega), fld_old hl h0 (by omega)]
          exact h4
        · rw [fld_new hl (by omega), fld_new hl (by omega), fld_new hl (by omega), fld_new hl (by omega), fld_new hl (by omega)]
          exact ⟨rfl, rfl, rfl, rfl, rfl⟩
    · rw [rlT_not h]
      rw [rlC_not h] at hi
      obtain ⟨j, j', h2, h3, h4⟩ := ih i i' hii hi
      exact ⟨j, j', h2, by omega, h4⟩
/-- What is left is a list of Cleareds. -/
theorem rl_valid {zs : List Int} {n : Nat} {m : Int} (h : rlB zs n m = true) : cvB (rlV zs n m) (rlN zs n m) = true := by
  rw [rlV_yes h, rlN_yes h]
  obtain ⟨hv, hm⟩ := rlB_yes h
  have hm := isIn_yes hm
  have hn := (cvB_yes hv).2
  have hle := rlC_le zs m n
  refine cv_make (by omega) (fun k hk => ?_) (fun i k hik hk => ?_) (fun i k hik hk => ?_)
  · obtain ⟨j, h1, h2, e0, e1, e2, e3, e4⟩ := rl_from n k hk
    unfold clK
    rw [e0, e1, e2, e3, e4]
    obtain ⟨g1, g2, g3, g4, g5⟩ := clB_yes (cv_cl hv h1)
    have g6 := mnB_yes g5
    have g7 := most_le (fld 5 zs j 3) m
    exact clB_of g1 g2 g3 g4 (mnB_of (by omega) (by omega) (by omega))
  · obtain ⟨j, j', h1, h2, h3, h4, ⟨e0, e1, e2, e3, e4⟩, d0, d1, d2, d3, d4⟩ := rl_pair n i k hik hk
    rw [e0, e4, d0, d3]
    have g1 := befB_iff.1 (cv_bef hv j j' h1 h2)
    have g7 := most_le (fld 5 zs j' 3) m
    rw [befB_iff]
    omega
  · obtain ⟨j, j', h1, h2, h3, h4, ⟨e0, e1, e2, e3, e4⟩, d0, d1, d2, d3, d4⟩ := rl_pair n i k hik hk
    rw [e0, e1, e2, e3, e4, d0, d1, d2, d3, d4]
    have g1 := cfB_no.1 (cv_no hv h1 h2)
    have g6 := most_le (fld 5 zs j 3) m
    have g7 := most_le (fld 5 zs j' 3) m
    rw [cfB_no]
    intro ⟨c1, c2, c3, c4, c5⟩
    exact g1 ⟨c1, by omega, by omega, c4, c5⟩
theorem rl_left {zs : List Int} {n : Nat} {m : Int} (h : rlB zs n m = true) {i : Nat} (hi : i < rlN zs n m) : m ≤ fld 5 (rlV zs n m) i 3 ∧ m < fld 5 (rlV zs n m) i 4 := by
  rw [rlN_yes h] at hi
  rw [rlV_yes h]
  obtain ⟨j, h1, h2, e0, e1, e2, e3, e4⟩ := rl_from n i hi
  have g7 := most_le (fld 5 zs j 3) m
  rw [e3, e4]
  omega
theorem take_five {us : List Int} {n k : Nat} (hl : us.length = n * 5) (hk : k < n) : us.take ((k + 1) * 5) = us.take (k * 5) ++ five (fld 5 us k 0) (fld 5 us k 1) (fld 5 us k 2) (fld 5 us k 3) (fld 5 us k 4) := by
  refine List.ext_getElem? fun i => ?_
  rw [List.getElem?_take]
  rcases Nat.lt_or_ge i (k * 5) with h | h
  · rw [if_pos (by omega), List.getElem?_append_left (by rw [List.length_take]; omega), List.getElem?_take, if_pos h]
  · rw [List.getElem?_append_right (by rw [List.length_take]; omega), List.length_take, Nat.min_eq_left (by omega)]
    split
    · have g : ∀ j, k * 5 + j < us.length → us[k * 5 + j]? = some (fld 5 us k j) := fun j hj => by
        unfold fld
        rw [List.getD_eq_getElem?_getD, List.getElem?_eq_getElem hj]; rfl
      obtain ⟨j, rfl⟩ : ∃ j, i = k * 5 + j := ⟨i - k * 5, by omega⟩
      rw [g j (by omega), Nat.add_sub_cancel_left]
      have : j = 0 ∨ j = 1 ∨ j = 2 ∨ j = 3 ∨ j = 4 := by omega
      rcases this with h | h | h | h | h <;> subst h <;> rfl
    · rw [List.getElem?_eq_none]
      rw [five_length]; omega
theorem rl_same {us : List Int} {n : Nat} {m : Int} (hl : us.length = n * 5) (h : ∀ i, i < n → m ≤ fld 5 us i 3 ∧ m < fld 5 us i 4) : ∀ k, k ≤ n → rlT us m k = us.take (k * 5) ∧ rlC us m k = k := by
  intro k
  induction k with
  | zero => intro _; exact ⟨by rw [Nat.zero_mul, List.take_zero]; rfl, rfl⟩
  | succ k ih =>
    intro hk
    obtain ⟨h1, h2⟩ := ih (by omega)
    obtain ⟨h3, h4⟩ := h k (by omega)
    rw [rlT_yes h4, rlC_yes h4, h1, h2, take_five hl (by omega), show most (fld 5 us k 3) m = fld 5 us k 3 by unfold most; rw [if_neg (by omega)]]
    exact ⟨rfl, rfl⟩
/-- Releasing again changes nothing. -/
theorem rl_again {zs : List Int} {n : Nat} {m : Int} (h : rlB zs n m = true) : rlB (rlV zs n m) (rlN zs n m) m = true ∧ rlV (rlV zs n m) (rlN zs n m) m = rlV zs n m ∧ rlN (rlV zs n m) (rlN zs n m) m = rlN zs n m := by
  have h1 : rlB (rlV zs n m) (rlN zs n m) m = true := by
    unfold rlB
    rw [rl_valid h, (rlB_yes h).2]; rfl
  have hl := rlV_length zs n m
  have h2 := rl_same hl (fun i hi => rl_left h hi) (rlN zs n m) (Nat.le_refl _)
  refine ⟨h1, ?_, ?_⟩
  · rw [rlV_yes h1, h2.1, List.take_of_length_le (by omega)]
  · rw [rlN_yes h1, h2.2]

/- FreeLevels, NearestLevel. -/
theorem lev_inj {i j : Nat} (h : lev i = lev j) : i = j := by unfold lev at h; omega
theorem lc_none {zs : List Int} {n : Nat} {a f t : Int} (h : frB zs n a f t = true) {j : Nat} (hj : j < 41) : lev j ∈ frT zs n a f t 41 ↔ (lcV zs n a (lev j) (lev j) f t).length = 0 := by
  rw [lcV_yes (by rw [frB_lc zs n a f t hj]; exact h), lcT_nil, frT_mem]
  constructor
  · rintro ⟨i, _, e, hn⟩
    obtain rfl := lev_inj e
    exact hn
  · intro hn; exact ⟨j, hj, rfl, hn⟩
theorem far_nonneg (a b : Int) : 0 ≤ far a b := by unfold far; split <;> omega
theorem nr_least {r : Int → Bool} {l : Int} {xs : List Int} (h0 : ∀ i, i < xs.length → xs.getD i 0 ≠ 0) : ∀ k, k ≤ xs.length → ∀ i, i < k → r (xs.getD i 0) = true → nrT r l xs k ≠ 0 ∧ far (nrT r l xs k) l ≤ far (xs.getD i 0) l := by
  intro k
  induction k with
  | zero => intro _ i hi; omega
  | succ k ih =>
    intro hk i hi hr
    have hih := ih (by omega)
    by_cases h1 : r (xs.getD k 0) = true
    · by_cases h2 : nrT r l xs k = 0 ∨ far (xs.getD k 0) l < far (nrT r l xs k) l
      · rw [nrT_yes h1 h2]
        refine ⟨h0 k (by omega), ?_⟩
        rcases Nat.lt_or_ge i k with h3 | h3
        · have := hih i h3 hr; omega
        · obtain rfl : i = k := by omega
          exact Int.le_refl _
      · rw [nrT_far (by omega) (by omega)]
        refine ⟨by omega, ?_⟩
        rcases Nat.lt_or_ge i k with h3 | h3
        · exact (hih i h3 hr).2
        · obtain rfl : i = k := by omega
          omega
    · have h1 : r (xs.getD k 0) = false := by simpa using h1
      rw [nrT_not h1]
      rcases Nat.lt_or_ge i k with h3 | h3
      · exact hih i h3 hr
      · obtain rfl : i = k := by omega
        rw [h1] at hr; cases hr
/-- The nearest level is one of the free ones, right, and none that is right is nearer. -/
theorem nr_told {zs : List Int} {n : Nat} {x y a f t l : Int} (h : nrO zs n x y a f t l = true) :
    frB zs n a f t = true ∧ nrV zs n x y a f t l ∈ frV zs n a f t ∧ rtO x y (nrV zs n x y a f t l) = true ∧ rtV x y (nrV zs n x y a f t l) = true
    ∧ ∀ i, i < (frV zs n a f t).length → rtO x y ((frV zs n a f t).getD i 0) = true ∧ (rtV x y ((frV zs n a f t).getD i 0) = true → far (nrV zs n x y a f t l) l ≤ far ((frV zs n a f t).getD i 0) l) := by
  have h1 : 0 < nrV zs n x y a f t l := of_decide_eq_true h
  have hB : nrB zs n x y a f t l = true := by
    cases hq : nrB zs n x y a f t l
    · rw [nrV_no hq] at h1; omega
    · rfl
  obtain ⟨hF, hM, hL⟩ := nrB_yes hB
  rw [frV_yes hF]
  have hV := nrV_yes hB
  rw [hV] at h1 ⊢
  have hlv : ∀ i, i < (frT zs n a f t 41).length → lvB ((frT zs n a f t 41).getD i 0) = true := fun i hi => frT_at (Nat.le_refl _) hi
  have hO : ∀ z, lvB z = true → rtO x y z = true := fun z hz => by unfold rtO; rw [hM, hz]; rfl
  rcases nrT_at (r := rtB x y) (l := l) (xs := frT zs n a f t 41) (frT zs n a f t 41).length with h2 | ⟨i, h2, h3, h4⟩
  · omega
  · refine ⟨hF, ?_, ?_, ?_, fun j hj => ⟨hO _ (hlv j hj), fun hr => ?_⟩⟩
    · rw [h3, List.getD_eq_getElem?_getD, List.getElem?_eq_getElem h2]
      exact List.getElem_mem h2
    · rw [h3]; exact hO _ (hlv i h2)
    · unfold rtV; rw [h3, hO _ (hlv i h2), h4]; rfl
    · refine (nr_least (fun i hi => ?_) _ (Nat.le_refl _) j hj ?_).2
      · have := lvB_yes (hlv i hi); omega
      · unfold rtV at hr; rw [Bool.and_eq_true] at hr; exact hr.2
end Go.Proofs.Ytglonedhoenkpaa.lvlm
