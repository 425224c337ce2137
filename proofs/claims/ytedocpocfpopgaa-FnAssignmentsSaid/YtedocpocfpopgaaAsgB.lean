/- The best assignment in plain mathematics (no program in it). -/
import Derived.Test.YtedocpocfpopgaaAsg
namespace Go.Proofs.Ytedocpocfpopgaa.asgb
open Go.Proofs.Ytedocpocfpopgaa.in_ Go.Proofs.Ytedocpocfpopgaa.lst Go.Proofs.Ytedocpocfpopgaa.pos Go.Proofs.Ytedocpocfpopgaa.trk Go.Proofs.Ytedocpocfpopgaa.trkm Go.Proofs.Ytedocpocfpopgaa.asg

/-- How many of the first k plots are not in P. -/
def frT (P : List Int) : Nat → Nat
  | 0 => 0
  | k + 1 => frT P k + (if P.contains (k : Int) then 0 else 1)
theorem frT_le (P : List Int) (k : Nat) : frT P k ≤ k := by
  induction k with
  | zero => exact Nat.le_refl _
  | succ k ih => rw [frT]; split <;> omega
theorem fr_yes {P : List Int} {k : Nat} (h : P.contains (k : Int) = true) : frT P (k + 1) = frT P k := by rw [frT, h]; rfl
theorem fr_no {P : List Int} {k : Nat} (h : P.contains (k : Int) = false) : frT P (k + 1) = frT P k + 1 := by rw [frT, h]; rfl
/-- The best choice among the first k plots: q tells the best of the rest behind each. -/
def stp (P : List Int) (D : Nat → Int) (g : Int) (q : Nat → List Int × Int) (a : List Int × Int) : Nat → List Int × Int
  | 0 => a
  | k + 1 => if P.contains (k : Int) = true ∨ g < D k then stp P D g q a k
             else if (q k).2 + D k < (stp P D g q a k).2 then ((k : Int) :: (q k).1, (q k).2 + D k) else stp P D g q a k
/-- The best choices for the r tracks behind P, and what they cost with the plots that nobody takes. -/
def bst (D : Nat → Nat → Int) (g : Int) (m : Nat) : Nat → List Int → List Int × Int
  | 0, P => ([], (g + 1) * (frT P m : Int))
  | r + 1, P => stp P (D P.length) g (fun k => bst D g m r (P ++ [(k : Int)])) (-1 :: (bst D g m r (P ++ [-1])).1, (bst D g m r (P ++ [-1])).2 + (g + 1)) m
theorem stp_skip {P : List Int} {D : Nat → Int} {g : Int} {q : Nat → List Int × Int} {a : List Int × Int} {k : Nat} (h : P.contains (k : Int) = true ∨ g < D k) : stp P D g q a (k + 1) = stp P D g q a k := by rw [stp, if_pos h]
theorem stp_take {P : List Int} {D : Nat → Int} {g : Int} {q : Nat → List Int × Int} {a : List Int × Int} {k : Nat} (h1 : P.contains (k : Int) = false) (h2 : ¬ g < D k) (h3 : (q k).2 + D k < (stp P D g q a k).2) : stp P D g q a (k + 1) = ((k : Int) :: (q k).1, (q k).2 + D k) := by
  rw [stp, if_neg (by rw [h1]; simp; omega), if_pos h3]
theorem stp_keep {P : List Int} {D : Nat → Int} {g : Int} {q : Nat → List Int × Int} {a : List Int × Int} {k : Nat} (h1 : P.contains (k : Int) = false) (h2 : ¬ g < D k) (h3 : ¬ (q k).2 + D k < (stp P D g q a k).2) : stp P D g q a (k + 1) = stp P D g q a k := by
  rw [stp, if_neg (by rw [h1]; simp; omega), if_neg h3]
/-- What holds of the start and of each choice holds of the best one. -/
theorem stp_ind {P : List Int} {D : Nat → Int} {g : Int} {q : Nat → List Int × Int} {a : List Int × Int} {n : Nat} (Q : List Int × Int → Prop) (h0 : Q a) (h1 : ∀ k, k < n → P.contains (k : Int) = false → D k ≤ g → Q ((k : Int) :: (q k).1, (q k).2 + D k)) : ∀ k, k ≤ n → Q (stp P D g q a k) := by
  intro k
  induction k with
  | zero => intro _; exact h0
  | succ k ih =>
    intro hk
    by_cases h : P.contains (k : Int) = true ∨ g < D k
    · rw [stp_skip h]; exact ih (by omega)
    · have e1 : P.contains (k : Int) = false := by
        cases hq : P.contains (k : Int)
        · rfl
        · exact absurd (Or.inl hq) h
      have e2 : ¬ g < D k := fun hh => h (Or.inr hh)
      by_cases h3 : (q k).2 + D k < (stp P D g q a k).2
      · rw [stp_take e1 e2 h3]; exact h1 k (by omega) e1 (by omega)
      · rw [stp_keep e1 e2 h3]; exact ih (by omega)
theorem stp_le {P : List Int} {D : Nat → Int} {g : Int} {q : Nat → List Int × Int} {a : List Int × Int} : ∀ k, (stp P D g q a k).2 ≤ a.2 ∧ ∀ j, j < k → P.contains (j : Int) = false → D j ≤ g → (stp P D g q a k).2 ≤ (q j).2 + D j := by
  intro k
  induction k with
  | zero => exact ⟨Int.le_refl _, fun j hj => absurd hj (Nat.not_lt_zero _)⟩
  | succ k ih =>
    by_cases h : P.contains (k : Int) = true ∨ g < D k
    · rw [stp_skip h]
      refine ⟨ih.1, fun j hj h1 h2 => ?_⟩
      rcases Nat.lt_or_ge j k with h3 | h3
      · exact ih.2 j h3 h1 h2
      · obtain rfl : j = k := by omega
        rcases h with h | h
        · rw [h1] at h; cases h
        · omega
    · have e1 : P.contains (k : Int) = false := by
        cases hq : P.contains (k : Int)
        · rfl
        · exact absurd (Or.inl hq) h
      have e2 : ¬ g < D k := fun hh => h (Or.inr hh)
      by_cases h3 : (q k).2 + D k < (stp P D g q a k).2
      · rw [stp_take e1 e2 h3]
        refine ⟨by show (q k).2 + D k ≤ _; omega, fun j hj h1 h2 => ?_⟩
        rcases Nat.lt_or_ge j k with h4 | h4
        · have := ih.2 j h4 h1 h2; show (q k).2 + D k ≤ _; omega
        · obtain rfl : j = k := by omega
          exact Int.le_refl _
      · rw [stp_keep e1 e2 h3]
        refine ⟨ih.1, fun j hj h1 h2 => ?_⟩
        rcases Nat.lt_or_ge j k with h4 | h4
        · exact ih.2 j h4 h1 h2
        · obtain rfl : j = k := by omega
          omega
theorem bst_in {D : Nat → Nat → Int} {g : Int} {m : Nat} (hD : ∀ i k, 0 ≤ D i k) (hg : 0 ≤ g ∧ g ≤ 1000) : ∀ r P, 0 ≤ (bst D g m r P).2 ∧ (bst D g m r P).2 ≤ 1001 * ((r + m : Nat) : Int) ∧ (bst D g m r P).1.length = r := by
  intro r
  induction r with
  | zero =>
    intro P
    have := mul_in hg (frT_le P m)
    refine ⟨this.1, ?_, rfl⟩
    rw [Nat.zero_add]; exact this.2
  | succ r ih =>
    intro P
    rw [bst]
    have h0 := ih (P ++ [-1])
    refine ⟨?_, ?_, ?_⟩
    · refine stp_ind (n := m) (fun x => 0 ≤ x.2) ?_ (fun k _ _ _ => ?_) m (Nat.le_refl _)
      · show 0 ≤ _ + _
        omega
      · show 0 ≤ _ + _
        have := (ih (P ++ [(k : Int)])).1
        have := hD P.length k
        omega
    · refine Int.le_trans (stp_le m).1 ?_
      show _ + _ ≤ _
      omega
    · refine stp_ind (n := m) (fun x => x.1.length = r + 1) ?_ (fun k _ _ _ => ?_) m (Nat.le_refl _)
      · show _ + 1 = _
        rw [h0.2.2]
      · show _ + 1 = _
        rw [(ih _).2.2]

/- Prefixes. -/
theorem getD_left {P Q : List Int} {i : Nat} (h : i < P.length) : (P ++ Q).getD i 0 = P.getD i 0 := by
  rw [List.getD_eq_getElem?_getD, List.getD_eq_getElem?_getD, List.getElem?_append_left h]
theorem getD_next (P : List Int) (x : Int) : (P ++ [x]).getD P.length 0 = x := by
  rw [List.getD_eq_getElem?_getD, List.getElem?_append_right (Nat.le_refl _), Nat.sub_self]; rfl
theorem take_left {P Q : List Int} {i : Nat} (h : i ≤ P.length) : (P ++ Q).take i = P.take i := List.take_append_of_le_length h
theorem pair_left {D : Nat → Nat → Int} {g : Int} {m : Nat} {P Q : List Int} {i : Nat} (h : i < P.length) : pairOk D g m (P ++ Q) i = pairOk D g m P i := by
  unfold pairOk; rw [getD_left h, take_left (by omega)]
theorem prB_left {D : Nat → Nat → Int} {g : Int} {m : Nat} {P Q : List Int} : ∀ i, i ≤ P.length → prB D g m (P ++ Q) i = prB D g m P i := by
  intro i
  induction i with
  | zero => intro _; rfl
  | succ i ih => intro h; rw [prB, prB, ih (by omega), pair_left h]
theorem pr_none {D : Nat → Nat → Int} {g : Int} {m : Nat} {P : List Int} (h : prB D g m P P.length = true) : prB D g m (P ++ [-1]) (P ++ [-1]).length = true := by
  rw [List.length_append]
  show prB _ _ _ _ (P.length + 1) = true
  rw [prB, prB_left _ (Nat.le_refl _), h, pairOk_none (getD_next P (-1))]; rfl
theorem pr_some {D : Nat → Nat → Int} {g : Int} {m k : Nat} {P : List Int} (h : prB D g m P P.length = true) (hk : k < m) (hc : P.contains (k : Int) = false) (hd : D P.length k ≤ g) : prB D g m (P ++ [(k : Int)]) (P ++ [(k : Int)]).length = true := by
  rw [List.length_append]
  show prB _ _ _ _ (P.length + 1) = true
  rw [prB, prB_left _ (Nat.le_refl _), h, pairOk_some hk (getD_next P _) (by rw [take_left (Nat.le_refl _), List.take_length]; exact hc) hd]; rfl
/-- What the first i tracks cost. -/
def pcT (D : Nat → Nat → Int) (g : Int) (xs : List Int) : Nat → Int
  | 0 => 0
  | i + 1 => pcT D g xs i + (if xs.getD i 0 < 0 then g + 1 else D i (xs.getD i 0).toNat)
theorem pcT_left {D : Nat → Nat → Int} {g : Int} {P Q : List Int} : ∀ i, i ≤ P.length → pcT D g (P ++ Q) i = pcT D g P i := by
  intro i
  induction i with
  | zero => intro _; rfl
  | succ i ih => intro h; rw [pcT, pcT, ih (by omega), getD_left h]
theorem pc_none (D : Nat → Nat → Int) (g : Int) (P : List Int) : pcT D g (P ++ [-1]) (P ++ [-1]).length = pcT D g P P.length + (g + 1) := by
  rw [List.length_append]
  show pcT _ _ _ (P.length + 1) = _
  rw [pcT, pcT_left _ (Nat.le_refl _), getD_next, if_pos (by omega)]
theorem pc_some (D : Nat → Nat → Int) (g : Int) (P : List Int) (k : Nat) : pcT D g (P ++ [(k : Int)]) (P ++ [(k : Int)]).length = pcT D g P P.length + D P.length k := by
  rw [List.length_append]
  show pcT _ _ _ (P.length + 1) = _
  rw [pcT, pcT_left _ (Nat.le_refl _), getD_next, if_neg (by omega), Int.toNat_natCast]
/-- Each pair takes a plot. -/
theorem frT_none (P : List Int) : ∀ m, frT (P ++ [-1]) m = frT P m := by
  intro m
  induction m with
  | zero => rfl
  | succ m ih =>
    rw [frT, frT, ih]
    have : (P ++ [(-1 : Int)]).contains (m : Int) = P.contains (m : Int) := by
      rw [Bool.eq_iff_iff]; simp
    rw [this]
theorem frT_some {P : List Int} {k : Nat} (hc : P.contains (k : Int) = false) : ∀ m, frT (P ++ [(k : Int)]) m + (if k < m then 1 else 0) = frT P m := by
  intro m
  induction m with
  | zero => rfl
  | succ m ih =>
    rw [frT, frT, ← ih]
    by_cases h : m = k
    · subst h
      rw [hc]
      have : (P ++ [(m : Int)]).contains (m : Int) = true := by simp
      rw [this, if_pos rfl, if_neg (Nat.lt_irrefl m), if_pos (Nat.lt_succ_self m), if_neg Bool.false_ne_true]
    · have : (P ++ [(k : Int)]).contains (m : Int) = P.contains (m : Int) := by
        rw [Bool.eq_iff_iff]; simp; omega
      rw [this]
      by_cases h2 : k < m
      · rw [if_pos h2, if_pos (show k < m + 1 by omega)]; omega
      · rw [if_neg h2, if_neg (show ¬ k < m + 1 by omega)]; omega
theorem fr_np {D : Nat → Nat → Int} {g : Int} {m : Nat} {xs : List Int} : ∀ i, i ≤ xs.length → prB D g m xs i = true → frT (xs.take i) m + npT xs i = m := by
  intro i
  induction i with
  | zero =>
    intro _ _
    have : ∀ m, frT [] m = m := by
      intro m
      induction m with
      | zero => rfl
      | succ m ih => rw [frT, ih]; rfl
    rw [npT]; exact this m
  | succ i ih =>
    intro hi h
    rw [prB, Bool.and_eq_true] at h
    have h1 := ih (by omega) h.1
    have e : xs.take (i + 1) = xs.take i ++ [xs.getD i 0] := by
      rw [List.take_succ_eq_append_getElem (by omega), List.getD_eq_getElem?_getD, List.getElem?_eq_getElem (by omega)]; rfl
    rw [e, npT]
    rcases pairOk_yes h.2 with h2 | ⟨k, hk, h2, h3, _⟩
    · rw [h2, frT_none, if_pos (by omega)]; omega
    · rw [h2, if_neg (by omega)]
      have := frT_some h3 m
      rw [if_pos hk] at this
      omega
theorem pc_sd {D : Nat → Nat → Int} {g : Int} {xs : List Int} (i : Nat) : pcT D g xs i = sdT D xs i + (g + 1) * ((i : Int) - (npT xs i : Int)) := by
  induction i with
  | zero => rw [pcT, sdT, npT]; simp
  | succ i ih =>
    rw [pcT, sdT, npT, ih]
    split
    · rw [show (((i + 1 : Nat) : Int) - ((npT xs i + 0 : Nat) : Int)) = ((i : Int) - (npT xs i : Int)) + 1 by omega, Int.mul_add (g + 1), Int.mul_one]; omega
    · rw [show (((i + 1 : Nat) : Int) - ((npT xs i + 1 : Nat) : Int)) = ((i : Int) - (npT xs i : Int)) by omega]; omega
/-- The cost of a whole assignment is that of its tracks and of the plots that nobody takes. -/
theorem co_pc {D : Nat → Nat → Int} {g : Int} {m n : Nat} {xs : List Int} (hl : xs.length = n) (h : prB D g m xs n = true) : coT D g (n + m) xs n = pcT D g xs n + (g + 1) * (frT xs m : Int) := by
  have h1 := fr_np n (by omega) h
  rw [show xs.take n = xs by rw [← hl, List.take_length]] at h1
  unfold coT
  rw [pc_sd, show (frT xs m : Int) = (m : Int) - (npT xs n : Int) by omega, Int.mul_sub, Int.mul_sub, show ((n + m : Nat) : Int) = (n : Int) + (m : Int) by omega, Int.mul_add]
  omega
theorem step_eq (P : List Int) (x : Int) (s : List Int) : P ++ x :: s = (P ++ [x]) ++ s := by simp
theorem cut_ok {D : Nat → Nat → Int} {g : Int} {m : Nat} {P s : List Int} {x : Int} (h : prB D g m (P ++ x :: s) (P ++ x :: s).length = true) : x = -1 ∨ ∃ k : Nat, k < m ∧ x = (k : Int) ∧ P.contains (k : Int) = false ∧ D P.length k ≤ g := by
  have h1 := prB_at h (i := P.length) (by simp)
  have e : (P ++ x :: s).getD P.length 0 = x := by rw [step_eq, getD_left (by simp), getD_next]
  have e2 : (P ++ x :: s).take P.length = P := by rw [take_left (Nat.le_refl _), List.take_length]
  rcases pairOk_yes h1 with h2 | ⟨k, h2, h3, h4, h5⟩
  · rw [e] at h2; exact Or.inl h2
  · rw [e] at h3; rw [e2] at h4; exact Or.inr ⟨k, h2, h3, h4, h5⟩
/-- No way on costs less than the best one. -/
theorem bst_opt {D : Nat → Nat → Int} {g : Int} {m : Nat} : ∀ r P s, s.length = r → prB D g m (P ++ s) (P ++ s).length = true → pcT D g P P.length + (bst D g m r P).2 ≤ pcT D g (P ++ s) (P ++ s).length + (g + 1) * (frT (P ++ s) m : Int) := by
  intro r
  induction r with
  | zero =>
    intro P s hs _
    obtain rfl := List.eq_nil_of_length_eq_zero hs
    rw [List.append_nil]; exact Int.le_refl _
  | succ r ih =>
    intro P s hs h
    obtain ⟨x, t, rfl⟩ : ∃ x t, s = x :: t := by
      cases s with
      | nil => cases hs
      | cons x t => exact ⟨x, t, rfl⟩
    have ht : t.length = r := by simpa using hs
    have hx := cut_ok h
    rw [step_eq] at h ⊢
    have h1 := ih (P ++ [x]) t ht h
    rw [bst]
    rcases hx with rfl | ⟨k, hk, rfl, hc, hd⟩
    · rw [pc_none] at h1
      have h2 := (stp_le (P := P) (D := D P.length) (g := g) (q := fun k => bst D g m r (P ++ [(k : Int)])) (a := (-1 :: (bst D g m r (P ++ [-1])).1, (bst D g m r (P ++ [-1])).2 + (g + 1))) m).1
      have h3 : (stp P (D P.length) g (fun k => bst D g m r (P ++ [(k : Int)])) (-1 :: (bst D g m r (P ++ [-1])).1, (bst D g m r (P ++ [-1])).2 + (g + 1)) m).2 ≤ (bst D g m r (P ++ [-1])).2 + (g + 1) := h2
      omega
    · rw [pc_some] at h1
      have h2 := (stp_le (P := P) (D := D P.length) (g := g) (q := fun k => bst D g m r (P ++ [(k : Int)])) (a := (-1 :: (bst D g m r (P ++ [-1])).1, (bst D g m r (P ++ [-1])).2 + (g + 1))) m).2 k hk hc hd
      have h3 : (stp P (D P.length) g (fun k => bst D g m r (P ++ [(k : Int)])) (-1 :: (bst D g m r (P ++ [-1])).1, (bst D g m r (P ++ [-1])).2 + (g + 1)) m).2 ≤ (bst D g m r (P ++ [(k : Int)])).2 + D P.length k := h2
      omega
/-- The best way on is one, and costs what is told. -/
theorem bst_is {D : Nat → Nat → Int} {g : Int} {m : Nat} : ∀ r P, prB D g m P P.length = true → prB D g m (P ++ (bst D g m r P).1) (P ++ (bst D g m r P).1).length = true ∧
    pcT D g (P ++ (bst D g m r P).1) (P ++ (bst D g m r P).1).length + (g + 1) * (frT (P ++ (bst D g m r P).1) m : Int) = pcT D g P P.length + (bst D g m r P).2 := by
  intro r
  induction r with
  | zero =>
    intro P h
    show prB D g m (P ++ []) (P ++ []).length = true ∧ pcT D g (P ++ []) (P ++ []).length + (g + 1) * (frT (P ++ []) m : Int) = _
    rw [List.append_nil]
    exact ⟨h, rfl⟩
  | succ r ih =>
    intro P h
    rw [bst]
    refine stp_ind (n := m) (fun x => prB D g m (P ++ x.1) (P ++ x.1).length = true ∧ pcT D g (P ++ x.1) (P ++ x.1).length + (g + 1) * (frT (P ++ x.1) m : Int) = pcT D g P P.length + x.2) ?_ (fun k hk hc hd => ?_) m (Nat.le_refl _)
    · have h1 := ih (P ++ [-1]) (pr_none h)
      rw [pc_none] at h1
      show prB D g m (P ++ -1 :: _) (P ++ -1 :: _).length = true ∧ pcT D g (P ++ -1 :: _) (P ++ -1 :: _).length + (g + 1) * (frT (P ++ -1 :: _) m : Int) = pcT D g P P.length + (_ + (g + 1))
      rw [step_eq]
      exact ⟨h1.1, by rw [h1.2]; omega⟩
    · have h1 := ih (P ++ [(k : Int)]) (pr_some h hk hc hd)
      rw [pc_some] at h1
      show prB D g m (P ++ (k : Int) :: _) (P ++ (k : Int) :: _).length = true ∧ pcT D g (P ++ (k : Int) :: _) (P ++ (k : Int) :: _).length + (g + 1) * (frT (P ++ (k : Int) :: _) m : Int) = pcT D g P P.length + (_ + D P.length k)
      rw [step_eq]
      exact ⟨h1.1, by rw [h1.2]; omega⟩
/- The results of BestAssignment. -/
def beV (zs : List Int) (n : Nat) (ps : List Int) (m : Nat) (g : Int) : List Int := if akB zs n ps m g then (bst (pst zs ps) g m n []).1 else []
def beC (zs : List Int) (n : Nat) (ps : List Int) (m : Nat) (g : Int) : Int := if akB zs n ps m g then (bst (pst zs ps) g m n []).2 else 0
theorem be_yes {zs ps : List Int} {n m : Nat} {g : Int} (h : akB zs n ps m g = true) : beV zs n ps m g = (bst (pst zs ps) g m n []).1 ∧ beC zs n ps m g = (bst (pst zs ps) g m n []).2 := by unfold beV beC; rw [h]; exact ⟨rfl, rfl⟩
theorem be_no {zs ps : List Int} {n m : Nat} {g : Int} (h : akB zs n ps m g = false) : beV zs n ps m g = [] ∧ beC zs n ps m g = 0 := by unfold beV beC; rw [h]; exact ⟨rfl, rfl⟩
theorem beV_length {zs ps : List Int} {n m : Nat} {g : Int} (h : akB zs n ps m g = true) : (beV zs n ps m g).length = n := by
  have := akB_yes h
  rw [(be_yes h).1]; exact (bst_in (pst_nonneg zs ps) this.2.2.2 n []).2.2
theorem beV_le (zs : List Int) (n : Nat) (ps : List Int) (m : Nat) (g : Int) : (beV zs n ps m g).length ≤ 6 := by
  cases h : akB zs n ps m g
  · rw [(be_no h).1]; exact Nat.zero_le _
  · rw [beV_length h]; exact (tvB_yes (akB_yes h).1).2
/-- The best assignment is one; it costs what is told, and no other one costs less. -/
theorem be_asg {zs ps : List Int} {n m : Nat} {g : Int} (h : akB zs n ps m g = true) : agB zs n ps m g (beV zs n ps m g) n = true ∧ csV zs n ps m g (beV zs n ps m g) n = beC zs n ps m g := by
  have h1 := bst_is (D := pst zs ps) (g := g) (m := m) n [] rfl
  rw [List.nil_append, ← (be_yes h).1, ← (be_yes h).2, beV_length h] at h1
  have h2 : agB zs n ps m g (beV zs n ps m g) n = true := by unfold agB; rw [h, decide_eq_true rfl, h1.1]; rfl
  refine ⟨h2, ?_⟩
  rw [csV_yes h2, co_pc (beV_length h) h1.1, h1.2]
  show 0 + _ = _
  omega
theorem be_least {zs ps xs : List Int} {n m c : Nat} {g : Int} (hl : xs.length = c) (h : agB zs n ps m g xs c = true) : beC zs n ps m g ≤ csV zs n ps m g xs c := by
  obtain ⟨h1, rfl, h2⟩ := agB_yes h
  have h3 := bst_opt (D := pst zs ps) (g := g) (m := m) c [] xs hl (by rw [List.nil_append, hl]; exact h2)
  rw [List.nil_append, hl] at h3
  rw [csV_yes h, co_pc hl h2, (be_yes h1).2]
  have h4 : pcT (pst zs ps) g [] ([] : List Int).length = 0 := rfl
  rw [h4] at h3
  omega
end Go.Proofs.Ytedocpocfpopgaa.asgb
