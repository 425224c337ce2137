/- impl's nearestPlot, NearestAssignment, unpairedPlots, FreePlots. -/
import Derived.Test.YtfigjfckelichaaGreatDoorAsg
import Derived.Test.YtfigjfckelichaaGreatDoorTrkM
import Derived.Test.YtfigjfckelichaaGreatDoorTrkV
import Derived.Test.YtfigjfckelichaaGreatDoorPosJ
import Derived.Test.YtfigjfckelichaaGreatDoorPlcE
import Derived.Test.YtfigjfckelichaaGreatDoorShelf
import Derived.Deep.QuietTactic
import Derived.BigQuiet
import Derived.Test.YtfigjfckelichaaGreatDoorTailH
import Derived.Defers
import Derived.Lib.QuietBelow
import Derived.Laws.MakeOwn
import Derived.OwnWalk

/- The best assignment in plain mathematics (no program in it). -/
namespace Go.Proofs.YtfigjfckelichaaGreatDoor.asgb
open Go.Proofs.YtfigjfckelichaaGreatDoor.in_ Go.Proofs.YtfigjfckelichaaGreatDoor.lst Go.Proofs.YtfigjfckelichaaGreatDoor.pos Go.Proofs.YtfigjfckelichaaGreatDoor.trk Go.Proofs.YtfigjfckelichaaGreatDoor.trkm Go.Proofs.YtfigjfckelichaaGreatDoor.asg

/-- How many of the first k plots are not in P. -/
def frT (P : List Int) : Nat → Nat
  | 0 => 0
  | k + 1 => frT P k + (if P.contains (k : Int) then 0 else 1)
theorem frT_le (P : List Int) (k : Nat) : frT P k ≤ k := by
  induction k with
  | zero => exact Nat.le_refl _
  | succ k ih => rw [frT]; split <;> omega
theorem fr_yes {P : List Int} {k : Nat} (h : P.contains (k : Int) = true) : frT P (k + 1) = frT P k := by rw [frT, h]; rfl
theorem fr_no {P : List Int} {k : Nat} (h : P.contains (k : Int) = false) : frT P (k + 1) = frT P k + 1 := by rw [frT, h]; rfl
/-- The best choice among the first k plots: q tells the best of the rest behind each. -/
def stp (P : List Int) (D : Nat → Int) (g : Int) (q : Nat → List Int × Int) (a : List Int × Int) : Nat → List Int × Int
  | 0 => a
  | k + 1 => if P.contains (k : Int) = true ∨ g < D k then stp P D g q a k
             else if (q k).2 + D k < (stp P D g q a k).2 then ((k : Int) :: (q k).1, (q k).2 + D k) else stp P D g q a k
/-- The best choices for the r tracks behind P, and what they cost with the plots that nobody takes. -/
def bst (D : Nat → Nat → Int) (g : Int) (m : Nat) : Nat → List Int → List Int × Int
  | 0, P => ([], (g + 1) * (frT P m : Int))
  | r + 1, P => stp P (D P.length) g (fun k => bst D g m r (P ++ [(k : Int)])) (-1 :: (bst D g m r (P ++ [-1])).1, (bst D g m r (P ++ [-1])).2 + (g + 1)) m
theorem stp_skip {P : List Int} {D : Nat → Int} {g : Int} {q : Nat → List Int × Int} {a : List Int × Int} {k : Nat} (h : P.contains (k : Int) = true ∨ g < D k) : stp P D g q a (k + 1) = stp P D g q a k := by rw [stp, if_pos h]
theorem stp_take {P : List Int} {D : Nat → Int} {g : Int} {q : Nat → List Int × Int} {a : List Int × Int} {k : Nat} (h1 : P.contains (k : Int) = false) (h2 : ¬ g < D k) (h3 : (q k).2 + D k < (stp P D g q a k).2) : stp P D g q a (k + 1) = ((k : Int) :: (q k).1, (q k).2 + D k) := by
  rw [stp, if_neg (by rw [h1]; simp; omega), if_pos h3]
theorem stp_keep {P : List Int} {D : Nat → Int} {g : Int} {q : Nat → List Int × Int} {a : List Int × Int} {k : Nat} (h1 : P.contains (k : Int) = false) (h2 : ¬ g < D k) (h3 : ¬ (q k).2 + D k < (stp P D g q a k).2) : stp P D g q a (k + 1) = stp P D g q a k := by
  rw [stp, if_neg (by rw [h1]; simp; omega), if_neg h3]
/-- What holds of the start and of each choice holds of the best one. -/
theorem stp_ind {P : List Int} {D : Nat → Int} {g : Int} {q : Nat → List Int × Int} {a : List Int × Int} {n : Nat} (Q : List Int × Int → Prop) (h0 : Q a) (h1 : ∀ k, k < n → P.contains (k : Int) = false → D k ≤ g → Q ((k : Int) :: (q k).1, (q k).2 + D k)) : ∀ k, k ≤ n → Q (stp P D g q a k) := by
  intro k
  induction k with
  | zero => intro _; exact h0
  | succ k ih =>
    intro hk
    by_cases h : P.contains (k : Int) = true ∨ g < D k
    · rw [stp_skip h]; exact ih (by omega)
    · have e1 : P.contains (k : Int) = false := by
        cases hq : P.contains (k : Int)
        · rfl
        · exact absurd (Or.inl hq) h
      have e2 : ¬ g < D k := fun hh => h (Or.inr hh)
      by_cases h3 : (q k).2 + D k < (stp P D g q a k).2
      · rw [stp_take e1 e2 h3]; exact h1 k (by omega) e1 (by omega)
      · rw [stp_keep e1 e2 h3]; exact ih (by omega)
theorem stp_le {P : List Int} {D : Nat → Int} {g : Int} {q : Nat → List Int × Int} {a : List Int × Int} : ∀ k, (stp P D g q a k).2 ≤ a.2 ∧ ∀ j, j < k → P.contains (j : Int) = false → D j ≤ g → (stp P D g q a k).2 ≤ (q j).2 + D j := by
  intro k
  induction k with
  | zero => exact ⟨Int.le_refl _, fun j hj => absurd hj (Nat.not_lt_zero _)⟩
  | succ k ih =>
    by_cases h : P.contains (k : Int) = true ∨ g < D k
    · rw [stp_skip h]
      refine ⟨ih.1, fun j hj h1 h2 => ?_⟩
      rcases Nat.lt_or_ge j k with h3 | h3
      · exact ih.2 j h3 h1 h2
      · obtain rfl : j = k := by omega
        rcases h with h | h
        · rw [h1] at h; cases h
        · omega
    · have e1 : P.contains (k : Int) = false := by
        cases hq : P.contains (k : Int)
        · rfl
        · exact absurd (Or.inl hq) h
      have e2 : ¬ g < D k := fun hh => h (Or.inr hh)
      by_cases h3 : (q k).2 + D k < (stp P D g q a k).2
      · rw [stp_take e1 e2 h3]
        refine ⟨by show (q k).2 + D k ≤ _; omega, fun j hj h1 h2 => ?_⟩
        rcases Nat.lt_or_ge j k with h4 | h4
        · have := ih.2 j h4 h1 h2; show (q k).2 + D k ≤ _; omega
        · obtain rfl : j = k := by omega
          exact Int.le_refl _
      · rw [stp_keep e1 e2 h3]
        refine ⟨ih.1, fun j hj h1 h2 => ?_⟩
        rcases Nat.lt_or_ge j k with h4 | h4
        · exact ih.2 j h4 h1 h2
        · obtain rfl : j = k := by omega
          omega
theorem bst_in {D : Nat → Nat → Int} {g : Int} {m : Nat} (hD : ∀ i k, 0 ≤ D i k) (hg : 0 ≤ g ∧ g ≤ 1000) : ∀ r P, 0 ≤ (bst D g m r P).2 ∧ (bst D g m r P).2 ≤ 1001 * ((r + m : Nat) : Int) ∧ (bst D g m r P).1.length = r := by
  intro r
  induction r with
  | zero =>
    intro P
    have := mul_in hg (frT_le P m)
    refine ⟨this.1, ?_, rfl⟩
    rw [Nat.zero_add]; exact this.2
  | succ r ih =>
    intro P
    rw [bst]
    have h0 := ih (P ++ [-1])
    refine ⟨?_, ?_, ?_⟩
    · refine stp_ind (n := m) (fun x => 0 ≤ x.2) ?_ (fun k _ _ _ => ?_) m (Nat.le_refl _)
      · show 0 ≤ _ + _
        omega
      · show 0 ≤ _ + _
        have := (ih (P ++ [(k : Int)])).1
        have := hD P.length k
        omega
    · refine Int.le_trans (stp_le m).1 ?_
      show _ + _ ≤ _
      omega
    · refine stp_ind (n := m) (fun x => x.1.length = r + 1) ?_ (fun k _ _ _ => ?_) m (Nat.le_refl _)
      · show _ + 1 = _
        rw [h0.2.2]
      · show _ + 1 = _
        rw [(ih _).2.2]

/- Prefixes. -/
theorem getD_left {P Q : List Int} {i : Nat} (h : i < P.length) : (P ++ Q).getD i 0 = P.getD i 0 := by
  rw [List.getD_eq_getElem?_getD, List.getD_eq_getElem?_getD, List.getElem?_append_left h]
theorem getD_next (P : List Int) (x : Int) : (P ++ [x]).getD P.length 0 = x := by
  rw [List.getD_eq_getElem?_getD, List.getElem?_append_right (Nat.le_refl _), Nat.sub_self]; rfl
theorem take_left {P Q : List Int} {i : Nat} (h : i ≤ P.length) : (P ++ Q).take i = P.take i := List.take_append_of_le_length h
theorem pair_left {D : Nat → Nat → Int} {g : Int} {m : Nat} {P Q : List Int} {i : Nat} (h : i < P.length) : pairOk D g m (P ++ Q) i = pairOk D g m P i := by
  unfold pairOk; rw [getD_left h, take_left (by omega)]
theorem prB_left {D : Nat → Nat → Int} {g : Int} {m : Nat} {P Q : List Int} : ∀ i, i ≤ P.length → prB D g m (P ++ Q) i = prB D g m P i := by
  intro i
  induction i with
  | zero => intro _; rfl
  | succ i ih => intro h; rw [prB, prB, ih (by omega), pair_left h]
theorem pr_none {D : Nat → Nat → Int} {g : Int} {m : Nat} {P : List Int} (h : prB D g m P P.length = true) : prB D g m (P ++ [-1]) (P ++ [-1]).length = true := by
  rw [List.length_append]
  show prB _ _ _ _ (P.length + 1) = true
  rw [prB, prB_left _ (Nat.le_refl _), h, pairOk_none (getD_next P (-1))]; rfl
theorem pr_some {D : Nat → Nat → Int} {g : Int} {m k : Nat} {P : List Int} (h : prB D g m P P.length = true) (hk : k < m) (hc : P.contains (k : Int) = false) (hd : D P.length k ≤ g) : prB D g m (P ++ [(k : Int)]) (P ++ [(k : Int)]).length = true := by
  rw [List.length_append]
  show prB _ _ _ _ (P.length + 1) = true
  rw [prB, prB_left _ (Nat.le_refl _), h, pairOk_some hk (getD_next P _) (by rw [take_left (Nat.le_refl _), List.take_length]; exact hc) hd]; rfl
/-- What the first i tracks cost. -/
def pcT (D : Nat → Nat → Int) (g : Int) (xs : List Int) : Nat → Int
  | 0 => 0
  | i + 1 => pcT D g xs i + (if xs.getD i 0 < 0 then g + 1 else D i (xs.getD i 0).toNat)
theorem pcT_left {D : Nat → Nat → Int} {g : Int} {P Q : List Int} : ∀ i, i ≤ P.length → pcT D g (P ++ Q) i = pcT D g P i := by
  intro i
  induction i with
  | zero => intro _; rfl
  | succ i ih => intro h; rw [pcT, pcT, ih (by omega), getD_left h]
theorem pc_none (D : Nat → Nat → Int) (g : Int) (P : List Int) : pcT D g (P ++ [-1]) (P ++ [-1]).length = pcT D g P P.length + (g + 1) := by
  rw [List.length_append]
  show pcT _ _ _ (P.length + 1) = _
  rw [pcT, pcT_left _ (Nat.le_refl _), getD_next, if_pos (by omega)]
theorem pc_some (D : Nat → Nat → Int) (g : Int) (P : List Int) (k : Nat) : pcT D g (P ++ [(k : Int)]) (P ++ [(k : Int)]).length = pcT D g P P.length + D P.length k := by
  rw [List.length_append]
  show pcT _ _ _ (P.length + 1) = _
  rw [pcT, pcT_left _ (Nat.le_refl _), getD_next, if_neg (by omega), Int.toNat_natCast]
/-- Each pair takes a plot. -/
theorem frT_none (P : List Int) : ∀ m, frT (P ++ [-1]) m = frT P m := by
  intro m
  induction m with
  | zero => rfl
  | succ m ih =>
    rw [frT, frT, ih]
    have : (P ++ [(-1 : Int)]).contains (m : Int) = P.contains (m : Int) := by
      rw [Bool.eq_iff_iff]; simp
    rw [this]
theorem frT_some {P : List Int} {k : Nat} (hc : P.contains (k : Int) = false) : ∀ m, frT (P ++ [(k : Int)]) m + (if k < m then 1 else 0) = frT P m := by
  intro m
  induction m with
  | zero => rfl
  | succ m ih =>
    rw [frT, frT, ← ih]
    by_cases h : m = k
    · subst h
      rw [hc]
      have : (P ++ [(m : Int)]).contains (m : Int) = true := by simp
      rw [this, if_pos rfl, if_neg (Nat.lt_irrefl m), if_pos (Nat.lt_succ_self m), if_neg Bool.false_ne_true]
    · have : (P ++ [(k : Int)]).contains (m : Int) = P.contains (m : Int) := by
        rw [Bool.eq_iff_iff]; simp; omega
      rw [this]
      by_cases h2 : k < m
      · rw [if_pos h2, if_pos (show k < m + 1 by omega)]; omega
      · rw [if_neg h2, if_neg (show ¬ k < m + 1 by omega)]; omega
theorem fr_np {D : Nat → Nat → Int} {g : Int} {m : Nat} {xs : List Int} : ∀ i, i ≤ xs.length → prB D g m xs i = true → frT (xs.take i) m + npT xs i = m := by
  intro i
  induction i with
  | zero =>
    intro _ _
    have : ∀ m, frT [] m = m := by
      intro m
      induction m with
      | zero => rfl
      | succ m ih => rw [frT, ih]; rfl
    rw [npT]; exact this m
  | succ i ih =>
    intro hi h
    rw [prB, Bool.and_eq_true] at h
    have h1 := ih (by omega) h.1
    have e : xs.take (i + 1) = xs.take i ++ [xs.getD i 0] := by
      rw [List.take_succ_eq_append_getElem (by omega), List.getD_eq_getElem?_getD, List.getElem?_eq_getElem (by omega)]; rfl
    rw [e, npT]
    rcases pairOk_yes h.2 with h2 | ⟨k, hk, h2, h3, _⟩
    · rw [h2, frT_none, if_pos (by omega)]; omega
    · rw [h2, if_neg (by omega)]
      have := frT_some h3 m
      rw [if_pos hk] at this
      omega
theorem pc_sd {D : Nat → Nat → Int} {g : Int} {xs : List Int} (i : Nat) : pcT D g xs i = sdT D xs i + (g + 1) * ((i : Int) - (npT xs i : Int)) := by
  induction i with
  | zero => rw [pcT, sdT, npT]; simp
  | succ i ih =>
    rw [pcT, sdT, npT, ih]
    split
    · rw [show (((i + 1 : Nat) : Int) - ((npT xs i + 0 : Nat) : Int)) = ((i : Int) - (npT xs i : Int)) + 1 by omega, Int.mul_add (g + 1), Int.mul_one]; omega
    · rw [show (((i + 1 : Nat) : Int) - ((npT xs i + 1 : Nat) : Int)) = ((i : Int) - (npT xs i : Int)) by omega]; omega
/-- The cost of a whole assignment is that of its tracks and of the plots that nobody takes. -/
theorem co_pc {D : Nat → Nat → Int} {g : Int} {m n : Nat} {xs : List Int} (hl : xs.length = n) (h : prB D g m xs n = true) : coT D g (n + m) xs n = pcT D g xs n + (g + 1) * (frT xs m : Int) := by
  have h1 := fr_np n (by omega) h
  rw [show xs.take n = xs by rw [← hl, List.take_length]] at h1
  unfold coT
  rw [pc_sd, show (frT xs m : Int) = (m : Int) - (npT xs n : Int) by omega, Int.mul_sub, Int.mul_sub, show ((n + m : Nat) : Int) = (n : Int) + (m : Int) by omega, Int.mul_add]
  omega
theorem step_eq (P : List Int) (x : Int) (s : List Int) : P ++ x :: s = (P ++ [x]) ++ s := by simp
/-- The best way on is one, and costs what is told. -/
theorem bst_is {D : Nat → Nat → Int} {g : Int} {m : Nat} : ∀ r P, prB D g m P P.length = true → prB D g m (P ++ (bst D g m r P).1) (P ++ (bst D g m r P).1).length = true ∧
    pcT D g (P ++ (bst D g m r P).1) (P ++ (bst D g m r P).1).length + (g + 1) * (frT (P ++ (bst D g m r P).1) m : Int) = pcT D g P P.length + (bst D g m r P).2 := by
  intro r
  induction r with
  | zero =>
    intro P h
    show prB D g m (P ++ []) (P ++ []).length = true ∧ pcT D g (P ++ []) (P ++ []).length + (g + 1) * (frT (P ++ []) m : Int) = _
    rw [List.append_nil]
    exact ⟨h, rfl⟩
  | succ r ih =>
    intro P h
    rw [bst]
    refine stp_ind (n := m) (fun x => prB D g m (P ++ x.1) (P ++ x.1).length = true ∧ pcT D g (P ++ x.1) (P ++ x.1).length + (g + 1) * (frT (P ++ x.1) m : Int) = pcT D g P P.length + x.2) ?_ (fun k hk hc hd => ?_) m (Nat.le_refl _)
    · have h1 := ih (P ++ [-1]) (pr_none h)
      rw [pc_none] at h1
      show prB D g m (P ++ -1 :: _) (P ++ -1 :: _).length = true ∧ pcT D g (P ++ -1 :: _) (P ++ -1 :: _).length + (g + 1) * (frT (P ++ -1 :: _) m : Int) = pcT D g P P.length + (_ + (g + 1))
      rw [step_eq]
      exact ⟨h1.1, by rw [h1.2]; omega⟩
    · have h1 := ih (P ++ [(k : Int)]) (pr_some h hk hc hd)
      rw [pc_some] at h1
      show prB D g m (P ++ (k : Int) :: _) (P ++ (k : Int) :: _).length = true ∧ pcT D g (P ++ (k : Int) :: _) (P ++ (k : Int) :: _).length + (g + 1) * (frT (P ++ (k : Int) :: _) m : Int) = pcT D g P P.length + (_ + D P.length k)
      rw [step_eq]
      exact ⟨h1.1, by rw [h1.2]; omega⟩
/- The results of BestAssignment. -/
def beV (zs : List Int) (n : Nat) (ps : List Int) (m : Nat) (g : Int) : List Int := if akB zs n ps m g then (bst (pst zs ps) g m n []).1 else []
def beC (zs : List Int) (n : Nat) (ps : List Int) (m : Nat) (g : Int) : Int := if akB zs n ps m g then (bst (pst zs ps) g m n []).2 else 0
theorem be_yes {zs ps : List Int} {n m : Nat} {g : Int} (h : akB zs n ps m g = true) : beV zs n ps m g = (bst (pst zs ps) g m n []).1 ∧ beC zs n ps m g = (bst (pst zs ps) g m n []).2 := by unfold beV beC; rw [h]; exact ⟨rfl, rfl⟩
theorem be_no {zs ps : List Int} {n m : Nat} {g : Int} (h : akB zs n ps m g = false) : beV zs n ps m g = [] ∧ beC zs n ps m g = 0 := by unfold beV beC; rw [h]; exact ⟨rfl, rfl⟩
theorem beV_length {zs ps : List Int} {n m : Nat} {g : Int} (h : akB zs n ps m g = true) : (beV zs n ps m g).length = n := by
  have := akB_yes h
  rw [(be_yes h).1]; exact (bst_in (pst_nonneg zs ps) this.2.2.2 n []).2.2
/-- The best assignment is one; it costs what is told, and no other one costs less. -/
theorem be_asg {zs ps : List Int} {n m : Nat} {g : Int} (h : akB zs n ps m g = true) : agB zs n ps m g (beV zs n ps m g) n = true ∧ csV zs n ps m g (beV zs n ps m g) n = beC zs n ps m g := by
  have h1 := bst_is (D := pst zs ps) (g := g) (m := m) n [] rfl
  rw [List.nil_append, ← (be_yes h).1, ← (be_yes h).2, beV_length h] at h1
  have h2 : agB zs n ps m g (beV zs n ps m g) n = true := by unfold agB; rw [h, decide_eq_true rfl, h1.1]; rfl
  refine ⟨h2, ?_⟩
  rw [csV_yes h2, co_pc (beV_length h) h1.1, h1.2]
  show 0 + _ = _
  omega
end Go.Proofs.YtfigjfckelichaaGreatDoor.asgb

/- UpdateTracks in plain mathematics (no program in it). -/
namespace Go.Proofs.YtfigjfckelichaaGreatDoor.asgk
open Go.Proofs.YtfigjfckelichaaGreatDoor.in_ Go.Proofs.YtfigjfckelichaaGreatDoor.lst Go.Proofs.YtfigjfckelichaaGreatDoor.pos Go.Proofs.YtfigjfckelichaaGreatDoor.trk Go.Proofs.YtfigjfckelichaaGreatDoor.trkm Go.Proofs.YtfigjfckelichaaGreatDoor.asg Go.Proofs.YtfigjfckelichaaGreatDoor.asgb

/-- The Ids of the first i tracks that have a pair, and the places of their plots. -/
def idT (zs xs : List Int) : Nat → List Int
  | 0 => []
  | i + 1 => idT zs xs i ++ (if xs.getD i 0 < 0 then [] else [fld 6 zs i 0])
def plL (ps xs : List Int) : Nat → List Int
  | 0 => []
  | i + 1 => plL ps xs i ++ (if xs.getD i 0 < 0 then [] else [fld 2 ps (xs.getD i 0).toNat 0, fld 2 ps (xs.getD i 0).toNat 1])
theorem idT_le (zs xs : List Int) (i : Nat) : (idT zs xs i).length ≤ i := by
  induction i with
  | zero => exact Nat.le_refl _
  | succ i ih => rw [idT, List.length_append]; split <;> simp <;> omega
theorem plL_length (zs ps xs : List Int) (i : Nat) : (plL ps xs i).length = (idT zs xs i).length * 2 := by
  induction i with
  | zero => rfl
  | succ i ih => rw [plL, idT, List.length_append, List.length_append, ih]; split <;> simp <;> omega
theorem hit_no {zs ps xs : List Int} {i : Nat} (h : xs.getD i 0 = -1) : idT zs xs (i + 1) = idT zs xs i ∧ plL ps xs (i + 1) = plL ps xs i := by
  rw [idT, plL, h, if_pos (by omega), if_pos (by omega)]; exact ⟨List.append_nil _, List.append_nil _⟩
theorem hit_yes {zs ps xs : List Int} {i k : Nat} (h : xs.getD i 0 = (k : Int)) : idT zs xs (i + 1) = idT zs xs i ++ [fld 6 zs i 0] ∧ plL ps xs (i + 1) = plL ps xs i ++ [fld 2 ps k 0, fld 2 ps k 1] := by
  rw [idT, plL, h, if_neg (by omega), if_neg (by omega), Int.toNat_natCast]; exact ⟨rfl, rfl⟩
/-- New tracks at the free plots, as long as one can start. -/
def upT (ps : List Int) : List Int → List Int → Nat → List Int × Nat
  | [], zs, n => (zs, n)
  | k :: t, zs, n => if stB zs n (fld 2 ps k.toNat 0) (fld 2 ps k.toNat 1) then upT ps t (stR zs n (fld 2 ps k.toNat 0) (fld 2 ps k.toNat 1)) (n + 1) else (zs, n)
theorem up_yes {ps zs t : List Int} {n k : Nat} (h : stB zs n (fld 2 ps k 0) (fld 2 ps k 1) = true) : upT ps ((k : Int) :: t) zs n = upT ps t (stR zs n (fld 2 ps k 0) (fld 2 ps k 1)) (n + 1) := by
  rw [upT, Int.toNat_natCast, if_pos h]
theorem up_no {ps zs t : List Int} {n k : Nat} (h : stB zs n (fld 2 ps k 0) (fld 2 ps k 1) = false) : upT ps ((k : Int) :: t) zs n = (zs, n) := by
  rw [upT, Int.toNat_natCast, if_neg (by rw [h]; exact Bool.false_ne_true)]
theorem upT_in {ps : List Int} : ∀ (t zs : List Int) (n : Nat), zs.length = n * 6 → n ≤ 6 → (upT ps t zs n).1.length = (upT ps t zs n).2 * 6 ∧ (upT ps t zs n).2 ≤ 6 := by
  intro t
  induction t with
  | nil => intro zs n h1 h2; exact ⟨h1, h2⟩
  | cons k t ih =>
    intro zs n h1 h2
    rw [upT]
    split
    · rename_i h
      refine ih _ _ ?_ (tvB_yes h).2
      unfold stR
      rw [List.length_append, h1, six_length]; omega
    · exact ⟨h1, h2⟩
/-- UpdateTracks: what BestAssignment gives, the hits, whether it goes, the list, how many. -/
def upQ (zs : List Int) (n : Nat) (ps : List Int) (m : Nat) (g : Int) : Nat := (idT zs (beV zs n ps m g) n).length
def upB (zs : List Int) (n : Nat) (ps : List Int) (m : Nat) (g : Int) : Bool :=
  akB zs n ps m g && scB zs n (idT zs (beV zs n ps m g) n) (upQ zs n ps m g) (plL ps (beV zs n ps m g) n) (upQ zs n ps m g)
def upP (zs : List Int) (n : Nat) (ps : List Int) (m : Nat) (g : Int) : List Int × Nat :=
  upT ps (unT (beV zs n ps m g) m) (scL zs n (idT zs (beV zs n ps m g) n) (upQ zs n ps m g) (plL ps (beV zs n ps m g) n) (upQ zs n ps m g)) (scN zs n (idT zs (beV zs n ps m g) n) (upQ zs n ps m g) (plL ps (beV zs n ps m g) n) (upQ zs n ps m g))
def upL (zs : List Int) (n : Nat) (ps : List Int) (m : Nat) (g : Int) : List Int := if upB zs n ps m g then (upP zs n ps m g).1 else []
def upN (zs : List Int) (n : Nat) (ps : List Int) (m : Nat) (g : Int) : Nat := if upB zs n ps m g then (upP zs n ps m g).2 else 0
theorem u_yes {zs ps : List Int} {n m : Nat} {g : Int} (h : upB zs n ps m g = true) : upL zs n ps m g = (upP zs n ps m g).1 ∧ upN zs n ps m g = (upP zs n ps m g).2 := by unfold upL upN; rw [h]; exact ⟨rfl, rfl⟩
theorem u_no {zs ps : List Int} {n m : Nat} {g : Int} (h : upB zs n ps m g = false) : upL zs n ps m g = [] ∧ upN zs n ps m g = 0 := by unfold upL upN; rw [h]; exact ⟨rfl, rfl⟩
theorem u_ask {zs ps : List Int} {n m : Nat} {g : Int} (h : akB zs n ps m g = false) : upB zs n ps m g = false := by unfold upB; rw [h]; rfl
theorem up_ok {zs ps : List Int} {n m : Nat} {g : Int} (h : upB zs n ps m g = true) : (upL zs n ps m g).length = upN zs n ps m g * 6 ∧ upN zs n ps m g ≤ 6 := by
  rw [(u_yes h).1, (u_yes h).2]
  have h1 : akB zs n ps m g = true := by unfold upB at h; rw [Bool.and_eq_true] at h; exact h.1
  have hn := (tvB_yes (akB_yes h1).1).2
  unfold upP
  refine upT_in _ _ _ (scL_length ..) ?_
  exact Nat.le_trans (scN_le ..) hn
theorem upN_le (zs : List Int) (n : Nat) (ps : List Int) (m : Nat) (g : Int) : upN zs n ps m g ≤ 6 := by
  cases h : upB zs n ps m g
  · rw [(u_no h).2]; exact Nat.zero_le _
  · exact (up_ok h).2
/-- Free plots are plots. -/
theorem un_at {P : List Int} : ∀ {m j : Nat} {x : Int}, (unT P m)[j]? = some x → ∃ k : Nat, x = (k : Int) ∧ k < m := by
  intro m
  induction m with
  | zero => intro j x h; simp [unT] at h
  | succ m ih =>
    intro j x h
    rw [unT] at h
    rcases Nat.lt_or_ge j (unT P m).length with h1 | h1
    · rw [List.getElem?_append_left h1] at h
      obtain ⟨k, e, hk⟩ := ih h
      exact ⟨k, e, by omega⟩
    · rw [List.getElem?_append_right h1] at h
      split at h
      · simp at h
      · cases hj : j - (unT P m).length with
        | zero => rw [hj] at h; simp at h; exact ⟨m, h.symm, by omega⟩
        | succ q => rw [hj] at h; simp at h
end Go.Proofs.YtfigjfckelichaaGreatDoor.asgk

/- Mathematics of FnScans and FnTracks: a scan keeps a list valid and drops what is missing; a track is confirmed if it has three hits. -/
namespace Go.Proofs.YtfigjfckelichaaGreatDoor.trkn
open Go.Proofs.YtfigjfckelichaaGreatDoor.in_ Go.Proofs.YtfigjfckelichaaGreatDoor.lst Go.Proofs.YtfigjfckelichaaGreatDoor.pos Go.Proofs.YtfigjfckelichaaGreatDoor.trk Go.Proofs.YtfigjfckelichaaGreatDoor.trkm

theorem sc_parts {zs ids ps : List Int} {n m q : Nat} (h : scB zs n ids m ps q = true) : tvB zs n = true ∧ chB (scanC zs ids m ps) n = true := by
  unfold scB haB at h
  rw [Bool.and_eq_true, Bool.and_eq_true, Bool.and_eq_true, Bool.and_eq_true] at h
  exact ⟨h.2.2.1.1, h.2.2.2⟩
theorem scan_valid {zs ids ps : List Int} {n m q : Nat} (h : scB zs n ids m ps q = true) : tvB (scL zs n ids m ps q) (scN zs n ids m ps q) = true ∧ scN zs n ids m ps q + scD zs n ids m ps q = n := by
  obtain ⟨hz, hc⟩ := sc_parts h
  obtain ⟨h1, h2, h3⟩ := scan_yes h
  obtain ⟨g1, g2, g3⟩ := any_is hc
  have h4 := any_ok (ids := ids) (m := m) (ps := ps) hz
  rw [g1, g2, hc] at h4
  have h5 := chN_le (scanC zs ids m ps) n
  have h6 := (tvB_yes hz).2
  rw [h1, h2, h3]
  refine ⟨?_, h5⟩
  unfold tvB
  rw [h4, decide_eq_true (by omega)]; rfl
/- Missing the tracks one after another. -/
def mC (zs : List Int) (i k : Nat) : Option (List Int) := if k < i then missC zs k else some (row zs k)
def mL (zs : List Int) (i : Nat) : List Int := chL (missC zs) i ++ zs.drop (i * 6)
def mN (zs : List Int) (n i : Nat) : Nat := chN (missC zs) i + (n - i)
end Go.Proofs.YtfigjfckelichaaGreatDoor.trkn

/- Mathematics of FnUpdates: an updated list is valid. -/
namespace Go.Proofs.YtfigjfckelichaaGreatDoor.asgt
open Go.Proofs.YtfigjfckelichaaGreatDoor.in_ Go.Proofs.YtfigjfckelichaaGreatDoor.lst Go.Proofs.YtfigjfckelichaaGreatDoor.pos Go.Proofs.YtfigjfckelichaaGreatDoor.trk Go.Proofs.YtfigjfckelichaaGreatDoor.trkm Go.Proofs.YtfigjfckelichaaGreatDoor.trkn Go.Proofs.YtfigjfckelichaaGreatDoor.asg Go.Proofs.YtfigjfckelichaaGreatDoor.asgb Go.Proofs.YtfigjfckelichaaGreatDoor.asgk

theorem upT_valid {ps : List Int} : ∀ (t zs : List Int) (n : Nat), tvB zs n = true → tvB (upT ps t zs n).1 (upT ps t zs n).2 = true := by
  intro t
  induction t with
  | nil => intro zs n h; exact h
  | cons k t ih =>
    intro zs n h
    rw [upT]
    split
    · rename_i h2
      exact ih _ _ h2
    · exact h
theorem up_valid {zs ps : List Int} {n m : Nat} {g : Int} (h : upB zs n ps m g = true) : tvB (upL zs n ps m g) (upN zs n ps m g) = true := by
  rw [(u_yes h).1, (u_yes h).2]
  have h2 : scB zs n (idT zs (beV zs n ps m g) n) (upQ zs n ps m g) (plL ps (beV zs n ps m g) n) (upQ zs n ps m g) = true := by unfold upB at h; rw [Bool.and_eq_true] at h; exact h.2
  exact upT_valid _ _ _ (scan_valid h2).1
/-- The first tracks of the updated list are those of the scan. -/
theorem upT_old {ps : List Int} : ∀ (t zs : List Int) (n : Nat), zs.length = n * 6 → n ≤ (upT ps t zs n).2 ∧ ∀ k j, k < n → j < 6 → fld 6 (upT ps t zs n).1 k j = fld 6 zs k j := by
  intro t
  induction t with
  | nil => intro zs n _; exact ⟨Nat.le_refl _, fun _ _ _ _ => rfl⟩
  | cons k t ih =>
    intro zs n hl
    rw [upT]
    split
    · obtain ⟨h1, h2⟩ := ih (stR zs n (fld 2 ps k.toNat 0) (fld 2 ps k.toNat 1)) (n + 1) (by unfold stR; rw [List.length_append, hl]; show n * 6 + 6 = _; omega)
      refine ⟨by omega, fun q j hq hj => ?_⟩
      rw [h2 q j (by omega) hj]
      unfold stR
      exact fld_old hl hq hj
    · exact ⟨Nat.le_refl _, fun _ _ _ _ => rfl⟩
theorem ch_at {c : Nat → Option (List Int)} {n i : Nat} {r : List Int} (hf : Fits c n) (hb : chB c n = true) (hi : i < n) (hr : c i = some r) (h6 : r.length = 6) : ∀ k, i < k → k ≤ n → chN c i < chN c k ∧ ∀ j, j < 6 → fld 6 (chL c k) (chN c i) j = r.getD j 0 := by
  have hlen : ∀ k, k ≤ n → (chL c k).length = chN c k * 6 := fun k hk => chL_length (fun q hq => hf q (by omega)) (chB_of fun q hq => chB_at hb (by omega))
  intro k
  induction k with
  | zero => intro h; omega
  | succ k ih =>
    intro hik hk
    rcases Nat.lt_or_ge i k with h | h
    · obtain ⟨h1, h2⟩ := ih h (by omega)
      refine ⟨by rw [chN]; omega, fun j hj => ?_⟩
      rw [chL, fld_old (hlen k (by omega)) h1 hj]
      exact h2 j hj
    · obtain rfl : k = i := by omega
      have hne : ¬ c k = some [] := fun e => by rw [hr] at e; injection e with e; rw [e] at h6; cases h6
      refine ⟨by rw [chN, if_neg hne]; omega, fun j hj => ?_⟩
      rw [chL, hr, fld_new (hlen k (by omega)) hj]; rfl
theorem id_at {zs ps xs : List Int} {i b : Nat} (hb : xs.getD i 0 = (b : Int)) : ∀ k, i < k → (idT zs xs i).length < (idT zs xs k).length ∧ (idT zs xs k).getD (idT zs xs i).length 0 = fld 6 zs i 0 ∧ ∀ j, j < 2 → fld 2 (plL ps xs k) (idT zs xs i).length j = fld 2 ps b j := by
  intro k
  induction k with
  | zero => intro h; omega
  | succ k ih =>
    intro hik
    rcases Nat.lt_or_ge i k with h | h
    · obtain ⟨h1, h2, h3⟩ := ih h
      refine ⟨by rw [idT, List.length_append]; omega, ?_, fun j hj => ?_⟩
      · rw [idT, getD_cat, if_pos h1]; exact h2
      · rw [← h3 j hj, plL]
        unfold fld
        rw [getD_cat, if_pos (by rw [plL_length zs]; omega)]
    · obtain rfl : k = i := by omega
      obtain ⟨e1, e2⟩ := hit_yes (zs := zs) (ps := ps) hb
      rw [e1, e2]
      refine ⟨by rw [List.length_append]; exact Nat.lt_succ_self _, ?_, fun j hj => ?_⟩
      · rw [getD_cat, if_neg (by omega), Nat.sub_self]; rfl
      · unfold fld
        rw [getD_cat, if_neg (by rw [plL_length zs]; omega), plL_length zs, Nat.add_sub_cancel_left]
        have : j = 0 ∨ j = 1 := by omega
        rcases this with rfl | rfl <;> rfl
theorem up_hit {zs ps : List Int} {n m i b q : Nat} {g : Int} (h : upB zs n ps m g = true) (hi : i < n) (hb : (beV zs n ps m g).getD i 0 = (b : Int)) (hq : q < upN zs n ps m g) (he : fld 6 (upL zs n ps m g) q 0 = fld 6 zs i 0) :
    fld 6 (upL zs n ps m g) q 2 = fld 2 ps b 0 ∧ fld 6 (upL zs n ps m g) q 3 = fld 2 ps b 1 ∧ fld 6 (upL zs n ps m g) q 5 = 0 := by
  have hv := up_valid h
  have h2 : scB zs n (idT zs (beV zs n ps m g) n) (upQ zs n ps m g) (plL ps (beV zs n ps m g) n) (upQ zs n ps m g) = true := by unfold upB at h; rw [Bool.and_eq_true] at h; exact h.2
  have ha : asB (idT zs (beV zs n ps m g) n) (upQ zs n ps m g) = true := by unfold scB at h2; rw [Bool.and_eq_true, Bool.and_eq_true] at h2; exact h2.2.1
  obtain ⟨hz, hc⟩ := sc_parts h2
  obtain ⟨s1, s2, s3⟩ := scan_yes h2
  obtain ⟨i1, i2, i3⟩ := id_at (zs := zs) (ps := ps) hb n hi
  have hx : idx (idT zs (beV zs n ps m g) n) (fld 6 zs i 0) (upQ zs n ps m g) = (idT zs (beV zs n ps m g) i).length := idx_asc ha i1 i2
  have hsc : scanC zs (idT zs (beV zs n ps m g) n) (upQ zs n ps m g) (plL ps (beV zs n ps m g) n) i = hitC zs (fld 2 ps b 0) (fld 2 ps b 1) i := by
    unfold scanC
    rw [hx, if_pos (show _ < upQ zs n ps m g from i1), i3 0 (by omega), i3 1 (by omega)]
  have hso := chB_at hc hi
  have hok : hitOk zs (fld 2 ps b 0) (fld 2 ps b 1) i = true := by
    cases e : hitOk zs (fld 2 ps b 0) (fld 2 ps b 1) i
    · rw [hsc, hitC_no e] at hso; cases hso
    · rfl
  rw [hitC_yes hok] at hsc
  obtain ⟨c1, c2⟩ := ch_at (fits_scan _ _ _ _ _) hc hi hsc rfl n hi (Nat.le_refl _)
  obtain ⟨u1, u2⟩ := upT_old (ps := ps) (unT (beV zs n ps m g) m) (scL zs n (idT zs (beV zs n ps m g) n) (upQ zs n ps m g) (plL ps (beV zs n ps m g) n) (upQ zs n ps m g)) (scN zs n (idT zs (beV zs n ps m g) n) (upQ zs n ps m g) (plL ps (beV zs n ps m g) n) (upQ zs n ps m g)) (scL_length _ _ _ _ _ _)
  rw [s2] at u1 u2
  have hat : ∀ j, j < 6 → fld 6 (upL zs n ps m g) (chN (scanC zs (idT zs (beV zs n ps m g) n) (upQ zs n ps m g) (plL ps (beV zs n ps m g) n)) i) j = (hitR zs (fld 2 ps b 0) (fld 2 ps b 1) i).getD j 0 := fun j hj => by
    rw [← c2 j hj, (u_yes h).1, ← s1, ← u2 _ j c1 hj, ← s2]; rfl
  have hp : q = chN (scanC zs (idT zs (beV zs n ps m g) n) (upQ zs n ps m g) (plL ps (beV zs n ps m g) n)) i := by
    refine tv_one hv hq ?_ ?_
    · rw [(u_yes h).2]
      refine Nat.lt_of_lt_of_le c1 ?_
      rw [← s2] at u1 ⊢
      exact u1
    · rw [he, hat 0 (by omega)]; rfl
  rw [hp, hat 2 (by omega), hat 3 (by omega), hat 5 (by omega)]
  exact ⟨rfl, rfl, rfl⟩
end Go.Proofs.YtfigjfckelichaaGreatDoor.asgt

/- impl's trackDistance, areAll at places, canAssign, unpairedCost, slices.Contains at ints, PlotDistance. -/
namespace Go.Proofs.YtfigjfckelichaaGreatDoor.asga
open Go.RowKit Go.Proofs.YtfigjfckelichaaGreatDoor.ints Go.Proofs.YtfigjfckelichaaGreatDoor.lst Go.Proofs.YtfigjfckelichaaGreatDoor.in_ Go.Proofs.YtfigjfckelichaaGreatDoor.ats Go.Proofs.YtfigjfckelichaaGreatDoor.pos Go.Proofs.YtfigjfckelichaaGreatDoor.trk Go.Proofs.YtfigjfckelichaaGreatDoor.trkm Go.Proofs.YtfigjfckelichaaGreatDoor.trke Go.Proofs.YtfigjfckelichaaGreatDoor.intc Go.Proofs.YtfigjfckelichaaGreatDoor.rws Go.Proofs.YtfigjfckelichaaGreatDoor.asg

theorem cells2 {w : World} {B n k : Nat} {A : Option Addr} {zs : List Int} (h : RdZ 2 w B A n zs) (hk : k < n) :
    ∃ b o, A = some ⟨b, o, none⟩ ∧ b < B ∧ w.cell? ⟨b, o + k * 2, none⟩ = some (.int .i64 (fld 2 zs k 0)) ∧ w.cell? ⟨b, o + k * 2 + 1, none⟩ = some (.int .i64 (fld 2 zs k 1)) := by
  obtain ⟨b, o, e, hb, hc⟩ := h.at_ hk
  exact ⟨b, o, e, hb, hc 0 (by omega), hc 1 (by omega)⟩
theorem absoluteOf (x : Int) (w : World) (hx : -8000000 ≤ x) (hx2 : x ≤ 8000000) :
    Calls Tryz.prog 102 #[.int .i64 x] w fun e w' => e = .returned (.int .i64 (x.natAbs : Int)) ∧ w = w' := by
  by_cases h : x < 0
  · have hm : x < -x := by omega
    rw [show (x.natAbs : Int) = -x by omega]
    go_enter Tryz.func102, Tryz.ntmps102
    go_wp2
    all_goals
      go_ret
      first | exact ⟨rfl, rfl⟩ | (exfalso; omega) | exact ⟨by rw [aid.ret_int (show max x (-x) = -x by omega)], rfl⟩ | exact ⟨aid.ret_int (show max x (-x) = -x by omega), rfl⟩
  · have hm : ¬ x < -x := by omega
    have g : decide (x < -x) = false := decide_eq_false hm
    rw [show (x.natAbs : Int) = x by omega]
    go_enter Tryz.func102, Tryz.ntmps102
    go_wp2
    all_goals
      go_ret
      first | exact ⟨rfl, rfl⟩ | (exfalso; omega) | exact ⟨by rw [aid.ret_int (show max x (-x) = x by omega)], rfl⟩ | exact ⟨aid.ret_int (show max x (-x) = x by omega), rfl⟩
/-- The distance of two places. -/
def ds (x y u v : Int) : Int := ((x - u).natAbs : Int) + ((y - v).natAbs : Int)
theorem ds_in {x y u v : Int} (h1 : pB x y = true) (h2 : pB u v = true) : 0 ≤ ds x y u v ∧ ds x y u v ≤ 19798 := by
  have p := pB_yes h1
  have q := pB_yes h2
  unfold ds
  omega
theorem ds_pst (zs ps : List Int) (i k : Nat) : ds (fld 6 zs i 2) (fld 6 zs i 3) (fld 2 ps k 0) (fld 2 ps k 1) = pst zs ps i k := rfl

set_option maxRecDepth 100000 in
theorem trackDistance (i s x y h l u v : Int) (h1 : pB x y = true) (h2 : pB u v = true) (w : World) :
    Calls Tryz.prog 71 #[.agg #[.int .i64 i, .int .i64 s, .int .i64 x, .int .i64 y, .int .i64 h, .int .i64 l], .agg #[.int .i64 u, .int .i64 v]] w fun e w' => e = .returned (.int .i64 (ds x y u v)) ∧ Below w.heap.size w w' := by
  obtain ⟨⟨p0, p1⟩, p2, p3⟩ := pB_yes h1
  obtain ⟨⟨q0, q1⟩, q2, q3⟩ := pB_yes h2
  have G1 := Lib.hid (fun w d => aid.quiet_left (absoluteOf (x - u) (World.drewN w d) (by omega) (by omega)))
  have G2 := Lib.hid (fun w d => aid.quiet_left (absoluteOf (y - v) (World.drewN w d) (by omega) (by omega)))
  have e1 : IntKind.i64.wrap (x - u) = x - u := IntWalk.i64_in _ (by omega)
  have e2 : IntKind.i64.wrap (y - v) = y - v := IntWalk.i64_in _ (by omega)
  have E0 := Lib.hid (show Below w.heap.size w ((w.alloc (.cells #[.int .i64 i, .int .i64 s, .int .i64 x, .int .i64 y, .int .i64 h, .int .i64 l] 25)).alloc (.cells #[.int .i64 u, .int .i64 v] 35)) from ((Below.refl _ _).alloc (Nat.le_refl _) _).alloc (by rw [World.size_alloc]; omega) _)
  unfold ds
  have u0 : (0 : Int) ≤ ((x - u).natAbs : Int) := by omega
  have u1 : ((x - u).natAbs : Int) ≤ 20000 := by omega
  have v0 : (0 : Int) ≤ ((y - v).natAbs : Int) := by omega
  have v1 : ((y - v).natAbs : Int) ≤ 20000 := by omega
  generalize ((x - u).natAbs : Int) = a at *
  generalize ((y - v).natAbs : Int) = b at *
  have e3 : IntKind.i64.wrap (a + b) = a + b := IntWalk.i64_in _ (by omega)
  clear h1 h2
  go_enter Tryz.func71, Tryz.ntmps71
  go_wp2_with fail
  go_quiet ((go_at_call 102; first | (with_reducible exact G1.out _ _) | (with_reducible exact G2.out _ _)))
  go_wp2_with fail
  go_ret
  exact ⟨rfl, aid.below_drewN E0.out _⟩

theorem pl_cut {ps : List Int} {m k : Nat} (h : plT ps k = false) (hk : k ≤ m) : plT ps m = false := by
  cases hq : plT ps m
  · rfl
  · have : ∀ j, j ≤ m → plT ps j = true := by
      intro j
      induction j with
      | zero => intro _; rfl
      | succ j ih => intro hj; rw [plT, ih (by omega), plT_at hq (by omega)]; rfl
    rw [this k hk] at h; cases h
set_option maxRecDepth 100000 in
set_option maxHeartbeats 1000000 in
theorem areAllPlaces (zs : List Int) (A : Option Addr) (n c : Nat) (w : World) (hn : n ≤ 1048577) (h1 : RdZ 2 w w.heap.size A n zs) :
    Calls Tryz.prog 96 #[.func (.func 70) #[] #[], .slice A n c] w fun e w' => e = .returned (.bool (plT zs n)) ∧ Below w.heap.size w w' := by
  go_enter Tryz.func96, Tryz.ntmps96
  go_wp2
  go_loopw [9] (fun i wr => ∃ k : Nat, k ≤ n ∧ i = .int .i64 k ∧ Below w.heap.size w wr ∧ plT zs k = true) (fun i _ => n - (intOf i).toNat)
  case atStart => exact ⟨0, Nat.zero_le _, rfl, Below.refl _ _, rfl⟩
  case round =>
    obtain ⟨k, hk, rfl, hb, hon⟩ := hrel
    by_cases hlt : k < n
    · obtain ⟨b1, o1, rfl, l1, p0, p1⟩ := cells2 (h1.below hb (Nat.le_refl _)) hlt
      have hlt2 : (k : Int) < (n : Int) := by omega
      have X1 := Lib.hid (fun w => posj.isValidPlace (fld 2 zs k 0) (fld 2 zs k 1) w)
      have HS := Lib.hid (show plT zs (k + 1) = (plT zs k && pB (fld 2 zs k 0) (fld 2 zs k 1)) from rfl)
      rw [hon, Bool.true_and] at HS
      have HX := Lib.hid (fun (h : plT zs (k + 1) = false) => pl_cut h (show k + 1 ≤ n by omega))
      have HB := Lib.hid (hb.alloc hb.size (.cells #[.int .i64 (fld 2 zs k 0), .int .i64 (fld 2 zs k 1)] 35))
      clear h1 hb hon
      generalize pB (fld 2 zs k 0) (fld 2 zs k 1) = pb at *
      generalize fld 2 zs k 0 = u0 at *
      generalize fld 2 zs k 1 = u1 at *
      go_wp2_with fail
      refine (X1.out _).mono ?_
      rintro e w2 ⟨rfl, hb2⟩
      have B2 := Lib.hid (HB.out.trans (hb2.mono HB.out.size))
      clear hb2 HB
      cases pb
      · have HF := Lib.hid (HX.out HS.out)
        go_wp2_with fail
        go_ret
        exact ⟨by rw [HF.out]; rfl, B2.out⟩
      · have HT := Lib.hid HS.out
        clear HS HX
        go_wp2_with fail
        go_roundw
        case rel => exact ⟨k + 1, by omega, by go_num, B2.out, HT.out⟩
        case measure => simp [intOf]; omega
    · obtain rfl : k = n := by omega
      have HB := Lib.hid hb
      have HT := Lib.hid hon
      clear hb hon h1
      go_wp2_with fail
      go_ret
      exact ⟨by rw [HT.out]; rfl, HB.out⟩

theorem containsI (xs : List Int) (d : Int) (A : Option Addr) (n c : Nat) (w : World) (hn : n ≤ 1048577) (h : RdI w w.heap.size A n xs) :
    Calls Tryz.prog 90 #[.slice A n c, .int .i64 d] w fun e w' => e = .returned (.bool (xs.contains d)) ∧ w' = w := by
  have hl := h.1
  rcases Nat.eq_zero_or_pos n with h0 | h0
  · subst h0
    obtain rfl := List.eq_nil_of_length_eq_zero hl
    exact Tryz.slices_Contains_int_empty A c d w
  · obtain ⟨b, o, rfl, hb, hc⟩ := h.2 h0
    have := Tryz.slices_Contains_int b o n c xs d w (by omega) (by omega) (fun j hj => by
      refine hc j _ ?_
      rw [List.getD_eq_getElem?_getD, List.getElem?_eq_getElem hj]; rfl)
    rw [List.take_of_length_le (by omega)] at this
    exact this
theorem unpairedCost (t g : Int) (w : World) (h : -1000000 ≤ t * (g + 1) ∧ t * (g + 1) ≤ 1000000) (hg : 0 ≤ g ∧ g ≤ 1000) :
    Calls Tryz.prog 97 #[.int .i64 t, .int .i64 g] w fun e w' => e = .returned (.int .i64 (t * (g + 1))) ∧ w' = w := by
  have e1 : IntKind.i64.wrap (g + 1) = g + 1 := IntWalk.i64_in _ (by omega)
  have e2 : IntKind.i64.wrap (t * (g + 1)) = t * (g + 1) := IntWalk.i64_in _ (by omega)
  generalize hp : g + 1 = p at *
  generalize hq : t * p = q at *
  go_enter Tryz.func97, Tryz.ntmps97
  go_wp2_with fail
  go_ret
  exact ⟨rfl, rfl⟩
set_option maxRecDepth 100000 in
theorem canAssign (zs ps : List Int) (g : Int) (A C : Option Addr) (n c m cq : Nat) (w : World) (hn : n ≤ 1048577) (hm : m ≤ 1048577) (h1 : RdZ 6 w w.heap.size A n zs) (h2 : RdZ 2 w w.heap.size C m ps) :
    Calls Tryz.prog 63 #[.slice A n c, .slice C m cq, .int .i64 g] w fun e w' => e = .returned (.bool (akB zs n ps m g)) ∧ Below w.heap.size w w' := by
  have HE := Lib.hid (show akB zs n ps m g = (tvB zs n && (decide (m ≤ 5) && (plT ps m && (decide (0 ≤ g) && decide (g ≤ 1000))))) by
    unfold akB isIn
    rw [Bool.eq_iff_iff]
    simp only [Bool.and_eq_true, decide_eq_true_eq]
    constructor
    · rintro ⟨a1, ⟨a2, a3⟩, a4, a5⟩; exact ⟨a1, a3, a2, a4, a5⟩
    · rintro ⟨a1, a2, a3, a4, a5⟩; exact ⟨a1, ⟨a3, a2⟩, a4, a5⟩)
  have H1 := Lib.hid (trkv.isValidTracks zs A n c w hn h1)
  have H2 := Lib.hid (fun W (hb : Below w.heap.size w W) => areAllPlaces ps C m cq W hm (h2.next hb))
  clear h1 h2
  generalize tvB zs n = p at *
  generalize plT ps m = q at *
  cases p
  · rw [Bool.false_and] at HE
    go_enter Tryz.func63, Tryz.ntmps63
    go_wp2_with fail
    refine H1.out.mono ?_
    rintro e w1 ⟨rfl, hb⟩
    have HB := Lib.hid hb
    clear hb
    go_wp2_with fail
    go_ret
    exact ⟨by rw [HE.out]; rfl, HB.out⟩
  rw [Bool.true_and] at HE
  by_cases h : m ≤ 5
  · rw [decide_eq_true h, Bool.true_and] at HE
    have g5 : (m : Int) ≤ 5 := by omega
    cases q
    · rw [Bool.false_and] at HE
      go_enter Tryz.func63, Tryz.ntmps63
      go_wp2_with fail
      refine H1.out.mono ?_
      rintro e w1 ⟨rfl, hb⟩
      have HB := Lib.hid hb
      clear hb
      go_wp2_with fail
      refine (H2.out w1 HB.out).mono ?_
      rintro e w2 ⟨rfl, hb⟩
      have HB2 := Lib.hid (HB.out.trans (hb.mono HB.out.size))
      clear hb
      go_wp2_with fail
      go_ret
      exact ⟨by rw [HE.out]; rfl, HB2.out⟩
    rw [Bool.true_and] at HE
    by_cases h0 : 0 ≤ g
    · rw [decide_eq_true h0, Bool.true_and] at HE
      by_cases h1 : g ≤ 1000
      · rw [decide_eq_true h1] at HE
        go_enter Tryz.func63, Tryz.ntmps63
        go_wp2_with fail
        refine H1.out.mono ?_
        rintro e w1 ⟨rfl, hb⟩
        have HB := Lib.hid hb
        clear hb
        go_wp2_with fail
        refine (H2.out w1 HB.out).mono ?_
        rintro e w2 ⟨rfl, hb⟩
        have HB2 := Lib.hid (HB.out.trans (hb.mono HB.out.size))
        clear hb
        go_wp2_with fail
        go_ret
        exact ⟨by rw [HE.out]; rfl, HB2.out⟩
      · rw [decide_eq_false h1] at HE
        have g7 : decide (g ≤ 1000) = false := decide_eq_false h1
        go_enter Tryz.func63, Tryz.ntmps63
        go_wp2_with fail
        refine H1.out.mono ?_
        rintro e w1 ⟨rfl, hb⟩
        have HB := Lib.hid hb
        clear hb
        go_wp2_with fail
        refine (H2.out w1 HB.out).mono ?_
        rintro e w2 ⟨rfl, hb⟩
        have HB2 := Lib.hid (HB.out.trans (hb.mono HB.out.size))
        clear hb
        go_wp2_with fail
        go_ret
        exact ⟨by rw [HE.out]; rfl, HB2.out⟩
    · rw [decide_eq_false h0, Bool.false_and] at HE
      have g7 : decide (0 ≤ g) = false := decide_eq_false h0
      go_enter Tryz.func63, Tryz.ntmps63
      go_wp2_with fail
      refine H1.out.mono ?_
      rintro e w1 ⟨rfl, hb⟩
      have HB := Lib.hid hb
      clear hb
      go_wp2_with fail
      refine (H2.out w1 HB.out).mono ?_
      rintro e w2 ⟨rfl, hb⟩
      have HB2 := Lib.hid (HB.out.trans (hb.mono HB.out.size))
      clear hb
      go_wp2_with fail
      go_ret
      exact ⟨by rw [HE.out]; rfl, HB2.out⟩
  · rw [decide_eq_false h, Bool.false_and] at HE
    have g5 : ¬ (m : Int) ≤ 5 := by omega
    go_enter Tryz.func63, Tryz.ntmps63
    go_wp2_with fail
    refine H1.out.mono ?_
    rintro e w1 ⟨rfl, hb⟩
    have HB := Lib.hid hb
    clear hb
    go_wp2_with fail
    go_ret
    exact ⟨by rw [HE.out]; rfl, HB.out⟩

end Go.Proofs.YtfigjfckelichaaGreatDoor.asga

/- impl's hitsOf. -/
namespace Go.Proofs.YtfigjfckelichaaGreatDoor.asgl
open Go.RowKit Go.Proofs.YtfigjfckelichaaGreatDoor.ints Go.Proofs.YtfigjfckelichaaGreatDoor.lst Go.Proofs.YtfigjfckelichaaGreatDoor.in_ Go.Proofs.YtfigjfckelichaaGreatDoor.ats Go.Proofs.YtfigjfckelichaaGreatDoor.pos Go.Proofs.YtfigjfckelichaaGreatDoor.trk Go.Proofs.YtfigjfckelichaaGreatDoor.trkm Go.Proofs.YtfigjfckelichaaGreatDoor.trke Go.Proofs.YtfigjfckelichaaGreatDoor.intc Go.Proofs.YtfigjfckelichaaGreatDoor.asg Go.Proofs.YtfigjfckelichaaGreatDoor.asgb Go.Proofs.YtfigjfckelichaaGreatDoor.asgk Go.Proofs.YtfigjfckelichaaGreatDoor.tailh

/-- The Ids and the places of the hits: two rows of the call's own, of two types. -/
def Hits (B : Nat) (W : World) (v8 : Value) (n : Nat) (ids : List Int) (v9 : Value) (m : Nat) (pls : List Int) : Prop :=
  W.ownsRow B 3 1 v8 n (cellsI ids) ∧ W.ownsRow B 35 2 v9 m (cellsI pls)
section
variable {B : Nat} {W W' : World} {v8 v9 v' : Value} {n m : Nat} {ids pls : List Int} {d x y : Int}
theorem Hits.below (h : Hits B W v8 n ids v9 m pls) (hb : Below W.heap.size W W') : Hits B W' v8 n ids v9 m pls := ⟨own_.own_below h.1 hb, own_.own_below h.2 hb⟩
theorem Hits.left (h : Hits B W v8 n ids v9 m pls) (hg : W.grownBy W' v8.ownBlock) (ho : W'.ownsRow B 3 1 v' (n + 1) (cellsI ids ++ [.int .i64 d])) : Hits B W' v' (n + 1) (ids ++ [d]) v9 m pls :=
  ⟨by unfold cellsI at ho ⊢; rw [List.map_append]; exact ho, rws.kept_row h.2 h.1 (by decide) hg⟩
theorem Hits.right (h : Hits B W v8 n ids v9 m pls) (hg : W.grownBy W' v9.ownBlock) (ho : W'.ownsRow B 35 2 v' (m + 1) (cellsI pls ++ [.int .i64 x, .int .i64 y])) : Hits B W' v8 n ids v' (m + 1) (pls ++ [x, y]) :=
  ⟨rws.kept_row h.1 h.2 (by decide) hg, by unfold cellsI at ho ⊢; rw [List.map_append]; exact ho⟩
end
theorem own_cap {w : World} {B e s n c : Nat} {A : Option Addr} {xs : List Value} (h : w.ownsRow B e s (.slice A n c) n xs) : n ≤ c := by
  rcases h.2 with ⟨e1, _⟩ | ⟨g, cap, cur, e1, _, _, h1, _⟩
  · injection e1 with _ h2 h3; omega
  · injection e1 with _ h2 h3; omega
set_option maxRecDepth 100000 in
set_option maxHeartbeats 16000000 in
theorem hitsOf {g : Int} (zs ps xs : List Int) (A C E : Option Addr) (n c m cq e0 ce : Nat) (w : World) (he0 : e0 ≤ 6) (hpr : prB (pst zs ps) g m xs e0 = true) (hen : e0 ≤ n) (h1 : RdZ 6 w w.heap.size A n zs) (h2 : RdZ 2 w w.heap.size C m ps) (h3 : RdI w w.heap.size E e0 xs) :
    Calls Tryz.prog 56 #[.slice A n c, .slice C m cq, .slice E e0 ce] w fun e w' => ∃ v8 v9, e = .returned (.tuple #[v8, v9]) ∧ Hits w.heap.size w' v8 (idT zs xs e0).length (idT zs xs e0) v9 (idT zs xs e0).length (plL ps xs e0) ∧ Below w.heap.size w w' := by
  obtain ⟨iI, hiI, hzI0, hzI1, hzI2⟩ := info_parts infoI
  obtain ⟨iP, hiP, hzP0, hzP1, hzP2⟩ := info_parts infoP
  have HPR := Lib.hid hpr
  have HR1 := Lib.hid h1
  have HR2 := Lib.hid h2
  have HR3 := Lib.hid h3
  clear h1 h2 h3 hpr
  go_enter Tryz.func56, Tryz.ntmps56
  go_wp2_with fail
  go_loopw [8, 9, 14] (fun u8 u9 j wr => ∃ i : Nat, i ≤ e0 ∧ j = .int .i64 i ∧ Hits w.heap.size wr u8 (idT zs xs i).length (idT zs xs i) u9 (idT zs xs i).length (plL ps xs i) ∧ Below w.heap.size w wr) (fun _ _ j _ => e0 - (intOf j).toNat)
  case atStart => exact ⟨0, Nat.zero_le _, rfl, ⟨World.ownsRow_nil .., World.ownsRow_nil ..⟩, Below.refl _ _⟩
  case round =>
    obtain ⟨i, hi, rfl, hT, hb⟩ := hrel
    have HT := Lib.hid hT
    have HB := Lib.hid hb
    by_cases hlt : i < e0
    · obtain ⟨b3, o3, z, rfl, l3, hx, p0⟩ := (HR3.out.next hb).at_ hlt
      have hlt2 : (i : Int) < (e0 : Int) := by omega
      have hi0 : (0 : Int) ≤ (i : Int) := Int.natCast_nonneg _
      have HGX := Lib.hid (getD_some hx)
      have HOX := Lib.hid (prB_at HPR.out hlt)
      have hin : i < n := by omega
      have hin2 : (i : Int) < (n : Int) := by omega
      have hle := idT_le zs xs i
      clear hx hb hT
      rcases pairOk_yes HOX.out with hx1 | ⟨a, ha5, hx1, _, _⟩
      · rw [HGX.out] at hx1
        have HX := Lib.hid (hit_no (zs := zs) (ps := ps) (show xs.getD i 0 = -1 by rw [HGX.out, hx1]))
        have g1 : (z != -1) = false := by rw [hx1]; rfl
        clear hx1 HGX HOX
        go_wp2_with fail
        go_roundw
        case rel => exact ⟨i + 1, by omega, by go_num, by rw [HX.out.1, HX.out.2]; exact HT.out, HB.out⟩
        case measure => simp [intOf]; omega
      · rw [HGX.out] at hx1
        subst hx1
        have HX0 := Lib.hid (hit_yes (zs := zs) (ps := ps) HGX.out)
        have ha0 : (0 : Int) ≤ (a : Int) := Int.natCast_nonneg _
        have ham : (a : Int) < (m : Int) := by omega
        have g1 : ((a : Int) != -1) = true := bne_iff_ne.mpr (by omega)
        obtain ⟨b1, o1, rfl, l1, a0, -⟩ := cellsE (HR1.out.next HB.out) hin
        obtain ⟨b2, o2, rfl, l2, q0, q1⟩ := asga.cells2 (HR2.out.next HB.out) ha5
        have C0 := Lib.hid (fun (W : World) (hb : Below w.heap.size w W) => show W.cell? ⟨b1, o1 + i * 6, none⟩ = some (.int .i64 (fld 6 zs i 0)) from by
          obtain ⟨b1', o1', e, -, a0, -⟩ := cellsE (HR1.out.next hb) hin
          obtain ⟨rfl, rfl⟩ : b1 = b1' ∧ o1 = o1' := by injection e with e; injection e with e1 e2; exact ⟨e1, e2⟩
          exact a0)
        have CC := Lib.hid (fun (W : World) (hb : Below w.heap.size w W) => show W.cell? ⟨b2, o2 + a * 2, none⟩ = some (.int .i64 (fld 2 ps a 0)) ∧ W.cell? ⟨b2, o2 + a * 2 + 1, none⟩ = some (.int .i64 (fld 2 ps a 1)) from by
          obtain ⟨b2', o2', e, -, q0, q1⟩ := asga.cells2 (HR2.out.next hb) ha5
          obtain ⟨rfl, rfl⟩ : b2 = b2' ∧ o2 = o2' := by injection e with e; injection e with e1 e2; exact ⟨e1, e2⟩
          exact ⟨q0, q1⟩)
        have C1 := Lib.hid (fun (W : World) (hb : Below w.heap.size w W) => (CC.out W hb).1)
        have C2 := Lib.hid (fun (W : World) (hb : Below w.heap.size w W) => (CC.out W hb).2)
        have HX := Lib.hid (show (idT zs xs (i + 1)) = idT zs xs i ++ [fld 6 zs i 0] ∧ plL ps xs (i + 1) = plL ps xs i ++ [fld 2 ps a 0, fld 2 ps a 1] from HX0.out)
        clear HGX HOX a0 q0 q1 HX0 CC
        generalize fld 6 zs i 0 = d at *
        generalize fld 2 ps a 0 = x at *
        generalize fld 2 ps a 1 = y at *
        generalize idT zs xs i = ids at *
        generalize plL ps xs i = pls at *
        go_upto_region 7 with fail
        clear p0
        have T0 := Lib.hid (HT.out.below (Below.refl _ _).drew)
        have B0 := Lib.hid (HB.out.drew)
        generalize hq : ids.length = q at *
        have HQ := Lib.hid hq
        clear hq
        refine wp_region_tail (S := fun w' => Below w.heap.size w w') 16 (by kernel_rfl) B0.out (fun hHeld => ?_)
        generalize wr.drew = W0 at *
        try simp only [Act.put]
        refine wpAnyE_take (i := 0) (v := ?vq0) rfl (by decide +kernel) (fun _ _ _ h => h) (Or.inl ⟨by rfl, ?hq0⟩) (by assumption) ?rq0
        case hq0 =>
          intro wS hSw
          have h0 := C0.out wS hSw
          have h1 := C1.out wS hSw
          have h2 := C2.out wS hSw
          go_simp
          try with_reducible rfl
        try simp only [Act.put]
        refine wpAnyE_take (i := 1) (v := ?vq1) rfl (by decide +kernel) (fun _ _ _ h => h) (Or.inl ⟨by rfl, ?hq1⟩) (by assumption) ?rq1
        case hq1 =>
          intro wS hSw
          have h0 := C0.out wS hSw
          have h1 := C1.out wS hSw
          have h2 := C2.out wS hSw
          go_simp
          try with_reducible rfl
        try simp only [Act.put]
        refine wpAnyE_take (i := 2) (v := ?vq2) rfl (by decide +kernel) (fun _ _ _ h => h) (Or.inl ⟨by rfl, ?hq2⟩) (by assumption) ?rq2
        case hq2 =>
          intro wS hSw
          have h0 := C0.out wS hSw
          have h1 := C1.out wS hSw
          have h2 := C2.out wS hSw
          go_simp
          try with_reducible rfl
        try simp only [Act.put]
        refine wpAnyE_take (i := 3) (v := ?vq3) rfl (by decide +kernel) (fun _ _ _ h => h) (Or.inl ⟨by rfl, ?hq3⟩) (by assumption) ?rq3
        case hq3 =>
          intro wS hSw
          have h0 := C0.out wS hSw
          have h1 := C1.out wS hSw
          have h2 := C2.out wS hSw
          go_simp
          try with_reducible rfl
        try simp only [Act.put]
        refine wpAnyE_take (i := 4) (v := ?vq4) rfl (by decide +kernel) (fun _ _ _ h => h) (Or.inl ⟨by rfl, ?hq4⟩) (by assumption) ?rq4
        case hq4 =>
          intro wS hSw
          have h0 := C0.out wS hSw
          have h1 := C1.out wS hSw
          have h2 := C2.out wS hSw
          go_simp
          try with_reducible rfl
        try simp only [Act.put]
        refine wpAnyE_take (i := 5) (v := ?vq5) rfl (by decide +kernel) (fun _ _ _ h => h) (Or.inl ⟨by rfl, ?hq5⟩) (by assumption) ?rq5
        case hq5 =>
          intro wS hSw
          have h0 := C0.out wS hSw
          have h1 := C1.out wS hSw
          have h2 := C2.out wS hSw
          go_simp
          try with_reducible rfl
        try simp only [Act.put]
        refine wpAnyE_take (i := 8) (v := ?vq8) rfl (by decide +kernel) (fun _ _ _ h => h) (Or.inl ⟨by rfl, ?hq8⟩) (by assumption) ?rq8
        case hq8 =>
          intro wS hSw
          have h0 := C0.out wS hSw
          have h1 := C1.out wS hSw
          have h2 := C2.out wS hSw
          go_simp
          try with_reducible rfl
        try simp only [Act.put]
        refine wpAnyE_take (i := 9) (v := ?vq9) rfl (by decide +kernel) (fun _ _ _ h => h) (Or.inl ⟨by rfl, ?hq9⟩) (by assumption) ?rq9
        case hq9 =>
          intro wS hSw
          have h0 := C0.out wS hSw
          have h1 := C1.out wS hSw
          have h2 := C2.out wS hSw
          go_simp
          try with_reducible rfl
        try simp only [Act.put]
        refine wpAnyE_take (i := 10) (v := ?vq10) rfl (by decide +kernel) (fun _ _ _ h => h) (Or.inl ⟨by rfl, ?hq10⟩) (by assumption) ?rq10
        case hq10 =>
          intro wS hSw
          have h0 := C0.out wS hSw
          have h1 := C1.out wS hSw
          have h2 := C2.out wS hSw
          go_simp
          try with_reducible rfl
        try simp only [Act.put]
        refine wpAnyE_take (i := 11) (v := ?vq11) rfl (by decide +kernel) (fun _ _ _ h => h) (Or.inl ⟨by rfl, ?hq11⟩) (by assumption) ?rq11
        case hq11 =>
          intro wS hSw
          have h0 := C0.out wS hSw
          have h1 := C1.out wS hSw
          have h2 := C2.out wS hSw
          go_simp
          try with_reducible rfl
        try simp only [Act.put]
        refine wpAnyE_take (i := 12) (v := ?vq12) rfl (by decide +kernel) (fun _ _ _ h => h) (Or.inl ⟨by rfl, ?hq12⟩) (by assumption) ?rq12
        case hq12 =>
          intro wS hSw
          have h0 := C0.out wS hSw
          have h1 := C1.out wS hSw
          have h2 := C2.out wS hSw
          go_simp
          try with_reducible rfl
        try simp only [Act.put]
        refine wpAnyE_ready (rs := [6, 13]) (by kernel_rfl) (by simp) ?_
        refine AllReadyE.cons (i := 6) rfl (by decide) (fun K hK => ?_) (AllReadyE.cons (i := 13) rfl (by decide) (fun K hK => ?_) AllReadyE.nil)
        · go_simp
          have A2 := (Below.refl W0.heap.size W0).alloc (Nat.le_refl _) (.cells #[.int .i64 d] 3)
          have T3 := Lib.hid (T0.out.below A2)
          have B4 := Lib.hid (B0.out.trans (A2.mono B0.out.size))
          have P5 := Lib.hid (cell_one_new W0 (.int .i64 d) 3)
          have M6 := Lib.hid (show u9.ownBlock ≠ some W0.heap.size from fun e => by have := own_row_lt T0.out.2 _ e; omega)
          refine hK.out _ _ B4.out (fun hHeld => ?_)
          clear hK K A2
          try simp only [Act.put]
          generalize W0.alloc (.cells #[.int .i64 d] 3) = W1 at *
          refine wpAnyE_ready (rs := [7, 13]) (by kernel_rfl) (by simp) ?_
          refine AllReadyE.cons (i := 7) rfl (by decide) (fun K hK => ?_) (AllReadyE.cons (i := 13) rfl (by decide) (fun K hK => ?_) AllReadyE.nil)
          · refine step_append_sz rfl (.tmp 21) (.tmp 27) 50 rfl w.heap.size 3 iI (.int .i64 0) 1 8 Tryz.underlying50 hiI hzI0 hzI1 hzI2 rfl (by decide) u8 q (cellsI ids) rfl T3.out.1 ⟨W0.heap.size, 0, none⟩ 1 1 [.int .i64 d] rfl rfl P5.out (own_.one_cell _ rfl) (by unfold maxLen; omega) (by omega) B4.out.size ?_
            intro v13 W7 o10 g11 r12
            have T8 := Lib.hid (T3.out.left g11 o10)
            have B9 := Lib.hid (B4.out.grown g11 B4.out.size (own_.row_ge T3.out.1))
            clear g11 o10 r12
            refine hK.out _ _ B9.out (fun hHeld => ?_)
            clear hK K
            try simp only [Act.put]
            refine wpAnyE_ready (rs := [13]) (by kernel_rfl) (by simp) ?_
            refine AllReadyE.cons (i := 13) rfl (by decide) (fun K hK => ?_) AllReadyE.nil
            go_simp
            have A15 := (Below.refl W7.heap.size W7).alloc (Nat.le_refl _) (.cells #[.int .i64 x, .int .i64 y] 35)
            have T16 := Lib.hid (T8.out.below A15)
            have B17 := Lib.hid (B9.out.trans (A15.mono B9.out.size))
            have P18 := Lib.hid (cells_new W7 35 #[.int .i64 x, .int .i64 y])
            have M19 := Lib.hid (show v13.ownBlock ≠ some W7.heap.size from fun e => by have := own_row_lt T8.out.1 _ e; omega)
            refine hK.out _ _ B17.out (fun hHeld => ?_)
            clear hK K A15
            try simp only [Act.put]
            generalize W7.alloc (.cells #[.int .i64 x, .int .i64 y] 35) = W14 at *
            refine wpAnyE_ready (rs := [14]) (by kernel_rfl) (by simp) ?_
            refine AllReadyE.cons (i := 14) rfl (by decide) (fun K hK => ?_) AllReadyE.nil
            refine step_append_sz rfl (.tmp 29) (.tmp 34) 46 rfl w.heap.size 35 iP (.agg #[.int .i64 0, .int .i64 0]) 2 16 Tryz.underlying46 hiP hzP0 hzP1 hzP2 rfl (by decide) u9 q (cellsI pls) rfl T16.out.2 ⟨W7.heap.size, 0, none⟩ 1 1 [.int .i64 x, .int .i64 y] rfl rfl P18.out (two_cells x y) (by unfold maxLen; omega) (by omega) B17.out.size ?_
            intro v26 W20 o23 g24 r25
            have T21 := Lib.hid (T16.out.right g24 o23)
            have B22 := Lib.hid (B17.out.grown g24 B17.out.size (own_.row_ge T16.out.2))
            clear g24 o23 r25
            refine hK.out _ _ B22.out (fun hHeld => ?_)
            clear hK K
            try simp only [Act.put]
            refine wpAnyE_ready (rs := [15]) (by kernel_rfl) (by simp) ?_
            refine AllReadyE.cons (i := 15) rfl (by decide) (fun K hK => ?_) AllReadyE.nil
            go_simp
            refine hK.out _ _ B22.out (fun hHeld => ?_)
            clear hK K
            try simp only [Act.put]
            refine wpAnyE_ready (rs := [16]) (by kernel_rfl) (by simp) ?_
            refine AllReadyE.last (i := 16) rfl rfl (fun K hK => ?_)
            go_simp
            refine hK.out _ _ ?_
            clear hK K
            try simp only [Act.put]
            refine wpAnyE_done (by kernel_rfl) ?_ _
            try simp only [List.getElem_toArray, List.getElem_cons_succ, List.getElem_cons_zero, List.setIfInBounds_toArray, List.set_cons_succ, List.set_cons_zero]
            go_wp2_with fail
            go_roundw
            case rel => exact ⟨i + 1, by omega, by go_num, by rw [HX.out.1, HX.out.2, List.length_append, HQ.out]; exact T21.out, B22.out⟩
            case measure => simp [intOf]; omega
          · go_simp
            have A28 := (Below.refl W1.heap.size W1).alloc (Nat.le_refl _) (.cells #[.int .i64 x, .int .i64 y] 35)
            have T29 := Lib.hid (T3.out.below A28)
            have B30 := Lib.hid (B4.out.trans (A28.mono B4.out.size))
            have P31 := Lib.hid (cells_new W1 35 #[.int .i64 x, .int .i64 y])
            have P32 := Lib.hid (fun j u hu => (A28.cell (World.block_lt_of_cell? _ _ (P5.out j u hu))).trans (P5.out j u hu))
            have M33 := Lib.hid (show u8.ownBlock ≠ some W1.heap.size from fun e => by have := own_row_lt T3.out.1 _ e; omega)
            refine hK.out _ _ B30.out (fun hHeld => ?_)
            clear hK K A28
            try simp only [Act.put]
            generalize W1.alloc (.cells #[.int .i64 x, .int .i64 y] 35) = W27 at *
            refine wpAnyE_ready (rs := [7]) (by kernel_rfl) (by simp) ?_
            refine AllReadyE.cons (i := 7) rfl (by decide) (fun K hK => ?_) AllReadyE.nil
            refine step_append_sz rfl (.tmp 21) (.tmp 27) 50 rfl w.heap.size 3 iI (.int .i64 0) 1 8 Tryz.underlying50 hiI hzI0 hzI1 hzI2 rfl (by decide) u8 q (cellsI ids) rfl T29.out.1 ⟨W0.heap.size, 0, none⟩ 1 1 [.int .i64 d] rfl rfl P32.out (own_.one_cell _ rfl) (by unfold maxLen; omega) (by omega) B30.out.size ?_
            intro v40 W34 o37 g38 r39
            have T35 := Lib.hid (T29.out.left g38 o37)
            have B36 := Lib.hid (B30.out.grown g38 B30.out.size (own_.row_ge T29.out.1))
            have P41 := Lib.hid (fun j u hu => g38.cell (P31.out j u hu) (fun e => M33.out (by rw [Addr.add_lit] at e; exact e.symm)))
            clear g38 o37 r39
            refine hK.out _ _ B36.out (fun hHeld => ?_)
            clear hK K
            try simp only [Act.put]
            refine wpAnyE_ready (rs := [14]) (by kernel_rfl) (by simp) ?_
            refine AllReadyE.cons (i := 14) rfl (by decide) (fun K hK => ?_) AllReadyE.nil
            refine step_append_sz rfl (.tmp 29) (.tmp 34) 46 rfl w.heap.size 35 iP (.agg #[.int .i64 0, .int .i64 0]) 2 16 Tryz.underlying46 hiP hzP0 hzP1 hzP2 rfl (by decide) u9 q (cellsI pls) rfl T35.out.2 ⟨W1.heap.size, 0, none⟩ 1 1 [.int .i64 x, .int .i64 y] rfl rfl P41.out (two_cells x y) (by unfold maxLen; omega) (by omega) B36.out.size ?_
            intro v48 W42 o45 g46 r47
            have T43 := Lib.hid (T35.out.right g46 o45)
            have B44 := Lib.hid (B36.out.grown g46 B36.out.size (own_.row_ge T35.out.2))
            clear g46 o45 r47
            refine hK.out _ _ B44.out (fun hHeld => ?_)
            clear hK K
            try simp only [Act.put]
            refine wpAnyE_ready (rs := [15]) (by kernel_rfl) (by simp) ?_
            refine AllReadyE.cons (i := 15) rfl (by decide) (fun K hK => ?_) AllReadyE.nil
            go_simp
            refine hK.out _ _ B44.out (fun hHeld => ?_)
            clear hK K
            try simp only [Act.put]
            refine wpAnyE_ready (rs := [16]) (by kernel_rfl) (by simp) ?_
            refine AllReadyE.last (i := 16) rfl rfl (fun K hK => ?_)
            go_simp
            refine hK.out _ _ ?_
            clear hK K
            try simp only [Act.put]
            refine wpAnyE_done (by kernel_rfl) ?_ _
            try simp only [List.getElem_toArray, List.getElem_cons_succ, List.getElem_cons_zero, List.setIfInBounds_toArray, List.set_cons_succ, List.set_cons_zero]
            go_wp2_with fail
            go_roundw
            case rel => exact ⟨i + 1, by omega, by go_num, by rw [HX.out.1, HX.out.2, List.length_append, HQ.out]; exact T43.out, B44.out⟩
            case measure => simp [intOf]; omega
        · go_simp
          have A50 := (Below.refl W0.heap.size W0).alloc (Nat.le_refl _) (.cells #[.int .i64 x, .int .i64 y] 35)
          have T51 := Lib.hid (T0.out.below A50)
          have B52 := Lib.hid (B0.out.trans (A50.mono B0.out.size))
          have P53 := Lib.hid (cells_new W0 35 #[.int .i64 x, .int .i64 y])
          have M54 := Lib.hid (show u8.ownBlock ≠ some W0.heap.size from fun e => by have := own_row_lt T0.out.1 _ e; omega)
          refine hK.out _ _ B52.out (fun hHeld => ?_)
          clear hK K A50
          try simp only [Act.put]
          generalize W0.alloc (.cells #[.int .i64 x, .int .i64 y] 35) = W49 at *
          refine wpAnyE_ready (rs := [6]) (by kernel_rfl) (by simp) ?_
          refine AllReadyE.cons (i := 6) rfl (by decide) (fun K hK => ?_) AllReadyE.nil
          go_simp
          have A56 := (Below.refl W49.heap.size W49).alloc (Nat.le_refl _) (.cells #[.int .i64 d] 3)
          have T57 := Lib.hid (T51.out.below A56)
          have B58 := Lib.hid (B52.out.trans (A56.mono B52.out.size))
          have P59 := Lib.hid (cell_one_new W49 (.int .i64 d) 3)
          have P60 := Lib.hid (fun j u hu => (A56.cell (World.block_lt_of_cell? _ _ (P53.out j u hu))).trans (P53.out j u hu))
          have M61 := Lib.hid (show u9.ownBlock ≠ some W49.heap.size from fun e => by have := own_row_lt T51.out.2 _ e; omega)
          refine hK.out _ _ B58.out (fun hHeld => ?_)
          clear hK K A56
          try simp only [Act.put]
          generalize W49.alloc (.cells #[.int .i64 d] 3) = W55 at *
          refine wpAnyE_ready (rs := [7]) (by kernel_rfl) (by simp) ?_
          refine AllReadyE.cons (i := 7) rfl (by decide) (fun K hK => ?_) AllReadyE.nil
          refine step_append_sz rfl (.tmp 21) (.tmp 27) 50 rfl w.heap.size 3 iI (.int .i64 0) 1 8 Tryz.underlying50 hiI hzI0 hzI1 hzI2 rfl (by decide) u8 q (cellsI ids) rfl T57.out.1 ⟨W49.heap.size, 0, none⟩ 1 1 [.int .i64 d] rfl rfl P59.out (own_.one_cell _ rfl) (by unfold maxLen; omega) (by omega) B58.out.size ?_
          intro v68 W62 o65 g66 r67
          have T63 := Lib.hid (T57.out.left g66 o65)
          have B64 := Lib.hid (B58.out.grown g66 B58.out.size (own_.row_ge T57.out.1))
          have P69 := Lib.hid (fun j u hu => g66.cell (P60.out j u hu) (fun e => M54.out (by rw [Addr.add_lit] at e; exact e.symm)))
          clear g66 o65 r67
          refine hK.out _ _ B64.out (fun hHeld => ?_)
          clear hK K
          try simp only [Act.put]
          refine wpAnyE_ready (rs := [14]) (by kernel_rfl) (by simp) ?_
          refine AllReadyE.cons (i := 14) rfl (by decide) (fun K hK => ?_) AllReadyE.nil
          refine step_append_sz rfl (.tmp 29) (.tmp 34) 46 rfl w.heap.size 35 iP (.agg #[.int .i64 0, .int .i64 0]) 2 16 Tryz.underlying46 hiP hzP0 hzP1 hzP2 rfl (by decide) u9 q (cellsI pls) rfl T63.out.2 ⟨W0.heap.size, 0, none⟩ 1 1 [.int .i64 x, .int .i64 y] rfl rfl P69.out (two_cells x y) (by unfold maxLen; omega) (by omega) B64.out.size ?_
          intro v76 W70 o73 g74 r75
          have T71 := Lib.hid (T63.out.right g74 o73)
          have B72 := Lib.hid (B64.out.grown g74 B64.out.size (own_.row_ge T63.out.2))
          clear g74 o73 r75
          refine hK.out _ _ B72.out (fun hHeld => ?_)
          clear hK K
          try simp only [Act.put]
          refine wpAnyE_ready (rs := [15]) (by kernel_rfl) (by simp) ?_
          refine AllReadyE.cons (i := 15) rfl (by decide) (fun K hK => ?_) AllReadyE.nil
          go_simp
          refine hK.out _ _ B72.out (fun hHeld => ?_)
          clear hK K
          try simp only [Act.put]
          refine wpAnyE_ready (rs := [16]) (by kernel_rfl) (by simp) ?_
          refine AllReadyE.last (i := 16) rfl rfl (fun K hK => ?_)
          go_simp
          refine hK.out _ _ ?_
          clear hK K
          try simp only [Act.put]
          refine wpAnyE_done (by kernel_rfl) ?_ _
          try simp only [List.getElem_toArray, List.getElem_cons_succ, List.getElem_cons_zero, List.setIfInBounds_toArray, List.set_cons_succ, List.set_cons_zero]
          go_wp2_with fail
          go_roundw
          case rel => exact ⟨i + 1, by omega, by go_num, by rw [HX.out.1, HX.out.2, List.length_append, HQ.out]; exact T71.out, B72.out⟩
          case measure => simp [intOf]; omega
    · obtain rfl : i = e0 := by omega
      go_wp2_with fail
      go_ret2
      exact ⟨_, _, rfl, HT.out, HB.out⟩

end Go.Proofs.YtfigjfckelichaaGreatDoor.asgl

/- The search of impl.BestAssignment in memory: what it holds (Sr), the chain of its choices (Ch); countFree, cheapestBehind with its deferred closure. -/
namespace Go.Proofs.YtfigjfckelichaaGreatDoor.asge
open Go.RowKit Go.Proofs.YtfigjfckelichaaGreatDoor.ints Go.Proofs.YtfigjfckelichaaGreatDoor.lst Go.Proofs.YtfigjfckelichaaGreatDoor.in_ Go.Proofs.YtfigjfckelichaaGreatDoor.ats Go.Proofs.YtfigjfckelichaaGreatDoor.pos Go.Proofs.YtfigjfckelichaaGreatDoor.trk Go.Proofs.YtfigjfckelichaaGreatDoor.trkm Go.Proofs.YtfigjfckelichaaGreatDoor.trke Go.Proofs.YtfigjfckelichaaGreatDoor.intc Go.Proofs.YtfigjfckelichaaGreatDoor.asg Go.Proofs.YtfigjfckelichaaGreatDoor.asgb

/-- The cells of taken: which plots are in P. -/
def tkC (P : List Int) (m : Nat) : Array Value := ((List.range m).map fun k => Value.bool (P.contains ((k : Nat) : Int))).toArray
theorem tk_size (P : List Int) (m : Nat) : (tkC P m).size = m := by simp [tkC]
theorem tk_at {P : List Int} {m k : Nat} (h : k < m) : (tkC P m)[k]? = some (.bool (P.contains ((k : Nat) : Int))) := by simp [tkC, h]
theorem has_snoc (P : List Int) (x : Int) (k : Nat) : (P ++ [x]).contains ((k : Nat) : Int) = (P.contains ((k : Nat) : Int) || decide (x = (k : Int))) := by
  rw [Bool.eq_iff_iff]
  simp only [List.contains_iff_mem, List.mem_append, List.mem_singleton, Bool.or_eq_true, decide_eq_true_eq]
  constructor <;> (rintro (h | h); exact Or.inl h; exact Or.inr h.symm)
theorem tk_none (P : List Int) (m : Nat) : tkC (P ++ [-1]) m = tkC P m := by
  unfold tkC
  congr 1
  refine List.map_congr_left fun k _ => ?_
  rw [has_snoc, decide_eq_false (by omega), Bool.or_false]
theorem tk_set {P : List Int} {m k : Nat} (h : k < m) : (tkC P m).setIfInBounds k (.bool true) = tkC (P ++ [(k : Int)]) m := by
  refine Array.ext_getElem? fun j => ?_
  rw [Array.getElem?_setIfInBounds]
  by_cases hj : k = j
  · subst hj
    rw [if_pos rfl, if_pos (by rw [tk_size]; exact h), tk_at h, has_snoc, decide_eq_true rfl, Bool.or_true]
  · rw [if_neg hj]
    by_cases hm : j < m
    · rw [tk_at hm, tk_at hm, has_snoc, decide_eq_false (by omega), Bool.or_false]
    · rw [Array.getElem?_eq_none (by rw [tk_size]; omega), Array.getElem?_eq_none (by rw [tk_size]; omega)]
theorem tk_back {P : List Int} {m k : Nat} (h : k < m) (hc : P.contains (k : Int) = false) : (tkC (P ++ [(k : Int)]) m).setIfInBounds k (.bool false) = tkC P m := by
  refine Array.ext_getElem? fun j => ?_
  rw [Array.getElem?_setIfInBounds]
  by_cases hj : k = j
  · subst hj
    rw [if_pos rfl, if_pos (by rw [tk_size]; exact h), tk_at h, hc]
  · rw [if_neg hj]
    by_cases hm : j < m
    · rw [tk_at hm, tk_at hm, has_snoc, decide_eq_false (by omega), Bool.or_false]
    · rw [Array.getElem?_eq_none (by rw [tk_size]; omega), Array.getElem?_eq_none (by rw [tk_size]; omega)]
/-- What the search at sb holds in w, when the plots in P are taken. -/
structure Sr (sb tb n c m cq : Nat) (A C : Option Addr) (g : Int) (zs ps : List Int) (w : World) (P : List Int) : Prop where
  s : tb < sb ∧ sb < w.heap.size
  f0 : w.cell? ⟨sb, 0, none⟩ = some (.slice A n c)
  f1 : w.cell? ⟨sb, 1, none⟩ = some (.slice C m cq)
  f2 : w.cell? ⟨sb, 2, none⟩ = some (.int .i64 g)
  f3 : w.cell? ⟨sb, 3, none⟩ = some (.slice (some ⟨tb, 0, none⟩) m m)
  t : w.heap[tb]? = some (.cells (tkC P m) 4 (0, 0))
  z : RdZ 6 w tb A n zs
  p : RdZ 2 w tb C m ps
section
variable {sb tb n c m cq : Nat} {A C : Option Addr} {g : Int} {zs ps : List Int} {w w' : World} {P : List Int}
theorem Sr.next (h : Sr sb tb n c m cq A C g zs ps w P) (hb : Below w.heap.size w w') : Sr sb tb n c m cq A C g zs ps w' P :=
  ⟨⟨h.s.1, Nat.lt_of_lt_of_le h.s.2 hb.size⟩, (hb.cell (p := ⟨sb, 0, none⟩) h.s.2).trans h.f0, (hb.cell (p := ⟨sb, 1, none⟩) h.s.2).trans h.f1, (hb.cell (p := ⟨sb, 2, none⟩) h.s.2).trans h.f2, (hb.cell (p := ⟨sb, 3, none⟩) h.s.2).trans h.f3,
    (hb.block tb (by have := h.s; omega)).trans h.t, h.z.below hb (by have := h.s; omega), h.p.below hb (by have := h.s; omega)⟩
theorem Sr.none (h : Sr sb tb n c m cq A C g zs ps w P) : Sr sb tb n c m cq A C g zs ps w (P ++ [-1]) := ⟨h.s, h.f0, h.f1, h.f2, h.f3, by rw [tk_none]; exact h.t, h.z, h.p⟩
theorem low (o : Nat) (u : Value) : Below tb w (w.setCell ⟨tb, o, Option.none⟩ u) := (Below.refl tb w).setCell (p := ⟨tb, o, Option.none⟩) (Nat.le_refl _) u
theorem Sr.put (h : Sr sb tb n c m cq A C g zs ps w P) {k : Nat} (hk : k < m) : Sr sb tb n c m cq A C g zs ps (w.setCell ⟨tb, k, Option.none⟩ (.bool true)) (P ++ [(k : Int)]) := by
  have hs : ∀ j, (w.setCell ⟨tb, k, Option.none⟩ (.bool true)).cell? ⟨sb, j, Option.none⟩ = w.cell? ⟨sb, j, Option.none⟩ := fun j =>
    World.cell?_setCell_other _ _ _ _ (by intro e; have := h.s; simp only [Addr.mk.injEq] at e; omega)
  exact ⟨⟨h.s.1, by simpa [World.setCell] using h.s.2⟩, (hs 0).trans h.f0, (hs 1).trans h.f1, (hs 2).trans h.f2, (hs 3).trans h.f3,
    by rw [heap_setCell_same _ tb k _ _ _ h.t, tk_set hk], h.z.below (low k _) (Nat.le_refl _), h.p.below (low k _) (Nat.le_refl _)⟩
theorem Sr.cell (h : Sr sb tb n c m cq A C g zs ps w P) {k : Nat} (hk : k < m) : w.cell? ⟨tb, k, Option.none⟩ = some (.bool (P.contains (k : Int))) :=
  (cell_of_row _ _ k _ _ (0, 0) h.t).trans (tk_at hk)
theorem Sr.frozen (h : Sr sb tb n c m cq A C g zs ps w P) (k : Nat) : w.frozen? ⟨tb, k, Option.none⟩ = false := by simp [World.frozen?, h.t]
/-- The plot is free again: of what was there nothing has turned. -/
theorem Sr.back (h : Sr sb tb n c m cq A C g zs ps w P) {k : Nat} (hk : k < m) (hc : P.contains (k : Int) = false) {w1 w2 : World} (h1 : Below w.heap.size w w1) (hb : Below w1.heap.size (w1.setCell ⟨tb, k, Option.none⟩ (.bool true)) w2) :
    Below w.heap.size w (w2.setCell ⟨tb, k, Option.none⟩ (.bool false)) := by
  have ht1 : w1.heap[tb]? = some (.cells (tkC P m) 4 (0, 0)) := (h1.block tb (by have := h.s; omega)).trans h.t
  have ht2 : w2.heap[tb]? = some (.cells (tkC (P ++ [(k : Int)]) m) 4 (0, 0)) := by
    rw [hb.block tb (by have := h.s; have := h1.size; omega), heap_setCell_same _ tb k _ _ _ ht1, tk_set hk]
  have hz1 : (w1.setCell ⟨tb, k, Option.none⟩ (.bool true)).heap.size = w1.heap.size := by simp [World.setCell]
  have hz2 : (w2.setCell ⟨tb, k, Option.none⟩ (.bool false)).heap.size = w2.heap.size := by simp [World.setCell]
  have hsz := hb.size
  have hs1 := h1.size
  refine ⟨hb.os.trans h1.os, hb.tape.trans h1.tape, hb.output.trans h1.output, by omega, fun j hj => ?_⟩
  by_cases e : j = tb
  · subst e
    rw [heap_setCell_same _ j k _ _ _ ht2, tk_back hk hc, h.t]
  · rw [Below.heap_setCell _ _ _ _ e, hb.block j (by omega), Below.heap_setCell _ _ _ _ e, h1.block j hj]
end
/-- A chain of choices, in blocks from B on. -/
def Ch (B : Nat) (w : World) : Value → List Int → Prop
  | v, [] => v = .pointer none
  | v, x :: t => ∃ b v', v = .pointer (some ⟨b, 0, none⟩) ∧ B ≤ b ∧ w.heap[b]? = some (.cells #[.int .i64 x, v'] 104 (0, 0)) ∧ Ch B w v' t
theorem blk_lt {w : World} {b : Nat} {ob : Obj} (h : w.heap[b]? = some ob) : b < w.heap.size := by
  rcases Nat.lt_or_ge b w.heap.size with h1 | h1
  · exact h1
  · rw [Array.getElem?_eq_none h1] at h; cases h
theorem Ch.next {B : Nat} {w w' : World} (hb : Below w.heap.size w w') : ∀ {xs : List Int} {v : Value}, Ch B w v xs → Ch B w' v xs
  | [], _, h => h
  | _ :: _, _, ⟨b, v', e, hB, hh, ht⟩ => ⟨b, v', e, hB, (hb.block b (blk_lt hh)).trans hh, Ch.next hb ht⟩
theorem Ch.base {B B' : Nat} {w : World} (hB : B' ≤ B) : ∀ {xs : List Int} {v : Value}, Ch B w v xs → Ch B' w v xs
  | [], _, h => h
  | _ :: _, _, ⟨b, v', e, hb, hh, ht⟩ => ⟨b, v', e, Nat.le_trans hB hb, hh, Ch.base hB ht⟩
theorem Ch.kept {B tb k : Nat} {w : World} {u : Value} (hB : tb < B) : ∀ {xs : List Int} {v : Value}, Ch B w v xs → Ch B (w.setCell ⟨tb, k, Option.none⟩ u) v xs
  | [], _, h => h
  | _ :: _, _, ⟨b, v', e, hb, hh, ht⟩ => ⟨b, v', e, hb, (Below.heap_setCell _ _ _ _ (show b ≠ tb by omega)).trans hh, Ch.kept hB ht⟩
theorem Ch.cons {B : Nat} {w : World} {xs : List Int} {v : Value} (h : Ch B w v xs) (hB : B ≤ w.heap.size) (x : Int) : Ch B (w.alloc (.cells #[.int .i64 x, v] 104)) (.pointer (some ⟨w.heap.size, 0, none⟩)) (x :: xs) :=
  ⟨w.heap.size, v, rfl, hB, heap_alloc_new w _, Ch.next ((Below.refl _ _).alloc (Nat.le_refl _) _) h⟩
theorem Ch.ptr {B : Nat} {w : World} {xs : List Int} {v : Value} (h : Ch B w v xs) : ∃ a, v = .pointer a := by
  cases xs with
  | nil => exact ⟨none, h⟩
  | cons x t => obtain ⟨b, v', e, _⟩ := h; exact ⟨_, e⟩

theorem countFree {sb tb n c m cq : Nat} {A C : Option Addr} {g : Int} {zs ps : List Int} {P : List Int} (w : World) (hm : m ≤ 5) (h : Sr sb tb n c m cq A C g zs ps w P) :
    Calls Tryz.prog 98 #[.pointer (some ⟨sb, 0, none⟩)] w fun e w' => e = .returned (.int .i64 ((frT P m : Nat) : Int)) ∧ w = w' := by
  have HS := Lib.hid h
  have f3 := h.f3
  have HY := Lib.hid (fun k h => fr_yes (P := P) (k := k) h)
  have HN := Lib.hid (fun k h => fr_no (P := P) (k := k) h)
  clear h
  go_enter Tryz.func98, Tryz.ntmps98
  go_wp2_with fail
  go_loop [3, 11] (fun s i => ∃ k : Nat, k ≤ m ∧ i = .int .i64 k ∧ s = .int .i64 ((frT P k : Nat) : Int)) (fun _ i => m - (intOf i).toNat)
  case atStart => exact ⟨0, Nat.zero_le _, rfl, rfl⟩
  case round =>
    obtain ⟨k, hk, rfl, rfl⟩ := hrel
    by_cases hlt : k < m
    · have c0 := HS.out.cell hlt
      have hlt2 : (k : Int) < (m : Int) := by omega
      have hle := frT_le P k
      have HYk := Lib.hid (HY.out k)
      have HNk := Lib.hid (HN.out k)
      cases hc : P.contains (k : Int)
      · have HT := Lib.hid (HNk.out hc)
        rw [hc] at c0
        clear hc HYk HNk
        generalize frT P k = q at *
        have e1 : IntKind.i64.wrap ((q : Int) + 1) = (q : Int) + 1 := IntWalk.i64_in _ (by omega)
        go_wp2_with fail
        go_round
        case rel => exact ⟨k + 1, by omega, by go_num, by rw [HT.out]; go_num⟩
        case measure => simp [intOf]; omega
      · have HT := Lib.hid (HYk.out hc)
        rw [hc] at c0
        clear hc HYk HNk
        go_wp2_with fail
        go_round
        case rel => exact ⟨k + 1, by omega, by go_num, by rw [HT.out]⟩
        case measure => simp [intOf]; omega
    · obtain rfl : k = m := by omega
      go_wp2_with fail
      go_ret
      exact ⟨rfl, rfl⟩

/-- The deferred closure. -/
theorem freed {sb tb n c m cq : Nat} {A C : Option Addr} {g : Int} {zs ps : List Int} {P : List Int} (pb kb k : Nat) (u : FrameMode) (w : World) (hk : k < m) (hp : w.cell? ⟨pb, 0, none⟩ = some (.pointer (some ⟨sb, 0, none⟩))) (hq : w.cell? ⟨kb, 0, none⟩ = some (.int .i64 (k : Int))) (h : Sr sb tb n c m cq A C g zs ps w P) :
    CallsD Tryz.prog 112 #[.pointer (some ⟨pb, 0, none⟩), .pointer (some ⟨kb, 0, none⟩)] u w fun e u' w' => u' = u ∧ (e = .returned (.tuple #[]) ∧ w' = (w.setCell ⟨tb, k, none⟩ (.bool false)).drew) := by
  have f3 := h.f3
  have c0 := h.cell hk
  have z0 := h.frozen k
  have hk2 : (k : Int) < (m : Int) := by omega
  have hk0 : (0 : Int) ≤ (k : Int) := Int.natCast_nonneg _
  clear h
  go_enter_d Tryz.func112, Tryz.ntmps112
  go_wp2_with fail
  go_region
  go_wp2_with fail
  go_end0
  first | exact ⟨rfl, rfl⟩ | exact ⟨rfl, rfl, rfl⟩ | skip

set_option maxRecDepth 100000 in
theorem behind {sb tb n c m cq : Nat} {A C : Option Addr} {g : Int} {zs ps : List Int} {P xs : List Int} {X : Int} (k : Nat) (ih : ∀ W, Sr sb tb n c m cq A C g zs ps W (P ++ [(k : Int)]) → Calls Tryz.prog 64 #[.pointer (some ⟨sb, 0, none⟩), .int .i64 ((P.length : Int) + 1)] W fun e w' => ∃ v, e = .returned (.tuple #[v, .int .i64 X]) ∧ Ch W.heap.size w' v xs ∧ Below W.heap.size W w')
    (w : World) (hk : k < m) (hc : P.contains (k : Int) = false) (hl : P.length ≤ 6) (h : Sr sb tb n c m cq A C g zs ps w P) :
    Calls Tryz.prog 99 #[.pointer (some ⟨sb, 0, none⟩), .int .i64 (P.length : Int), .int .i64 (k : Int)] w fun e w' => ∃ v, e = .returned (.tuple #[v, .int .i64 X]) ∧ Ch w.heap.size w' v xs ∧ Below w.heap.size w w' := by
  have hmf : ∀ (fn : Fn) (first cap : Array Value) (w : World), (Instr.makeFunc fn first cap).run Tryz.prog w = .ok (.func fn first cap) w := fun _ _ _ _ => rfl
  have S0 := Lib.hid ((newS 130 #[.pointer (some ⟨sb, 0, none⟩)] w).alloc (.cells #[.int .i64 (k : Int)] 3))
  have S1 := Lib.hid ((newS 130 #[.pointer (some ⟨sb, 0, none⟩)] w).next 3 #[.int .i64 (k : Int)])
  rw [World.size_alloc] at S1
  have HS := Lib.hid h
  have IH := Lib.hid ih
  have HC := Lib.hid hc
  have hk2 : (k : Int) < (m : Int) := by omega
  have hk0 : (0 : Int) ≤ (k : Int) := Int.natCast_nonneg _
  have e1 : IntKind.i64.wrap ((P.length : Int) + 1) = (P.length : Int) + 1 := IntWalk.i64_in _ (by omega)
  generalize hPL : (P.length : Int) = pl at *
  clear h ih hc hPL hl
  go_enter_defers Tryz.func99, Tryz.ntmps99
  go_upto_region 1 with fail
  generalize (w.alloc (.cells #[.pointer (some ⟨sb, 0, none⟩)] 130)).alloc (.cells #[.int .i64 (k : Int)] 3) = W1 at *
  have H1 := Lib.hid (HS.out.next S0.out.1)
  have p0 : W1.cell? ⟨w.heap.size, 0, none⟩ = some (.pointer (some ⟨sb, 0, none⟩)) := S0.out.cell 0
  have q0 : W1.cell? ⟨w.heap.size + 1, 0, none⟩ = some (.int .i64 (k : Int)) := S1.out.cell 0
  have f3 := H1.out.f3
  have c0 := H1.out.cell hk
  have z0 := H1.out.frozen k
  go_region
  have hz1 : (W1.setCell ⟨tb, k, none⟩ (.bool true)).drew.heap.size = W1.heap.size := by simp [World.setCell, World.drew]
  have HP := Lib.hid ((H1.out.put hk).next (Below.refl _ _).drew)
  have HBK := Lib.hid (fun (W3 : World) (hb : Below (W1.setCell ⟨tb, k, none⟩ (.bool true)).drew.heap.size (W1.setCell ⟨tb, k, none⟩ (.bool true)).drew W3) => HS.out.back hk HC.out S0.out.1 ((Below.refl _ _).drew.trans (hz1 ▸ hb)))
  have hts := HS.out.s
  have p1 : (W1.setCell ⟨tb, k, none⟩ (.bool true)).drew.cell? ⟨w.heap.size, 0, none⟩ = some (.pointer (some ⟨sb, 0, none⟩)) := (World.cell?_setCell_other W1 ⟨tb, k, none⟩ ⟨w.heap.size, 0, none⟩ _ (by intro e; simp only [Addr.mk.injEq] at e; omega)).trans p0
  have q1 : (W1.setCell ⟨tb, k, none⟩ (.bool true)).drew.cell? ⟨w.heap.size + 1, 0, none⟩ = some (.int .i64 (k : Int)) := (World.cell?_setCell_other W1 ⟨tb, k, none⟩ ⟨w.heap.size + 1, 0, none⟩ _ (by intro e; simp only [Addr.mk.injEq] at e; omega)).trans q0
  have HL0 := Lib.hid S0.out.2.2.1
  have HL1 := Lib.hid S1.out.2.2.1
  have HZ1 := Lib.hid hz1
  have HSZ := Lib.hid S0.out.1.size
  clear p0 q0 f3 c0 z0 hz1 H1 S0 S1
  generalize (W1.setCell ⟨tb, k, none⟩ (.bool true)).drew = W2 at *
  go_wp2_with fail
  refine (IH.out W2 HP.out).mono ?_
  rintro e W3 ⟨v, rfl, hch, hb⟩
  have hl0 := HL0.out
  have hl1 := HL1.out
  have hz1 := HZ1.out
  have p2 := (hb.cell (p := ⟨w.heap.size, 0, none⟩) (show w.heap.size < W2.heap.size by omega)).trans p1
  have q2 := (hb.cell (p := ⟨w.heap.size + 1, 0, none⟩) (show w.heap.size + 1 < W2.heap.size by omega)).trans q1
  have P2 := Lib.hid p2
  have Q2 := Lib.hid q2
  have HF := Lib.hid (HBK.out W3 hb)
  have HSR := Lib.hid (HP.out.next hb)
  have HCH := Lib.hid (hch.base (show w.heap.size ≤ W2.heap.size by have := HSZ.out; omega))
  obtain ⟨a, rfl⟩ := Ch.ptr hch
  clear hb hch p1 q1 p2 q2 HP HBK IH hl0 hl1 hz1 hts
  go_wp2_with fail
  refine leaves_cons (f := 112) (args := #[.pointer (some ⟨w.heap.size, 0, none⟩), .pointer (some ⟨w.heap.size + 1, 0, none⟩)]) (by simp) (by simp [go_sem]) ?_
  refine (freed w.heap.size (w.heap.size + 1) k .returning W3 hk P2.out Q2.out HSR.out).mono ?_
  rintro e u' w'' ⟨rfl, rfl, rfl⟩
  have htb := HS.out.s
  exact ⟨_, results_tmp2 rfl _ _ _, _, rfl, Ch.next (Below.refl _ _).drew (HCH.out.kept (show tb < w.heap.size by omega)), HF.out.drew⟩
end Go.Proofs.YtfigjfckelichaaGreatDoor.asge

/- impl's cheapestFrom. -/
namespace Go.Proofs.YtfigjfckelichaaGreatDoor.asgh
open Go.RowKit Go.Proofs.YtfigjfckelichaaGreatDoor.ints Go.Proofs.YtfigjfckelichaaGreatDoor.lst Go.Proofs.YtfigjfckelichaaGreatDoor.in_ Go.Proofs.YtfigjfckelichaaGreatDoor.ats Go.Proofs.YtfigjfckelichaaGreatDoor.pos Go.Proofs.YtfigjfckelichaaGreatDoor.trk Go.Proofs.YtfigjfckelichaaGreatDoor.trkm Go.Proofs.YtfigjfckelichaaGreatDoor.trke Go.Proofs.YtfigjfckelichaaGreatDoor.intc Go.Proofs.YtfigjfckelichaaGreatDoor.asg Go.Proofs.YtfigjfckelichaaGreatDoor.asgb Go.Proofs.YtfigjfckelichaaGreatDoor.asge

theorem to_below {P : Program} {f : FuncId} {args : Array Value} {w : World} {v : Value} (h : Calls P f args w fun e w' => e = .returned v ∧ w = w') : Calls P f args w fun e w' => e = .returned v ∧ Below w.heap.size w w' :=
  h.mono fun _ _ ⟨a, b⟩ => ⟨a, b ▸ Below.refl _ _⟩
theorem to_below2 {P : Program} {f : FuncId} {args : Array Value} {w : World} {v : Value} (h : Calls P f args w fun e w' => e = .returned v ∧ w' = w) : Calls P f args w fun e w' => e = .returned v ∧ Below w.heap.size w w' :=
  h.mono fun _ _ ⟨a, b⟩ => ⟨a, b ▸ Below.refl _ _⟩
theorem len_snoc (P : List Int) (x : Int) : (((P ++ [x]).length : Nat) : Int) = (P.length : Int) + 1 := by simp
/-- The last track has been given its plot. -/
theorem last {sb tb n c m cq : Nat} {A C : Option Addr} {g : Int} {zs ps : List Int} (hq : akB zs n ps m g = true) (P : List Int) (w : World) (hl : P.length = n) (h : Sr sb tb n c m cq A C g zs ps w P) :
    Calls Tryz.prog 64 #[.pointer (some ⟨sb, 0, none⟩), .int .i64 (P.length : Int)] w fun e w' => ∃ v, e = .returned (.tuple #[v, .int .i64 (bst (pst zs ps) g m 0 P).2]) ∧ Ch w.heap.size w' v (bst (pst zs ps) g m 0 P).1 ∧ Below w.heap.size w w' := by
  have hg := (akB_yes hq).2.2.2
  have hm := (akB_yes hq).2.2.1
  have HR := Lib.hid (show (bst (pst zs ps) g m 0 P).2 = (frT P m : Int) * (g + 1) ∧ (bst (pst zs ps) g m 0 P).1 = [] from ⟨Int.mul_comm _ _, rfl⟩)
  have hin := mul_in hg (frT_le P m)
  have TC := Lib.hid (fun d0 os => Calls.regrown_of (to_below (countFree (Sort.grow (redrawn w d0) os) hm (h.next (below_regrown w d0 os)))))
  have TU := Lib.hid (fun w d0 os => Calls.regrown_of (to_below2 (asga.unpairedCost ((frT P m : Nat) : Int) g (Sort.grow (redrawn w d0) os) (by rw [Int.mul_comm]; omega) hg)))
  have f0 := h.f0
  have f2 := h.f2
  have g1 : ((P.length : Int) == (n : Int)) = true := by rw [hl]; simp
  generalize hPL : (P.length : Int) = pl at *
  generalize (bst (pst zs ps) g m 0 P) = R at *
  generalize ((frT P m : Nat) : Int) * (g + 1) = u at *
  generalize ((frT P m : Nat) : Int) = fr at *
  have HB := Lib.hid (Below.refl w.heap.size w)
  clear h hl hPL hq hin
  go_enter Tryz.func64, Tryz.ntmps64
  go_wp2_with fail
  have f0' := fun d0 os => cell_regrown f0 d0 os
  have f2' := fun d0 os => cell_regrown f2 d0 os
  clear f0 f2
  refine wp_region_quiet_below (by kernel_rfl) (by kernel_rfl) ?_
  repeat (
    with_reducible refine wpQuiet_step (fun K hK => ?_)
    go_simp
    first
      | (refine hK _ ?_; clear hK K)
      | (apply Exists.intro
         refine ⟨fun _ => ?_, hK _ ?_⟩
         (first
           | (go_at_call 98; with_reducible exact TC.out _ _)
           | (go_at_call 97; with_reducible exact TU.out _ _ _))
         clear hK K))
  with_reducible refine wpQuiet_nil ?_
  intro _ hw'
  obtain ⟨⟨dq, osq⟩, hw''⟩ := hw'
  subst hw''
  have hbl := (below_regrown w dq osq)
  clear f0' f2'
  generalize Sort.grow (redrawn w dq) osq = w3 at *
  go_wp2_with fail
  go_ret2
  exact ⟨.pointer none, by rw [HR.out.1]; rfl, by rw [HR.out.2]; rfl, hbl⟩

set_option maxRecDepth 100000 in
set_option maxHeartbeats 4000000 in
theorem cheapest {sb tb n c m cq : Nat} {A C : Option Addr} {g : Int} {zs ps : List Int} (hq : akB zs n ps m g = true) : ∀ (r : Nat) (P : List Int) (w : World), P.length + r = n → Sr sb tb n c m cq A C g zs ps w P →
    Calls Tryz.prog 64 #[.pointer (some ⟨sb, 0, none⟩), .int .i64 (P.length : Int)] w fun e w' => ∃ v, e = .returned (.tuple #[v, .int .i64 (bst (pst zs ps) g m r P).2]) ∧ Ch w.heap.size w' v (bst (pst zs ps) g m r P).1 ∧ Below w.heap.size w w' := by
  intro r
  induction r with
  | zero => intro P w hl h; exact last hq P w hl h
  | succ r ih =>
    intro P w hl h
    have hg := (akB_yes hq).2.2.2
    have hm := (akB_yes hq).2.2.1
    have hn6 := (tvB_yes (akB_yes hq).1).2
    have hi : P.length < n := by omega
    have hr6 : r ≤ 6 := by omega
    have IH1 := Lib.hid (fun (W : World) (h : Sr sb tb n c m cq A C g zs ps W P) => show Calls Tryz.prog 64 #[.pointer (some ⟨sb, 0, none⟩), .int .i64 ((P.length : Int) + 1)] W (fun e w' => ∃ v, e = .returned (.tuple #[v, .int .i64 (bst (pst zs ps) g m r (P ++ [-1])).2]) ∧ Ch W.heap.size w' v (bst (pst zs ps) g m r (P ++ [-1])).1 ∧ Below W.heap.size W w') from by
      have := ih (P ++ [-1]) W (by rw [List.length_append]; show P.length + 1 + r = n; omega) h.none
      rwa [len_snoc] at this)
    have IH2 := Lib.hid (fun (k : Nat) (W : World) (h : Sr sb tb n c m cq A C g zs ps W (P ++ [(k : Int)])) => show Calls Tryz.prog 64 #[.pointer (some ⟨sb, 0, none⟩), .int .i64 ((P.length : Int) + 1)] W (fun e w' => ∃ v, e = .returned (.tuple #[v, .int .i64 (bst (pst zs ps) g m r (P ++ [(k : Int)])).2]) ∧ Ch W.heap.size w' v (bst (pst zs ps) g m r (P ++ [(k : Int)])).1 ∧ Below W.heap.size W w') from by
      have := ih (P ++ [(k : Int)]) W (by rw [List.length_append]; show P.length + 1 + r = n; omega) h
      rwa [len_snoc] at this)
    have HBH := Lib.hid (fun (k : Nat) (hk : k < m) (hc : P.contains (k : Int) = false) (W : World) (h : Sr sb tb n c m cq A C g zs ps W P) => behind k (IH2.out k) W hk hc (by omega) h)
    have HIN := Lib.hid (fun (Q : List Int) => bst_in (m := m) (pst_nonneg zs ps) hg r Q)
    have HTD := Lib.hid (fun (k : Nat) (hk : k < m) => show 0 ≤ pst zs ps P.length k ∧ pst zs ps P.length k ≤ 19798 from asga.ds_pst zs ps P.length k ▸ asga.ds_in (ak_track hq hi) (ak_plot hq hk))
    have HT := Lib.hid (fun (k : Nat) (hk : k < m) (W : World) (d0 : Nat) (os : Array Obj) => Calls.regrown_of (show Calls Tryz.prog 71 #[.agg #[.int .i64 (fld 6 zs P.length 0), .int .i64 (fld 6 zs P.length 1), .int .i64 (fld 6 zs P.length 2), .int .i64 (fld 6 zs P.length 3), .int .i64 (fld 6 zs P.length 4), .int .i64 (fld 6 zs P.length 5)], .agg #[.int .i64 (fld 2 ps k 0), .int .i64 (fld 2 ps k 1)]] (Sort.grow (redrawn W d0) os) (fun e w' => e = .returned (.int .i64 (pst zs ps P.length k)) ∧ Below (Sort.grow (redrawn W d0) os).heap.size (Sort.grow (redrawn W d0) os) w') from asga.trackDistance (fld 6 zs P.length 0) (fld 6 zs P.length 1) (fld 6 zs P.length 2) (fld 6 zs P.length 3) (fld 6 zs P.length 4) (fld 6 zs P.length 5) (fld 2 ps k 0) (fld 2 ps k 1) (ak_track hq hi) (ak_plot hq hk) (Sort.grow (redrawn W d0) os)))
    obtain ⟨S, hS⟩ : ∃ S : Nat → List Int × Int, S = stp P (pst zs ps P.length) g (fun k => (bst (pst zs ps) g m r (P ++ [(k : Int)]))) (-1 :: (bst (pst zs ps) g m r (P ++ [-1])).1, (bst (pst zs ps) g m r (P ++ [-1])).2 + (g + 1)) := ⟨_, rfl⟩
    have HEND := (show (bst (pst zs ps) g m (r + 1) P) = S m by rw [hS]; rfl)
    have H0 := Lib.hid (show (S 0).1 = -1 :: (bst (pst zs ps) g m r (P ++ [-1])).1 ∧ (S 0).2 = (bst (pst zs ps) g m r (P ++ [-1])).2 + (g + 1) by rw [hS]; exact ⟨rfl, rfl⟩)
    have HSK := Lib.hid (fun (k : Nat) (h : P.contains (k : Int) = true ∨ g < pst zs ps P.length k) => show S (k + 1) = S k by rw [hS]; exact stp_skip h)
    have HTK := Lib.hid (fun (k : Nat) (h1 : P.contains (k : Int) = false) (h2 : pst zs ps P.length k ≤ g) (h3 : (bst (pst zs ps) g m r (P ++ [(k : Int)])).2 + pst zs ps P.length k < (S k).2) => show (S (k + 1)).1 = (k : Int) :: (bst (pst zs ps) g m r (P ++ [(k : Int)])).1 ∧ (S (k + 1)).2 = (bst (pst zs ps) g m r (P ++ [(k : Int)])).2 + pst zs ps P.length k by
      have := stp_take (q := fun k : Nat => (bst (pst zs ps) g m r (P ++ [(k : Int)]))) (a := (-1 :: (bst (pst zs ps) g m r (P ++ [-1])).1, (bst (pst zs ps) g m r (P ++ [-1])).2 + (g + 1))) h1 (show ¬ g < pst zs ps P.length k by omega) (by rw [← hS]; exact h3)
      rw [hS, this]; exact ⟨rfl, rfl⟩)
    have HKP := Lib.hid (fun (k : Nat) (h1 : P.contains (k : Int) = false) (h2 : pst zs ps P.length k ≤ g) (h3 : (S k).2 ≤ (bst (pst zs ps) g m r (P ++ [(k : Int)])).2 + pst zs ps P.length k) => show S (k + 1) = S k by
      have := stp_keep (q := fun k : Nat => (bst (pst zs ps) g m r (P ++ [(k : Int)]))) (a := (-1 :: (bst (pst zs ps) g m r (P ++ [-1])).1, (bst (pst zs ps) g m r (P ++ [-1])).2 + (g + 1))) h1 (show ¬ g < pst zs ps P.length k by omega) (by rw [← hS]; show ¬ (bst (pst zs ps) g m r (P ++ [(k : Int)])).2 + pst zs ps P.length k < (S k).2; omega)
      rw [hS]; exact this)
    rw [HEND]
    have HS := Lib.hid h
    have hin := HIN.out (P ++ [-1])
    have f0 := h.f0
    have HU := Lib.hid (fun W => show Calls Tryz.prog 97 #[.int .i64 1, .int .i64 g] W (fun e w' => e = .returned (.int .i64 (g + 1)) ∧ w' = W) from by
      have := asga.unpairedCost 1 g W (by omega) hg
      rwa [Int.one_mul] at this)
    have g1 : ((P.length : Int) == (n : Int)) = false := beq_eq_false_iff_ne.mpr (by omega)
    have e1 : IntKind.i64.wrap ((P.length : Int) + 1) = (P.length : Int) + 1 := IntWalk.i64_in _ (by omega)
    have e2 : IntKind.i64.wrap ((bst (pst zs ps) g m r (P ++ [-1])).2 + (g + 1)) = (bst (pst zs ps) g m r (P ++ [-1])).2 + (g + 1) := IntWalk.i64_in _ (by omega)
    have hpl0 : (0 : Int) ≤ (P.length : Int) := Int.natCast_nonneg _
    have hpln : (P.length : Int) < (n : Int) := by omega
    have HIP := Lib.hid hi
    clear h ih hq hl hS HEND IH2 hi
    generalize (bst (pst zs ps) g m r (P ++ [-1])) = R1 at *
    obtain ⟨xs1, c1⟩ := R1
    go_enter Tryz.func64, Tryz.ntmps64
    go_wp2_with fail
    refine (IH1.out w HS.out).mono ?_
    rintro e W1 ⟨v, rfl, hch, hb⟩
    obtain ⟨a1, rfl⟩ := Ch.ptr hch
    have HB1 := Lib.hid hb
    have HC1 := Lib.hid ((hch.cons hb.size (-1)))
    have HB2 := Lib.hid (hb.alloc hb.size (.cells #[.int .i64 (-1), .pointer a1] 104))
    have hsb := HS.out.s.2
    have f2 : W1.cell? ⟨sb, 2, none⟩ = some (.int .i64 g) := (hb.cell (p := ⟨sb, 2, none⟩) hsb).trans HS.out.f2
    have f2' : (W1.alloc (.cells #[.int .i64 (-1), .pointer a1] 104)).cell? ⟨sb, 2, none⟩ = some (.int .i64 g) := (HB2.out.cell (p := ⟨sb, 2, none⟩) hsb).trans HS.out.f2
    have f1' : (W1.alloc (.cells #[.int .i64 (-1), .pointer a1] 104)).cell? ⟨sb, 1, none⟩ = some (.slice C m cq) := (HB2.out.cell (p := ⟨sb, 1, none⟩) hsb).trans HS.out.f1
    clear hch hb f0 IH1
    go_wp2_with fail
    refine (HU.out _).mono ?_
    rintro e w' ⟨rfl, hw'⟩
    have f1'' := hw' ▸ f1'
    have HC2 := Lib.hid (show Ch w.heap.size w' (.pointer (some ⟨W1.heap.size, 0, none⟩)) (-1 :: xs1) from hw' ▸ HC1.out)
    have HB3 := Lib.hid (show Below w.heap.size w w' from hw' ▸ HB2.out)
    clear hw' f1' f2' HC1 HB2 HB1 f2
    go_wp2_with fail
    go_loopw [8, 9, 49] (fun b q j wr => ∃ k : Nat, k ≤ m ∧ j = .int .i64 k ∧ q = .int .i64 (S k).2 ∧ Ch w.heap.size wr b (S k).1 ∧ Below w.heap.size w wr) (fun _ _ j _ => m - (intOf j).toNat)
    case atStart => exact ⟨0, Nat.zero_le _, rfl, by rw [H0.out.2], by rw [H0.out.1]; exact HC2.out, HB3.out⟩
    case round =>
      obtain ⟨k, hk, rfl, rfl, hch, hb⟩ := hrel
      obtain ⟨ab, rfl⟩ := Ch.ptr hch
      have HCk := Lib.hid hch
      have HB := Lib.hid hb
      have HSr := Lib.hid (HS.out.next hb)
      clear hch hb HC2 HB3 f1''
      by_cases hlt : k < m
      · obtain ⟨b2, o2, rfl, l2, q0, q1⟩ := asga.cells2 (HSr.out.p) hlt
        have hlt2 : (k : Int) < (m : Int) := by omega
        have hk0 : (0 : Int) ≤ (k : Int) := Int.natCast_nonneg _
        have TDk := Lib.hid (HT.out k hlt)
        have hdd := HTD.out k hlt
        have HSKk := Lib.hid (HSK.out k)
        have HTKk := Lib.hid (HTK.out k)
        have HKPk := Lib.hid (HKP.out k)
        have HBHk := Lib.hid (HBH.out k hlt)
        have hin2 := HIN.out (P ++ [(k : Int)])
        have PB := Lib.hid (newS 35 #[.int .i64 (fld 2 ps k 0), .int .i64 (fld 2 ps k 1)] wr)
        generalize fld 2 ps k 0 = v0 at *
        generalize fld 2 ps k 1 = v1 at *
        go_upto_region 8 with fail
        clear q0 q1
        generalize wr.alloc (.cells #[.int .i64 v0, .int .i64 v1] 35) = V0 at *
        have HB4 := Lib.hid (HB.out.trans (PB.out.1.mono HB.out.size))
        have HC4 := Lib.hid (Ch.next PB.out.1 HCk.out)
        have HS4 := Lib.hid (HSr.out.next PB.out.1)
        have p0 : V0.cell? ⟨wr.heap.size, 0, none⟩ = some (.int .i64 v0) := PB.out.cell 0
        have p1 : V0.cell? ⟨wr.heap.size, 1, none⟩ = some (.int .i64 v1) := PB.out.cell 1
        obtain ⟨b1, o1, hA, -, a0, a1', a2, a3, a4, a5⟩ := cellsE HS4.out.z HIP.out
        have f0 : V0.cell? ⟨sb, 0, none⟩ = some (.slice (some ⟨b1, o1, none⟩) n c) := hA ▸ HS4.out.f0
        generalize fld 6 zs P.length 0 = u0 at *
        generalize fld 6 zs P.length 1 = u1 at *
        generalize fld 6 zs P.length 2 = u2 at *
        generalize fld 6 zs P.length 3 = u3 at *
        generalize fld 6 zs P.length 4 = u4 at *
        generalize fld 6 zs P.length 5 = u5 at *
        clear PB HB HCk HSr hA
        have f0' := fun d0 os => cell_regrown f0 d0 os
        have p0' := fun d0 os => cell_regrown p0 d0 os
        have p1' := fun d0 os => cell_regrown p1 d0 os
        have a0' := fun d0 os => cell_regrown a0 d0 os
        have a1q := fun d0 os => cell_regrown a1' d0 os
        have a2' := fun d0 os => cell_regrown a2 d0 os
        have a3' := fun d0 os => cell_regrown a3 d0 os
        have a4' := fun d0 os => cell_regrown a4 d0 os
        have a5' := fun d0 os => cell_regrown a5 d0 os
        clear f0 p0 p1 a0 a1' a2 a3 a4 a5
        refine wp_region_quiet_below (by kernel_rfl) (by kernel_rfl) ?_
        repeat (
          with_reducible refine wpQuiet_step (fun K hK => ?_)
          go_simp
          first
            | (refine hK _ ?_; clear hK K)
            | (apply Exists.intro
               refine ⟨fun _ => ?_, hK _ ?_⟩
               (first
                 | (go_at_call 71; with_reducible exact TDk.out _ _ _))
               clear hK K))
        with_reducible refine wpQuiet_nil ?_
        intro _ hw'
        obtain ⟨⟨dq, osq⟩, hw''⟩ := hw'
        subst hw''
        have hbl := (below_regrown V0 dq osq)
        clear f0' p0' p1' a0' a1q a2' a3' a4' a5'
        generalize Sort.grow (redrawn V0 dq) osq = V1 at *
        have HB5 := Lib.hid (HB4.out.trans (hbl.mono HB4.out.size))
        have HC5 := Lib.hid (Ch.next hbl HC4.out)
        have HS5 := Lib.hid (HS4.out.next hbl)
        have f3 := HS5.out.f3
        have f2 := HS5.out.f2
        have c0 := HS5.out.cell hlt
        clear hbl HB4 HC4 HS4 TDk
        generalize pst zs ps P.length k = dd at *
        cases hc : P.contains (k : Int)
        · rw [hc] at c0
          by_cases hd : g < dd
          · have HV := Lib.hid (HSKk.out (Or.inr hd))
            clear hc HSKk HTKk HKPk HBHk
            generalize S k = sk at *
            go_wp2_with fail
            go_roundw
            case rel => exact ⟨k + 1, by omega, by go_num, by rw [HV.out], by rw [HV.out]; exact HC5.out, HB5.out⟩
            case measure => simp [intOf]; omega
          · have hd2 : dd ≤ g := by omega
            have HBC := Lib.hid (HBHk.out hc V1 HS5.out)
            have HTC := Lib.hid (HTKk.out hc hd2)
            have HKC := Lib.hid (HKPk.out hc hd2)
            clear hc HSKk HTKk HKPk HBHk HTK HKP HBH
            generalize (bst (pst zs ps) g m r (P ++ [(k : Int)])) = R2 at *
            obtain ⟨xs2, c2⟩ := R2
            have e3 : IntKind.i64.wrap (c2 + dd) = c2 + dd := IntWalk.i64_in _ (by
              have h1 := hin2.1
              have h2 := hin2.2.1
              have h3 : (0 : Int) ≤ c2 := h1
              have h4 : c2 ≤ 1001 * ((r + m : Nat) : Int) := h2
              omega)
            go_wp2_with fail
            refine HBC.out.mono ?_
            rintro e V2 ⟨v2, rfl, hch, hb⟩
            obtain ⟨ac, rfl⟩ := Ch.ptr hch
            have HB6 := Lib.hid (HB5.out.trans (hb.mono HB5.out.size))
            have HC6 := Lib.hid (Ch.next hb HC5.out)
            have HN6 := Lib.hid ((hch.base HB5.out.size).cons HB6.out.size (k : Int))
            have HB7 := Lib.hid (HB6.out.alloc HB6.out.size (.cells #[.int .i64 (k : Int), .pointer ac] 104))
            clear hch hb f3 f2 c0 HB5 HC5 HBC
            by_cases hless : c2 + dd < (S k).2
            · have HV := Lib.hid (HTC.out hless)
              clear HTC HKC
              generalize S k = sk at *
              go_wp2_with fail
              go_roundw
              case rel => exact ⟨k + 1, by omega, by go_num, by rw [HV.out.2], by rw [HV.out.1]; exact HN6.out, HB7.out⟩
              case measure => simp [intOf]; omega
            · have HV := Lib.hid (HKC.out (by show (S k).2 ≤ c2 + dd; omega))
              clear HTC HKC
              generalize S k = sk at *
              go_wp2_with fail
              go_roundw
              case rel => exact ⟨k + 1, by omega, by go_num, by rw [HV.out], by rw [HV.out]; exact HC6.out, HB6.out⟩
              case measure => simp [intOf]; omega
        · rw [hc] at c0
          have HV := Lib.hid (HSKk.out (Or.inl hc))
          clear hc HSKk HTKk HKPk HBHk
          generalize S k = sk at *
          go_wp2_with fail
          go_roundw
          case rel => exact ⟨k + 1, by omega, by go_num, by rw [HV.out], by rw [HV.out]; exact HC5.out, HB5.out⟩
          case measure => simp [intOf]; omega
      · obtain rfl : k = m := by omega
        go_wp2_with fail
        go_ret2
        exact ⟨_, rfl, HCk.out, HB.out⟩
end Go.Proofs.YtfigjfckelichaaGreatDoor.asgh

/- impl's BestAssignment. -/
namespace Go.Proofs.YtfigjfckelichaaGreatDoor.asgi
open Go.RowKit Go.Proofs.YtfigjfckelichaaGreatDoor.ints Go.Proofs.YtfigjfckelichaaGreatDoor.lst Go.Proofs.YtfigjfckelichaaGreatDoor.in_ Go.Proofs.YtfigjfckelichaaGreatDoor.ats Go.Proofs.YtfigjfckelichaaGreatDoor.pos Go.Proofs.YtfigjfckelichaaGreatDoor.trk Go.Proofs.YtfigjfckelichaaGreatDoor.trkm Go.Proofs.YtfigjfckelichaaGreatDoor.trke Go.Proofs.YtfigjfckelichaaGreatDoor.intc Go.Proofs.YtfigjfckelichaaGreatDoor.asg Go.Proofs.YtfigjfckelichaaGreatDoor.asgb Go.Proofs.YtfigjfckelichaaGreatDoor.asge Go.Proofs.YtfigjfckelichaaGreatDoor.rws

theorem infoB : (Tryz.prog.info? 4).map (fun i => (i.zero, i.size, i.bytes)) = some (some (.bool false), 1, 1) := by kernel_rfl
theorem made_tk (m : Nat) : madeCells (Value.cells (.bool false)) (m * 1) = tkC [] m := by
  refine Array.ext_getElem? fun j => ?_
  by_cases h : j < m
  · rw [tk_at h]
    rw [Array.getElem?_eq_getElem (by simp [madeCells]; omega)]
    simp [madeCells, Value.cells, Nat.mod_one]
  · rw [Array.getElem?_eq_none (by simp [madeCells]; omega), Array.getElem?_eq_none (by rw [tk_size]; omega)]
theorem Ch.grown {B B0 q : Nat} {w w' : World} {u : Value} {ys : List Value} (ho : w.ownsRow B0 3 1 u q ys) (hg : w.grownBy w' u.ownBlock) : ∀ {xs : List Int} {v : Value}, Ch B w v xs → Ch B w' v xs
  | [], _, h => h
  | _ :: _, _, ⟨b, v', e, hB, hh, ht⟩ => ⟨b, v', e, hB, (hg.block b (blk_lt hh) (fun e2 => by
      rcases ho.2 with ⟨rfl, _⟩ | ⟨g, cap, cur, rfl, _, hh', _⟩
      · simp [Value.ownBlock] at e2
      · have e3 : b = g := by simpa [Value.ownBlock] using e2
        subst e3
        have h2 : Obj.cells cur 3 (0, 0) = Obj.cells _ 104 (0, 0) := Option.some.inj (hh'.symm.trans hh)
        injection h2 with _ h3
        exact absurd h3 (by decide))).trans hh, Ch.grown ho hg ht⟩
theorem ptr_inj {a b : Nat} (h : Value.pointer (some ⟨a, 0, none⟩) = .pointer (some ⟨b, 0, none⟩)) : a = b := by injection h with e1; injection e1 with e2; injection e2
theorem app_one (a : List Int) (x : Int) (t : List Int) : a ++ x :: t = (a ++ [x]) ++ t := by simp

set_option maxRecDepth 100000 in
set_option maxHeartbeats 4000000 in
theorem bestAssignment (zs ps : List Int) (g : Int) (A C : Option Addr) (n c m cq : Nat) (w : World) (hn : n ≤ 1048577) (hm : m ≤ 1048577) (h1 : RdZ 6 w w.heap.size A n zs) (h2 : RdZ 2 w w.heap.size C m ps) :
    Calls Tryz.prog 23 #[.slice A n c, .slice C m cq, .int .i64 g] w fun e w' => ∃ v, e = .returned (.tuple #[v, .int .i64 (beC zs n ps m g), .bool (akB zs n ps m g)]) ∧ w'.ownsRow w.heap.size 3 1 v (beV zs n ps m g).length (cellsI (beV zs n ps m g)) ∧ Below w.heap.size w w' := by
  obtain ⟨iI, hiI, hzI0, hzI1, hzI2⟩ := info_parts infoI
  obtain ⟨ib, hib, hb0, hb1, hb2⟩ := info_parts infoB
  have H1 := Lib.hid (asga.canAssign zs ps g A C n c m cq w hn hm h1 h2)
  cases hq : akB zs n ps m g
  · have HE := Lib.hid (be_no hq)
    rw [hq] at H1
    clear hq h1 h2
    go_enter Tryz.func23, Tryz.ntmps23
    go_wp2_with fail
    refine H1.out.mono ?_
    rintro e w1 ⟨rfl, hb⟩
    have HB := Lib.hid hb
    clear hb
    go_wp2_with fail
    go_ret3
    exact ⟨_, by rw [HE.out.2]; rfl, by rw [HE.out.1]; exact World.ownsRow_nil .., HB.out⟩
  rw [hq] at H1
  have HE := Lib.hid (be_yes hq)
  have hm5 := (akB_yes hq).2.2.1
  have hn6 := (tvB_yes (akB_yes hq).1).2
  have HLEN := Lib.hid (show ((bst (pst zs ps) g m n []).1).length ≤ 6 by
    rw [(bst_in (pst_nonneg zs ps) (akB_yes hq).2.2.2 n []).2.2]; exact hn6)
  have MB : ∀ W : World, (Instr.makeSlice 97 (.int .i64 (m : Int)) (.int .i64 (m : Int))).run Tryz.prog W = .ok (.slice (some ⟨W.heap.size, 0, none⟩) m m) (W.alloc (.cells (tkC [] m) 4)) := fun W => by
    have := run_makeSlice (P := Tryz.prog) W 97 4 ib (.bool false) Tryz.underlying97 hib hb0 .i64 .i64 (m : Int) (m : Int) (by omega) (Int.le_refl _) (by rw [hb1]; omega) (by rw [hb2]; omega) (by omega)
    rw [Int.toNat_natCast, hb1, made_tk] at this
    exact this
  have HBST := Lib.hid (fun (sb tb : Nat) (W : World) (h : Sr sb tb n c m cq A C g zs ps W []) => show Calls Tryz.prog 64 #[.pointer (some ⟨sb, 0, none⟩), .int .i64 0] W (fun e w' => ∃ v, e = .returned (.tuple #[v, .int .i64 (bst (pst zs ps) g m n []).2]) ∧ Ch W.heap.size w' v (bst (pst zs ps) g m n []).1 ∧ Below W.heap.size W w') from asgh.cheapest hq n [] W (Nat.zero_add n) h)
  have HR1 := Lib.hid h1
  have HR2 := Lib.hid h2
  have HZ := Lib.hid (fun (w1 : World) (hb : Below w.heap.size w w1) => show Sr (w1.heap.size + 1) w1.heap.size n c m cq A C g zs ps ((w1.alloc (.cells (tkC [] m) 4)).alloc (.cells #[.slice A n c, .slice C m cq, .int .i64 g, .slice (some ⟨w1.heap.size, 0, none⟩) m m] 99)) [] from by
    have S1 := (newS 4 (tkC [] m) w1).next 99 #[.slice A n c, .slice C m cq, .int .i64 g, .slice (some ⟨w1.heap.size, 0, none⟩) m m]
    have S0 := (newS 4 (tkC [] m) w1).alloc (.cells #[.slice A n c, .slice C m cq, .int .i64 g, .slice (some ⟨w1.heap.size, 0, none⟩) m m] 99)
    rw [World.size_alloc] at S1
    have hbb := hb.trans (S1.1.mono hb.size)
    exact ⟨⟨Nat.lt_succ_self _, S1.2.2.1⟩, S1.cell 0, S1.cell 1, S1.cell 2, S1.cell 3, S0.2.2.2, intc.RdZ.more (h1.below hbb (Nat.le_refl _)) hb.size, intc.RdZ.more (h2.below hbb (Nat.le_refl _)) hb.size⟩)
  rw [HE.out.1, HE.out.2]
  generalize bst (pst zs ps) g m n [] = R at *
  obtain ⟨xs, cs⟩ := R
  clear hq h1 h2 hib hb0 hb1 hb2 HE
  go_enter Tryz.func23, Tryz.ntmps23
  go_wp2_with fail
  refine H1.out.mono ?_
  rintro e w1 ⟨rfl, hb⟩
  have HB1 := Lib.hid hb
  have HS := Lib.hid (HZ.out w1 hb)
  have HB2 := Lib.hid ((hb.alloc hb.size (.cells (tkC [] m) 4)).alloc (by rw [World.size_alloc]; have := hb.size; omega) (.cells #[.slice A n c, .slice C m cq, .int .i64 g, .slice (some ⟨w1.heap.size, 0, none⟩) m m] 99))
  have HBSTs := Lib.hid (HBST.out _ _ _ HS.out)
  clear hb HZ H1 HBST HS
  go_wp2_with fail
  refine HBSTs.out.mono ?_
  rintro e W3 ⟨v, rfl, hch, hb⟩
  obtain ⟨a1, rfl⟩ := Ch.ptr hch
  have HC3 := Lib.hid (hch.base HB2.out.size)
  have HB3 := Lib.hid (HB2.out.trans (hb.mono HB2.out.size))
  clear hch hb HBSTs HB2 HB1
  go_wp2_with fail
  go_loopw [12, 13] (fun v q wr => ∃ ys t, xs = ys ++ t ∧ wr.ownsRow w.heap.size 3 1 v ys.length (cellsI ys) ∧ Ch w.heap.size wr q t ∧ Below w.heap.size w wr ∧ t.length = xs.length - ys.length) (fun v _ _ => 6 - (match v with | .slice _ q _ => q | _ => 0))
  case atStart => exact ⟨[], xs, rfl, World.ownsRow_nil .., HC3.out, HB3.out, rfl⟩
  case round =>
    obtain ⟨ys, t, hxs, hO, hch, hb, htl⟩ := hrel
    obtain ⟨A5, c5, rfl⟩ := own_sliceZ hO
    have HO := Lib.hid hO
    have HB := Lib.hid hb
    have HXS := Lib.hid hxs
    have hlen6 := HLEN.out
    cases t with
    | nil =>
      obtain rfl : _ = Value.pointer none := hch
      rw [List.append_nil] at hxs
      have HX := Lib.hid hxs
      clear hO hb hxs htl
      go_wp2_with fail
      go_ret3
      exact ⟨_, rfl, by show _; rw [HX.out]; exact HO.out, HB.out⟩
    | cons x t =>
      obtain ⟨b, v', rfl, hB, hh, hch⟩ := hch
      have c0 : wr.cell? ⟨b, 0, none⟩ = some (.int .i64 x) := cell_of_row _ _ 0 _ _ (0, 0) hh
      have c1 : wr.cell? ⟨b, 1, none⟩ = some v' := cell_of_row _ _ 1 _ _ (0, 0) hh
      have HCH := Lib.hid hch
      have HH := Lib.hid hh
      have hys : ys.length < 6 := by
        have h6 : xs.length ≤ 6 := hlen6
        rw [hxs, List.length_append, List.length_cons] at h6
        omega
      have O5 := Lib.hid (hO.alloc (.cells #[.int .i64 x] 3))
      have B5 := Lib.hid (hb.alloc hb.size (.cells #[.int .i64 x] 3))
      have C5 := Lib.hid (Ch.next (w' := wr.alloc (.cells #[.int .i64 x] 3)) ((Below.refl _ _).alloc (Nat.le_refl _) _) hch)
      have C6 := Lib.hid (show Ch w.heap.size (wr.alloc (.cells #[.int .i64 x] 3)) (.pointer (some ⟨b, 0, none⟩)) (x :: t) from Ch.next (w' := wr.alloc (.cells #[.int .i64 x] 3)) ((Below.refl _ _).alloc (Nat.le_refl _) _) (show Ch w.heap.size wr (.pointer (some ⟨b, 0, none⟩)) (x :: t) from ⟨b, v', rfl, hB, hh, hch⟩))
      have hbs := hb.size
      obtain ⟨av, rfl⟩ := Ch.ptr hch
      clear hO hb hxs htl hch hh hlen6 c1
      go_wp2_with (at_builtin; refine wpList_append_any rfl (.tmp 37) (.tmp 42) 50 rfl w.heap.size 3 iI (.int .i64 0) 1 8 Tryz.underlying50 hiI hzI0 hzI1 hzI2 rfl (by decide) _ ys.length (cellsI ys) rfl O5.out ⟨wr.heap.size, 0, none⟩ 1 1 [.int .i64 x] rfl rfl (cell_one_new _ _ _) (own_.one_cell _ rfl) (by unfold maxLen; omega) (by omega) (by rw [World.size_alloc]; omega) ?_; intro v6 w6 o6 g6 n6; obtain ⟨A6, c6, rfl⟩ := own_sliceZ o6; have O6 := Lib.hid (show w6.ownsRow w.heap.size 3 1 (.slice A6 (ys.length + 1) c6) (ys ++ [x]).length (cellsI (ys ++ [x])) from own_growI o6); have B6 := Lib.hid (B5.out.grown g6 B5.out.size (own_.row_ge O5.out)); obtain ⟨b', v'', eb, hB', hh', hch'⟩ := Ch.grown O5.out g6 C6.out; obtain rfl : b = b' := ptr_inj eb; have c1 : w6.cell? ⟨b, 1, none⟩ = some v'' := cell_of_row _ _ 1 _ _ (0, 0) hh'; have HCN := Lib.hid hch'; obtain ⟨aw, rfl⟩ := Ch.ptr hch'; clear eb hh' hch' hB' o6 g6 n6 O5 B5 C5 C6 c0 HCH HH)
      have HX := Lib.hid (HXS.out.trans (app_one ys x t))
      go_wp2_with fail
      go_roundw
      case rel => exact ⟨ys ++ [x], t, HX.out, O6.out, HCN.out, B6.out, by have := congrArg List.length HX.out; simp only [List.length_append, List.length_cons, List.length_nil] at this ⊢; omega⟩
      case measure => simp; omega
end Go.Proofs.YtfigjfckelichaaGreatDoor.asgi

/- impl's IsAssignment. -/
namespace Go.Proofs.YtfigjfckelichaaGreatDoor.asgc
open Go.RowKit Go.Proofs.YtfigjfckelichaaGreatDoor.ints Go.Proofs.YtfigjfckelichaaGreatDoor.lst Go.Proofs.YtfigjfckelichaaGreatDoor.in_ Go.Proofs.YtfigjfckelichaaGreatDoor.ats Go.Proofs.YtfigjfckelichaaGreatDoor.pos Go.Proofs.YtfigjfckelichaaGreatDoor.trk Go.Proofs.YtfigjfckelichaaGreatDoor.trkm Go.Proofs.YtfigjfckelichaaGreatDoor.trke Go.Proofs.YtfigjfckelichaaGreatDoor.intc Go.Proofs.YtfigjfckelichaaGreatDoor.asg Go.Proofs.YtfigjfckelichaaGreatDoor.rws

theorem rdI_take {w : World} {B n k : Nat} {A : Option Addr} {xs : List Int} (h : RdI w B A n xs) (hk : k ≤ n) : RdI w B A k (xs.take k) :=
  ⟨by rw [List.length_take, h.1]; omega, fun h0 => by
    obtain ⟨b, o, e, hb, hc⟩ := h.2 (by omega)
    refine ⟨b, o, e, hb, fun j x hx => hc j x ?_⟩
    have hj := (List.getElem?_eq_some_iff.1 hx).1
    rw [List.length_take] at hj
    rwa [List.getElem?_take, if_pos (by omega)] at hx⟩
theorem to_below {P : Program} {f : FuncId} {args : Array Value} {w : World} {v : Value} (h : Calls P f args w fun e w' => e = .returned v ∧ w = w') : Calls P f args w fun e w' => e = .returned v ∧ Below w.heap.size w w' :=
  h.mono fun _ _ ⟨a, b⟩ => ⟨a, b ▸ Below.refl _ _⟩
theorem to_below2 {P : Program} {f : FuncId} {args : Array Value} {w : World} {v : Value} (h : Calls P f args w fun e w' => e = .returned v ∧ w' = w) : Calls P f args w fun e w' => e = .returned v ∧ Below w.heap.size w w' :=
  h.mono fun _ _ ⟨a, b⟩ => ⟨a, b ▸ Below.refl _ _⟩
set_option maxRecDepth 100000 in
set_option maxHeartbeats 4000000 in
theorem isAssignment (zs ps xs : List Int) (g : Int) (A C E : Option Addr) (n c m cq e0 ce : Nat) (w : World) (hn : n ≤ 1048577) (hm : m ≤ 1048577) (he0 : e0 ≤ 1048577) (hce : e0 ≤ ce) (h1 : RdZ 6 w w.heap.size A n zs) (h2 : RdZ 2 w w.heap.size C m ps) (h3 : RdI w w.heap.size E e0 xs) :
    Calls Tryz.prog 66 #[.slice A n c, .slice C m cq, .int .i64 g, .slice E e0 ce] w fun e w' => e = .returned (.bool (agB zs n ps m g xs e0)) ∧ Below w.heap.size w w' := by
  have H1 := Lib.hid (asga.canAssign zs ps g A C n c m cq w hn hm h1 h2)
  cases hq : akB zs n ps m g
  · have HE := Lib.hid (agB_ask (xs := xs) (c := e0) hq)
    rw [hq] at H1
    clear hq h1 h2 h3
    go_enter Tryz.func66, Tryz.ntmps66
    go_wp2_with fail
    refine H1.out.mono ?_
    rintro e w1 ⟨rfl, hb⟩
    have HB := Lib.hid hb
    clear hb
    go_wp2_with fail
    go_ret
    exact ⟨by rw [HE.out]; rfl, HB.out⟩
  rw [hq] at H1
  by_cases hlen : e0 = n
  · subst hlen
    have ge : ((e0 : Int) != (e0 : Int)) = false := by simp
    have HNO := Lib.hid (fun k (hk : k < e0) (h : prB (pst zs ps) g m xs (k + 1) = false) => agB_no (zs := zs) (ps := ps) (c := e0) (prB_cut h hk))
    have HYE := Lib.hid (fun h => agB_of (xs := xs) hq h)
    have HPT := Lib.hid (fun k hk => ak_track (i := k) hq hk)
    have HPP := Lib.hid (fun k hk => ak_plot (k := k) hq hk)
    have hm5 := (akB_yes hq).2.2.1
    have hg5 := (akB_yes hq).2.2.2
    have HR1 := Lib.hid h1
    have HR2 := Lib.hid h2
    have HR3 := Lib.hid h3
    have DSP := Lib.hid (asga.ds_pst zs ps)
    clear hq h1 h2 h3
    go_enter Tryz.func66, Tryz.ntmps66
    go_wp2_with fail
    refine H1.out.mono ?_
    rintro e w1 ⟨rfl, hb⟩
    have HB1 := Lib.hid hb
    clear hb H1
    go_wp2_with fail
    go_loopw [25] (fun i wr => ∃ k : Nat, k ≤ e0 ∧ i = .int .i64 k ∧ Below w.heap.size w wr ∧ prB (pst zs ps) g m xs k = true) (fun i _ => e0 - (intOf i).toNat)
    case atStart => exact ⟨0, Nat.zero_le _, rfl, HB1.out, rfl⟩
    case round =>
      obtain ⟨k, hk, rfl, hb, hpr⟩ := hrel
      have HB := Lib.hid hb
      clear HB1
      by_cases hlt : k < e0
      · obtain ⟨b3, o3, x, rfl, l3, hx, p0⟩ := (HR3.out.next hb).at_ hlt
        have hlt2 : (k : Int) < (e0 : Int) := by omega
        have HGX := Lib.hid (getD_some hx)
        have HS := Lib.hid (show prB (pst zs ps) g m xs (k + 1) = pairOk (pst zs ps) g m xs k by rw [prB, hpr, Bool.true_and])
        have HNk := Lib.hid (HNO.out k hlt)
        have hk0 : (0 : Int) ≤ (k : Int) := Int.natCast_nonneg _
        have hkc : (k : Int) ≤ (ce : Int) := by omega
        have TC := Lib.hid (fun d0 os => Calls.regrown_of (to_below2 (asga.containsI (xs.take k) x (some ⟨b3, o3, none⟩) k ce (Sort.grow (redrawn wr d0) os) (by omega) (rdI_take (HR3.out.next (hb.trans ((below_regrown wr d0 os).mono hb.size))) hk))))
        clear hb hpr hx
        by_cases hx1 : x = -1
        · have HT := Lib.hid (show prB (pst zs ps) g m xs (k + 1) = true from HS.out.trans (pairOk_none (by rw [HGX.out, hx1])))
          have g1 : (x == -1) = true := beq_iff_eq.mpr hx1
          clear hx1 HS HNk TC
          go_wp2_with fail
          go_roundw
          case rel => exact ⟨k + 1, by omega, by go_num, HB.out, HT.out⟩
          case measure => simp [intOf]; omega
        have g1 : (x == -1) = false := beq_eq_false_iff_ne.mpr hx1
        by_cases hx2 : x < 0
        · have HF := Lib.hid (HNk.out (HS.out.trans (pairOk_out (by rw [HGX.out]; omega))))
          clear HS HNk TC hx1
          go_wp2_with fail
          refine wp_region_quiet_below (by kernel_rfl) (by kernel_rfl) ?_
          repeat (
            with_reducible refine wpQuiet_step (fun K hK => ?_)
            go_simp
            refine hK _ ?_; clear hK K)
          with_reducible refine wpQuiet_nil ?_
          intro _ hw'
          obtain ⟨⟨dq, osq⟩, hw''⟩ := hw'
          subst hw''
          have hbl := (below_regrown wr dq osq)
          generalize Sort.grow (redrawn wr dq) osq = w3 at *
          have HBB := Lib.hid (HB.out.trans (hbl.mono HB.out.size))
          clear hbl HB
          go_wp2_with fail
          go_ret
          exact ⟨by rw [HF.out]; rfl, HBB.out⟩
        by_cases hx3 : (m : Int) ≤ x
        · have HF := Lib.hid (HNk.out (HS.out.trans (pairOk_out (by rw [HGX.out]; omega))))
          clear HS HNk TC hx1
          have g2 : ¬ x < 0 := hx2
          have g3 : decide (x ≥ (m : Int)) = true := decide_eq_true hx3
          go_wp2_with fail
          refine wp_region_quiet_below (by kernel_rfl) (by kernel_rfl) ?_
          repeat (
            with_reducible refine wpQuiet_step (fun K hK => ?_)
            go_simp
            refine hK _ ?_; clear hK K)
          with_reducible refine wpQuiet_nil ?_
          intro _ hw'
          obtain ⟨⟨dq, osq⟩, hw''⟩ := hw'
          subst hw''
          have hbl := (below_regrown wr dq osq)
          generalize Sort.grow (redrawn wr dq) osq = w3 at *
          have HBB := Lib.hid (HB.out.trans (hbl.mono HB.out.size))
          clear hbl HB
          go_wp2_with fail
          go_ret
          exact ⟨by rw [HF.out]; rfl, HBB.out⟩
        obtain ⟨j, hj⟩ : ∃ j : Nat, x = (j : Int) := ⟨x.toNat, by omega⟩
        subst hj
        have hj5 : j < m := by omega
        have hjm : (j : Int) < (m : Int) := by omega
        have hj0 : (0 : Int) ≤ (j : Int) := Int.natCast_nonneg _
        cases hc : (xs.take k).contains (j : Int)
        case true =>
          have HF := Lib.hid (HNk.out (HS.out.trans (pairOk_has HGX.out hc)))
          rw [hc] at TC
          clear HS HNk hc
          go_wp2_with fail
          refine wp_region_quiet_below (by kernel_rfl) (by kernel_rfl) ?_
          repeat (
            with_reducible refine wpQuiet_step (fun K hK => ?_)
            go_simp
            first
              | (refine hK _ ?_; clear hK K)
              | (apply Exists.intro
                 refine ⟨fun _ => ?_, hK _ ?_⟩
                 (first
                   | (go_at_call 90; with_reducible exact TC.out _ _))
                 clear hK K))
          with_reducible refine wpQuiet_nil ?_
          intro _ hw'
          obtain ⟨⟨dq, osq⟩, hw''⟩ := hw'
          subst hw''
          have hbl := (below_regrown wr dq osq)
          generalize Sort.grow (redrawn wr dq) osq = w3 at *
          have HBB := Lib.hid (HB.out.trans (hbl.mono HB.out.size))
          clear hbl HB
          go_wp2_with fail
          go_ret
          exact ⟨by rw [HF.out]; rfl, HBB.out⟩
        have HCC := Lib.hid hc
        rw [hc] at TC
        obtain ⟨b1, o1, rfl, l1, a0, a1, a2, a3, a4, a5⟩ := cellsE (HR1.out.next HB.out) hlt
        obtain ⟨b2, o2, rfl, l2, q0, q1⟩ := asga.cells2 (HR2.out.next HB.out) hj5
        have TD := Lib.hid (fun w d0 os => Calls.regrown_of (asga.trackDistance (fld 6 zs k 0) (fld 6 zs k 1) (fld 6 zs k 2) (fld 6 zs k 3) (fld 6 zs k 4) (fld 6 zs k 5) (fld 2 ps j 0) (fld 2 ps j 1) (HPT.out k hlt) (HPP.out j hj5) (Sort.grow (redrawn w d0) os)))
        rw [DSP.out k j] at TD
        have HFAR := Lib.hid (fun (h : ¬ pst zs ps k j ≤ g) => HNk.out (HS.out.trans (pairOk_far HGX.out h)))
        have HNEAR := Lib.hid (fun (h : pst zs ps k j ≤ g) => show prB (pst zs ps) g m xs (k + 1) = true from HS.out.trans (pairOk_some hj5 HGX.out HCC.out h))
        clear HS HNk hc HCC
        generalize fld 6 zs k 0 = u0 at *
        generalize fld 6 zs k 1 = u1 at *
        generalize fld 6 zs k 2 = u2 at *
        generalize fld 6 zs k 3 = u3 at *
        generalize fld 6 zs k 4 = u4 at *
        generalize fld 6 zs k 5 = u5 at *
        generalize fld 2 ps j 0 = v0 at *
        generalize fld 2 ps j 1 = v1 at *
        generalize pst zs ps k j = dd at *
        by_cases hd : dd ≤ g
        · have HT := Lib.hid (HNEAR.out hd)
          have g9 : ¬ g < dd := by omega
          clear HNEAR HFAR hd
          go_wp2_with fail
          have a0' := fun d0 os => cell_regrown a0 d0 os
          have a1' := fun d0 os => cell_regrown a1 d0 os
          have a2' := fun d0 os => cell_regrown a2 d0 os
          have a3' := fun d0 os => cell_regrown a3 d0 os
          have a4' := fun d0 os => cell_regrown a4 d0 os
          have a5' := fun d0 os => cell_regrown a5 d0 os
          have q0' := fun d0 os => cell_regrown q0 d0 os
          have q1' := fun d0 os => cell_regrown q1 d0 os
          clear a0 a1 a2 a3 a4 a5 q0 q1
          refine wp_region_quiet_below (by kernel_rfl) (by kernel_rfl) ?_
          repeat (
            with_reducible refine wpQuiet_step (fun K hK => ?_)
            go_simp
            first
              | (refine hK _ ?_; clear hK K)
              | (apply Exists.intro
                 refine ⟨fun _ => ?_, hK _ ?_⟩
                 (first
                   | (go_at_call 90; with_reducible exact TC.out _ _)
                   | (go_at_call 71; with_reducible exact TD.out _ _ _))
                 clear hK K))
          with_reducible refine wpQuiet_nil ?_
          intro _ hw'
          obtain ⟨⟨dq, osq⟩, hw''⟩ := hw'
          subst hw''
          have hbl := (below_regrown wr dq osq)
          clear a0' a1' a2' a3' a4' a5' q0' q1'
          generalize Sort.grow (redrawn wr dq) osq = w3 at *
          have HBB := Lib.hid (HB.out.trans (hbl.mono HB.out.size))
          clear hbl HB
          go_wp2_with fail
          go_roundw
          case rel => exact ⟨k + 1, by omega, by go_num, HBB.out, HT.out⟩
          case measure => simp [intOf]; omega
        · have HF := Lib.hid (HFAR.out hd)
          have g9 : g < dd := by omega
          clear HNEAR HFAR hd
          go_wp2_with fail
          have a0' := fun d0 os => cell_regrown a0 d0 os
          have a1' := fun d0 os => cell_regrown a1 d0 os
          have a2' := fun d0 os => cell_regrown a2 d0 os
          have a3' := fun d0 os => cell_regrown a3 d0 os
          have a4' := fun d0 os => cell_regrown a4 d0 os
          have a5' := fun d0 os => cell_regrown a5 d0 os
          have q0' := fun d0 os => cell_regrown q0 d0 os
          have q1' := fun d0 os => cell_regrown q1 d0 os
          clear a0 a1 a2 a3 a4 a5 q0 q1
          refine wp_region_quiet_below (by kernel_rfl) (by kernel_rfl) ?_
          repeat (
            with_reducible refine wpQuiet_step (fun K hK => ?_)
            go_simp
            first
              | (refine hK _ ?_; clear hK K)
              | (apply Exists.intro
                 refine ⟨fun _ => ?_, hK _ ?_⟩
                 (first
                   | (go_at_call 90; with_reducible exact TC.out _ _)
                   | (go_at_call 71; with_reducible exact TD.out _ _ _))
                 clear hK K))
          with_reducible refine wpQuiet_nil ?_
          intro _ hw'
          obtain ⟨⟨dq, osq⟩, hw''⟩ := hw'
          subst hw''
          have hbl := (below_regrown wr dq osq)
          clear a0' a1' a2' a3' a4' a5' q0' q1'
          generalize Sort.grow (redrawn wr dq) osq = w3 at *
          have HBB := Lib.hid (HB.out.trans (hbl.mono HB.out.size))
          clear hbl HB
          go_wp2_with fail
          go_ret
          exact ⟨by rw [HF.out]; rfl, HBB.out⟩
      · obtain rfl : k = e0 := by omega
        have HT := Lib.hid (HYE.out hpr)
        clear hb hpr
        go_wp2_with fail
        go_ret
        exact ⟨by rw [HT.out]; rfl, HB.out⟩
  · have HE := Lib.hid (agB_len (zs := zs) (ps := ps) (m := m) (g := g) (xs := xs) hlen)
    have ge : ((e0 : Int) != (n : Int)) = true := bne_iff_ne.mpr (by omega)
    clear hq h1 h2 h3 hlen
    go_enter Tryz.func66, Tryz.ntmps66
    go_wp2_with fail
    refine H1.out.mono ?_
    rintro e w1 ⟨rfl, hb⟩
    have HB := Lib.hid hb
    clear hb
    go_wp2_with fail
    go_ret
    exact ⟨by rw [HE.out]; rfl, HB.out⟩
end Go.Proofs.YtfigjfckelichaaGreatDoor.asgc

namespace Go.Proofs.YtfigjfckelichaaGreatDoor.asgg
open Go.RowKit Go.Proofs.YtfigjfckelichaaGreatDoor.ints Go.Proofs.YtfigjfckelichaaGreatDoor.lst Go.Proofs.YtfigjfckelichaaGreatDoor.in_ Go.Proofs.YtfigjfckelichaaGreatDoor.ats Go.Proofs.YtfigjfckelichaaGreatDoor.pos Go.Proofs.YtfigjfckelichaaGreatDoor.trk Go.Proofs.YtfigjfckelichaaGreatDoor.trkm Go.Proofs.YtfigjfckelichaaGreatDoor.trke Go.Proofs.YtfigjfckelichaaGreatDoor.intc Go.Proofs.YtfigjfckelichaaGreatDoor.asg Go.Proofs.YtfigjfckelichaaGreatDoor.rws

set_option maxRecDepth 100000 in
set_option maxHeartbeats 4000000 in
theorem unpaired (xs : List Int) (C E : Option Addr) (m cq e0 ce : Nat) (w : World) (hm : m ≤ 1048577) (he0 : e0 ≤ 1048577) (h3 : RdI w w.heap.size E e0 xs) :
    Calls Tryz.prog 58 #[.slice E e0 ce, .slice C m cq] w fun e w' => ∃ v, e = .returned v ∧ w'.ownsRow w.heap.size 3 1 v (unT xs m).length (cellsI (unT xs m)) ∧ Below w.heap.size w w' := by
  obtain ⟨iI, hiI, hzI0, hzI1, hzI2⟩ := info_parts infoI
  have HC := Lib.hid (fun (k : Nat) (W : World) (hb : Below w.heap.size w W) => asga.containsI xs (k : Int) E e0 ce W he0 (h3.next hb))
  have OE := Lib.hid (own_emptyZ w 3 1)
  have BE := Lib.hid ((Below.refl w.heap.size w).alloc (Nat.le_refl _) (.cells #[] 3))
  clear h3
  go_enter Tryz.func58, Tryz.ntmps58
  go_wp2_with fail
  go_loopw [5, 9] (fun v i wr => ∃ k : Nat, k ≤ m ∧ i = .int .i64 k ∧ wr.ownsRow w.heap.size 3 1 v (unT xs k).length (cellsI (unT xs k)) ∧ Below w.heap.size w wr) (fun _ i _ => m - (intOf i).toNat)
  case atStart => exact ⟨0, Nat.zero_le _, rfl, World.ownsRow_nil .., Below.refl _ _⟩
  case round =>
    obtain ⟨k, hk, rfl, hO, hb⟩ := hrel
    clear OE BE
    obtain ⟨A5, c5, rfl⟩ := own_sliceZ hO
    have HLEN := Lib.hid (unT_le xs k)
    have HCk := Lib.hid (HC.out k wr hb)
    have CY := Lib.hid (fun h => un_yes (P := xs) (k := k) h)
    have CN := Lib.hid (fun h => un_no (P := xs) (k := k) h)
    have OK := Lib.hid hO
    have BK := Lib.hid hb
    have hwz := hb.size
    clear hO hb
    by_cases hlt : k < m
    · have hlt2 : (k : Int) < (m : Int) := by omega
      cases hc : xs.contains (k : Int)
      · have HT := Lib.hid (CN.out hc)
        rw [hc] at HCk
        have hlen := HLEN.out
        have O5 := Lib.hid (OK.out.alloc (.cells #[.int .i64 (k : Int)] 3))
        have B5 := Lib.hid (BK.out.alloc hwz (.cells #[.int .i64 (k : Int)] 3))
        clear hc CY CN
        generalize unT xs k = L at *
        go_wp2_with fail
        refine HCk.out.mono ?_
        rintro e w' ⟨rfl, hw'⟩
        obtain rfl : wr = w' := hw'.symm
        clear hw'
        go_wp2_with (at_builtin; refine wpList_append_any rfl (.tmp 16) (.tmp 18) 50 rfl w.heap.size 3 iI (.int .i64 0) 1 8 Tryz.underlying50 hiI hzI0 hzI1 hzI2 rfl (by decide) _ L.length (cellsI L) rfl O5.out ⟨wr.heap.size, 0, none⟩ 1 1 [.int .i64 (k : Int)] rfl rfl (cell_one_new _ _ _) (own_.one_cell _ rfl) (by unfold maxLen; omega) (by omega) (by rw [World.size_alloc]; omega) ?_; intro v6 w6 o6 g6 n6; obtain ⟨A6, c6, rfl⟩ := own_sliceZ o6)
        have O6 := Lib.hid (show w6.ownsRow w.heap.size 3 1 (.slice A6 (L.length + 1) c6) (unT xs (k + 1)).length (cellsI (unT xs (k + 1))) by rw [HT.out]; exact own_growI o6)
        have B6 := Lib.hid (B5.out.grown g6 B5.out.size (own_.row_ge O5.out))
        clear o6 g6 n6 O5 B5
        go_wp2_with fail
        go_roundw
        case rel => exact ⟨k + 1, by omega, by go_num, O6.out, B6.out⟩
        case measure => simp [intOf]; omega
      · have HT := Lib.hid (CY.out hc)
        rw [hc] at HCk
        clear hc CY CN
        go_wp2_with fail
        refine HCk.out.mono ?_
        rintro e w' ⟨rfl, hw'⟩
        obtain rfl : wr = w' := hw'.symm
        clear hw'
        go_wp2_with fail
        go_roundw
        case rel => exact ⟨k + 1, by omega, by go_num, by rw [HT.out]; exact OK.out, BK.out⟩
        case measure => simp [intOf]; omega
    · obtain rfl : k = m := by omega
      go_wp2_with fail
      go_ret
      exact ⟨_, rfl, OK.out, BK.out⟩

end Go.Proofs.YtfigjfckelichaaGreatDoor.asgg
