/- Sites and arrivals in plain mathematics (no program in it): a list of sites is a flat list of numbers, two a site. -/
import Derived.Test.YtpbopiecfnedgabLst
import Derived.Test.YtpbopiecfnedgabIn
namespace Go.Proofs.Ytpbopiecfnedgab.sit
open Go.Proofs.Ytpbopiecfnedgab.in_ Go.Proofs.Ytpbopiecfnedgab.lst

/-- A point of the ground. -/
def onB (x y : Int) : Bool := isIn x 0 30 && isIn y 0 30
theorem onB_yes {x y : Int} (h : onB x y = true) : 0 ≤ x ∧ x ≤ 30 ∧ 0 ≤ y ∧ y ≤ 30 := by
  unfold onB isIn at h
  rw [Bool.and_eq_true] at h
  have h1 := of_decide_eq_true h.1
  have h2 := of_decide_eq_true h.2
  omega
def onT (zs : List Int) : Nat → Bool
  | 0 => true
  | k + 1 => onT zs k && onB (fld 2 zs k 0) (fld 2 zs k 1)
/-- Sites i and k are the same point. -/
def sameB (zs : List Int) (i k : Nat) : Bool := decide (fld 2 zs k 0 = fld 2 zs i 0 ∧ fld 2 zs k 1 = fld 2 zs i 1)
/-- None of the first k sites is the same xs the site i. -/
def newT (zs : List Int) (i : Nat) : Nat → Bool
  | 0 => true
  | k + 1 => newT zs i k && !sameB zs i k
def difT (zs : List Int) : Nat → Bool
  | 0 => true
  | k + 1 => difT zs k && newT zs k k
/-- A valid list of n sites. -/
def siB (zs : List Int) (n : Nat) : Bool := decide (1 ≤ n ∧ n ≤ 5) && (onT zs n && difT zs n)
theorem onT_at {zs : List Int} {n k : Nat} (h : onT zs n = true) (hk : k < n) : onB (fld 2 zs k 0) (fld 2 zs k 1) = true := by
  induction n with
  | zero => omega
  | succ n ih =>
    rw [onT, Bool.and_eq_true] at h
    by_cases e : k = n
    · subst e; exact h.2
    · exact ih h.1 (by omega)
theorem onT_le {zs : List Int} {n k : Nat} (h : onT zs n = true) (hk : k ≤ n) : onT zs k = true := by
  induction n with
  | zero => obtain rfl : k = 0 := by omega
            exact h
  | succ n ih =>
    by_cases e : k = n + 1
    · subst e; exact h
    · rw [onT, Bool.and_eq_true] at h
      exact ih h.1 (by omega)
theorem onT_no {zs : List Int} {n k : Nat} (hk : k < n) (h : onB (fld 2 zs k 0) (fld 2 zs k 1) = false) : onT zs n = false := by
  cases e : onT zs n with
  | false => rfl
  | true => rw [onT_at e hk] at h; cases h
theorem difT_at {zs : List Int} {n k : Nat} (h : difT zs n = true) (hk : k < n) : newT zs k k = true := by
  induction n with
  | zero => omega
  | succ n ih =>
    rw [difT, Bool.and_eq_true] at h
    by_cases e : k = n
    · subst e; exact h.2
    · exact ih h.1 (by omega)
theorem difT_no {zs : List Int} {n k : Nat} (hk : k < n) (h : newT zs k k = false) : difT zs n = false := by
  cases e : difT zs n with
  | false => rfl
  | true => rw [difT_at e hk] at h; cases h
theorem newT_at {zs : List Int} {i n k : Nat} (h : newT zs i n = true) (hk : k < n) : sameB zs i k = false := by
  induction n with
  | zero => omega
  | succ n ih =>
    rw [newT, Bool.and_eq_true] at h
    by_cases e : k = n
    · subst e; simpa using h.2
    · exact ih h.1 (by omega)
theorem newT_no {zs : List Int} {i n k : Nat} (hk : k < n) (h : sameB zs i k = true) : newT zs i n = false := by
  cases e : newT zs i n with
  | false => rfl
  | true => rw [newT_at e hk] at h; cases h
theorem siB_yes {zs : List Int} {n : Nat} (h : siB zs n = true) : 1 ≤ n ∧ n ≤ 5 ∧ onT zs n = true ∧ difT zs n = true := by
  unfold siB at h
  rw [Bool.and_eq_true, Bool.and_eq_true] at h
  have := of_decide_eq_true h.1
  exact ⟨this.1, this.2, h.2.1, h.2.2⟩
theorem siB_of {zs : List Int} {n : Nat} (h1 : 1 ≤ n) (h2 : n ≤ 5) (h3 : onT zs n = true) (h4 : difT zs n = true) : siB zs n = true := by
  unfold siB
  rw [h3, h4, decide_eq_true (⟨h1, h2⟩ : 1 ≤ n ∧ n ≤ 5)]; rfl
theorem siB_len {zs : List Int} {n : Nat} (h : ¬ (1 ≤ n ∧ n ≤ 5)) : siB zs n = false := by unfold siB; rw [decide_eq_false h]; rfl
theorem siB_on {zs : List Int} {n : Nat} (h : onT zs n = false) : siB zs n = false := by unfold siB; rw [h]; simp
theorem siB_dif {zs : List Int} {n : Nat} (h : difT zs n = false) : siB zs n = false := by unfold siB; rw [h]; simp
theorem siB_at {zs : List Int} {n k : Nat} (h : siB zs n = true) (hk : k < n) : 0 ≤ fld 2 zs k 0 ∧ fld 2 zs k 0 ≤ 30 ∧ 0 ≤ fld 2 zs k 1 ∧ fld 2 zs k 1 ≤ 30 :=
  onB_yes (onT_at (siB_yes h).2.2.1 hk)

/-- The distance of two points. -/
def dist (x y a b : Int) : Int := ((x - a).natAbs : Int) + ((y - b).natAbs : Int)
theorem dist_comm (x y a b : Int) : dist x y a b = dist a b x y := by unfold dist; omega
theorem dist_in {x y a b : Int} (h1 : onB x y = true) (h2 : onB a b = true) : 0 ≤ dist x y a b ∧ dist x y a b ≤ 60 := by
  have := onB_yes h1
  have := onB_yes h2
  unfold dist; omega
/-- A point that is not far away. -/
def okP (x y : Int) : Prop := (-1000 ≤ x ∧ x ≤ 1000) ∧ -1000 ≤ y ∧ y ≤ 1000
theorem okP_on {x y : Int} (h : onB x y = true) : okP x y := by
  have := onB_yes h
  unfold okP; omega
def okL (zs : List Int) (n : Nat) : Prop := ∀ k, k < n → okP (fld 2 zs k 0) (fld 2 zs k 1)
theorem okL_on {zs : List Int} {n : Nat} (h : onT zs n = true) : okL zs n := fun _ hk => okP_on (onT_at h hk)
theorem dist_ok {x y a b : Int} (h1 : okP x y) (h2 : okP a b) : 0 ≤ dist x y a b ∧ dist x y a b ≤ 4000 := by
  unfold okP at h1 h2
  unfold dist; omega
/-- The distance of the site k to a point. -/
def ds (zs : List Int) (x y : Int) (k : Nat) : Int := dist (fld 2 zs k 0) (fld 2 zs k 1) x y
theorem ds_in {zs : List Int} {n k : Nat} {x y : Int} (h : onT zs n = true) (hk : k < n) (hp : onB x y = true) : 0 ≤ ds zs x y k ∧ ds zs x y k ≤ 60 := dist_in (onT_at h hk) hp
theorem ds_ok {zs : List Int} {n k : Nat} {x y : Int} (h : okL zs n) (hk : k < n) (hp : okP x y) : 0 ≤ ds zs x y k ∧ ds zs x y k ≤ 4000 := dist_ok (h k hk) hp
/-- The distances of the first n sites. -/
def dsL (zs : List Int) (x y : Int) (n : Nat) : List Int := (List.range n).map (ds zs x y)
theorem dsL_length (zs : List Int) (x y : Int) (n : Nat) : (dsL zs x y n).length = n := by simp [dsL]
theorem dsL_at {zs : List Int} {x y : Int} {n k : Nat} (h : k < n) : (dsL zs x y n)[k]? = some (ds zs x y k) := by simp [dsL, h]
theorem dsL_succ (zs : List Int) (x y : Int) (n : Nat) : dsL zs x y (n + 1) = dsL zs x y n ++ [ds zs x y n] := by simp [dsL, List.range_succ]

/- ArrivalsOf. -/
def avT (zs : List Int) (x y t : Int) (n : Nat) : List Int := (List.range n).map fun k => t + ds zs x y k
theorem avT_length (zs : List Int) (x y t : Int) (n : Nat) : (avT zs x y t n).length = n := by simp [avT]
theorem avT_succ (zs : List Int) (x y t : Int) (n : Nat) : avT zs x y t (n + 1) = avT zs x y t n ++ [t + ds zs x y n] := by simp [avT, List.range_succ]
theorem avT_at {zs : List Int} {x y t : Int} {n k : Nat} (h : k < n) : (avT zs x y t n)[k]? = some (t + ds zs x y k) := by simp [avT, h]
def avB (zs : List Int) (n : Nat) (x y t : Int) : Bool := siB zs n && (onB x y && isIn t 0 100000)
def avV (zs : List Int) (n : Nat) (x y t : Int) : List Int := if avB zs n x y t then avT zs x y t n else []
theorem avV_yes {zs : List Int} {n : Nat} {x y t : Int} (h : avB zs n x y t = true) : avV zs n x y t = avT zs x y t n := by unfold avV; rw [h]; rfl
theorem avV_no {zs : List Int} {n : Nat} {x y t : Int} (h : avB zs n x y t = false) : avV zs n x y t = [] := by unfold avV; rw [h]; rfl
theorem avV_length (zs : List Int) (n : Nat) (x y t : Int) : (avV zs n x y t).length ≤ n := by
  unfold avV
  split
  · rw [avT_length]; exact Nat.le_refl _
  · exact Nat.zero_le _

/- Lists of arrivals. -/
def aiT (xs : List Int) : Nat → Bool
  | 0 => true
  | k + 1 => aiT xs k && isIn (xs.getD k 0) 0 100060
theorem aiT_at {xs : List Int} {n k : Nat} (h : aiT xs n = true) (hk : k < n) : 0 ≤ xs.getD k 0 ∧ xs.getD k 0 ≤ 100060 := by
  induction n with
  | zero => omega
  | succ n ih =>
    rw [aiT, Bool.and_eq_true] at h
    by_cases e : k = n
    · subst e; exact of_decide_eq_true h.2
    · exact ih h.1 (by omega)
theorem aiT_no {xs : List Int} {n k : Nat} (hk : k < n) (h : isIn (xs.getD k 0) 0 100060 = false) : aiT xs n = false := by
  cases e : aiT xs n with
  | false => rfl
  | true =>
    have := aiT_at e hk
    exact absurd this (of_decide_eq_false h)
/-- A valid list of n sites and xs many arrivals. -/
def arB (zs : List Int) (n : Nat) (xs : List Int) (m : Nat) : Bool := aiT xs m && (siB zs n && decide (m = n))
theorem arB_yes {zs xs : List Int} {n m : Nat} (h : arB zs n xs m = true) : aiT xs m = true ∧ siB zs n = true ∧ m = n := by
  unfold arB at h
  rw [Bool.and_eq_true, Bool.and_eq_true] at h
  exact ⟨h.1, h.2.1, of_decide_eq_true h.2.2⟩
theorem arB_of {zs xs : List Int} {n m : Nat} (h1 : aiT xs m = true) (h2 : siB zs n = true) (h3 : m = n) : arB zs n xs m = true := by
  unfold arB; rw [h1, h2, decide_eq_true h3]; rfl
theorem arB_ai {zs xs : List Int} {n m : Nat} (h : aiT xs m = false) : arB zs n xs m = false := by unfold arB; rw [h]; rfl
theorem arB_si {zs xs : List Int} {n m : Nat} (h : siB zs n = false) : arB zs n xs m = false := by unfold arB; rw [h]; simp
theorem arB_ne {zs xs : List Int} {n m : Nat} (h : m ≠ n) : arB zs n xs m = false := by unfold arB; rw [decide_eq_false h]; simp

/- SendTimes. -/
def stT (zs xs : List Int) (x y : Int) (n : Nat) : List Int := (List.range n).map fun k => xs.getD k 0 - ds zs x y k
theorem stT_length (zs xs : List Int) (x y : Int) (n : Nat) : (stT zs xs x y n).length = n := by simp [stT]
theorem stT_succ (zs xs : List Int) (x y : Int) (n : Nat) : stT zs xs x y (n + 1) = stT zs xs x y n ++ [xs.getD n 0 - ds zs x y n] := by simp [stT, List.range_succ]
theorem stT_at {zs xs : List Int} {x y : Int} {n k : Nat} (h : k < n) : (stT zs xs x y n)[k]? = some (xs.getD k 0 - ds zs x y k) := by simp [stT, h]
def stB (zs : List Int) (n : Nat) (xs : List Int) (m : Nat) (x y : Int) : Bool := arB zs n xs m && onB x y
def stV (zs : List Int) (n : Nat) (xs : List Int) (m : Nat) (x y : Int) : List Int := if stB zs n xs m x y then stT zs xs x y n else []
theorem stV_yes {zs xs : List Int} {n m : Nat} {x y : Int} (h : stB zs n xs m x y = true) : stV zs n xs m x y = stT zs xs x y n := by unfold stV; rw [h]; rfl
theorem stV_no {zs xs : List Int} {n m : Nat} {x y : Int} (h : stB zs n xs m x y = false) : stV zs n xs m x y = [] := by unfold stV; rw [h]; rfl
theorem stV_length (zs : List Int) (n : Nat) (xs : List Int) (m : Nat) (x y : Int) : (stV zs n xs m x y).length ≤ n := by
  unfold stV
  split
  · rw [stT_length]; exact Nat.le_refl _
  · exact Nat.zero_le _

/- FirstHeard: the first one of the smallest ones among the first k + 1. -/
def fhT (xs : List Int) : Nat → Nat
  | 0 => 0
  | k + 1 => if xs.getD (k + 1) 0 < xs.getD (fhT xs k) 0 then k + 1 else fhT xs k
theorem fhT_le (xs : List Int) (k : Nat) : fhT xs k ≤ k := by
  induction k with
  | zero => exact Nat.le_refl _
  | succ k ih => unfold fhT; split <;> omega
theorem fhT_yes {xs : List Int} {k : Nat} (h : xs.getD (k + 1) 0 < xs.getD (fhT xs k) 0) : fhT xs (k + 1) = k + 1 := by rw [fhT, if_pos h]
theorem fhT_no {xs : List Int} {k : Nat} (h : ¬ xs.getD (k + 1) 0 < xs.getD (fhT xs k) 0) : fhT xs (k + 1) = fhT xs k := by rw [fhT, if_neg h]
theorem fhT_min {xs : List Int} {k j : Nat} (hj : j ≤ k) : xs.getD (fhT xs k) 0 ≤ xs.getD j 0 := by
  induction k with
  | zero => obtain rfl : j = 0 := by omega
            exact Int.le_refl _
  | succ k ih =>
    by_cases h : xs.getD (k + 1) 0 < xs.getD (fhT xs k) 0
    · rw [fhT_yes h]
      by_cases e : j = k + 1
      · rw [e]; exact Int.le_refl _
      · have := ih (by omega); omega
    · rw [fhT_no h]
      by_cases e : j = k + 1
      · rw [e]; omega
      · exact ih (by omega)
theorem fhT_first {xs : List Int} {k j : Nat} (hj : j < fhT xs k) : xs.getD (fhT xs k) 0 < xs.getD j 0 := by
  induction k with
  | zero => simp [fhT] at hj
  | succ k ih =>
    by_cases h : xs.getD (k + 1) 0 < xs.getD (fhT xs k) 0
    · rw [fhT_yes h] at hj ⊢
      have := fhT_min (xs := xs) (k := k) (j := j) (by omega)
      omega
    · rw [fhT_no h] at hj ⊢
      exact ih hj
def fhV (zs : List Int) (n : Nat) (xs : List Int) (m : Nat) : Int := if arB zs n xs m then (fhT xs (n - 1) : Int) else 0

/- PossibleArrivals. -/
def apB (zs xs : List Int) (i k : Nat) : Bool := decide (((xs.getD i 0 - xs.getD k 0).natAbs : Int) ≤ ds zs (fld 2 zs i 0) (fld 2 zs i 1) k)
def apT (zs xs : List Int) (i : Nat) : Nat → Bool
  | 0 => true
  | k + 1 => apT zs xs i k && apB zs xs i k
def paT (zs xs : List Int) : Nat → Bool
  | 0 => true
  | i + 1 => paT zs xs i && apT zs xs i i
theorem apT_at {zs xs : List Int} {i n k : Nat} (h : apT zs xs i n = true) (hk : k < n) : apB zs xs i k = true := by
  induction n with
  | zero => omega
  | succ n ih =>
    rw [apT, Bool.and_eq_true] at h
    by_cases e : k = n
    · subst e; exact h.2
    · exact ih h.1 (by omega)
theorem apT_no {zs xs : List Int} {i n k : Nat} (hk : k < n) (h : apB zs xs i k = false) : apT zs xs i n = false := by
  cases e : apT zs xs i n with
  | false => rfl
  | true => rw [apT_at e hk] at h; cases h
theorem paT_at {zs xs : List Int} {n i : Nat} (h : paT zs xs n = true) (hk : i < n) : apT zs xs i i = true := by
  induction n with
  | zero => omega
  | succ n ih =>
    rw [paT, Bool.and_eq_true] at h
    by_cases e : i = n
    · subst e; exact h.2
    · exact ih h.1 (by omega)
theorem paT_no {zs xs : List Int} {n i k : Nat} (hi : i < n) (hk : k < i) (h : apB zs xs i k = false) : paT zs xs n = false := by
  cases e : paT zs xs n with
  | false => rfl
  | true =>
    have := apT_no hk h
    rw [paT_at e hi] at this; cases this
def paV (zs : List Int) (n : Nat) (xs : List Int) (m : Nat) : Bool := arB zs n xs m && paT zs xs n

/- CoverOf. -/
def cvT (zs : List Int) (x y r : Int) : Nat → List Int
  | 0 => []
  | k + 1 => if ds zs x y k ≤ r then cvT zs x y r k ++ [(k : Int)] else cvT zs x y r k
theorem cvT_yes {zs : List Int} {x y r : Int} {k : Nat} (h : ds zs x y k ≤ r) : cvT zs x y r (k + 1) = cvT zs x y r k ++ [(k : Int)] := by simp only [cvT, if_pos h]
theorem cvT_no {zs : List Int} {x y r : Int} {k : Nat} (h : ¬ ds zs x y k ≤ r) : cvT zs x y r (k + 1) = cvT zs x y r k := by simp only [cvT, if_neg h]
theorem cvT_length (zs : List Int) (x y r : Int) (k : Nat) : (cvT zs x y r k).length ≤ k := by
  induction k with
  | zero => exact Nat.le_refl _
  | succ k ih =>
    by_cases h : ds zs x y k ≤ r
    · rw [cvT_yes h, List.length_append]; simp; omega
    · rw [cvT_no h]; omega
def cvB (zs : List Int) (n : Nat) (x y r : Int) : Bool := siB zs n && (onB x y && isIn r 0 60)
def cvV (zs : List Int) (n : Nat) (x y r : Int) : List Int := if cvB zs n x y r then cvT zs x y r n else []
theorem cvV_yes {zs : List Int} {n : Nat} {x y r : Int} (h : cvB zs n x y r = true) : cvV zs n x y r = cvT zs x y r n := by unfold cvV; rw [h]; rfl
theorem cvV_no {zs : List Int} {n : Nat} {x y r : Int} (h : cvB zs n x y r = false) : cvV zs n x y r = [] := by unfold cvV; rw [h]; rfl
theorem cvV_length (zs : List Int) (n : Nat) (x y r : Int) : (cvV zs n x y r).length ≤ n := by
  unfold cvV
  split
  · exact cvT_length zs x y r n
  · exact Nat.zero_le _

/- CoveredPoints. -/
def cN (zs : List Int) (n : Nat) (r : Int) (x y : Nat) : Nat := (cvT zs x y r n).length
def cpX (zs : List Int) (n : Nat) (r c : Int) (y : Nat) : Nat → Nat
  | 0 => 0
  | x + 1 => if c ≤ (cN zs n r x y : Int) then cpX zs n r c y x + 1 else cpX zs n r c y x
def cpY (zs : List Int) (n : Nat) (r c : Int) : Nat → Nat
  | 0 => 0
  | y + 1 => cpY zs n r c y + cpX zs n r c y 31
theorem cpX_le (zs : List Int) (n : Nat) (r c : Int) (y x : Nat) : cpX zs n r c y x ≤ x := by
  induction x with
  | zero => exact Nat.le_refl _
  | succ x ih => unfold cpX; split <;> omega
theorem cpY_le (zs : List Int) (n : Nat) (r c : Int) (y : Nat) : cpY zs n r c y ≤ y * 31 := by
  induction y with
  | zero => exact Nat.le_refl _
  | succ y ih => have := cpX_le zs n r c y 31; rw [cpY]; omega
theorem cpX_yes {zs : List Int} {n : Nat} {r c : Int} {y x : Nat} (h : c ≤ (cN zs n r x y : Int)) : cpX zs n r c y (x + 1) = cpX zs n r c y x + 1 := by rw [cpX, if_pos h]
theorem cpX_no {zs : List Int} {n : Nat} {r c : Int} {y x : Nat} (h : ¬ c ≤ (cN zs n r x y : Int)) : cpX zs n r c y (x + 1) = cpX zs n r c y x := by rw [cpX, if_neg h]
def cpB (zs : List Int) (n : Nat) (r c : Int) : Bool := siB zs n && (isIn r 0 60 && isIn c 1 5)
def cpV (zs : List Int) (n : Nat) (r c : Int) : Int := if cpB zs n r c then (cpY zs n r c 31 : Int) else 0
theorem cpV_yes {zs : List Int} {n : Nat} {r c : Int} (h : cpB zs n r c = true) : cpV zs n r c = (cpY zs n r c 31 : Int) := by unfold cpV; rw [h]; rfl
theorem cpV_no {zs : List Int} {n : Nat} {r c : Int} (h : cpB zs n r c = false) : cpV zs n r c = 0 := by unfold cpV; rw [h]; rfl

/- DropSite. -/
def drB (zs : List Int) (n : Nat) (i : Int) : Bool := siB zs n && (isIn i 0 ((n : Int) - 1) && decide (n ≠ 1))
def drT (zs : List Int) (i : Nat) : List Int := zs.take (i * 2) ++ zs.drop ((i + 1) * 2)
def drV (zs : List Int) (n : Nat) (i : Int) : List Int := if drB zs n i then drT zs i.toNat else []
def drN (zs : List Int) (n : Nat) (i : Int) : Nat := if drB zs n i then n - 1 else 0
theorem drB_yes {zs : List Int} {n : Nat} {i : Int} (h : drB zs n i = true) : siB zs n = true ∧ 0 ≤ i ∧ i < n ∧ 1 < n := by
  unfold drB at h
  rw [Bool.and_eq_true, Bool.and_eq_true] at h
  have h1 := of_decide_eq_true h.2.1
  have h2 := of_decide_eq_true h.2.2
  have := (siB_yes h.1).1
  exact ⟨h.1, h1.1, by omega, by omega⟩
theorem drT_length {zs : List Int} {n i : Nat} (hl : zs.length = n * 2) (hi : i < n) : (drT zs i).length = (n - 1) * 2 := by
  unfold drT
  rw [List.length_append, List.length_take, List.length_drop, hl]
  omega
theorem drV_length {zs : List Int} {n : Nat} {i : Int} (hl : zs.length = n * 2) : (drV zs n i).length = drN zs n i * 2 := by
  unfold drV drN
  cases h : drB zs n i with
  | false => rfl
  | true =>
    have := drB_yes h
    exact drT_length hl (by omega)
end Go.Proofs.Ytpbopiecfnedgab.sit
