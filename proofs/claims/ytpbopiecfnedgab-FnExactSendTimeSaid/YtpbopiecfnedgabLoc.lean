/- Locating senders in plain mathematics (no program in it): spreads, the points that fit, the best point, the box, the most helpful site, the send time. -/
import Derived.Test.YtpbopiecfnedgabSit
namespace Go.Proofs.Ytpbopiecfnedgab.loc
open Go.Proofs.Ytpbopiecfnedgab.in_ Go.Proofs.Ytpbopiecfnedgab.lst Go.Proofs.Ytpbopiecfnedgab.sit

/-- The least and the greatest of the first k + 1 numbers. -/
def mnT (xs : List Int) : Nat → Int
  | 0 => xs.getD 0 0
  | k + 1 => min (mnT xs k) (xs.getD (k + 1) 0)
def mxT (xs : List Int) : Nat → Int
  | 0 => xs.getD 0 0
  | k + 1 => max (mxT xs k) (xs.getD (k + 1) 0)
theorem mnT_in {xs : List Int} {k : Nat} {a b : Int} (h : ∀ j, j ≤ k → a ≤ xs.getD j 0 ∧ xs.getD j 0 ≤ b) : a ≤ mnT xs k ∧ mnT xs k ≤ b := by
  induction k with
  | zero => exact h 0 (Nat.le_refl _)
  | succ k ih =>
    have h1 := ih (fun j hj => h j (by omega))
    have h2 := h (k + 1) (Nat.le_refl _)
    rw [mnT]; omega
theorem mxT_in {xs : List Int} {k : Nat} {a b : Int} (h : ∀ j, j ≤ k → a ≤ xs.getD j 0 ∧ xs.getD j 0 ≤ b) : a ≤ mxT xs k ∧ mxT xs k ≤ b := by
  induction k with
  | zero => exact h 0 (Nat.le_refl _)
  | succ k ih =>
    have h1 := ih (fun j hj => h j (by omega))
    have h2 := h (k + 1) (Nat.le_refl _)
    rw [mxT]; omega
theorem mnT_le {xs : List Int} {k j : Nat} (hj : j ≤ k) : mnT xs k ≤ xs.getD j 0 := by
  induction k with
  | zero => obtain rfl : j = 0 := by omega
            exact Int.le_refl _
  | succ k ih =>
    rw [mnT]
    by_cases e : j = k + 1
    · rw [e]; omega
    · have := ih (by omega); omega
theorem mxT_ge {xs : List Int} {k j : Nat} (hj : j ≤ k) : xs.getD j 0 ≤ mxT xs k := by
  induction k with
  | zero => obtain rfl : j = 0 := by omega
            exact Int.le_refl _
  | succ k ih =>
    rw [mxT]
    by_cases e : j = k + 1
    · rw [e]; omega
    · have := ih (by omega); omega
theorem mnT_max (xs : List Int) (k : Nat) : mnT xs k ≤ mxT xs k := Int.le_trans (mnT_le (Nat.zero_le k)) (mxT_ge (Nat.zero_le k))

/-- The send time of the site k. -/
theorem stT_get {zs xs : List Int} {x y : Int} {n k : Nat} (h : k < n) : (stT zs xs x y n).getD k 0 = xs.getD k 0 - ds zs x y k := by
  rw [List.getD_eq_getElem?_getD, stT_at h]; rfl
theorem st_in {zs xs : List Int} {x y : Int} {n k : Nat} (hon : onT zs n = true) (hai : aiT xs n = true) (hp : onB x y = true) (hk : k < n) : -60 ≤ (stT zs xs x y n).getD k 0 ∧ (stT zs xs x y n).getD k 0 ≤ 100060 := by
  rw [stT_get hk]
  have h1 := ds_in hon hk hp
  have h2 := aiT_at hai hk
  omega
/-- The spread of a point. -/
def sp (zs xs : List Int) (n : Nat) (x y : Int) : Int := mxT (stT zs xs x y n) (n - 1) - mnT (stT zs xs x y n) (n - 1)
theorem sp_in {zs xs : List Int} {x y : Int} {n : Nat} (h0 : 0 < n) (hon : onT zs n = true) (hai : aiT xs n = true) (hp : onB x y = true) : 0 ≤ sp zs xs n x y ∧ sp zs xs n x y ≤ 100120 := by
  have h1 := mnT_in (xs := stT zs xs x y n) (k := n - 1) (a := -60) (b := 100060) (fun j hj => st_in hon hai hp (by omega))
  have h2 := mxT_in (xs := stT zs xs x y n) (k := n - 1) (a := -60) (b := 100060) (fun j hj => st_in hon hai hp (by omega))
  have h3 := mnT_max (stT zs xs x y n) (n - 1)
  unfold sp; omega

/- The points of the ground, one after the other. -/
def pX (k : Nat) : Int := ((k % 31 : Nat) : Int)
def pY (k : Nat) : Int := ((k / 31 : Nat) : Int)
theorem p_row {x y : Nat} (hx : x < 31) : pX (y * 31 + x) = (x : Int) ∧ pY (y * 31 + x) = (y : Int) := by
  unfold pX pY; omega
theorem p_on {k : Nat} (h : k < 961) : onB (pX k) (pY k) = true := by
  unfold onB isIn pX pY
  rw [decide_eq_true (by omega), decide_eq_true (by omega)]; rfl
theorem p_of {x y : Int} (h : onB x y = true) : ∃ k : Nat, k < 961 ∧ pX k = x ∧ pY k = y := by
  have := onB_yes h
  refine ⟨y.toNat * 31 + x.toNat, by omega, ?_, ?_⟩ <;> first | (unfold pX; omega) | (unfold pY; omega)
/-- The spread of the point k. -/
def sq (zs xs : List Int) (n k : Nat) : Int := sp zs xs n (pX k) (pY k)

/- SpreadAt. -/
def saV (zs : List Int) (n : Nat) (xs : List Int) (m : Nat) (x y : Int) : Int := if stB zs n xs m x y then sp zs xs n x y else 0
theorem saV_yes {zs xs : List Int} {n m : Nat} {x y : Int} (h : stB zs n xs m x y = true) : saV zs n xs m x y = sp zs xs n x y := by unfold saV; rw [h]; rfl
theorem saV_no {zs xs : List Int} {n m : Nat} {x y : Int} (h : stB zs n xs m x y = false) : saV zs n xs m x y = 0 := by unfold saV; rw [h]; rfl

/- FittingPoints: those among the first k points that fit; their number. -/
def ftT (zs xs : List Int) (n : Nat) (t : Int) : Nat → List Int
  | 0 => []
  | k + 1 => if sq zs xs n k ≤ t then ftT zs xs n t k ++ [pX k, pY k] else ftT zs xs n t k
def fcT (zs xs : List Int) (n : Nat) (t : Int) : Nat → Nat
  | 0 => 0
  | k + 1 => if sq zs xs n k ≤ t then fcT zs xs n t k + 1 else fcT zs xs n t k
theorem ftT_yes {zs xs : List Int} {n k : Nat} {t : Int} (h : sq zs xs n k ≤ t) : ftT zs xs n t (k + 1) = ftT zs xs n t k ++ [pX k, pY k] := by rw [ftT, if_pos h]
theorem ftT_no {zs xs : List Int} {n k : Nat} {t : Int} (h : ¬ sq zs xs n k ≤ t) : ftT zs xs n t (k + 1) = ftT zs xs n t k := by rw [ftT, if_neg h]
theorem fcT_yes {zs xs : List Int} {n k : Nat} {t : Int} (h : sq zs xs n k ≤ t) : fcT zs xs n t (k + 1) = fcT zs xs n t k + 1 := by rw [fcT, if_pos h]
theorem fcT_no {zs xs : List Int} {n k : Nat} {t : Int} (h : ¬ sq zs xs n k ≤ t) : fcT zs xs n t (k + 1) = fcT zs xs n t k := by rw [fcT, if_neg h]
theorem ft_length (zs xs : List Int) (n : Nat) (t : Int) (k : Nat) : (ftT zs xs n t k).length = fcT zs xs n t k * 2 := by
  induction k with
  | zero => rfl
  | succ k ih =>
    by_cases h : sq zs xs n k ≤ t
    · rw [ftT_yes h, fcT_yes h, List.length_append, ih]
      show _ + 2 = _
      omega
    · rw [ftT_no h, fcT_no h, ih]
theorem fc_le (zs xs : List Int) (n : Nat) (t : Int) (k : Nat) : fcT zs xs n t k ≤ k := by
  induction k with
  | zero => exact Nat.le_refl _
  | succ k ih =>
    by_cases h : sq zs xs n k ≤ t
    · rw [fcT_yes h]; omega
    · rw [fcT_no h]; omega
theorem ft_row_yes {zs xs : List Int} {n x y : Nat} {t : Int} (hx : x < 31) (h : sq zs xs n (y * 31 + x) ≤ t) : fcT zs xs n t (y * 31 + (x + 1)) = fcT zs xs n t (y * 31 + x) + 1 ∧ ftT zs xs n t (y * 31 + (x + 1)) = ftT zs xs n t (y * 31 + x) ++ [(x : Int), (y : Int)] := by
  have hp := p_row (y := y) hx
  exact ⟨fcT_yes h, by rw [← hp.1, ← hp.2]; exact ftT_yes h⟩
theorem ft_row_no {zs xs : List Int} {n x y : Nat} {t : Int} (h : ¬ sq zs xs n (y * 31 + x) ≤ t) : fcT zs xs n t (y * 31 + (x + 1)) = fcT zs xs n t (y * 31 + x) ∧ ftT zs xs n t (y * 31 + (x + 1)) = ftT zs xs n t (y * 31 + x) := ⟨fcT_no h, ftT_no h⟩
def ltB (zs : List Int) (n : Nat) (xs : List Int) (m : Nat) (t : Int) : Bool := arB zs n xs m && isIn t 0 5
def ftV (zs : List Int) (n : Nat) (xs : List Int) (m : Nat) (t : Int) : List Int := if ltB zs n xs m t then ftT zs xs n t 961 else []
def ftN (zs : List Int) (n : Nat) (xs : List Int) (m : Nat) (t : Int) : Nat := if ltB zs n xs m t then fcT zs xs n t 961 else 0
theorem ltB_yes {zs xs : List Int} {n m : Nat} {t : Int} (h : ltB zs n xs m t = true) : arB zs n xs m = true ∧ 0 ≤ t ∧ t ≤ 5 := by
  unfold ltB at h
  rw [Bool.and_eq_true] at h
  exact ⟨h.1, of_decide_eq_true h.2⟩
theorem ftV_yes {zs xs : List Int} {n m : Nat} {t : Int} (h : ltB zs n xs m t = true) : ftV zs n xs m t = ftT zs xs n t 961 := by unfold ftV; rw [h]; rfl
theorem ftV_no {zs xs : List Int} {n m : Nat} {t : Int} (h : ltB zs n xs m t = false) : ftV zs n xs m t = [] := by unfold ftV; rw [h]; rfl
theorem ftN_yes {zs xs : List Int} {n m : Nat} {t : Int} (h : ltB zs n xs m t = true) : ftN zs n xs m t = fcT zs xs n t 961 := by unfold ftN; rw [h]; rfl
theorem ftN_no {zs xs : List Int} {n m : Nat} {t : Int} (h : ltB zs n xs m t = false) : ftN zs n xs m t = 0 := by unfold ftN; rw [h]; rfl
theorem ftV_length (zs : List Int) (n : Nat) (xs : List Int) (m : Nat) (t : Int) : (ftV zs n xs m t).length = ftN zs n xs m t * 2 := by
  cases h : ltB zs n xs m t
  · rw [ftV_no h, ftN_no h]; rfl
  · rw [ftV_yes h, ftN_yes h, ft_length]
theorem ftN_le (zs : List Int) (n : Nat) (xs : List Int) (m : Nat) (t : Int) : ftN zs n xs m t ≤ 961 := by
  cases h : ltB zs n xs m t
  · rw [ftN_no h]; omega
  · rw [ftN_yes h]; exact fc_le _ _ _ _ _

/- BestPoint: the best one among the first k points. -/
def btT (zs xs : List Int) (n : Nat) : Nat → Nat
  | 0 => 0
  | k + 1 => if sq zs xs n k < sq zs xs n (btT zs xs n k) then k else btT zs xs n k
theorem btT_yes {zs xs : List Int} {n k : Nat} (h : sq zs xs n k < sq zs xs n (btT zs xs n k)) : btT zs xs n (k + 1) = k := by rw [btT, if_pos h]
theorem btT_no {zs xs : List Int} {n k : Nat} (h : ¬ sq zs xs n k < sq zs xs n (btT zs xs n k)) : btT zs xs n (k + 1) = btT zs xs n k := by rw [btT, if_neg h]
theorem btT_one (zs xs : List Int) (n : Nat) : btT zs xs n 1 = 0 := by rw [btT, if_neg (by rw [btT]; omega), btT]
theorem btT_lt (zs xs : List Int) (n k : Nat) (h : 0 < k) : btT zs xs n k < k := by
  induction k with
  | zero => omega
  | succ k ih =>
    by_cases h1 : sq zs xs n k < sq zs xs n (btT zs xs n k)
    · rw [btT_yes h1]; omega
    · rw [btT_no h1]
      rcases Nat.eq_zero_or_pos k with rfl | h2
      · rw [btT]; omega
      · have := ih h2; omega
theorem btT_best {zs xs : List Int} {n k j : Nat} (hj : j < k) : sq zs xs n (btT zs xs n k) ≤ sq zs xs n j := by
  induction k with
  | zero => omega
  | succ k ih =>
    by_cases h1 : sq zs xs n k < sq zs xs n (btT zs xs n k)
    · rw [btT_yes h1]
      by_cases e : j = k
      · rw [e]; exact Int.le_refl _
      · have := ih (by omega); omega
    · rw [btT_no h1]
      by_cases e : j = k
      · rw [e]; omega
      · exact ih (by omega)
/-- What spec knows of the smallest spread: none yet, or that of the best point. -/
def bsM (zs xs : List Int) (n k : Nat) : Int := if k = 0 then -1 else sq zs xs n (btT zs xs n k)
theorem bsM_in {zs xs : List Int} {n k : Nat} (h : ∀ j, j < 961 → 0 ≤ sq zs xs n j) (h0 : 0 < k) (hk : k ≤ 961) : 0 ≤ bsM zs xs n k := by
  unfold bsM
  rw [if_neg (by omega)]
  exact h _ (Nat.lt_of_lt_of_le (btT_lt zs xs n k h0) hk)
theorem bsM_one (zs xs : List Int) (n : Nat) : btT zs xs n (0 + 1) = 0 ∧ bsM zs xs n (0 + 1) = sq zs xs n 0 := by
  have e := btT_one zs xs n
  exact ⟨e, by unfold bsM; rw [if_neg (by omega), e]⟩
theorem bsM_yes {zs xs : List Int} {n k : Nat} (h0 : 0 < k) (h : sq zs xs n k < bsM zs xs n k) : btT zs xs n (k + 1) = k ∧ bsM zs xs n (k + 1) = sq zs xs n k := by
  unfold bsM at h
  rw [if_neg (by omega)] at h
  have e := btT_yes h
  exact ⟨e, by unfold bsM; rw [if_neg (by omega), e]⟩
theorem bsM_no {zs xs : List Int} {n k : Nat} (h0 : 0 < k) (h : ¬ sq zs xs n k < bsM zs xs n k) : btT zs xs n (k + 1) = btT zs xs n k ∧ bsM zs xs n (k + 1) = bsM zs xs n k := by
  unfold bsM at h ⊢
  rw [if_neg (by omega)] at h ⊢
  have e := btT_no h
  exact ⟨e, by rw [if_neg (by omega), e]⟩
def bpX (zs : List Int) (n : Nat) (xs : List Int) (m : Nat) : Int := if arB zs n xs m then pX (btT zs xs n 961) else 0
def bpY (zs : List Int) (n : Nat) (xs : List Int) (m : Nat) : Int := if arB zs n xs m then pY (btT zs xs n 961) else 0
def bpS (zs : List Int) (n : Nat) (xs : List Int) (m : Nat) : Int := if arB zs n xs m then sq zs xs n (btT zs xs n 961) else 0
theorem bp_yes {zs xs : List Int} {n m : Nat} (h : arB zs n xs m = true) : bpX zs n xs m = pX (btT zs xs n 961) ∧ bpY zs n xs m = pY (btT zs xs n 961) ∧ bpS zs n xs m = sq zs xs n (btT zs xs n 961) := by
  unfold bpX bpY bpS; rw [h]; exact ⟨rfl, rfl, rfl⟩
theorem bp_no {zs xs : List Int} {n m : Nat} (h : arB zs n xs m = false) : bpX zs n xs m = 0 ∧ bpY zs n xs m = 0 ∧ bpS zs n xs m = 0 := by
  unfold bpX bpY bpS; rw [h]; exact ⟨rfl, rfl, rfl⟩

/- IsLocated. -/
def ilV (zs : List Int) (n : Nat) (xs : List Int) (m : Nat) (t : Int) : Bool := decide (ftN zs n xs m t = 1)

/- FittingBox: the least and the greatest X (j = 0) or Y (j = 1) of the first k + 1 points of a list. -/
def loT (fs : List Int) (j : Nat) : Nat → Int
  | 0 => fld 2 fs 0 j
  | k + 1 => min (loT fs j k) (fld 2 fs (k + 1) j)
def hiT (fs : List Int) (j : Nat) : Nat → Int
  | 0 => fld 2 fs 0 j
  | k + 1 => max (hiT fs j k) (fld 2 fs (k + 1) j)
theorem loT_le {fs : List Int} {j k i : Nat} (hi : i ≤ k) : loT fs j k ≤ fld 2 fs i j := by
  induction k with
  | zero => obtain rfl : i = 0 := by omega
            exact Int.le_refl _
  | succ k ih =>
    rw [loT]
    by_cases e : i = k + 1
    · rw [e]; omega
    · have := ih (by omega); omega
theorem hiT_ge {fs : List Int} {j k i : Nat} (hi : i ≤ k) : fld 2 fs i j ≤ hiT fs j k := by
  induction k with
  | zero => obtain rfl : i = 0 := by omega
            exact Int.le_refl _
  | succ k ih =>
    rw [hiT]
    by_cases e : i = k + 1
    · rw [e]; omega
    · have := ih (by omega); omega
def fbB (zs : List Int) (n : Nat) (xs : List Int) (m : Nat) (t : Int) : Bool := decide (0 < ftN zs n xs m t)
def loV (zs : List Int) (n : Nat) (xs : List Int) (m : Nat) (t : Int) (j : Nat) : Int := if fbB zs n xs m t then loT (ftV zs n xs m t) j (ftN zs n xs m t - 1) else 0
def hiV (zs : List Int) (n : Nat) (xs : List Int) (m : Nat) (t : Int) (j : Nat) : Int := if fbB zs n xs m t then hiT (ftV zs n xs m t) j (ftN zs n xs m t - 1) else 0
theorem lo_yes {zs xs : List Int} {n m j : Nat} {t : Int} (h : fbB zs n xs m t = true) : loV zs n xs m t j = loT (ftV zs n xs m t) j (ftN zs n xs m t - 1) := by unfold loV; rw [h]; rfl
theorem hi_yes {zs xs : List Int} {n m j : Nat} {t : Int} (h : fbB zs n xs m t = true) : hiV zs n xs m t j = hiT (ftV zs n xs m t) j (ftN zs n xs m t - 1) := by unfold hiV; rw [h]; rfl
theorem lo_no {zs xs : List Int} {n m j : Nat} {t : Int} (h : fbB zs n xs m t = false) : loV zs n xs m t j = 0 := by unfold loV; rw [h]; rfl
theorem hi_no {zs xs : List Int} {n m j : Nat} {t : Int} (h : fbB zs n xs m t = false) : hiV zs n xs m t j = 0 := by unfold hiV; rw [h]; rfl

/- SendTime. -/
def tmB (zs : List Int) (n : Nat) (xs : List Int) (m : Nat) (x y : Int) : Bool := stB zs n xs m x y && (decide (sp zs xs n x y = 0) && isIn ((stT zs xs x y n).getD 0 0) 0 100000)
def tmV (zs : List Int) (n : Nat) (xs : List Int) (m : Nat) (x y : Int) : Int := if tmB zs n xs m x y then (stT zs xs x y n).getD 0 0 else 0
theorem tm_yes {zs xs : List Int} {n m : Nat} {x y : Int} (h : tmB zs n xs m x y = true) : tmV zs n xs m x y = (stT zs xs x y n).getD 0 0 := by unfold tmV; rw [h]; rfl
theorem tm_no {zs xs : List Int} {n m : Nat} {x y : Int} (h : tmB zs n xs m x y = false) : tmV zs n xs m x y = 0 := by unfold tmV; rw [h]; rfl

/- HelpfulSite: lists without one of their elements. -/
def drI (xs : List Int) (i : Nat) : List Int := xs.take i ++ xs.drop (i + 1)
theorem drI_length {xs : List Int} {n i : Nat} (hl : xs.length = n) (hi : i < n) : (drI xs i).length = n - 1 := by
  unfold drI
  rw [List.length_append, List.length_take, List.length_drop, hl]
  omega
theorem getD_cut {xs : List Int} {a b j : Nat} (ha : a ≤ xs.length) (hab : a ≤ b) : (xs.take a ++ xs.drop b).getD j 0 = if j < a then xs.getD j 0 else xs.getD (j + (b - a)) 0 := by
  rw [List.getD_eq_getElem?_getD, List.getElem?_append, List.length_take, Nat.min_eq_left ha]
  split
  · rw [List.getElem?_take, if_pos (by assumption), List.getD_eq_getElem?_getD]
  · rw [List.getElem?_drop, List.getD_eq_getElem?_getD, show b + (j - a) = j + (b - a) by omega]
theorem drI_at {xs : List Int} {n i j : Nat} (hl : xs.length = n) (hi : i < n) : (drI xs i).getD j 0 = if j < i then xs.getD j 0 else xs.getD (j + 1) 0 := by
  unfold drI
  rw [getD_cut (by omega) (by omega), show i + 1 - i = 1 by omega]
theorem drT_fld {zs : List Int} {n i j c : Nat} (hl : zs.length = n * 2) (hi : i < n) (hc : c < 2) : fld 2 (drT zs i) j c = if j < i then fld 2 zs j c else fld 2 zs (j + 1) c := by
  unfold fld drT
  rw [getD_cut (by omega) (by omega)]
  by_cases h : j < i
  · rw [if_pos h, if_pos (by omega)]
  · rw [if_neg h, if_neg (by omega), show j * 2 + c + ((i + 1) * 2 - i * 2) = (j + 1) * 2 + c by omega]
theorem onT_of {zs : List Int} {n : Nat} (h : ∀ k, k < n → onB (fld 2 zs k 0) (fld 2 zs k 1) = true) : onT zs n = true := by
  induction n with
  | zero => rfl
  | succ n ih => rw [onT, ih (fun k hk => h k (by omega)), h n (by omega)]; rfl
theorem aiT_of {xs : List Int} {n : Nat} (h : ∀ k, k < n → isIn (xs.getD k 0) 0 100060 = true) : aiT xs n = true := by
  induction n with
  | zero => rfl
  | succ n ih => rw [aiT, ih (fun k hk => h k (by omega)), h n (by omega)]; rfl
theorem drT_on {zs : List Int} {n i : Nat} (hl : zs.length = n * 2) (hi : i < n) (h : onT zs n = true) : onT (drT zs i) (n - 1) = true := by
  refine onT_of fun k hk => ?_
  rw [drT_fld hl hi (by omega), drT_fld hl hi (by omega)]
  by_cases e : k < i
  · rw [if_pos e, if_pos e]; exact onT_at h (by omega)
  · rw [if_neg e, if_neg e]; exact onT_at h (by omega)
theorem drI_ai {xs : List Int} {n i : Nat} (hl : xs.length = n) (hi : i < n) (h : aiT xs n = true) : aiT (drI xs i) (n - 1) = true := by
  refine aiT_of fun k hk => ?_
  rw [drI_at hl hi]
  by_cases e : k < i
  · rw [if_pos e]; exact decide_eq_true (aiT_at h (by omega))
  · rw [if_neg e]; exact decide_eq_true (aiT_at h (by omega))
/-- How many points fit without the site i. -/
def hfC (zs xs : List Int) (n : Nat) (t : Int) (i : Nat) : Nat := fcT (drT zs i) (drI xs i) (n - 1) t 961
theorem hfC_le (zs xs : List Int) (n : Nat) (t : Int) (i : Nat) : hfC zs xs n t i ≤ 961 := fc_le _ _ _ _ _
def hfT (zs xs : List Int) (n : Nat) (t : Int) : Nat → Nat
  | 0 => 0
  | k + 1 => if hfC zs xs n t (hfT zs xs n t k) < hfC zs xs n t k then k else hfT zs xs n t k
theorem hfT_yes {zs xs : List Int} {n k : Nat} {t : Int} (h : hfC zs xs n t (hfT zs xs n t k) < hfC zs xs n t k) : hfT zs xs n t (k + 1) = k := by rw [hfT, if_pos h]
theorem hfT_no {zs xs : List Int} {n k : Nat} {t : Int} (h : ¬ hfC zs xs n t (hfT zs xs n t k) < hfC zs xs n t k) : hfT zs xs n t (k + 1) = hfT zs xs n t k := by rw [hfT, if_neg h]
theorem hfT_one (zs xs : List Int) (n : Nat) (t : Int) : hfT zs xs n t 1 = 0 := by rw [hfT, if_neg (by rw [hfT]; omega), hfT]
theorem hfT_lt (zs xs : List Int) (n : Nat) (t : Int) (k : Nat) (h : 0 < k) : hfT zs xs n t k < k := by
  induction k with
  | zero => omega
  | succ k ih =>
    by_cases h1 : hfC zs xs n t (hfT zs xs n t k) < hfC zs xs n t k
    · rw [hfT_yes h1]; omega
    · rw [hfT_no h1]
      rcases Nat.eq_zero_or_pos k with rfl | h2
      · rw [hfT]; omega
      · have := ih h2; omega
/-- What is known of the greatest number: none yet, or that of the best one. -/
def hfM (zs xs : List Int) (n : Nat) (t z : Int) (k : Nat) : Int := if k = 0 then z else (hfC zs xs n t (hfT zs xs n t k) : Int)
theorem hfM_zero (zs xs : List Int) (n : Nat) (t z : Int) : hfM zs xs n t z 0 = z := rfl
theorem hfM_in (zs xs : List Int) (n : Nat) (t z : Int) (k : Nat) (h : -1 ≤ z ∧ z ≤ 0) : -1 ≤ hfM zs xs n t z k ∧ hfM zs xs n t z k ≤ 961 := by
  unfold hfM
  split
  · omega
  · have := hfC_le zs xs n t (hfT zs xs n t k); omega
theorem hfM_yes {zs xs : List Int} {n k : Nat} {t z : Int} (h : hfM zs xs n t z k < (hfC zs xs n t k : Int)) : hfT zs xs n t (k + 1) = k ∧ hfM zs xs n t z (k + 1) = (hfC zs xs n t k : Int) := by
  have e : hfT zs xs n t (k + 1) = k := by
    unfold hfM at h
    by_cases hk : k = 0
    · rw [hk]; exact hfT_one _ _ _ _
    · rw [if_neg hk] at h; exact hfT_yes (by omega)
  exact ⟨e, by unfold hfM; rw [if_neg (by omega), e]⟩
theorem hfM_no {zs xs : List Int} {n k : Nat} {t z : Int} (hz : z ≤ 0) (h : ¬ hfM zs xs n t z k < (hfC zs xs n t k : Int)) : hfT zs xs n t (k + 1) = hfT zs xs n t k ∧ hfM zs xs n t z (k + 1) = hfM zs xs n t z k := by
  unfold hfM at h ⊢
  rw [if_neg (Nat.succ_ne_zero k)]
  by_cases hk : k = 0
  · subst hk
    rw [if_pos rfl] at h ⊢
    have e : hfT zs xs n t (0 + 1) = 0 := hfT_one _ _ _ _
    have e0 : hfT zs xs n t 0 = 0 := rfl
    rw [e, e0]
    exact ⟨rfl, by omega⟩
  · rw [if_neg hk] at h ⊢
    have e := hfT_no (zs := zs) (xs := xs) (n := n) (k := k) (t := t) (by omega)
    rw [e]
    exact ⟨rfl, rfl⟩
def hfB (zs : List Int) (n : Nat) (xs : List Int) (m : Nat) (t : Int) : Bool := ltB zs n xs m t && decide (n ≠ 1)
def hfV (zs : List Int) (n : Nat) (xs : List Int) (m : Nat) (t : Int) : Int := if hfB zs n xs m t then (hfT zs xs n t n : Int) else 0
theorem hfV_yes {zs xs : List Int} {n m : Nat} {t : Int} (h : hfB zs n xs m t = true) : hfV zs n xs m t = (hfT zs xs n t n : Int) := by unfold hfV; rw [h]; rfl
theorem hfV_no {zs xs : List Int} {n m : Nat} {t : Int} (h : hfB zs n xs m t = false) : hfV zs n xs m t = 0 := by unfold hfV; rw [h]; rfl
end Go.Proofs.Ytpbopiecfnedgab.loc
