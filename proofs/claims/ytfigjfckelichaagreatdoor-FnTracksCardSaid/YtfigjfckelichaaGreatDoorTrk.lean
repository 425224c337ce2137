/- Tracks in plain mathematics (no program in it): a list of tracks is a flat list of numbers, six a track. -/
import Derived.Test.YtfigjfckelichaaGreatDoorLst
import Derived.Test.YtfigjfckelichaaGreatDoorPos
namespace Go.Proofs.YtfigjfckelichaaGreatDoor.trk
open Go.Proofs.YtfigjfckelichaaGreatDoor.in_ Go.Proofs.YtfigjfckelichaaGreatDoor.lst Go.Proofs.YtfigjfckelichaaGreatDoor.pos

theorem isIn_yes {x a b : Int} (h : isIn x a b = true) : a ≤ x ∧ x ≤ b := of_decide_eq_true h
theorem isIn_of {x a b : Int} (h1 : a ≤ x) (h2 : x ≤ b) : isIn x a b = true := decide_eq_true ⟨h1, h2⟩
/-- The state of a track with so many hits and lost. -/
def sw (h l : Int) : Int := if 3 ≤ h then (if l = 0 then 2 else 3) else if l = 0 then 1 else 0
/-- One track is valid. -/
def tkB (i s x y h l : Int) : Bool := isIn i 1 999 && (pB x y && (isIn h 1 9999 && (isIn l 0 3 && (!decide (s = 0) && decide (s = sw h l)))))
theorem tkB_yes {i s x y h l : Int} (hh : tkB i s x y h l = true) : (1 ≤ i ∧ i ≤ 999) ∧ pB x y = true ∧ (1 ≤ h ∧ h ≤ 9999) ∧ (0 ≤ l ∧ l ≤ 3) ∧ s ≠ 0 ∧ s = sw h l := by
  unfold tkB at hh
  rw [Bool.and_eq_true, Bool.and_eq_true, Bool.and_eq_true, Bool.and_eq_true, Bool.and_eq_true] at hh
  exact ⟨isIn_yes hh.1, hh.2.1, isIn_yes hh.2.2.1, isIn_yes hh.2.2.2.1, by simpa using hh.2.2.2.2.1, of_decide_eq_true hh.2.2.2.2.2⟩
theorem tkB_of {i s x y h l : Int} (h1 : 1 ≤ i ∧ i ≤ 999) (h2 : pB x y = true) (h3 : 1 ≤ h ∧ h ≤ 9999) (h4 : 0 ≤ l ∧ l ≤ 3) (h5 : s ≠ 0) (h6 : s = sw h l) : tkB i s x y h l = true := by
  unfold tkB
  rw [isIn_of h1.1 h1.2, h2, isIn_of h3.1 h3.2, isIn_of h4.1 h4.2, decide_eq_false h5, decide_eq_true h6]; rfl
/-- The states by name. -/
theorem tkB_states {i s x y h l : Int} (h1 : isIn i 1 999 = true) (h2 : pB x y = true) (h3 : isIn h 1 9999 = true) :
    tkB i s x y h l = (decide (s = 1 ∧ h ≤ 2 ∧ l = 0) || (decide (s = 2 ∧ 3 ≤ h ∧ l = 0) || decide (s = 3 ∧ 3 ≤ h ∧ 1 ≤ l ∧ l ≤ 3))) := by
  rw [Bool.eq_iff_iff]
  simp only [Bool.or_eq_true, decide_eq_true_eq]
  constructor
  · intro hh
    obtain ⟨_, _, _, h4, h5, h6⟩ := tkB_yes hh
    unfold sw at h6
    split at h6 <;> split at h6 <;> omega
  · intro hh
    refine tkB_of (isIn_yes h1) h2 (isIn_yes h3) (by omega) (by omega) ?_
    unfold sw
    split <;> split <;> omega
def tkK (zs : List Int) (k : Nat) : Bool := tkB (fld 6 zs k 0) (fld 6 zs k 1) (fld 6 zs k 2) (fld 6 zs k 3) (fld 6 zs k 4) (fld 6 zs k 5)
/-- All of the first k tracks are valid. -/
def alT (zs : List Int) : Nat → Bool
  | 0 => true
  | k + 1 => alT zs k && tkK zs k
/-- .. and in ascending order of their Ids. -/
def okT (zs : List Int) : Nat → Bool
  | 0 => true
  | k + 1 => okT zs k && (tkK zs k && (decide (k = 0) || decide (fld 6 zs (k - 1) 0 < fld 6 zs k 0)))
/-- Numbers that ascend. -/
def asB (xs : List Int) (n : Nat) : Bool := decide (∀ k, k < n → 0 < k → xs.getD (k - 1) 0 < xs.getD k 0)
/-- The Ids of the first n tracks. -/
def idL (zs : List Int) (n : Nat) : List Int := (List.range n).map fun k => fld 6 zs k 0
theorem idL_length (zs : List Int) (n : Nat) : (idL zs n).length = n := by simp [idL]
theorem idL_at {zs : List Int} {n k : Nat} (h : k < n) : (idL zs n)[k]? = some (fld 6 zs k 0) := by simp [idL, h]
theorem idL_getD {zs : List Int} {n k : Nat} (h : k < n) : (idL zs n).getD k 0 = fld 6 zs k 0 := by rw [List.getD_eq_getElem?_getD, idL_at h]; rfl
theorem idL_succ (zs : List Int) (n : Nat) : idL zs (n + 1) = idL zs n ++ [fld 6 zs n 0] := by simp [idL, List.range_succ]
/-- A valid list of n tracks. -/
def tvB (zs : List Int) (n : Nat) : Bool := okT zs n && decide (n ≤ 6)
theorem okT_all {zs : List Int} {n : Nat} (h : okT zs n = true) : ∀ k, k < n → tkK zs k = true ∧ (0 < k → fld 6 zs (k - 1) 0 < fld 6 zs k 0) := by
  induction n with
  | zero => intro k hk; omega
  | succ m ih =>
    intro k hk
    rw [okT, Bool.and_eq_true, Bool.and_eq_true, Bool.or_eq_true] at h
    rcases Nat.lt_or_ge k m with h1 | h1
    · exact ih h.1 k h1
    · obtain rfl : k = m := by omega
      refine ⟨h.2.1, fun h0 => ?_⟩
      rcases h.2.2 with h2 | h2
      · have := of_decide_eq_true h2; omega
      · exact of_decide_eq_true h2
theorem okT_of {zs : List Int} {n : Nat} (h : ∀ k, k < n → tkK zs k = true ∧ (0 < k → fld 6 zs (k - 1) 0 < fld 6 zs k 0)) : okT zs n = true := by
  induction n with
  | zero => rfl
  | succ m ih =>
    rw [okT, ih (fun k hk => h k (by omega)), (h m (by omega)).1, Bool.true_and, Bool.true_and]
    rcases Nat.eq_zero_or_pos m with h0 | h0
    · rw [decide_eq_true h0]; rfl
    · rw [decide_eq_true ((h m (by omega)).2 h0), Bool.or_true]
theorem okT_cut {zs : List Int} {n k : Nat} (h : okT zs k = false) (hk : k ≤ n) : okT zs n = false := by
  cases hq : okT zs n
  · rfl
  · have := okT_of (fun j hj => okT_all hq j (by omega)) (n := k)
    rw [h] at this; cases this
theorem alT_all {zs : List Int} {n : Nat} (h : alT zs n = true) : ∀ k, k < n → tkK zs k = true := by
  induction n with
  | zero => intro k hk; omega
  | succ m ih =>
    intro k hk
    rw [alT, Bool.and_eq_true] at h
    rcases Nat.lt_or_ge k m with h1 | h1
    · exact ih h.1 k h1
    · obtain rfl : k = m := by omega
      exact h.2
theorem alT_of {zs : List Int} {n : Nat} (h : ∀ k, k < n → tkK zs k = true) : alT zs n = true := by
  induction n with
  | zero => rfl
  | succ m ih => rw [alT, ih (fun k hk => h k (by omega)), h m (by omega)]; rfl
theorem alT_cut {zs : List Int} {n k : Nat} (h : alT zs k = false) (hk : k ≤ n) : alT zs n = false := by
  cases hq : alT zs n
  · rfl
  · have := alT_of (fun j hj => alT_all hq j (by omega)) (n := k)
    rw [h] at this; cases this
theorem asB_yes {xs : List Int} {n : Nat} (h : asB xs n = true) : ∀ k, k < n → 0 < k → xs.getD (k - 1) 0 < xs.getD k 0 := of_decide_eq_true h
theorem ok_is (zs : List Int) (n : Nat) : okT zs n = (alT zs n && asB (idL zs n) n) := by
  cases h : okT zs n
  · cases h1 : alT zs n
    · rfl
    · cases h2 : asB (idL zs n) n
      · rfl
      · have := okT_of (fun k hk => ⟨alT_all h1 k hk, fun h0 => by have := asB_yes h2 k hk h0; rw [idL_getD hk, idL_getD (by omega)] at this; exact this⟩)
        rw [h] at this; cases this
  · rw [alT_of (fun k hk => (okT_all h k hk).1)]
    unfold asB
    rw [decide_eq_true (fun k hk h0 => by rw [idL_getD hk, idL_getD (by omega)]; exact (okT_all h k hk).2 h0)]; rfl
theorem tvB_yes {zs : List Int} {n : Nat} (h : tvB zs n = true) : okT zs n = true ∧ n ≤ 6 := by
  unfold tvB at h
  rw [Bool.and_eq_true] at h
  exact ⟨h.1, of_decide_eq_true h.2⟩
theorem tvB_of {zs : List Int} {n : Nat} (h : okT zs n = true) (hn : n ≤ 6) : tvB zs n = true := by
  unfold tvB; rw [h, decide_eq_true hn]; rfl
theorem tvB_no {zs : List Int} {n : Nat} (h : okT zs n = false) : tvB zs n = false := by unfold tvB; rw [h]; rfl
theorem tvB_len {zs : List Int} {n : Nat} (h : 6 < n) : tvB zs n = false := by unfold tvB; rw [decide_eq_false (by omega), Bool.and_false]
theorem tv_at {zs : List Int} {n k : Nat} (h : tvB zs n = true) (hk : k < n) : tkK zs k = true := (okT_all (tvB_yes h).1 k hk).1
theorem tv_asc {zs : List Int} {n : Nat} (h : tvB zs n = true) : ∀ k j, k < j → j < n → fld 6 zs k 0 < fld 6 zs j 0 := by
  intro k j hkj hj
  induction j with
  | zero => omega
  | succ j ih =>
    have h2 := (okT_all (tvB_yes h).1 (j + 1) hj).2 (by omega)
    rw [Nat.add_sub_cancel] at h2
    rcases Nat.lt_or_ge k j with h1 | h1
    · have := ih h1 (by omega); omega
    · obtain rfl : k = j := by omega
      exact h2
theorem tv_one {zs : List Int} {n k j : Nat} (h : tvB zs n = true) (hk : k < n) (hj : j < n) (e : fld 6 zs k 0 = fld 6 zs j 0) : k = j := by
  rcases Nat.lt_trichotomy k j with h1 | h1 | h1
  · have := tv_asc h k j h1 hj; omega
  · exact h1
  · have := tv_asc h j k h1 hk; omega

/- Flat lists, six numbers a track. -/
def six (a b c d e f : Int) : List Int := [a, b, c, d, e, f]
theorem six_length (a b c d e f : Int) : (six a b c d e f).length = 6 := rfl
def row (zs : List Int) (k : Nat) : List Int := six (fld 6 zs k 0) (fld 6 zs k 1) (fld 6 zs k 2) (fld 6 zs k 3) (fld 6 zs k 4) (fld 6 zs k 5)
theorem getD_cat (us vs : List Int) (i : Nat) : (us ++ vs).getD i 0 = if i < us.length then us.getD i 0 else vs.getD (i - us.length) 0 := by
  rw [List.getD_eq_getElem?_getD, List.getD_eq_getElem?_getD, List.getD_eq_getElem?_getD]
  split
  · rw [List.getElem?_append_left (by assumption)]
  · rw [List.getElem?_append_right (by omega)]
theorem fld_old {us vs : List Int} {n k j : Nat} (hl : us.length = n * 6) (hk : k < n) (hj : j < 6) : fld 6 (us ++ vs) k j = fld 6 us k j := by
  unfold fld
  rw [getD_cat, if_pos (by omega)]
theorem fld_new {us vs : List Int} {n j : Nat} (hl : us.length = n * 6) (_hj : j < 6) : fld 6 (us ++ vs) n j = vs.getD j 0 := by
  unfold fld
  rw [getD_cat, if_neg (by omega), hl, Nat.add_sub_cancel_left]
theorem tkK_old {us vs : List Int} {n k : Nat} (hl : us.length = n * 6) (hk : k < n) : tkK (us ++ vs) k = tkK us k := by
  unfold tkK
  rw [fld_old hl hk (by omega), fld_old hl hk (by omega), fld_old hl hk (by omega), fld_old hl hk (by omega), fld_old hl hk (by omega), fld_old hl hk (by omega)]
theorem tkK_new {us : List Int} {n : Nat} {a b c d e f : Int} (hl : us.length = n * 6) : tkK (us ++ six a b c d e f) n = tkB a b c d e f := by
  unfold tkK
  rw [fld_new hl (by omega), fld_new hl (by omega), fld_new hl (by omega), fld_new hl (by omega), fld_new hl (by omega), fld_new hl (by omega)]
  rfl
theorem okT_old {us vs : List Int} {n k : Nat} (hl : us.length = n * 6) (hk : k ≤ n) : okT (us ++ vs) k = okT us k := by
  induction k with
  | zero => rfl
  | succ k ih =>
    rw [okT, okT, ih (by omega), tkK_old hl (by omega), fld_old hl (show k < n by omega) (by omega)]
    rcases Nat.eq_zero_or_pos k with h0 | h0
    · subst h0; rfl
    · rw [fld_old hl (show k - 1 < n by omega) (by omega)]
/-- The first k tracks of a list. -/
theorem take_row {zs : List Int} {n k : Nat} (hl : zs.length = n * 6) (hk : k < n) : zs.take ((k + 1) * 6) = zs.take (k * 6) ++ row zs k := by
  refine List.ext_getElem? fun i => ?_
  rw [List.getElem?_take]
  rcases Nat.lt_or_ge i (k * 6) with h | h
  · rw [if_pos (by omega), List.getElem?_append_left (by rw [List.length_take]; omega), List.getElem?_take, if_pos h]
  · rw [List.getElem?_append_right (by rw [List.length_take]; omega), List.length_take, Nat.min_eq_left (by omega)]
    split
    · have g : ∀ j, k * 6 + j < zs.length → zs[k * 6 + j]? = some (fld 6 zs k j) := fun j hj => by
        unfold fld
        rw [List.getD_eq_getElem?_getD, List.getElem?_eq_getElem hj]; rfl
      obtain ⟨j, rfl⟩ : ∃ j, i = k * 6 + j := ⟨i - k * 6, by omega⟩
      rw [g j (by omega), Nat.add_sub_cancel_left]
      have : j = 0 ∨ j = 1 ∨ j = 2 ∨ j = 3 ∨ j = 4 ∨ j = 5 := by omega
      rcases this with h | h | h | h | h | h <;> subst h <;> rfl
    · rw [List.getElem?_eq_none]
      rw [show (row zs k).length = 6 from rfl]; omega

/- Changes of a list: a change of track k fails (none), drops it (some []) or leaves a track. -/
def chL (c : Nat → Option (List Int)) : Nat → List Int
  | 0 => []
  | k + 1 => chL c k ++ (c k).getD []
/-- No change of the first k tracks fails. -/
def chB (c : Nat → Option (List Int)) : Nat → Bool
  | 0 => true
  | k + 1 => chB c k && (c k).isSome
/-- How many of the first k tracks are dropped. -/
def chD (c : Nat → Option (List Int)) : Nat → Nat
  | 0 => 0
  | k + 1 => chD c k + (if c k = some [] then 1 else 0)
/-- How many of the first k tracks remain. -/
def chN (c : Nat → Option (List Int)) : Nat → Nat
  | 0 => 0
  | k + 1 => chN c k + (if c k = some [] then 0 else 1)
theorem chB_cut {c : Nat → Option (List Int)} {n k : Nat} (h : chB c k = false) (hk : k ≤ n) : chB c n = false := by
  induction n with
  | zero => obtain rfl : k = 0 := by omega
            exact h
  | succ n ih =>
    rcases Nat.lt_or_ge k (n + 1) with h1 | h1
    · rw [chB, ih (by omega)]; rfl
    · obtain rfl : k = n + 1 := by omega
      exact h
theorem chB_at {c : Nat → Option (List Int)} {n k : Nat} (h : chB c n = true) (hk : k < n) : (c k).isSome = true := by
  induction n with
  | zero => omega
  | succ n ih =>
    rw [chB, Bool.and_eq_true] at h
    rcases Nat.lt_or_ge k n with h1 | h1
    · exact ih h.1 h1
    · obtain rfl : k = n := by omega
      exact h.2
theorem chB_of {c : Nat → Option (List Int)} {n : Nat} (h : ∀ k, k < n → (c k).isSome = true) : chB c n = true := by
  induction n with
  | zero => rfl
  | succ n ih => rw [chB, ih (fun k hk => h k (by omega)), h n (by omega)]; rfl
theorem chN_le (c : Nat → Option (List Int)) (k : Nat) : chN c k + chD c k = k := by
  induction k with
  | zero => rfl
  | succ k ih => rw [chN, chD]; split <;> omega
/-- A change leaves nothing or a track. -/
def Fits (c : Nat → Option (List Int)) (n : Nat) : Prop := ∀ k, k < n → ∀ r, c k = some r → r = [] ∨ r.length = 6
theorem chL_length {c : Nat → Option (List Int)} {n : Nat} (hf : Fits c n) (h : chB c n = true) : (chL c n).length = chN c n * 6 := by
  induction n with
  | zero => rfl
  | succ n ih =>
    rw [chB, Bool.and_eq_true] at h
    rw [chL, chN, List.length_append, ih (fun k hk => hf k (by omega)) h.1]
    obtain ⟨r, hr⟩ := Option.isSome_iff_exists.1 h.2
    rw [hr]
    rcases hf n (by omega) r hr with h1 | h1
    · subst h1; rw [if_pos rfl]; rfl
    · rw [if_neg (fun e => by injection e with e; subst e; cases h1)]
      show _ + r.length = _
      rw [h1]; omega
/-- Changes that leave tracks with the same Ids leave a list of tracks if each track is valid. -/
theorem chL_ok {c : Nat → Option (List Int)} {zs : List Int} {n : Nat} (hz : tvB zs n = true)
    (hc : ∀ k, k < n → c k = some [] ∨ ∃ s x y h l, c k = some (six (fld 6 zs k 0) s x y h l) ∧ tkB (fld 6 zs k 0) s x y h l = true) :
    ∀ k, k ≤ n → (chL c k).length = chN c k * 6 ∧ okT (chL c k) (chN c k) = true ∧ ∀ j, j < n → k ≤ j → 0 < chN c k → fld 6 (chL c k) (chN c k - 1) 0 < fld 6 zs j 0 := by
  intro k
  induction k with
  | zero => intro _; exact ⟨rfl, rfl, fun j _ _ h => absurd h (Nat.lt_irrefl 0)⟩
  | succ k ih =>
    intro hk
    obtain ⟨h1, h2, h3⟩ := ih (by omega)
    rcases hc k (by omega) with h | ⟨s, x, y, h, l, e, hv⟩
    · rw [chL, chN, h, if_pos rfl]
      rw [show (some ([] : List Int)).getD [] = [] from rfl, List.append_nil, Nat.add_zero]
      exact ⟨h1, h2, fun j hj hkj h0 => h3 j hj (by omega) h0⟩
    · rw [chL, chN, e, if_neg (fun e => by injection e with e; cases e)]
      rw [show (some (six (fld 6 zs k 0) s x y h l)).getD [] = six (fld 6 zs k 0) s x y h l from rfl]
      refine ⟨by rw [List.length_append, h1, six_length]; omega, ?_, ?_⟩
      · rw [okT, okT_old h1 (Nat.le_refl _), h2, tkK_new h1, hv, fld_new h1 (by omega)]
        rcases Nat.eq_zero_or_pos (chN c k) with h0 | h0
        · rw [decide_eq_true h0]; rfl
        · rw [fld_old h1 (by omega) (by omega), decide_eq_true (show fld 6 (chL c k) (chN c k - 1) 0 < (six (fld 6 zs k 0) s x y h l).getD 0 0 from h3 k (by omega) (Nat.le_refl _) h0), Bool.or_true]; rfl
      · intro j hj hkj _
        rw [Nat.add_sub_cancel, fld_new h1 (by omega)]
        exact tv_asc hz k j (by omega) hj
theorem chL_bad {c : Nat → Option (List Int)} {n k : Nat} (hf : ∀ j, j < n → ∃ r, c j = some r ∧ (r = [] ∨ r.length = 6)) (hk : k < n)
    {i s x y h l : Int} (e : c k = some (six i s x y h l)) (hv : tkB i s x y h l = false) : okT (chL c n) (chN c n) = false := by
  have hB : ∀ m, m ≤ n → chB c m = true := fun m hm => chB_of (fun j hj => by obtain ⟨r, hr, _⟩ := hf j (by omega); rw [hr]; rfl)
  have hF : ∀ m, m ≤ n → Fits c m := fun m hm j hj r hr => by obtain ⟨r', hr', h⟩ := hf j (by omega); rw [hr'] at hr; injection hr with hr; subst hr; exact h
  have h1 := chL_length (hF k (by omega)) (hB k (by omega))
  have hk1 : okT (chL c (k + 1)) (chN c (k + 1)) = false := by
    rw [chL, chN, e, if_neg (fun e => by injection e with e; cases e)]
    rw [show (some (six i s x y h l)).getD [] = six i s x y h l from rfl, okT, tkK_new h1, hv, Bool.false_and, Bool.and_false]
  have hm : ∀ m, k + 1 ≤ m → m ≤ n → okT (chL c m) (chN c m) = false := by
    intro m
    induction m with
    | zero => intro h; omega
    | succ m ih =>
      intro h hn
      rcases Nat.lt_or_ge k m with h3 | h3
      · have h4 := ih (by omega) (by omega)
        have h5 := chL_length (hF m (by omega)) (hB m (by omega))
        rw [chL, chN]
        refine okT_cut (k := chN c m) ?_ (by omega)
        rw [okT_old h5 (Nat.le_refl _)]; exact h4
      · obtain rfl : m = k := by omega
        exact hk1
  exact hm n (by omega) (Nat.le_refl _)

/- The changes of chapter 14. -/
/-- Track k after a hit at a place. -/
def hitR (zs : List Int) (x y : Int) (k : Nat) : List Int := six (fld 6 zs k 0) (sw (fld 6 zs k 4 + 1) 0) x y (fld 6 zs k 4 + 1) 0
def hitOk (zs : List Int) (x y : Int) (k : Nat) : Bool := tkB (fld 6 zs k 0) (sw (fld 6 zs k 4 + 1) 0) x y (fld 6 zs k 4 + 1) 0
def hitC (zs : List Int) (x y : Int) (k : Nat) : Option (List Int) := if hitOk zs x y k then some (hitR zs x y k) else none
theorem hitC_yes {zs : List Int} {x y : Int} {k : Nat} (h : hitOk zs x y k = true) : hitC zs x y k = some (hitR zs x y k) := by unfold hitC; rw [h]; rfl
theorem hitC_no {zs : List Int} {x y : Int} {k : Nat} (h : hitOk zs x y k = false) : hitC zs x y k = none := by unfold hitC; rw [h]; rfl
/-- Track k after a miss. -/
def missR (zs : List Int) (k : Nat) : List Int := six (fld 6 zs k 0) (sw (fld 6 zs k 4) (fld 6 zs k 5 + 1)) (fld 6 zs k 2) (fld 6 zs k 3) (fld 6 zs k 4) (fld 6 zs k 5 + 1)
def missOk (zs : List Int) (k : Nat) : Bool := tkB (fld 6 zs k 0) (sw (fld 6 zs k 4) (fld 6 zs k 5 + 1)) (fld 6 zs k 2) (fld 6 zs k 3) (fld 6 zs k 4) (fld 6 zs k 5 + 1)
def missC (zs : List Int) (k : Nat) : Option (List Int) := if missOk zs k then some (missR zs k) else some []
theorem missC_yes {zs : List Int} {k : Nat} (h : missOk zs k = true) : missC zs k = some (missR zs k) := by unfold missC; rw [h]; rfl
theorem missC_no {zs : List Int} {k : Nat} (h : missOk zs k = false) : missC zs k = some [] := by unfold missC; rw [h]; rfl
def hitOne (zs : List Int) (d x y : Int) (k : Nat) : Option (List Int) := if fld 6 zs k 0 = d then hitC zs x y k else some (row zs k)
def missOne (zs : List Int) (d : Int) (k : Nat) : Option (List Int) := if fld 6 zs k 0 = d then missC zs k else some (row zs k)
/-- The index of a number among the first m, or m. -/
def idx (xs : List Int) (d : Int) : Nat → Nat
  | 0 => 0
  | m + 1 => if idx xs d m < m then idx xs d m else if xs.getD m 0 = d then m else m + 1
def scanC (zs ids : List Int) (m : Nat) (ps : List Int) (k : Nat) : Option (List Int) :=
  if idx ids (fld 6 zs k 0) m < m then hitC zs (fld 2 ps (idx ids (fld 6 zs k 0) m) 0) (fld 2 ps (idx ids (fld 6 zs k 0) m) 1) k else missC zs k
theorem idx_le (xs : List Int) (d : Int) (m : Nat) : idx xs d m ≤ m := by
  induction m with
  | zero => exact Nat.le_refl _
  | succ m ih => rw [idx]; split
                 · omega
                 · split <;> omega
theorem idx_is {xs : List Int} {d : Int} {m j : Nat} (hj : j < m) (h : xs.getD j 0 = d) (hn : ∀ i, i < j → xs.getD i 0 ≠ d) : idx xs d m = j := by
  have low : ∀ i, i ≤ j → idx xs d i = i := by
    intro i
    induction i with
    | zero => intro _; rfl
    | succ i ih => intro hi; rw [idx, ih (by omega), if_neg (Nat.lt_irrefl _), if_neg (hn i (by omega))]
  induction m with
  | zero => omega
  | succ m ih =>
    rcases Nat.lt_or_ge j m with h1 | h1
    · rw [idx, ih h1, if_pos h1]
    · obtain rfl : m = j := by omega
      rw [idx, low m (Nat.le_refl _), if_neg (Nat.lt_irrefl _), if_pos h]
theorem idx_none {xs : List Int} {d : Int} {m : Nat} (hn : ∀ i, i < m → xs.getD i 0 ≠ d) : idx xs d m = m := by
  induction m with
  | zero => rfl
  | succ m ih => rw [idx, ih (fun i hi => hn i (by omega)), if_neg (Nat.lt_irrefl _), if_neg (hn m (by omega))]
theorem idx_at {xs : List Int} {d : Int} {m : Nat} (h : idx xs d m < m) : xs.getD (idx xs d m) 0 = d := by
  induction m with
  | zero => omega
  | succ m ih =>
    rw [idx] at h ⊢
    split
    · rename_i h1; exact ih h1
    · rename_i h1
      rw [if_neg h1] at h
      split
      · assumption
      · rename_i h2; rw [if_neg h2] at h; omega
theorem idx_low {xs : List Int} {d : Int} {m : Nat} : ∀ i, i < idx xs d m → xs.getD i 0 ≠ d := by
  induction m with
  | zero => intro i h; exact absurd h (Nat.not_lt_zero _)
  | succ m ih =>
    intro i h
    rw [idx] at h
    have hle := idx_le xs d m
    split at h
    · exact ih i h
    · rename_i h1
      split at h
      · exact ih i (by omega)
      · rename_i h2
        rcases Nat.lt_or_ge i m with h3 | h3
        · exact ih i (by omega)
        · obtain rfl : i = m := by omega
          exact h2
/-- d is the Id of one of the first n tracks. -/
def hasId (zs : List Int) (n : Nat) (d : Int) : Bool := decide (idx (idL zs n) d n < n)
theorem hasId_yes {zs : List Int} {n : Nat} {d : Int} (h : hasId zs n d = true) : ∃ k, k < n ∧ fld 6 zs k 0 = d ∧ ∀ i, i < k → fld 6 zs i 0 ≠ d := by
  have h1 := of_decide_eq_true h
  refine ⟨_, h1, ?_, fun i hi => ?_⟩
  · have := idx_at h1; rw [idL_getD h1] at this; exact this
  · have := idx_low i hi; rw [idL_getD (by omega)] at this; exact this
theorem hasId_of {zs : List Int} {n k : Nat} {d : Int} (hk : k < n) (h : fld 6 zs k 0 = d) : hasId zs n d = true := by
  refine decide_eq_true ?_
  rcases Nat.lt_or_ge k (idx (idL zs n) d n) with h1 | h1
  · have := idx_low k h1; rw [idL_getD hk] at this; exact absurd h this
  · omega
theorem hasId_no {zs : List Int} {n : Nat} {d : Int} (h : hasId zs n d = false) : ∀ k, k < n → fld 6 zs k 0 ≠ d := by
  intro k hk e
  rw [hasId_of hk e] at h; cases h
/-- All of the first m ids are Ids of tracks. -/
def hasAll (zs : List Int) (n : Nat) (ids : List Int) : Nat → Bool
  | 0 => true
  | m + 1 => hasAll zs n ids m && hasId zs n (ids.getD m 0)
theorem hasAll_at {zs ids : List Int} {n m j : Nat} (h : hasAll zs n ids m = true) (hj : j < m) : hasId zs n (ids.getD j 0) = true := by
  induction m with
  | zero => omega
  | succ m ih =>
    rw [hasAll, Bool.and_eq_true] at h
    rcases Nat.lt_or_ge j m with h1 | h1
    · exact ih h.1 h1
    · obtain rfl : j = m := by omega
      exact h.2
theorem hasAll_of {zs ids : List Int} {n m : Nat} (h : ∀ j, j < m → hasId zs n (ids.getD j 0) = true) : hasAll zs n ids m = true := by
  induction m with
  | zero => rfl
  | succ m ih => rw [hasAll, ih (fun j hj => h j (by omega)), h m (by omega)]; rfl
theorem hasAll_no {zs ids : List Int} {n m j : Nat} (hj : j < m) (h : hasId zs n (ids.getD j 0) = false) : hasAll zs n ids m = false := by
  cases hq : hasAll zs n ids m
  · rfl
  · rw [hasAll_at hq hj] at h; cases h
/-- The list is one of tracks and has the ids. -/
def haB (zs : List Int) (n : Nat) (ids : List Int) (m : Nat) : Bool := tvB zs n && hasAll zs n ids m

/- StartTrack. -/
def stD (zs : List Int) (n : Nat) : Int := if n = 0 then 1 else IntKind.i64.wrap (fld 6 zs (n - 1) 0 + 1)
def stR (zs : List Int) (n : Nat) (x y : Int) : List Int := zs ++ six (stD zs n) 1 x y 1 0
def stB (zs : List Int) (n : Nat) (x y : Int) : Bool := tvB (stR zs n x y) (n + 1)
def stL (zs : List Int) (n : Nat) (x y : Int) : List Int := if stB zs n x y then stR zs n x y else []
def stN (zs : List Int) (n : Nat) (x y : Int) : Nat := if stB zs n x y then n + 1 else 0
def stI (zs : List Int) (n : Nat) (x y : Int) : Int := if stB zs n x y then stD zs n else 0
theorem stB_old {zs : List Int} {n : Nat} {x y : Int} (hl : zs.length = n * 6) (h : stB zs n x y = true) : tvB zs n = true ∧ pB x y = true ∧ n < 6 := by
  have h1 := tvB_yes h
  have h2 := okT_all h1.1
  refine ⟨tvB_of (okT_of fun k hk => ?_) (by omega), ?_, by omega⟩
  · have h3 := h2 k (by omega)
    unfold stR at h3
    rw [tkK_old hl hk, fld_old hl hk (by omega)] at h3
    refine ⟨h3.1, fun h0 => ?_⟩
    have h4 := h3.2 h0
    rw [fld_old hl (by omega) (by omega)] at h4; exact h4
  · have h3 := (h2 n (by omega)).1
    unfold stR at h3
    rw [tkK_new hl] at h3
    exact (tkB_yes h3).2.1
/- HitTrack. -/
def hiB (zs : List Int) (n : Nat) (d x y : Int) : Bool := (tvB zs n && hasId zs n d) && chB (hitOne zs d x y) n
def hiL (zs : List Int) (n : Nat) (d x y : Int) : List Int := if hiB zs n d x y then chL (hitOne zs d x y) n else []
def hiN (zs : List Int) (n : Nat) (d x y : Int) : Nat := if hiB zs n d x y then n else 0
/- MissTrack. -/
def miB (zs : List Int) (n : Nat) (d : Int) : Bool := tvB zs n && hasId zs n d
def miL (zs : List Int) (n : Nat) (d : Int) : List Int := if miB zs n d then chL (missOne zs d) n else []
def miN (zs : List Int) (n : Nat) (d : Int) : Nat := if miB zs n d then chN (missOne zs d) n else 0
/- ScanTracks. -/
def scB (zs : List Int) (n : Nat) (ids : List Int) (m : Nat) (ps : List Int) (q : Nat) : Bool := decide (m = q) && (asB ids m && (haB zs n ids m && chB (scanC zs ids m ps) n))
def scL (zs : List Int) (n : Nat) (ids : List Int) (m : Nat) (ps : List Int) (q : Nat) : List Int := if scB zs n ids m ps q then chL (scanC zs ids m ps) n else []
def scN (zs : List Int) (n : Nat) (ids : List Int) (m : Nat) (ps : List Int) (q : Nat) : Nat := if scB zs n ids m ps q then chN (scanC zs ids m ps) n else 0
def scD (zs : List Int) (n : Nat) (ids : List Int) (m : Nat) (ps : List Int) (q : Nat) : Nat := if scB zs n ids m ps q then chD (scanC zs ids m ps) n else 0
/- ConfirmedTracks. -/
def cfT (zs : List Int) : Nat → List Int
  | 0 => []
  | k + 1 => if fld 6 zs k 1 = 1 then cfT zs k else cfT zs k ++ [fld 6 zs k 0]
theorem cfT_length (zs : List Int) (n : Nat) : (cfT zs n).length ≤ n := by
  induction n with
  | zero => exact Nat.le_refl _
  | succ n ih => rw [cfT]; split
                 · omega
                 · rw [List.length_append]; simp; omega
def cfV (zs : List Int) (n : Nat) : List Int := if tvB zs n then cfT zs n else []
theorem cfV_le (zs : List Int) (n : Nat) : (cfV zs n).length ≤ n := by
  unfold cfV; split
  · exact cfT_length zs n
  · exact Nat.zero_le _

/- What the changes do to a valid list. -/
theorem hitR_is (zs : List Int) (x y : Int) (k : Nat) : hitR zs x y k = six (fld 6 zs k 0) (sw (fld 6 zs k 4 + 1) 0) x y (fld 6 zs k 4 + 1) 0 := rfl
theorem fits_hit {zs : List Int} {x y : Int} {k : Nat} {r : List Int} (h : hitC zs x y k = some r) : r.length = 6 := by
  unfold hitC at h
  split at h
  · injection h with h; subst h; rfl
  · cases h
theorem fits_miss {zs : List Int} {k : Nat} {r : List Int} (h : missC zs k = some r) : r = [] ∨ r.length = 6 := by
  unfold missC at h
  split at h
  · injection h with h; subst h; exact Or.inr rfl
  · injection h with h; subst h; exact Or.inl rfl
theorem fits_hitOne (zs : List Int) (d x y : Int) (n : Nat) : Fits (hitOne zs d x y) n := fun k _ r h => by
  unfold hitOne at h
  split at h
  · exact Or.inr (fits_hit h)
  · injection h with h; subst h; exact Or.inr rfl
theorem fits_missOne (zs : List Int) (d : Int) (n : Nat) : Fits (missOne zs d) n := fun k _ r h => by
  unfold missOne at h
  split at h
  · exact fits_miss h
  · injection h with h; subst h; exact Or.inr rfl
theorem fits_scan (zs ids : List Int) (m : Nat) (ps : List Int) (n : Nat) : Fits (scanC zs ids m ps) n := fun k _ r h => by
  unfold scanC at h
  split at h
  · exact Or.inr (fits_hit h)
  · exact fits_miss h
theorem missOk_is {zs : List Int} {n k : Nat} (h : tvB zs n = true) (hk : k < n) : missOk zs k = (!decide (fld 6 zs k 1 = 1) && !decide (fld 6 zs k 5 = 3)) := by
  have h1 := tkB_yes (tv_at h hk)
  rw [Bool.eq_iff_iff]
  simp only [Bool.and_eq_true, Bool.not_eq_true', decide_eq_false_iff_not]
  obtain ⟨a1, a2, a3, a4, a5, a6⟩ := h1
  constructor
  · intro hh
    obtain ⟨b1, b2, b3, b4, b5, b6⟩ := tkB_yes hh
    unfold sw at a6 b5
    constructor
    · intro e; rw [e] at a6; split at a6 <;> split at a6 <;> simp_all <;> omega
    · omega
  · intro ⟨e1, e2⟩
    refine tkB_of a1 a2 a3 (by omega) ?_ rfl
    unfold sw at a6 ⊢
    split at a6 <;> split at a6 <;> split <;> simp_all <;> omega
theorem missR_is {zs : List Int} {n k : Nat} (h : tvB zs n = true) (hk : k < n) (ho : missOk zs k = true) : missR zs k = six (fld 6 zs k 0) 3 (fld 6 zs k 2) (fld 6 zs k 3) (fld 6 zs k 4) (fld 6 zs k 5 + 1) := by
  have h1 := tkB_yes (tv_at h hk)
  have h2 := tkB_yes ho
  unfold missR
  have : sw (fld 6 zs k 4) (fld 6 zs k 5 + 1) = 3 := by
    have h3 := h2.2.2.2.2.1
    unfold sw at h3 ⊢
    split at h3 <;> split at h3 <;> simp_all <;> omega
  rw [this]
end Go.Proofs.YtfigjfckelichaaGreatDoor.trk
