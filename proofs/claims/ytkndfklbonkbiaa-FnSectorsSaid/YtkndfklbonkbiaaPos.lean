/- Places and reports in plain mathematics (no program in it). -/
import Derived.Test.YtkndfklbonkbiaaAid
import Derived.Test.YtkndfklbonkbiaaIn
namespace Go.Proofs.Ytkndfklbonkbiaa.pos
open Go.Proofs.Ytkndfklbonkbiaa.in_

/-- The size of a report. -/
def sz (o : Bool) : Int := if o then 99 else 100
theorem sz_or (o : Bool) : sz o = 99 ∨ sz o = 100 := by cases o <;> simp [sz]
theorem sz_pos (o : Bool) : 99 ≤ sz o ∧ sz o ≤ 100 := by rcases sz_or o with h | h <;> omega
def pB (x y : Int) : Bool := isIn x 0 9899 && isIn y 0 9899
def rB (o : Bool) (a b : Int) : Bool := isIn a 0 (sz o - 1) && isIn b 0 (sz o - 1)
theorem pB_yes {x y : Int} (h : pB x y = true) : (0 ≤ x ∧ x ≤ 9899) ∧ 0 ≤ y ∧ y ≤ 9899 := by
  unfold pB isIn at h
  rw [Bool.and_eq_true] at h
  exact ⟨of_decide_eq_true h.1, of_decide_eq_true h.2⟩
theorem pB_of {x y : Int} (h1 : 0 ≤ x ∧ x ≤ 9899) (h2 : 0 ≤ y ∧ y ≤ 9899) : pB x y = true := by
  unfold pB isIn
  rw [Bool.and_eq_true]
  exact ⟨decide_eq_true h1, decide_eq_true h2⟩
theorem rB_yes {o : Bool} {a b : Int} (h : rB o a b = true) : (0 ≤ a ∧ a < sz o) ∧ 0 ≤ b ∧ b < sz o := by
  unfold rB isIn at h
  rw [Bool.and_eq_true] at h
  have h1 := of_decide_eq_true h.1
  have h2 := of_decide_eq_true h.2
  omega
theorem rB_of {o : Bool} {a b : Int} (h1 : 0 ≤ a ∧ a < sz o) (h2 : 0 ≤ b ∧ b < sz o) : rB o a b = true := by
  unfold rB isIn
  rw [Bool.and_eq_true]
  exact ⟨decide_eq_true (by omega), decide_eq_true (by omega)⟩

/- ReportOf. -/
def roO (x y : Int) (o : Bool) : Bool := pB x y && o
def roV (x y n : Int) (o : Bool) : Int := if pB x y then n % sz o else 0
theorem ro_good {x y : Int} (o : Bool) (h : pB x y = true) : rB o (x % sz o) (y % sz o) = true := by
  obtain ⟨⟨_, _⟩, _, _⟩ := pB_yes h
  rcases sz_or o with e | e <;> exact rB_of (by rw [e]; omega) (by rw [e]; omega)

/- DecodePair. -/
def both (e o : Int) : Int := e + 100 * ((o - e + 99) % 99)
theorem both_in {e o : Int} (he : 0 ≤ e ∧ e < 100) (ho : 0 ≤ o ∧ o < 99) : 0 ≤ both e o ∧ both e o ≤ 9899 ∧ both e o % 100 = e ∧ both e o % 99 = o := by unfold both; omega
theorem both_of {n : Int} (h : 0 ≤ n ∧ n ≤ 9899) : both (n % 100) (n % 99) = n := by unfold both; omega
/-- The number of rounds before the place is found. -/
def bothK (e o : Int) : Nat := ((o - e + 99) % 99).toNat
theorem bothK_le (e o : Int) : bothK e o ≤ 98 := by unfold bothK; omega
theorem bothK_eq (e o : Int) : both e o = e + 100 * (bothK e o : Int) := by unfold both bothK; omega
theorem bothK_first {e o : Int} {k : Nat} (hk : k < bothK e o) : (e + 100 * (k : Int)) % 99 ≠ o := by unfold bothK at hk; omega
def dpB (o1 : Bool) (a1 b1 : Int) (o2 : Bool) (a2 b2 : Int) : Bool := rB o1 a1 b1 && rB o2 a2 b2 && !o1 && o2
def dpV (o1 : Bool) (a1 b1 : Int) (o2 : Bool) (a2 b2 e o : Int) : Int := if dpB o1 a1 b1 o2 a2 b2 then both e o else 0

/- The first number with a remainder, from a number on. -/
def first (lo r s : Int) : Int := lo + (r - lo % s + s) % s
section
variable {lo r s n : Int} (hs : s = 99 ∨ s = 100) (hr : 0 ≤ r ∧ r < s)
include hs hr
theorem first_ge : lo ≤ first lo r s ∧ first lo r s < lo + s := by rcases hs with rfl | rfl <;> unfold first <;> omega
theorem first_mod : first lo r s % s = r := by rcases hs with rfl | rfl <;> unfold first <;> omega
theorem first_le (hn : lo ≤ n) (hm : n % s = r) : first lo r s ≤ n := by rcases hs with rfl | rfl <;> unfold first <;> omega
theorem first_zero : first 0 r s = r := by rcases hs with rfl | rfl <;> unfold first <;> omega
end

/- The least difference. -/
def ld (n r s : Int) : Int := if ¬ (0 ≤ first n r s - s ∧ first n r s - s ≤ 9899) then first n r s - n else if ¬ (0 ≤ first n r s ∧ first n r s ≤ 9899) then n - (first n r s - s) else min (first n r s - n) (n - (first n r s - s))
section
variable {n r s m d : Int} (hs : s = 99 ∨ s = 100) (hr : 0 ≤ r ∧ r < s) (hn : 0 ≤ n ∧ n ≤ 9899)
include hs hr hn
theorem ld_in : 0 ≤ ld n r s ∧ ld n r s ≤ 9899 := by
  have h1 := first_ge (lo := n) hs hr
  unfold ld
  generalize first n r s = f at *
  split
  · omega
  · split <;> omega
theorem ld_le (hm : 0 ≤ m ∧ m ≤ 9899) (he : m % s = r) : ld n r s ≤ m - n ∨ ld n r s ≤ n - m := by
  have h1 := first_ge (lo := n) hs hr
  have h2 := first_mod (lo := n) hs hr
  unfold ld
  generalize first n r s = f at *
  rcases hs with rfl | rfl
  all_goals
    split
    · omega
    · split <;> omega
theorem ld_at : ∃ m, (0 ≤ m ∧ m ≤ 9899) ∧ m % s = r ∧ (ld n r s = m - n ∨ ld n r s = n - m) := by
  have h1 := first_ge (lo := n) hs hr
  have h2 := first_mod (lo := n) hs hr
  unfold ld
  generalize first n r s = f at *
  have h3 : (f - s) % s = r := by rcases hs with rfl | rfl <;> omega
  split
  · exact ⟨f, by omega, h2, by omega⟩
  · split
    · exact ⟨f - s, by omega, h3, by omega⟩
    · rcases Int.le_total (f - n) (n - (f - s)) with h | h
      · exact ⟨f, by omega, h2, by omega⟩
      · exact ⟨f - s, by omega, h3, by omega⟩
/-- The smallest number with the remainder that is near by d, where one is. -/
theorem within_in (hd : ld n r s ≤ d) : 0 ≤ first (max (n - d) 0) r s ∧ first (max (n - d) 0) r s ≤ 9899 ∧ first (max (n - d) 0) r s - n ≤ d ∧ n - first (max (n - d) 0) r s ≤ d ∧ first (max (n - d) 0) r s % s = r := by
  obtain ⟨m, hm, he, hx⟩ := ld_at hs hr hn
  have h0 := ld_in hs hr hn
  have h1 := first_ge (lo := max (n - d) 0) hs hr
  have h2 := first_mod (lo := max (n - d) 0) hs hr
  have h3 := first_le (lo := max (n - d) 0) (n := m) hs hr (by omega) he
  omega
omit hn in
theorem within_first (hm : 0 ≤ m) (he : m % s = r) (hl : m < first (max (n - d) 0) r s) : d < n - m := by
  have h3 := fun h => first_le (lo := max (n - d) 0) (n := m) hs hr h he
  rcases Int.lt_or_le m (max (n - d) 0) with h | h
  · omega
  · have := h3 h; omega
theorem ld_zero : ld n (n % s) s = 0 := by
  have h0 := ld_in (n := n) (r := n % s) hs (by rcases hs with rfl | rfl <;> omega) hn
  have := ld_le (n := n) (r := n % s) (m := n) hs (by rcases hs with rfl | rfl <;> omega) hn hn rfl
  omega
end

/- DecodeNear. -/
def dnB (o : Bool) (a b x y : Int) : Bool := rB o a b && pB x y
def aw (o : Bool) (a b x y : Int) : Int := max (ld x a (sz o)) (ld y b (sz o))
def dnX (o : Bool) (a b x y : Int) : Int := if dnB o a b x y then first (max (x - aw o a b x y) 0) a (sz o) else 0
def dnY (o : Bool) (a b x y : Int) : Int := if dnB o a b x y then first (max (y - aw o a b x y) 0) b (sz o) else 0

/- The nearest number, as it is looked for from below. -/
def bestT (r s p : Int) : Nat → Int
  | 0 => r
  | k + 1 => if (r + k * s - p).natAbs < (bestT r s p k - p).natAbs then r + k * s else bestT r s p k
theorem best_yes {r s p : Int} {k : Nat} (h : (r + k * s - p).natAbs < (bestT r s p k - p).natAbs) : bestT r s p (k + 1) = r + k * s := by simp only [bestT, if_pos h]
theorem best_no {r s p : Int} {k : Nat} (h : ¬ (r + k * s - p).natAbs < (bestT r s p k - p).natAbs) : bestT r s p (k + 1) = bestT r s p k := by simp only [bestT, if_neg h]
theorem best_le (r s p : Int) (k : Nat) : ∀ i : Nat, i < k → (bestT r s p k - p).natAbs ≤ (r + i * s - p).natAbs := by
  induction k with
  | zero => intro i h; omega
  | succ k ih =>
    intro i hi
    by_cases h : (r + k * s - p).natAbs < (bestT r s p k - p).natAbs
    · rw [best_yes h]
      rcases Nat.lt_or_ge i k with h2 | h2
      · have := ih i h2; omega
      · obtain rfl : i = k := by omega
        exact Nat.le_refl _
    · rw [best_no h]
      rcases Nat.lt_or_ge i k with h2 | h2
      · exact ih i h2
      · obtain rfl : i = k := by omega
        omega
theorem best_is (r s p : Int) (k : Nat) : ∃ j : Nat, (j = 0 ∨ j < k) ∧ bestT r s p k = r + j * s := by
  induction k with
  | zero => exact ⟨0, .inl rfl, by simp [bestT]⟩
  | succ k ih =>
    by_cases h : (r + k * s - p).natAbs < (bestT r s p k - p).natAbs
    · exact ⟨k, .inr (by omega), best_yes h⟩
    · obtain ⟨j, hj, e⟩ := ih
      exact ⟨j, by omega, (best_no h).trans e⟩

/- Lists of numbers with a remainder. -/
/-- Those of the first k numbers r, r + s, .. that are at least lo. -/
def up (r s lo : Int) : Nat → List Int
  | 0 => []
  | k + 1 => if lo ≤ r + k * s then up r s lo k ++ [r + k * s] else up r s lo k
theorem up_yes {r s lo : Int} {k : Nat} (h : lo ≤ r + k * s) : up r s lo (k + 1) = up r s lo k ++ [r + k * s] := by simp only [up, if_pos h]
theorem up_no {r s lo : Int} {k : Nat} (h : ¬ lo ≤ r + k * s) : up r s lo (k + 1) = up r s lo k := by simp only [up, if_neg h]
theorem up_length (r s lo : Int) (k : Nat) : (up r s lo k).length ≤ k := by
  induction k with
  | zero => exact Nat.le_refl _
  | succ k ih =>
    simp only [up]
    split
    · simp; omega
    · omega
theorem up_step (r s lo : Int) (k : Nat) : (up r s lo k).length ≤ (up r s lo (k + 1)).length := by
  simp only [up]
  split
  · simp
  · exact Nat.le_refl _
theorem up_mono (r s lo : Int) {k m : Nat} (h : k ≤ m) : (up r s lo k).length ≤ (up r s lo m).length := by
  induction m with
  | zero => obtain rfl : k = 0 := by omega
            exact Nat.le_refl _
  | succ m ih =>
    rcases Nat.lt_or_ge m k with h1 | h1
    · obtain rfl : k = m + 1 := by omega
      exact Nat.le_refl _
    · exact Nat.le_trans (ih h1) (up_step r s lo m)
/-- How many of the numbers r, r + s, .. are at most hi. -/
def cnt (r s hi : Int) : Nat := ((hi - r + s) / s).toNat
section
variable {r s lo hi : Int} {k : Nat} (hs : s = 99 ∨ s = 100) (hr : 0 ≤ r ∧ r < s)
include hs hr
theorem cnt_lt : r + k * s ≤ hi ↔ k < cnt r s hi := by rcases hs with rfl | rfl <;> unfold cnt <;> omega
theorem cnt_le (h2 : hi ≤ 9899) : cnt r s hi ≤ 100 := by rcases hs with rfl | rfl <;> unfold cnt <;> omega
theorem best_in (p : Int) (h : k ≤ cnt r s 9899) : 0 ≤ bestT r s p k ∧ bestT r s p k ≤ 9899 ∧ bestT r s p k % s = r := by
  obtain ⟨j, hj, e⟩ := best_is r s p k
  rw [e]
  rcases hj with rfl | hj
  · rcases hs with rfl | rfl <;> simp <;> omega
  · have := (cnt_lt (hi := 9899) (k := j) hs hr).mpr (by omega)
    rcases hs with rfl | rfl <;> omega
theorem best_abs {p : Int} (hp : 0 ≤ p ∧ p ≤ 9899) : ((bestT r s p (cnt r s 9899) - p).natAbs : Int) = ld p r s := by
  obtain ⟨b0, b1, b2⟩ := best_in (k := cnt r s 9899) hs hr p (Nat.le_refl _)
  have h1 := ld_le hs hr hp ⟨b0, b1⟩ b2
  obtain ⟨m, hm, he, hx⟩ := ld_at hs hr hp
  have h0 := ld_in hs hr hp
  obtain ⟨i, hi⟩ : ∃ i : Nat, m = r + i * s := by
    rcases hs with rfl | rfl
    · exact ⟨((m - r) / 99).toNat, by omega⟩
    · exact ⟨((m - r) / 100).toNat, by omega⟩
  have h2 := best_le r s p (cnt r s 9899) i ((cnt_lt hs hr).mp (by omega))
  rw [← hi] at h2
  generalize bestT r s p (cnt r s 9899) = b at *
  omega
/-- The first number is r + k s with this k; none before it is great enough. -/
theorem first_k (h : 0 ≤ lo) : ∃ k : Nat, first lo r s = r + k * s ∧ (∀ j : Nat, j ≤ k → up r s lo j = []) ∧ ∀ j : Nat, k ≤ j → lo ≤ r + j * s := by
  have h1 := first_ge (lo := lo) hs hr
  have h2 := first_mod (lo := lo) hs hr
  obtain ⟨k, hk⟩ : ∃ k : Nat, first lo r s = r + k * s := by
    generalize first lo r s = f at *
    rcases hs with rfl | rfl
    · exact ⟨((f - r) / 99).toNat, by omega⟩
    · exact ⟨((f - r) / 100).toNat, by omega⟩
  refine ⟨k, hk, ?_, fun j hj => ?_⟩
  · have : ∀ j : Nat, j ≤ k → up r s lo j = [] := by
      intro j
      induction j with
      | zero => intro _; rfl
      | succ j ih =>
        intro hj
        rw [up_no, ih (by omega)]
        rcases hs with rfl | rfl <;> omega
    exact this
  · rcases hs with rfl | rfl <;> omega
theorem up_mem {x : Int} (h : x ∈ up r s lo k) : lo ≤ x ∧ x % s = r ∧ 0 ≤ x ∧ ∃ j : Nat, j < k ∧ x = r + j * s := by
  induction k with
  | zero => simp [up] at h
  | succ k ih =>
    have low : x ∈ up r s lo k → lo ≤ x ∧ x % s = r ∧ 0 ≤ x ∧ ∃ j : Nat, j < k + 1 ∧ x = r + j * s := fun h => by
      obtain ⟨h1, h2, h3, j, hj, e⟩ := ih h
      exact ⟨h1, h2, h3, j, by omega, e⟩
    by_cases hl : lo ≤ r + k * s
    · rw [up_yes hl] at h
      rcases List.mem_append.mp h with h | h
      · exact low h
      · obtain rfl := List.mem_singleton.mp h
        refine ⟨hl, ?_, ?_, k, by omega, rfl⟩
        · rcases hs with rfl | rfl <;> omega
        · rcases hs with rfl | rfl <;> omega
    · rw [up_no hl] at h
      exact low h
end

/- DecodeMoved. -/
/-- Those of the first k numbers r, r + s, .. that are near by d to one with the remainder r0. -/
def mvT (r0 s0 r s d : Int) : Nat → List Int
  | 0 => []
  | k + 1 => if ld (r + k * s) r0 s0 ≤ d then mvT r0 s0 r s d k ++ [r + k * s] else mvT r0 s0 r s d k
theorem mvT_yes {r0 s0 r s d : Int} {k : Nat} (h : ld (r + k * s) r0 s0 ≤ d) : mvT r0 s0 r s d (k + 1) = mvT r0 s0 r s d k ++ [r + k * s] := by simp only [mvT, if_pos h]
theorem mvT_no {r0 s0 r s d : Int} {k : Nat} (h : ¬ ld (r + k * s) r0 s0 ≤ d) : mvT r0 s0 r s d (k + 1) = mvT r0 s0 r s d k := by simp only [mvT, if_neg h]
theorem mvT_length (r0 s0 r s d : Int) (k : Nat) : (mvT r0 s0 r s d k).length ≤ k := by
  induction k with
  | zero => exact Nat.le_refl _
  | succ k ih =>
    simp only [mvT]
    split
    · simp; omega
    · omega
theorem mvT_filter {r0 s0 r s d : Int} (hr : 0 ≤ r) (hs : 0 ≤ s) (k : Nat) : (up r s 0 k).filter (fun n => decide (ld n r0 s0 ≤ d)) = mvT r0 s0 r s d k := by
  induction k with
  | zero => rfl
  | succ k ih =>
    have h0 : 0 ≤ r + k * s := Int.add_nonneg hr (Int.mul_nonneg (Int.natCast_nonneg _) hs)
    rw [up_yes h0, List.filter_append, ih]
    by_cases h : ld (r + k * s) r0 s0 ≤ d
    · rw [mvT_yes h, List.filter_cons_of_pos (by simpa using h)]; rfl
    · rw [mvT_no h, List.filter_cons_of_neg (by simpa using h)]; simp
def mv (r0 s0 r s d : Int) : List Int := mvT r0 s0 r s d (cnt r s 9899)
theorem mv_range {r0 s0 r s d : Int} (hs : s = 99 ∨ s = 100) (hr : 0 ≤ r ∧ r < s) {x : Int} (h : x ∈ mv r0 s0 r s d) : (0 ≤ x ∧ x ≤ 9899) ∧ x % s = r ∧ ld x r0 s0 ≤ d := by
  unfold mv at h
  rw [← mvT_filter hr.1 (by omega), List.mem_filter] at h
  obtain ⟨h1, h2⟩ := h
  obtain ⟨_, h3, h4, j, hj, e⟩ := up_mem hs hr h1
  have := (cnt_lt (hi := 9899) (k := j) hs hr).mpr hj
  exact ⟨⟨h4, by rw [e]; exact this⟩, h3, of_decide_eq_true h2⟩
theorem up_range {r s lo hi : Int} (hs : s = 99 ∨ s = 100) (hr : 0 ≤ r ∧ r < s) {x : Int} (h : x ∈ up r s lo (cnt r s hi)) : (0 ≤ x ∧ x ≤ hi) ∧ x % s = r ∧ lo ≤ x := by
  obtain ⟨h2, h3, h4, j, hj, e⟩ := up_mem hs hr h
  have := (cnt_lt (hi := hi) (k := j) hs hr).mpr hj
  exact ⟨⟨h4, by rw [e]; exact this⟩, h3, h2⟩
/-- Whether one of the first i numbers n - d, n - d + 1, .. has the remainder. -/
def nrT (r s n d : Int) : Nat → Bool
  | 0 => false
  | i + 1 => nrT r s n d i || (isIn (n + (-d + i)) 0 9899 && decide ((n + (-d + i)) % s = r))
theorem nrT_iff (r s n d : Int) (i : Nat) : nrT r s n d i = true ↔ ∃ m : Int, (-d ≤ m ∧ m < -d + i) ∧ (0 ≤ n + m ∧ n + m ≤ 9899) ∧ (n + m) % s = r := by
  induction i with
  | zero => simp only [nrT]; exact ⟨fun h => (by cases h), fun ⟨m, h, _⟩ => by omega⟩
  | succ i ih =>
    simp only [nrT, Bool.or_eq_true, Bool.and_eq_true, ih, isIn, decide_eq_true_eq]
    constructor
    · rintro (⟨m, h1, h2, h3⟩ | ⟨h2, h3⟩)
      · exact ⟨m, by omega, h2, h3⟩
      · exact ⟨-d + i, by omega, h2, h3⟩
    · rintro ⟨m, h1, h2, h3⟩
      rcases Int.lt_or_le m (-d + i) with h | h
      · exact .inl ⟨m, ⟨h1.1, h⟩, h2, h3⟩
      · obtain rfl : m = -d + i := by omega
        exact .inr ⟨h2, h3⟩
theorem nrT_all {r s n d : Int} {i : Nat} (hs : s = 99 ∨ s = 100) (hr : 0 ≤ r ∧ r < s) (hn : 0 ≤ n ∧ n ≤ 9899) (hi : (i : Int) = 2 * d + 1) : nrT r s n d i = decide (ld n r s ≤ d) := by
  rw [Bool.eq_iff_iff, nrT_iff, decide_eq_true_eq]
  constructor
  · rintro ⟨m, h1, h2, h3⟩
    have := ld_le hs hr hn h2 h3
    omega
  · intro h
    obtain ⟨m, hm, he, hx⟩ := ld_at hs hr hn
    have h0 := ld_in hs hr hn
    exact ⟨m - n, by omega, by omega, by rw [show n + (m - n) = m by omega]; exact he⟩
def row (y : Int) (xs : List Int) : List Int := xs.flatMap fun x => [x, y]
def places (xs ys : List Int) : List Int := ys.flatMap fun y => row y xs
theorem row_nil (y : Int) : row y [] = [] := rfl
theorem row_add (y x : Int) (xs : List Int) : row y (xs ++ [x]) = row y xs ++ [x, y] := by unfold row; rw [List.flatMap_append]; rfl
theorem row_length (y : Int) (xs : List Int) : (row y xs).length = xs.length * 2 := by
  induction xs with
  | nil => rfl
  | cons x xs ih =>
    have : row y (x :: xs) = [x, y] ++ row y xs := rfl
    rw [this, List.length_append, ih]; simp; omega
theorem places_nil (xs : List Int) : places xs [] = [] := rfl
theorem places_add (xs ys : List Int) (y : Int) : places xs (ys ++ [y]) = places xs ys ++ row y xs := by unfold places; rw [List.flatMap_append]; simp
theorem places_length (xs ys : List Int) : (places xs ys).length = xs.length * ys.length * 2 := by
  induction ys with
  | nil => simp [places]
  | cons y ys ih =>
    have : places xs (y :: ys) = row y xs ++ places xs ys := rfl
    rw [this, List.length_append, ih, row_length, List.length_cons, Nat.mul_add, Nat.add_mul]; omega
theorem places_take {xs ys : List Int} {j : Nat} {y : Int} (h : ys[j]? = some y) : places xs (ys.take (j + 1)) = places xs (ys.take j) ++ row y xs := by
  obtain ⟨hl, rfl⟩ := List.getElem?_eq_some_iff.mp h
  rw [List.take_succ_eq_append_getElem hl, places_add]
theorem row_take {xs : List Int} {k : Nat} {x y : Int} (h : xs[k]? = some x) : row y (xs.take (k + 1)) = row y (xs.take k) ++ [x, y] := by
  obtain ⟨hl, rfl⟩ := List.getElem?_eq_some_iff.mp h
  rw [List.take_succ_eq_append_getElem hl, row_add]
/-- Those of a list that are near by d to a number with the remainder r. -/
def nears (r s d : Int) (xs : List Int) : List Int := xs.filter fun n => decide (ld n r s ≤ d)
theorem nears_yes {r s d x : Int} {xs : List Int} {k : Nat} (h : xs[k]? = some x) (hd : ld x r s ≤ d) : nears r s d (xs.take (k + 1)) = nears r s d (xs.take k) ++ [x] := by
  obtain ⟨hl, rfl⟩ := List.getElem?_eq_some_iff.mp h
  unfold nears
  rw [List.take_succ_eq_append_getElem hl, List.filter_append, List.filter_cons_of_pos (by simpa using hd)]; rfl
theorem nears_no {r s d x : Int} {xs : List Int} {k : Nat} (h : xs[k]? = some x) (hd : ¬ ld x r s ≤ d) : nears r s d (xs.take (k + 1)) = nears r s d (xs.take k) := by
  obtain ⟨hl, rfl⟩ := List.getElem?_eq_some_iff.mp h
  unfold nears
  rw [List.take_succ_eq_append_getElem hl, List.filter_append, List.filter_cons_of_neg (by simpa using hd)]; simp
theorem nears_length (r s d : Int) (xs : List Int) : (nears r s d xs).length ≤ xs.length := List.length_filter_le _ _
theorem nears_mv {r0 s0 r s d : Int} (hr : 0 ≤ r) (hs : 0 ≤ s) : nears r0 s0 d (up r s 0 (cnt r s 9899)) = mv r0 s0 r s d := mvT_filter hr hs _
def dmB (o1 : Bool) (a1 b1 : Int) (o2 : Bool) (a2 b2 d : Int) : Bool := rB o1 a1 b1 && rB o2 a2 b2 && (o1 != o2) && isIn d 0 3
def dmX (o1 : Bool) (a1 : Int) (o2 : Bool) (a2 d : Int) : List Int := mv a1 (sz o1) a2 (sz o2) d
def dmV (o1 : Bool) (a1 b1 : Int) (o2 : Bool) (a2 b2 d : Int) : List Int := if dmB o1 a1 b1 o2 a2 b2 d then places (dmX o1 a1 o2 a2 d) (dmX o1 b1 o2 b2 d) else []
def dmN (o1 : Bool) (a1 b1 : Int) (o2 : Bool) (a2 b2 d : Int) : Nat := if dmB o1 a1 b1 o2 a2 b2 d then (dmX o1 a1 o2 a2 d).length * (dmX o1 b1 o2 b2 d).length else 0
theorem dm_length (o1 : Bool) (a1 b1 : Int) (o2 : Bool) (a2 b2 d : Int) : (dmV o1 a1 b1 o2 a2 b2 d).length = dmN o1 a1 b1 o2 a2 b2 d * 2 := by
  unfold dmV dmN
  split
  · exact places_length _ _
  · rfl

/- PackReport, UnpackReport. -/
def pk (o : Bool) (a b : Int) : Int := 128 * a + b + (if o then 16384 else 0)
def pkV (o : Bool) (a b : Int) : Int := if rB o a b then pk o a b else 0
def ukB (n : Int) : Bool := isIn n 0 32767 && rB (decide (16384 ≤ n)) (n % 16384 / 128) (n % 128)
def ukO (n : Int) : Bool := ukB n && decide (16384 ≤ n)
def ukA (n : Int) : Int := if ukB n then n % 16384 / 128 else 0
def ukV (n : Int) : Int := if ukB n then n % 128 else 0

/- PlacesWith. -/
def pwX (o : Bool) (a lo hi : Int) : List Int := up a (sz o) lo (cnt a (sz o) hi)
def pw0 (o : Bool) (a b lx ly hx hy : Int) : Bool := rB o a b && pB lx ly && pB hx hy && decide (lx ≤ hx) && decide (ly ≤ hy)
def pwB (o : Bool) (a b lx ly hx hy : Int) : Bool := pw0 o a b lx ly hx hy && decide ((pwX o a lx hx).length * (pwX o b ly hy).length ≤ 400)
def pwV (o : Bool) (a b lx ly hx hy : Int) : List Int := if pwB o a b lx ly hx hy then places (pwX o a lx hx) (pwX o b ly hy) else []
def pwN (o : Bool) (a b lx ly hx hy : Int) : Nat := if pwB o a b lx ly hx hy then (pwX o a lx hx).length * (pwX o b ly hy).length else 0
theorem pw_length (o : Bool) (a b lx ly hx hy : Int) : (pwV o a b lx ly hx hy).length = pwN o a b lx ly hx hy * 2 := by
  unfold pwV pwN
  split
  · exact places_length _ _
  · rfl
end Go.Proofs.Ytkndfklbonkbiaa.pos
