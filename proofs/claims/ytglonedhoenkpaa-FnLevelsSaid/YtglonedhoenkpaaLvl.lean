/- Flight levels and clearances in plain mathematics (no program in it): a Cleared is five numbers (Address, Lower, Upper, From, To); a list is a flat list of numbers. -/
import Derived.Test.YtglonedhoenkpaaLst
import Derived.Test.YtglonedhoenkpaaPutQ
import Derived.Test.YtglonedhoenkpaaVel
import Derived.Test.YtglonedhoenkpaaIn
namespace Go.Proofs.Ytglonedhoenkpaa.lvl
open Go.Proofs.Ytglonedhoenkpaa.in_ Go.Proofs.Ytglonedhoenkpaa.lst Go.Proofs.Ytglonedhoenkpaa.putq Go.Proofs.Ytglonedhoenkpaa.vel

theorem isIn_yes {x a b : Int} (h : isIn x a b = true) : a ≤ x ∧ x ≤ b := of_decide_eq_true h
theorem isIn_of {x a b : Int} (h1 : a ≤ x) (h2 : x ≤ b) : isIn x a b = true := decide_eq_true ⟨h1, h2⟩
theorem isIn_no {x a b : Int} (h : ¬ (a ≤ x ∧ x ≤ b)) : isIn x a b = false := decide_eq_false h
/-- A flight level. -/
def lvB (l : Int) : Bool := isIn l 10 410 && decide (l % 10 = 0)
theorem lvB_yes {l : Int} (h : lvB l = true) : 10 ≤ l ∧ l ≤ 410 ∧ l % 10 = 0 := by
  unfold lvB at h
  rw [Bool.and_eq_true] at h
  have h1 := isIn_yes h.1
  exact ⟨h1.1, h1.2, of_decide_eq_true h.2⟩
theorem lvB_of {l : Int} (h1 : 10 ≤ l) (h2 : l ≤ 410) (h3 : l % 10 = 0) : lvB l = true := by unfold lvB; rw [isIn_of h1 h2, decide_eq_true h3]; rfl
/-- Minutes from..to-1 of a day. -/
def mnB (f t : Int) : Bool := decide (0 ≤ f) && (decide (f < t) && decide (t ≤ 1440))
theorem mnB_yes {f t : Int} (h : mnB f t = true) : 0 ≤ f ∧ f < t ∧ t ≤ 1440 := by
  unfold mnB at h
  rw [Bool.and_eq_true, Bool.and_eq_true] at h
  exact ⟨of_decide_eq_true h.1, of_decide_eq_true h.2.1, of_decide_eq_true h.2.2⟩
theorem mnB_of {f t : Int} (h1 : 0 ≤ f) (h2 : f < t) (h3 : t ≤ 1440) : mnB f t = true := by unfold mnB; rw [decide_eq_true h1, decide_eq_true h2, decide_eq_true h3]; rfl
/-- One Cleared is valid. -/
def clB (a l u f t : Int) : Bool := isIn a 1 65535 && (lvB l && (lvB u && (decide (l ≤ u) && mnB f t)))
theorem clB_yes {a l u f t : Int} (h : clB a l u f t = true) : (1 ≤ a ∧ a ≤ 65535) ∧ lvB l = true ∧ lvB u = true ∧ l ≤ u ∧ mnB f t = true := by
  unfold clB at h
  rw [Bool.and_eq_true, Bool.and_eq_true, Bool.and_eq_true, Bool.and_eq_true] at h
  exact ⟨isIn_yes h.1, h.2.1, h.2.2.1, of_decide_eq_true h.2.2.2.1, h.2.2.2.2⟩
theorem clB_of {a l u f t : Int} (h1 : 1 ≤ a ∧ a ≤ 65535) (h2 : lvB l = true) (h3 : lvB u = true) (h4 : l ≤ u) (h5 : mnB f t = true) : clB a l u f t = true := by
  unfold clB; rw [isIn_of h1.1 h1.2, h2, h3, decide_eq_true h4, h5]; rfl
def clK (zs : List Int) (k : Nat) : Bool := clB (fld 5 zs k 0) (fld 5 zs k 1) (fld 5 zs k 2) (fld 5 zs k 3) (fld 5 zs k 4)
/-- Two of them conflict. -/
def cfB (a l u f t b m v g s : Int) : Bool := !decide (a = b) && (decide (f < s) && (decide (g < t) && (decide (l ≤ v) && decide (m ≤ u))))
def cfK (zs : List Int) (k : Nat) (a l u f t : Int) : Bool := cfB (fld 5 zs k 0) (fld 5 zs k 1) (fld 5 zs k 2) (fld 5 zs k 3) (fld 5 zs k 4) a l u f t
/-- One may stand before another one. -/
def befB (a t b g : Int) : Bool := decide (a < b) || (decide (a = b) && decide (t ≤ g))
theorem befB_iff {a t b g : Int} : befB a t b g = true ↔ a < b ∨ (a = b ∧ t ≤ g) := by
  unfold befB
  simp only [Bool.or_eq_true, Bool.and_eq_true, decide_eq_true_eq]
/-- No one of the first k conflicts. -/
def noT (zs : List Int) (a l u f t : Int) : Nat → Bool
  | 0 => true
  | k + 1 => noT zs a l u f t k && !cfK zs k a l u f t
def noK (zs : List Int) (k : Nat) : Bool := noT zs (fld 5 zs k 0) (fld 5 zs k 1) (fld 5 zs k 2) (fld 5 zs k 3) (fld 5 zs k 4) k
def befK (zs : List Int) (k : Nat) : Bool := decide (k = 0) || befB (fld 5 zs (k - 1) 0) (fld 5 zs (k - 1) 4) (fld 5 zs k 0) (fld 5 zs k 3)
/-- The first k are a list of Cleareds. -/
def okT (zs : List Int) : Nat → Bool
  | 0 => true
  | k + 1 => okT zs k && (clK zs k && (befK zs k && noK zs k))
def alT (zs : List Int) : Nat → Bool
  | 0 => true
  | k + 1 => alT zs k && clK zs k
def prT (zs : List Int) : Nat → Bool
  | 0 => true
  | k + 1 => prT zs k && (befK zs k && noK zs k)
def cvB (zs : List Int) (n : Nat) : Bool := okT zs n && decide (n ≤ 10)

theorem noT_all {zs : List Int} {a l u f t : Int} {n : Nat} (h : noT zs a l u f t n = true) : ∀ k, k < n → cfK zs k a l u f t = false := by
  induction n with
  | zero => intro k hk; omega
  | succ m ih =>
    intro k hk
    rw [noT, Bool.and_eq_true] at h
    rcases Nat.lt_or_ge k m with h1 | h1
    · exact ih h.1 k h1
    · obtain rfl : k = m := by omega
      simpa using h.2
theorem noT_of {zs : List Int} {a l u f t : Int} {n : Nat} (h : ∀ k, k < n → cfK zs k a l u f t = false) : noT zs a l u f t n = true := by
  induction n with
  | zero => rfl
  | succ m ih => rw [noT, ih (fun k hk => h k (by omega)), h m (by omega)]; rfl
theorem noT_cut {zs : List Int} {a l u f t : Int} {n k : Nat} (h : noT zs a l u f t k = false) (hk : k ≤ n) : noT zs a l u f t n = false := by
  cases hq : noT zs a l u f t n
  · rfl
  · have := noT_of (fun j hj => noT_all hq j (by omega)) (n := k)
    rw [h] at this; cases this
theorem befK_iff {zs : List Int} {k : Nat} : befK zs k = true ↔ (0 < k → befB (fld 5 zs (k - 1) 0) (fld 5 zs (k - 1) 4) (fld 5 zs k 0) (fld 5 zs k 3) = true) := by
  unfold befK
  rw [Bool.or_eq_true, decide_eq_true_eq]
  constructor
  · rintro (h | h) h0
    · omega
    · exact h
  · intro h
    rcases Nat.eq_zero_or_pos k with h0 | h0
    · exact .inl h0
    · exact .inr (h h0)
theorem okT_all {zs : List Int} {n : Nat} (h : okT zs n = true) : ∀ k, k < n → clK zs k = true ∧ befK zs k = true ∧ noK zs k = true := by
  induction n with
  | zero => intro k hk; omega
  | succ m ih =>
    intro k hk
    rw [okT, Bool.and_eq_true, Bool.and_eq_true, Bool.and_eq_true] at h
    rcases Nat.lt_or_ge k m with h1 | h1
    · exact ih h.1 k h1
    · obtain rfl : k = m := by omega
      exact h.2
theorem okT_of {zs : List Int} {n : Nat} (h : ∀ k, k < n → clK zs k = true ∧ befK zs k = true ∧ noK zs k = true) : okT zs n = true := by
  induction n with
  | zero => rfl
  | succ m ih => rw [okT, ih (fun k hk => h k (by omega)), (h m (by omega)).1, (h m (by omega)).2.1, (h m (by omega)).2.2]; rfl
theorem okT_cut {zs : List Int} {n k : Nat} (h : okT zs k = false) (hk : k ≤ n) : okT zs n = false := by
  cases hq : okT zs n
  · rfl
  · have := okT_of (fun j hj => okT_all hq j (by omega)) (n := k)
    rw [h] at this; cases this
theorem alT_all {zs : List Int} {n : Nat} (h : alT zs n = true) : ∀ k, k < n → clK zs k = true := by
  induction n with
  | zero => intro k hk; omega
  | succ m ih =>
    intro k hk
    rw [alT, Bool.and_eq_true] at h
    rcases Nat.lt_or_ge k m with h1 | h1
    · exact ih h.1 k h1
    · obtain rfl : k = m := by omega
      exact h.2
theorem alT_of {zs : List Int} {n : Nat} (h : ∀ k, k < n → clK zs k = true) : alT zs n = true := by
  induction n with
  | zero => rfl
  | succ m ih => rw [alT, ih (fun k hk => h k (by omega)), h m (by omega)]; rfl
theorem alT_cut {zs : List Int} {n k : Nat} (h : alT zs k = false) (hk : k ≤ n) : alT zs n = false := by
  cases hq : alT zs n
  · rfl
  · have := alT_of (fun j hj => alT_all hq j (by omega)) (n := k)
    rw [h] at this; cases this
theorem prT_all {zs : List Int} {n : Nat} (h : prT zs n = true) : ∀ k, k < n → befK zs k = true ∧ noK zs k = true := by
  induction n with
  | zero => intro k hk; omega
  | succ m ih =>
    intro k hk
    rw [prT, Bool.and_eq_true, Bool.and_eq_true] at h
    rcases Nat.lt_or_ge k m with h1 | h1
    · exact ih h.1 k h1
    · obtain rfl : k = m := by omega
      exact h.2
theorem prT_of {zs : List Int} {n : Nat} (h : ∀ k, k < n → befK zs k = true ∧ noK zs k = true) : prT zs n = true := by
  induction n with
  | zero => rfl
  | succ m ih => rw [prT, ih (fun k hk => h k (by omega)), (h m (by omega)).1, (h m (by omega)).2]; rfl
theorem prT_cut {zs : List Int} {n k : Nat} (h : prT zs k = false) (hk : k ≤ n) : prT zs n = false := by
  cases hq : prT zs n
  · rfl
  · have := prT_of (fun j hj => prT_all hq j (by omega)) (n := k)
    rw [h] at this; cases this
theorem ok_is (zs : List Int) (n : Nat) : okT zs n = (alT zs n && prT zs n) := by
  rw [Bool.eq_iff_iff, Bool.and_eq_true]
  exact ⟨fun h => ⟨alT_of fun k hk => (okT_all h k hk).1, prT_of fun k hk => (okT_all h k hk).2⟩, fun h => okT_of fun k hk => ⟨alT_all h.1 k hk, prT_all h.2 k hk⟩⟩
theorem cvB_yes {zs : List Int} {n : Nat} (h : cvB zs n = true) : okT zs n = true ∧ n ≤ 10 := by
  unfold cvB at h
  rw [Bool.and_eq_true] at h
  exact ⟨h.1, of_decide_eq_true h.2⟩
theorem cvB_of {zs : List Int} {n : Nat} (h : okT zs n = true) (hn : n ≤ 10) : cvB zs n = true := by unfold cvB; rw [h, decide_eq_true hn]; rfl
theorem cvB_no {zs : List Int} {n : Nat} (h : okT zs n = false) : cvB zs n = false := by unfold cvB; rw [h]; rfl
theorem cvB_len {zs : List Int} {n : Nat} (h : 10 < n) : cvB zs n = false := by unfold cvB; rw [decide_eq_false (by omega), Bool.and_false]
theorem cv_al {zs : List Int} {n : Nat} (h : alT zs n = false) : cvB zs n = false := cvB_no (by rw [ok_is, h]; rfl)
theorem cv_pr {zs : List Int} {n : Nat} (h : prT zs n = false) : cvB zs n = false := cvB_no (by rw [ok_is, h, Bool.and_false])
theorem cv_of {zs : List Int} {n : Nat} (h1 : alT zs n = true) (h2 : prT zs n = true) (hn : n ≤ 10) : cvB zs n = true := cvB_of (by rw [ok_is, h1, h2]; rfl) hn
theorem cv_cl {zs : List Int} {n k : Nat} (h : cvB zs n = true) (hk : k < n) : clK zs k = true := (okT_all (cvB_yes h).1 k hk).1
theorem cv_parts {zs : List Int} {n k : Nat} (h : cvB zs n = true) (hk : k < n) : (1 ≤ fld 5 zs k 0 ∧ fld 5 zs k 0 ≤ 65535) ∧ (10 ≤ fld 5 zs k 1 ∧ fld 5 zs k 1 ≤ 410) ∧ (10 ≤ fld 5 zs k 2 ∧ fld 5 zs k 2 ≤ 410) ∧ fld 5 zs k 1 ≤ fld 5 zs k 2 ∧ 0 ≤ fld 5 zs k 3 ∧ fld 5 zs k 3 < fld 5 zs k 4 ∧ fld 5 zs k 4 ≤ 1440 := by
  obtain ⟨h1, h2, h3, h4, h5⟩ := clB_yes (cv_cl h hk)
  have h6 := mnB_yes h5
  have h7 := lvB_yes h2
  have h8 := lvB_yes h3
  exact ⟨h1, ⟨h7.1, h7.2.1⟩, ⟨h8.1, h8.2.1⟩, h4, h6⟩
/-- Each one stands before all later ones. -/
theorem cv_bef {zs : List Int} {n : Nat} (h : cvB zs n = true) : ∀ i k, i < k → k < n → befB (fld 5 zs i 0) (fld 5 zs i 4) (fld 5 zs k 0) (fld 5 zs k 3) = true := by
  intro i k hik hk
  induction k with
  | zero => omega
  | succ k ih =>
    have h2 := befK_iff.1 (okT_all (cvB_yes h).1 (k + 1) hk).2.1 (by omega)
    rw [Nat.add_sub_cancel] at h2
    rcases Nat.lt_or_ge i k with h1 | h1
    · have h3 := ih h1 (by omega)
      have h4 := cv_parts h (show k < n by omega)
      rw [befB_iff] at h2 h3 ⊢
      omega
    · obtain rfl : i = k := by omega
      exact h2
theorem cv_no {zs : List Int} {n i k : Nat} (h : cvB zs n = true) (hik : i < k) (hk : k < n) : cfB (fld 5 zs i 0) (fld 5 zs i 1) (fld 5 zs i 2) (fld 5 zs i 3) (fld 5 zs i 4) (fld 5 zs k 0) (fld 5 zs k 1) (fld 5 zs k 2) (fld 5 zs k 3) (fld 5 zs k 4) = false :=
  noT_all (okT_all (cvB_yes h).1 k hk).2.2 i hik
theorem cv_make {zs : List Int} {n : Nat} (hn : n ≤ 10) (h1 : ∀ k, k < n → clK zs k = true)
    (h2 : ∀ i k, i < k → k < n → befB (fld 5 zs i 0) (fld 5 zs i 4) (fld 5 zs k 0) (fld 5 zs k 3) = true)
    (h3 : ∀ i k, i < k → k < n → cfB (fld 5 zs i 0) (fld 5 zs i 1) (fld 5 zs i 2) (fld 5 zs i 3) (fld 5 zs i 4) (fld 5 zs k 0) (fld 5 zs k 1) (fld 5 zs k 2) (fld 5 zs k 3) (fld 5 zs k 4) = false) : cvB zs n = true :=
  cvB_of (okT_of fun k hk => ⟨h1 k hk, befK_iff.2 fun h0 => h2 (k - 1) k (by omega) hk, noT_of fun i hi => h3 i k hi hk⟩) hn

/- LevelConflicts. -/
/-- The Addresses of those of the first k that conflict. -/
def cfL (zs : List Int) (a l u f t : Int) : Nat → List Int
  | 0 => []
  | k + 1 => if cfK zs k a l u f t then cfL zs a l u f t k ++ [fld 5 zs k 0] else cfL zs a l u f t k
theorem cfL_yes {zs : List Int} {a l u f t : Int} {k : Nat} (h : cfK zs k a l u f t = true) : cfL zs a l u f t (k + 1) = cfL zs a l u f t k ++ [fld 5 zs k 0] := by rw [cfL, if_pos h]
theorem cfL_not {zs : List Int} {a l u f t : Int} {k : Nat} (h : cfK zs k a l u f t = false) : cfL zs a l u f t (k + 1) = cfL zs a l u f t k := by rw [cfL, if_neg (by rw [h]; decide)]
theorem cfL_length (zs : List Int) (a l u f t : Int) (k : Nat) : (cfL zs a l u f t k).length ≤ k := by
  induction k with
  | zero => exact Nat.le_refl _
  | succ k ih => rw [cfL]; split
                 · rw [List.length_append]; simp; omega
                 · omega
theorem cfL_no (zs : List Int) (a l u f t : Int) (k : Nat) : noT zs a l u f t k = decide ((cfL zs a l u f t k).length = 0) := by
  induction k with
  | zero => rfl
  | succ k ih =>
    rw [noT, cfL, ih]
    cases cfK zs k a l u f t
    · simp
    · simp
/-- .. each once. -/
def lcT (zs : List Int) (a l u f t : Int) : Nat → List Int
  | 0 => []
  | k + 1 => if cfK zs k a l u f t then put (lcT zs a l u f t k) (fld 5 zs k 0) else lcT zs a l u f t k
theorem lcT_yes {zs : List Int} {a l u f t : Int} {k : Nat} (h : cfK zs k a l u f t = true) : lcT zs a l u f t (k + 1) = put (lcT zs a l u f t k) (fld 5 zs k 0) := by rw [lcT, if_pos h]
theorem lcT_not {zs : List Int} {a l u f t : Int} {k : Nat} (h : cfK zs k a l u f t = false) : lcT zs a l u f t (k + 1) = lcT zs a l u f t k := by rw [lcT, if_neg (by rw [h]; decide)]
theorem lcT_length (zs : List Int) (a l u f t : Int) (k : Nat) : (lcT zs a l u f t k).length ≤ k := by
  induction k with
  | zero => exact Nat.le_refl _
  | succ k ih => rw [lcT]; split
                 · have := put_length (lcT zs a l u f t k) (fld 5 zs k 0); omega
                 · omega
theorem lcT_mem {zs : List Int} {a l u f t : Int} {k : Nat} {z : Int} : z ∈ lcT zs a l u f t k ↔ z ∈ cfL zs a l u f t k := by
  induction k with
  | zero => exact Iff.rfl
  | succ k ih =>
    cases h : cfK zs k a l u f t
    · rw [lcT_not h, cfL_not h, ih]
    · rw [lcT_yes h, cfL_yes h, put_ins, mem_ins, ih, List.mem_append, List.mem_singleton]
theorem lcT_asc (zs : List Int) (a l u f t : Int) (k : Nat) : (lcT zs a l u f t k).Pairwise (· < ·) := by
  induction k with
  | zero => exact List.Pairwise.nil
  | succ k ih =>
    cases h : cfK zs k a l u f t
    · rw [lcT_not h]; exact ih
    · rw [lcT_yes h, put_ins]; exact ins_asc ih
theorem lcT_nil {zs : List Int} {a l u f t : Int} {k : Nat} : ((lcT zs a l u f t k).length = 0) ↔ (noT zs a l u f t k = true) := by
  rw [cfL_no, decide_eq_true_eq, List.length_eq_zero_iff, List.length_eq_zero_iff]
  constructor
  · intro h
    rcases hc : cfL zs a l u f t k with _ | ⟨z, r⟩
    · rfl
    · have : z ∈ lcT zs a l u f t k := lcT_mem.2 (by rw [hc]; exact List.mem_cons_self)
      rw [h] at this; cases this
  · intro h
    rcases hc : lcT zs a l u f t k with _ | ⟨z, r⟩
    · rfl
    · have : z ∈ cfL zs a l u f t k := lcT_mem.1 (by rw [hc]; exact List.mem_cons_self)
      rw [h] at this; cases this
theorem cfL_asc {zs : List Int} {a l u f t : Int} {n : Nat} (h : cvB zs n = true) : ∀ k, k ≤ n → (cfL zs a l u f t k).Pairwise (· ≤ ·) ∧ ∀ z, z ∈ cfL zs a l u f t k → ∃ j, j < k ∧ z = fld 5 zs j 0 := by
  intro k
  induction k with
  | zero => intro _; exact ⟨List.Pairwise.nil, fun z hz => by cases hz⟩
  | succ k ih =>
    intro hk
    obtain ⟨i1, i2⟩ := ih (by omega)
    cases hq : cfK zs k a l u f t
    · rw [cfL_not hq]
      exact ⟨i1, fun z hz => by obtain ⟨j, hj, e⟩ := i2 z hz; exact ⟨j, by omega, e⟩⟩
    · rw [cfL_yes hq]
      refine ⟨List.pairwise_append.2 ⟨i1, List.pairwise_singleton _ _, fun x hx y hy => ?_⟩, fun z hz => ?_⟩
      · rw [List.mem_singleton] at hy
        subst hy
        obtain ⟨j, hj, rfl⟩ := i2 x hx
        have := befB_iff.1 (cv_bef h j k hj (by omega))
        omega
      · rw [List.mem_append, List.mem_singleton] at hz
        rcases hz with hz | hz
        · obtain ⟨j, hj, e⟩ := i2 z hz; exact ⟨j, by omega, e⟩
        · exact ⟨k, by omega, hz⟩
def lcB (zs : List Int) (n : Nat) (a l u f t : Int) : Bool := cvB zs n && clB a l u f t
theorem lcB_yes {zs : List Int} {n : Nat} {a l u f t : Int} (h : lcB zs n a l u f t = true) : cvB zs n = true ∧ clB a l u f t = true := by unfold lcB at h; rwa [Bool.and_eq_true] at h
def lcV (zs : List Int) (n : Nat) (a l u f t : Int) : List Int := if lcB zs n a l u f t then lcT zs a l u f t n else []
theorem lcV_yes {zs : List Int} {n : Nat} {a l u f t : Int} (h : lcB zs n a l u f t = true) : lcV zs n a l u f t = lcT zs a l u f t n := by unfold lcV; rw [if_pos h]
theorem lcV_no {zs : List Int} {n : Nat} {a l u f t : Int} (h : lcB zs n a l u f t = false) : lcV zs n a l u f t = [] := by unfold lcV; rw [if_neg (by rw [h]; decide)]
theorem lcV_le (zs : List Int) (n : Nat) (a l u f t : Int) : (lcV zs n a l u f t).length ≤ n := by
  unfold lcV; split
  · exact lcT_length ..
  · exact Nat.zero_le _

/- FreeLevels. -/
def lev (j : Nat) : Int := 10 * (j : Int) + 10
theorem lev_ok {j : Nat} (h : j < 41) : lvB (lev j) = true := by unfold lev; exact lvB_of (by omega) (by omega) (by omega)
def frT (zs : List Int) (n : Nat) (a f t : Int) : Nat → List Int
  | 0 => []
  | j + 1 => if noT zs a (lev j) (lev j) f t n then frT zs n a f t j ++ [lev j] else frT zs n a f t j
theorem frT_yes {zs : List Int} {n : Nat} {a f t : Int} {j : Nat} (h : noT zs a (lev j) (lev j) f t n = true) : frT zs n a f t (j + 1) = frT zs n a f t j ++ [lev j] := by rw [frT, if_pos h]
theorem frT_not {zs : List Int} {n : Nat} {a f t : Int} {j : Nat} (h : noT zs a (lev j) (lev j) f t n = false) : frT zs n a f t (j + 1) = frT zs n a f t j := by rw [frT, if_neg (by rw [h]; decide)]
theorem frT_length (zs : List Int) (n : Nat) (a f t : Int) (j : Nat) : (frT zs n a f t j).length ≤ j := by
  induction j with
  | zero => exact Nat.le_refl _
  | succ j ih => rw [frT]; split
                 · rw [List.length_append]; simp; omega
                 · omega
theorem frT_mem {zs : List Int} {n : Nat} {a f t : Int} {k : Nat} {z : Int} : z ∈ frT zs n a f t k ↔ ∃ j, j < k ∧ z = lev j ∧ noT zs a (lev j) (lev j) f t n = true := by
  induction k with
  | zero =>
    constructor
    · intro h; cases h
    · rintro ⟨j, h, _⟩; omega
  | succ k ih =>
    cases h : noT zs a (lev k) (lev k) f t n
    · rw [frT_not h, ih]
      constructor
      · rintro ⟨j, h1, h2, h3⟩; exact ⟨j, by omega, h2, h3⟩
      · rintro ⟨j, h1, h2, h3⟩
        rcases Nat.lt_or_ge j k with h4 | h4
        · exact ⟨j, h4, h2, h3⟩
        · obtain rfl : j = k := by omega
          rw [h] at h3; cases h3
    · rw [frT_yes h, List.mem_append, List.mem_singleton, ih]
      constructor
      · rintro (⟨j, h1, h2, h3⟩ | rfl)
        · exact ⟨j, by omega, h2, h3⟩
        · exact ⟨k, by omega, rfl, h⟩
      · rintro ⟨j, h1, h2, h3⟩
        rcases Nat.lt_or_ge j k with h4 | h4
        · exact .inl ⟨j, h4, h2, h3⟩
        · obtain rfl : j = k := by omega
          exact .inr h2
theorem frT_at {zs : List Int} {n : Nat} {a f t : Int} {k i : Nat} (hk : k ≤ 41) (hi : i < (frT zs n a f t k).length) : lvB ((frT zs n a f t k).getD i 0) = true := by
  have h1 : (frT zs n a f t k).getD i 0 ∈ frT zs n a f t k := by
    rw [List.getD_eq_getElem?_getD, List.getElem?_eq_getElem hi]
    exact List.getElem_mem hi
  obtain ⟨j, hj, e, _⟩ := frT_mem.1 h1
  rw [e]; exact lev_ok (by omega)
def frB (zs : List Int) (n : Nat) (a f t : Int) : Bool := cvB zs n && (isIn a 1 65535 && mnB f t)
theorem frB_yes {zs : List Int} {n : Nat} {a f t : Int} (h : frB zs n a f t = true) : cvB zs n = true ∧ isIn a 1 65535 = true ∧ mnB f t = true := by unfold frB at h; rwa [Bool.and_eq_true, Bool.and_eq_true] at h
/-- What each level's question asks. -/
theorem frB_lc (zs : List Int) (n : Nat) (a f t : Int) {j : Nat} (hj : j < 41) : lcB zs n a (lev j) (lev j) f t = frB zs n a f t := by
  unfold lcB frB clB
  rw [lev_ok hj, decide_eq_true (Int.le_refl _)]; rfl
def frV (zs : List Int) (n : Nat) (a f t : Int) : List Int := if frB zs n a f t then frT zs n a f t 41 else []
theorem frV_yes {zs : List Int} {n : Nat} {a f t : Int} (h : frB zs n a f t = true) : frV zs n a f t = frT zs n a f t 41 := by unfold frV; rw [if_pos h]
theorem frV_no {zs : List Int} {n : Nat} {a f t : Int} (h : frB zs n a f t = false) : frV zs n a f t = [] := by unfold frV; rw [if_neg (by rw [h]; decide)]
theorem frV_le (zs : List Int) (n : Nat) (a f t : Int) : (frV zs n a f t).length ≤ 41 := by
  unfold frV; split
  · exact frT_length ..
  · exact Nat.zero_le _

/- IsRightLevel. -/
def goB (x y : Int) : Bool := decide (0 < x) || (decide (x = 0) && decide (0 < y))
def evB (l : Int) : Bool := decide (l / 10 % 2 = 1)
def rtB (x y l : Int) : Bool := goB x y == evB l
def rtO (x y l : Int) : Bool := mB x y && lvB l
def rtV (x y l : Int) : Bool := rtO x y l && rtB x y l
/- NearestLevel. -/
def far (a b : Int) : Int := if a - b < 0 then -(a - b) else a - b
def nrT (r : Int → Bool) (l : Int) (xs : List Int) : Nat → Int
  | 0 => 0
  | k + 1 => if r (xs.getD k 0) && (decide (nrT r l xs k = 0) || decide (far (xs.getD k 0) l < far (nrT r l xs k) l)) then xs.getD k 0 else nrT r l xs k
theorem nrT_yes {r : Int → Bool} {l : Int} {xs : List Int} {k : Nat} (h1 : r (xs.getD k 0) = true) (h2 : nrT r l xs k = 0 ∨ far (xs.getD k 0) l < far (nrT r l xs k) l) : nrT r l xs (k + 1) = xs.getD k 0 := by
  rw [nrT, h1, Bool.true_and, if_pos (by rw [Bool.or_eq_true, decide_eq_true_eq, decide_eq_true_eq]; exact h2)]
theorem nrT_not {r : Int → Bool} {l : Int} {xs : List Int} {k : Nat} (h1 : r (xs.getD k 0) = false) : nrT r l xs (k + 1) = nrT r l xs k := by
  rw [nrT, h1, Bool.false_and, if_neg (by decide)]
theorem nrT_far {r : Int → Bool} {l : Int} {xs : List Int} {k : Nat} (h1 : nrT r l xs k ≠ 0) (h2 : ¬ far (xs.getD k 0) l < far (nrT r l xs k) l) : nrT r l xs (k + 1) = nrT r l xs k := by
  rw [nrT, decide_eq_false h1, decide_eq_false h2, Bool.or_false, Bool.and_false, if_neg (by decide)]
theorem nrT_congr {r s : Int → Bool} {l : Int} {xs : List Int} : ∀ k, (∀ i, i < k → r (xs.getD i 0) = s (xs.getD i 0)) → nrT r l xs k = nrT s l xs k
  | 0, _ => rfl
  | k + 1, h => by rw [nrT, nrT, nrT_congr k (fun i hi => h i (by omega)), h k (by omega)]
theorem nrT_none {r : Int → Bool} {l : Int} {xs : List Int} : ∀ k, (∀ i, i < k → r (xs.getD i 0) = false) → nrT r l xs k = 0
  | 0, _ => rfl
  | k + 1, h => by rw [nrT_not (h k (by omega))]; exact nrT_none k (fun i hi => h i (by omega))
theorem nrT_at {r : Int → Bool} {l : Int} {xs : List Int} : ∀ k, nrT r l xs k = 0 ∨ ∃ i, i < k ∧ nrT r l xs k = xs.getD i 0 ∧ r (xs.getD i 0) = true
  | 0 => .inl rfl
  | k + 1 => by
    have ih := nrT_at (r := r) (l := l) (xs := xs) k
    rw [nrT]
    split
    · rename_i h
      rw [Bool.and_eq_true] at h
      exact .inr ⟨k, by omega, rfl, h.1⟩
    · rcases ih with h | ⟨i, h1, h2, h3⟩
      · exact .inl h
      · exact .inr ⟨i, by omega, h2, h3⟩
def nrB (zs : List Int) (n : Nat) (x y a f t l : Int) : Bool := frB zs n a f t && (mB x y && lvB l)
theorem nrB_yes {zs : List Int} {n : Nat} {x y a f t l : Int} (h : nrB zs n x y a f t l = true) : frB zs n a f t = true ∧ mB x y = true ∧ lvB l = true := by unfold nrB at h; rwa [Bool.and_eq_true, Bool.and_eq_true] at h
def nrV (zs : List Int) (n : Nat) (x y a f t l : Int) : Int := if nrB zs n x y a f t l then nrT (rtB x y) l (frT zs n a f t 41) (frT zs n a f t 41).length else 0
def nrO (zs : List Int) (n : Nat) (x y a f t l : Int) : Bool := decide (0 < nrV zs n x y a f t l)
theorem nrV_yes {zs : List Int} {n : Nat} {x y a f t l : Int} (h : nrB zs n x y a f t l = true) : nrV zs n x y a f t l = nrT (rtB x y) l (frT zs n a f t 41) (frT zs n a f t 41).length := by unfold nrV; rw [if_pos h]
theorem nrV_no {zs : List Int} {n : Nat} {x y a f t l : Int} (h : nrB zs n x y a f t l = false) : nrV zs n x y a f t l = 0 := by unfold nrV; rw [if_neg (by rw [h]; decide)]
/-- impl asks each level whether it is right for the velocity. -/
theorem nr_impl {zs : List Int} {n : Nat} {x y a f t l : Int} (h1 : frB zs n a f t = true) (h2 : lvB l = true) : nrV zs n x y a f t l = nrT (rtV x y) l (frT zs n a f t 41) (frT zs n a f t 41).length := by
  cases h3 : mB x y
  · rw [nrV_no (by unfold nrB; rw [h3, Bool.false_and, Bool.and_false]), nrT_none]
    intro i _
    unfold rtV rtO
    rw [h3]; rfl
  · rw [nrV_yes (by unfold nrB; rw [h1, h2, h3]; rfl)]
    refine nrT_congr _ fun i hi => ?_
    unfold rtV rtO
    rw [h3, frT_at (Nat.le_refl _) hi]; rfl

/- ClearedAt. -/
def atK (zs : List Int) (a m : Int) (k : Nat) : Bool := decide (fld 5 zs k 0 = a) && (decide (fld 5 zs k 3 ≤ m) && decide (m < fld 5 zs k 4))
theorem atK_iff {zs : List Int} {a m : Int} {k : Nat} : atK zs a m k = true ↔ fld 5 zs k 0 = a ∧ fld 5 zs k 3 ≤ m ∧ m < fld 5 zs k 4 := by
  unfold atK
  simp only [Bool.and_eq_true, decide_eq_true_eq]
/-- The first one of k that fits, or k. -/
def fsT (p : Nat → Bool) : Nat → Nat
  | 0 => 0
  | k + 1 => if fsT p k < k then fsT p k else if p k then k else k + 1
theorem fsT_le (p : Nat → Bool) (k : Nat) : fsT p k ≤ k := by
  induction k with
  | zero => exact Nat.le_refl _
  | succ k ih => rw [fsT]; split
                 · omega
                 · split <;> omega
theorem fsT_yes {p : Nat → Bool} {k : Nat} (h : fsT p k = k) (hp : p k = true) : fsT p (k + 1) = k := by rw [fsT, if_neg (by omega), if_pos hp]
theorem fsT_not {p : Nat → Bool} {k : Nat} (h : fsT p k = k) (hp : p k = false) : fsT p (k + 1) = k + 1 := by rw [fsT, if_neg (by omega), if_neg (by rw [hp]; decide)]
theorem fsT_end {p : Nat → Bool} {n k : Nat} (h : fsT p k < k) (hk : k ≤ n) : fsT p n = fsT p k := by
  induction n with
  | zero => omega
  | succ n ih =>
    rcases Nat.lt_or_ge k (n + 1) with h1 | h1
    · have h2 := ih (by omega)
      rw [fsT, if_pos (by omega), h2]
    · obtain rfl : k = n + 1 := by omega
      rfl
theorem fsT_at {p : Nat → Bool} {n : Nat} (h : fsT p n < n) : p (fsT p n) = true := by
  induction n with
  | zero => omega
  | succ n ih =>
    rw [fsT] at h ⊢
    split
    · rename_i h1
      exact ih h1
    · rename_i h1
      rw [if_neg h1] at h
      split
      · assumption
      · rename_i h2
        rw [if_neg h2] at h; omega
theorem fsT_before {p : Nat → Bool} {n : Nat} : ∀ {j : Nat}, j < fsT p n → p j = false := by
  induction n with
  | zero => intro j hj; rw [fsT] at hj; omega
  | succ n ih =>
    intro j hj
    rw [fsT] at hj
    split at hj
    · exact ih hj
    · rename_i h1
      have h2 := fsT_le p n
      split at hj
      · exact ih (by omega)
      · rename_i h4
        rcases Nat.lt_or_ge j n with h5 | h5
        · exact ih (by omega)
        · obtain rfl : j = n := by omega
          simpa using h4
theorem fsT_uniq {p : Nat → Bool} {n k : Nat} (hk : k < n) (h1 : p k = true) (h2 : ∀ j, j < k → p j = false) : fsT p n = k := by
  rcases Nat.lt_trichotomy (fsT p n) k with h | h | h
  · have := fsT_at (p := p) (n := n) (by omega)
    rw [h2 _ h] at this; cases this
  · exact h
  · have := fsT_before h
    rw [h1] at this; cases this
theorem fsT_all {p : Nat → Bool} {n : Nat} (h : ∀ j, j < n → p j = false) : fsT p n = n := by
  rcases Nat.lt_or_ge (fsT p n) n with h1 | h1
  · have := fsT_at h1
    rw [h _ h1] at this; cases this
  · have := fsT_le p n; omega
def caI (zs : List Int) (n : Nat) (a m : Int) : Nat := fsT (atK zs a m) n
def caB (zs : List Int) (n : Nat) (a m : Int) : Bool := cvB zs n && decide (caI zs n a m < n)
def caL (zs : List Int) (n : Nat) (a m : Int) : Int := if caB zs n a m then fld 5 zs (caI zs n a m) 1 else 0
def caU (zs : List Int) (n : Nat) (a m : Int) : Int := if caB zs n a m then fld 5 zs (caI zs n a m) 2 else 0
theorem caB_yes {zs : List Int} {n : Nat} {a m : Int} (h : caB zs n a m = true) : cvB zs n = true ∧ caI zs n a m < n := by
  unfold caB at h
  rw [Bool.and_eq_true] at h
  exact ⟨h.1, of_decide_eq_true h.2⟩
/-- Only minutes of a day and addresses are found. -/
theorem caB_in {zs : List Int} {n : Nat} {a m : Int} (h : caB zs n a m = true) : isIn a 1 65535 = true ∧ isIn m 0 1439 = true := by
  obtain ⟨h1, h2⟩ := caB_yes h
  have h3 := atK_iff.1 (fsT_at h2)
  have h4 := cv_parts h1 h2
  unfold caI at h2 h4
  exact ⟨isIn_of (by omega) (by omega), isIn_of (by omega) (by omega)⟩
theorem caB_no {zs : List Int} {n : Nat} {a m : Int} (h : cvB zs n = false) : caB zs n a m = false := by unfold caB; rw [h]; rfl
theorem caB_addr {zs : List Int} {n : Nat} {a m : Int} (h : isIn a 1 65535 = false) : caB zs n a m = false := by
  cases hq : caB zs n a m
  · rfl
  · rw [(caB_in hq).1] at h; cases h
theorem caB_min {zs : List Int} {n : Nat} {a m : Int} (h : isIn m 0 1439 = false) : caB zs n a m = false := by
  cases hq : caB zs n a m
  · rfl
  · rw [(caB_in hq).2] at h; cases h
theorem ca_none {zs : List Int} {n : Nat} {a m : Int} (h : fsT (atK zs a m) n = n) : caB zs n a m = false := by unfold caB caI; rw [h, decide_eq_false (Nat.lt_irrefl n), Bool.and_false]
theorem ca_found {zs : List Int} {n k : Nat} {a m : Int} (hv : cvB zs n = true) (hk : k < n) (h : fsT (atK zs a m) k = k) (hp : atK zs a m k = true) :
    caB zs n a m = true ∧ caL zs n a m = fld 5 zs k 1 ∧ caU zs n a m = fld 5 zs k 2 := by
  have h1 := fsT_yes h hp
  have h2 : caI zs n a m = k := (fsT_end (p := atK zs a m) (n := n) (k := k + 1) (by omega) (by omega)).trans h1
  have h3 : caB zs n a m = true := by unfold caB; rw [hv, h2, decide_eq_true hk]; rfl
  refine ⟨h3, ?_, ?_⟩
  · unfold caL; rw [if_pos h3, h2]
  · unfold caU; rw [if_pos h3, h2]
theorem caL_no {zs : List Int} {n : Nat} {a m : Int} (h : caB zs n a m = false) : caL zs n a m = 0 := by unfold caL; rw [if_neg (by rw [h]; decide)]
theorem caU_no {zs : List Int} {n : Nat} {a m : Int} (h : caB zs n a m = false) : caU zs n a m = 0 := by unfold caU; rw [if_neg (by rw [h]; decide)]

/- Flat lists, five numbers a Cleared. -/
def five (a l u f t : Int) : List Int := [a, l, u, f, t]
theorem five_length (a l u f t : Int) : (five a l u f t).length = 5 := rfl
theorem getD_cat (us vs : List Int) (i : Nat) : (us ++ vs).getD i 0 = if i < us.length then us.getD i 0 else vs.getD (i - us.length) 0 := by
  rw [List.getD_eq_getElem?_getD, List.getD_eq_getElem?_getD, List.getD_eq_getElem?_getD]
  split
  · rw [List.getElem?_append_left (by assumption)]
  · rw [List.getElem?_append_right (by omega)]
theorem fld_old {us vs : List Int} {n k j : Nat} (hl : us.length = n * 5) (hk : k < n) (hj : j < 5) : fld 5 (us ++ vs) k j = fld 5 us k j := by
  unfold fld
  rw [getD_cat, if_pos (by omega)]
theorem fld_new {us vs : List Int} {n j : Nat} (hl : us.length = n * 5) (_hj : j < 5) : fld 5 (us ++ vs) n j = vs.getD j 0 := by
  unfold fld
  rw [getD_cat, if_neg (by omega), hl, Nat.add_sub_cancel_left]
/- ReleaseLevels. -/
def most (a b : Int) : Int := if a < b then b else a
def rlT (zs : List Int) (m : Int) : Nat → List Int
  | 0 => []
  | k + 1 => if m < fld 5 zs k 4 then rlT zs m k ++ five (fld 5 zs k 0) (fld 5 zs k 1) (fld 5 zs k 2) (most (fld 5 zs k 3) m) (fld 5 zs k 4) else rlT zs m k
def rlC (zs : List Int) (m : Int) : Nat → Nat
  | 0 => 0
  | k + 1 => if m < fld 5 zs k 4 then rlC zs m k + 1 else rlC zs m k
theorem rlT_yes {zs : List Int} {m : Int} {k : Nat} (h : m < fld 5 zs k 4) : rlT zs m (k + 1) = rlT zs m k ++ five (fld 5 zs k 0) (fld 5 zs k 1) (fld 5 zs k 2) (most (fld 5 zs k 3) m) (fld 5 zs k 4) := by rw [rlT, if_pos h]
theorem rlT_not {zs : List Int} {m : Int} {k : Nat} (h : ¬ m < fld 5 zs k 4) : rlT zs m (k + 1) = rlT zs m k := by rw [rlT, if_neg h]
theorem rlC_yes {zs : List Int} {m : Int} {k : Nat} (h : m < fld 5 zs k 4) : rlC zs m (k + 1) = rlC zs m k + 1 := by rw [rlC, if_pos h]
theorem rlC_not {zs : List Int} {m : Int} {k : Nat} (h : ¬ m < fld 5 zs k 4) : rlC zs m (k + 1) = rlC zs m k := by rw [rlC, if_neg h]
theorem rlC_le (zs : List Int) (m : Int) (k : Nat) : rlC zs m k ≤ k := by
  induction k with
  | zero => exact Nat.le_refl _
  | succ k ih => rw [rlC]; split <;> omega
theorem rlT_length (zs : List Int) (m : Int) (k : Nat) : (rlT zs m k).length = rlC zs m k * 5 := by
  induction k with
  | zero => rfl
  | succ k ih => rw [rlT, rlC]; split
                 · rw [List.length_append, ih, five_length]; omega
                 · exact ih
def rlB (zs : List Int) (n : Nat) (m : Int) : Bool := cvB zs n && isIn m 0 1440
def rlV (zs : List Int) (n : Nat) (m : Int) : List Int := if rlB zs n m then rlT zs m n else []
def rlN (zs : List Int) (n : Nat) (m : Int) : Nat := if rlB zs n m then rlC zs m n else 0
theorem rlB_yes {zs : List Int} {n : Nat} {m : Int} (h : rlB zs n m = true) : cvB zs n = true ∧ isIn m 0 1440 = true := by unfold rlB at h; rwa [Bool.and_eq_true] at h
theorem rlV_yes {zs : List Int} {n : Nat} {m : Int} (h : rlB zs n m = true) : rlV zs n m = rlT zs m n := by unfold rlV; rw [if_pos h]
theorem rlV_no {zs : List Int} {n : Nat} {m : Int} (h : rlB zs n m = false) : rlV zs n m = [] := by unfold rlV; rw [if_neg (by rw [h]; decide)]
theorem rlN_yes {zs : List Int} {n : Nat} {m : Int} (h : rlB zs n m = true) : rlN zs n m = rlC zs m n := by unfold rlN; rw [if_pos h]
theorem rlN_no {zs : List Int} {n : Nat} {m : Int} (h : rlB zs n m = false) : rlN zs n m = 0 := by unfold rlN; rw [if_neg (by rw [h]; decide)]
theorem rlN_le (zs : List Int) (n : Nat) (m : Int) : rlN zs n m ≤ n := by
  unfold rlN; split
  · exact rlC_le ..
  · exact Nat.zero_le _
theorem rlV_length (zs : List Int) (n : Nat) (m : Int) : (rlV zs n m).length = rlN zs n m * 5 := by
  unfold rlV rlN; split
  · exact rlT_length ..
  · rfl

/- ClearLevels. -/
/-- zs with the Cleared in front of its element p. -/
def inR (zs : List Int) (p : Nat) (a l u f t : Int) : List Int := zs.take (p * 5) ++ five a l u f t ++ zs.drop (p * 5)
theorem inR_length {zs : List Int} {n p : Nat} {a l u f t : Int} (hl : zs.length = n * 5) (hp : p ≤ n) : (inR zs p a l u f t).length = (n + 1) * 5 := by
  unfold inR
  rw [List.length_append, List.length_append, List.length_take, List.length_drop, five_length]
  omega
theorem inR_low {zs : List Int} {n p k j : Nat} {a l u f t : Int} (hl : zs.length = n * 5) (hp : p ≤ n) (hk : k < p) (hj : j < 5) : fld 5 (inR zs p a l u f t) k j = fld 5 zs k j := by
  unfold fld inR
  rw [getD_cat, if_pos (by rw [List.length_append, List.length_take, five_length]; omega), getD_cat, if_pos (by rw [List.length_take]; omega), List.getD_eq_getElem?_getD, List.getElem?_take, if_pos (by omega), List.getD_eq_getElem?_getD]
theorem inR_new {zs : List Int} {n p j : Nat} {a l u f t : Int} (hl : zs.length = n * 5) (hp : p ≤ n) (hj : j < 5) : fld 5 (inR zs p a l u f t) p j = (five a l u f t).getD j 0 := by
  unfold fld inR
  rw [getD_cat, if_pos (by rw [List.length_append, List.length_take, five_length]; omega), getD_cat, if_neg (by rw [List.length_take]; omega), List.length_take, Nat.min_eq_left (by omega), Nat.add_sub_cancel_left]
theorem inR_high {zs : List Int} {n p k j : Nat} {a l u f t : Int} (hl : zs.length = n * 5) (hp : p ≤ n) (hk : p ≤ k) (hj : j < 5) : fld 5 (inR zs p a l u f t) (k + 1) j = fld 5 zs k j := by
  unfold fld inR
  rw [getD_cat, if_neg (by rw [List.length_append, List.length_take, five_length]; omega), List.length_append, List.length_take, five_length, Nat.min_eq_left (by omega), List.getD_eq_getElem?_getD, List.getElem?_drop, List.getD_eq_getElem?_getD]
  congr 2
  omega
/-- Where element k of the old list stands in the new one. -/
def emb (p k : Nat) : Nat := if k < p then k else k + 1
theorem emb_fld {zs : List Int} {n p k j : Nat} {a l u f t : Int} (hl : zs.length = n * 5) (hp : p ≤ n) (hj : j < 5) : fld 5 (inR zs p a l u f t) (emb p k) j = fld 5 zs k j := by
  unfold emb
  split
  · exact inR_low hl hp (by assumption) hj
  · exact inR_high hl hp (by omega) hj
theorem emb_lt {p i k n : Nat} (h : i < k) (hk : k < n) : emb p i < emb p k ∧ emb p k < n + 1 := by unfold emb; split <;> split <;> omega
theorem inR_old {zs : List Int} {n p : Nat} {a l u f t : Int} (hl : zs.length = n * 5) (hp : p ≤ n) (h : cvB (inR zs p a l u f t) (n + 1) = true) : cvB zs n = true := by
  have hn := (cvB_yes h).2
  have E := fun k j (hj : j < 5) => emb_fld (a := a) (l := l) (u := u) (f := f) (t := t) (k := k) hl hp hj
  refine cv_make (by omega) (fun k hk => ?_) (fun i k hik hk => ?_) (fun i k hik hk => ?_)
  · have h1 := cv_cl h (show emb p k < n + 1 by unfold emb; split <;> omega)
    unfold clK at h1 ⊢
    rwa [E k 0 (by omega), E k 1 (by omega), E k 2 (by omega), E k 3 (by omega), E k 4 (by omega)] at h1
  · have h1 := cv_bef h (emb p i) (emb p k) (emb_lt hik hk).1 (emb_lt hik hk).2
    rwa [E i 0 (by omega), E i 4 (by omega), E k 0 (by omega), E k 3 (by omega)] at h1
  · have h1 := cv_no h (emb_lt (p := p) hik hk).1 (emb_lt hik hk).2
    rwa [E i 0 (by omega), E i 1 (by omega), E i 2 (by omega), E i 3 (by omega), E i 4 (by omega), E k 0 (by omega), E k 1 (by omega), E k 2 (by omega), E k 3 (by omega), E k 4 (by omega)] at h1
theorem inR_x {zs : List Int} {n p : Nat} {a l u f t : Int} (hl : zs.length = n * 5) (hp : p ≤ n) (h : cvB (inR zs p a l u f t) (n + 1) = true) : clB a l u f t = true := by
  have h1 := cv_cl h (show p < n + 1 by omega)
  unfold clK at h1
  rwa [inR_new hl hp (by omega), inR_new hl hp (by omega), inR_new hl hp (by omega), inR_new hl hp (by omega), inR_new hl hp (by omega)] at h1
theorem inR_before {zs : List Int} {n p j : Nat} {a l u f t : Int} (hl : zs.length = n * 5) (hp : p ≤ n) (h : cvB (inR zs p a l u f t) (n + 1) = true) (hj : j < p) : befB (fld 5 zs j 0) (fld 5 zs j 4) a f = true := by
  have h1 := cv_bef h j p hj (by omega)
  rwa [inR_low hl hp hj (by omega), inR_low hl hp hj (by omega), inR_new hl hp (by omega), inR_new hl hp (by omega)] at h1
theorem inR_after {zs : List Int} {n p j : Nat} {a l u f t : Int} (hl : zs.length = n * 5) (hp : p ≤ n) (h : cvB (inR zs p a l u f t) (n + 1) = true) (hj : p ≤ j) (hn : j < n) : befB a t (fld 5 zs j 0) (fld 5 zs j 3) = true := by
  have h1 := cv_bef h p (j + 1) (by omega) (by omega)
  rwa [inR_new hl hp (by omega), inR_new hl hp (by omega), inR_high hl hp hj (by omega), inR_high hl hp hj (by omega)] at h1
/-- impl's place: the first element that must not stand in front. -/
def ldI (zs : List Int) (n : Nat) (a f : Int) : Nat := fsT (fun k => !befB (fld 5 zs k 0) (fld 5 zs k 4) a f) n
theorem ldI_le (zs : List Int) (n : Nat) (a f : Int) : ldI zs n a f ≤ n := fsT_le _ _
/-- spec's place: counted from behind. -/
def gtK (zs : List Int) (a f : Int) (k : Nat) : Bool := decide (a < fld 5 zs k 0) || (decide (fld 5 zs k 0 = a) && decide (f < fld 5 zs k 3))
theorem gtK_iff {zs : List Int} {a f : Int} {k : Nat} : gtK zs a f k = true ↔ a < fld 5 zs k 0 ∨ (fld 5 zs k 0 = a ∧ f < fld 5 zs k 3) := by
  unfold gtK
  simp only [Bool.or_eq_true, Bool.and_eq_true, decide_eq_true_eq]
def spK (zs : List Int) (a f : Int) : Nat → Nat
  | 0 => 0
  | k + 1 => if gtK zs a f k then spK zs a f k else k + 1
theorem spK_le (zs : List Int) (a f : Int) (k : Nat) : spK zs a f k ≤ k := by
  induction k with
  | zero => exact Nat.le_refl _
  | succ k ih => rw [spK]; split <;> omega
theorem spK_yes {zs : List Int} {a f : Int} {k : Nat} (h : gtK zs a f k = true) : spK zs a f (k + 1) = spK zs a f k := by rw [spK, if_pos h]
theorem spK_not {zs : List Int} {a f : Int} {k : Nat} (h : gtK zs a f k = false) : spK zs a f (k + 1) = k + 1 := by rw [spK, if_neg (by rw [h]; decide)]
theorem spK_is {zs : List Int} {a f : Int} {p : Nat} : ∀ n, p ≤ n → (∀ j, p ≤ j → j < n → gtK zs a f j = true) → (0 < p → gtK zs a f (p - 1) = false) → spK zs a f n = p := by
  intro n
  induction n with
  | zero => intro hp _ _; obtain rfl : p = 0 := by omega
            rfl
  | succ n ih =>
    intro hp h1 h2
    rcases Nat.lt_or_ge n p with h | h
    · obtain rfl : p = n + 1 := by omega
      exact spK_not (by simpa using h2 (by omega))
    · rw [spK_yes (h1 n h (by omega))]
      exact ih h (fun j hj hn => h1 j hj (by omega)) h2
theorem ld_is {zs : List Int} {n p : Nat} {a l u f t : Int} (hl : zs.length = n * 5) (hp : p ≤ n) (h : cvB (inR zs p a l u f t) (n + 1) = true) : ldI zs n a f = p := by
  have h0 := inR_old hl hp h
  have hx := mnB_yes (clB_yes (inR_x hl hp h)).2.2.2.2
  unfold ldI
  rcases Nat.lt_or_ge p n with h1 | h1
  · refine fsT_uniq h1 ?_ (fun j hj => ?_)
    · have h2 := befB_iff.1 (inR_after hl hp h (Nat.le_refl _) h1)
      have h3 := cv_parts h0 h1
      have : befB (fld 5 zs p 0) (fld 5 zs p 4) a f = false := by
        cases hq : befB (fld 5 zs p 0) (fld 5 zs p 4) a f
        · rfl
        · have := befB_iff.1 hq; omega
      simp only [this]; rfl
    · simp only [inR_before hl hp h hj]; rfl
  · obtain rfl : p = n := by omega
    exact fsT_all fun j hj => by simp only [inR_before hl hp h hj]; rfl
theorem sp_is {zs : List Int} {n p : Nat} {a l u f t : Int} (hl : zs.length = n * 5) (hp : p ≤ n) (h : cvB (inR zs p a l u f t) (n + 1) = true) : spK zs a f n = p := by
  have h0 := inR_old hl hp h
  have hx := mnB_yes (clB_yes (inR_x hl hp h)).2.2.2.2
  refine spK_is n hp (fun j hj hn => ?_) (fun h1 => ?_)
  · have h2 := befB_iff.1 (inR_after hl hp h hj hn)
    rw [gtK_iff]; omega
  · have h2 := befB_iff.1 (inR_before hl hp h (show p - 1 < p by omega))
    have h3 := cv_parts h0 (show p - 1 < n by omega)
    cases hq : gtK zs a f (p - 1)
    · rfl
    · have := gtK_iff.1 hq; omega
def ciB (zs : List Int) (n : Nat) (a l u f t : Int) : Bool := cvB (inR zs (ldI zs n a f) a l u f t) (n + 1)
/-- spec's test is impl's. -/
theorem ci_spec {zs : List Int} {n : Nat} {a l u f t : Int} (hl : zs.length = n * 5) : (cvB zs n && cvB (inR zs (spK zs a f n) a l u f t) (n + 1)) = ciB zs n a l u f t := by
  rw [Bool.eq_iff_iff, Bool.and_eq_true]
  unfold ciB
  constructor
  · rintro ⟨_, h⟩
    rw [ld_is hl (spK_le zs a f n) h]; exact h
  · intro h
    refine ⟨inR_old hl (ldI_le zs n a f) h, ?_⟩
    rw [sp_is hl (ldI_le zs n a f) h]; exact h
theorem ci_place {zs : List Int} {n : Nat} {a l u f t : Int} (hl : zs.length = n * 5) (h : ciB zs n a l u f t = true) : spK zs a f n = ldI zs n a f := sp_is hl (ldI_le zs n a f) h
def ciV (zs : List Int) (n : Nat) (a l u f t : Int) : List Int := if ciB zs n a l u f t then inR zs (ldI zs n a f) a l u f t else []
def ciN (zs : List Int) (n : Nat) (a l u f t : Int) : Nat := if ciB zs n a l u f t then n + 1 else 0
theorem ciV_yes {zs : List Int} {n : Nat} {a l u f t : Int} (h : ciB zs n a l u f t = true) : ciV zs n a l u f t = inR zs (ldI zs n a f) a l u f t := by unfold ciV; rw [if_pos h]
theorem ciV_no {zs : List Int} {n : Nat} {a l u f t : Int} (h : ciB zs n a l u f t = false) : ciV zs n a l u f t = [] := by unfold ciV; rw [if_neg (by rw [h]; decide)]
theorem ciN_yes {zs : List Int} {n : Nat} {a l u f t : Int} (h : ciB zs n a l u f t = true) : ciN zs n a l u f t = n + 1 := by unfold ciN; rw [if_pos h]
theorem ciN_no {zs : List Int} {n : Nat} {a l u f t : Int} (h : ciB zs n a l u f t = false) : ciN zs n a l u f t = 0 := by unfold ciN; rw [if_neg (by rw [h]; decide)]
theorem ciV_length {zs : List Int} {n : Nat} {a l u f t : Int} (hl : zs.length = n * 5) : (ciV zs n a l u f t).length = ciN zs n a l u f t * 5 := by
  unfold ciV ciN
  split
  · exact inR_length hl (ldI_le zs n a f)
  · rfl
end Go.Proofs.Ytglonedhoenkpaa.lvl
