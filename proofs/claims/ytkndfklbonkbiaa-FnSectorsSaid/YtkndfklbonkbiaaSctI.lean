/- Geometry of chapter 17 in plain mathematics: two lines whose ranges overlap, and of which neither lies on one side of the other, have a point in common. -/
import Derived.Test.YtkndfklbonkbiaaSctV
namespace Go.Proofs.Ytkndfklbonkbiaa.scti
open Go.Proofs.Ytkndfklbonkbiaa.sct Go.Proofs.Ytkndfklbonkbiaa.sctt Go.Proofs.Ytkndfklbonkbiaa.sctv

/-- The ranges between a and b and between c and d overlap. -/
def ov (a b c d : Int) : Bool := decide (max (min a b) (min c d) ≤ min (max a b) (max c d))
/-- p and q lie on one side of the line through a and b. -/
def bes (ax ay bx by_ px py qx qy : Int) : Bool := decide (0 < cr ax ay bx by_ px py * cr ax ay bx by_ qx qy)
def mtB (ax ay bx by_ px py qx qy : Int) : Bool := ov ax bx px qx && (ov ay by_ py qy && (!bes ax ay bx by_ px py qx qy && !bes px py qx qy ax ay bx by_))

theorem idX (ax ay bx by_ px py qx qy : Int) : cr px py qx qy bx by_ * ax - cr px py qx qy ax ay * bx = cr ax ay bx by_ px py * qx - cr ax ay bx by_ qx qy * px := by unfold cr; grind
theorem idY (ax ay bx by_ px py qx qy : Int) : cr px py qx qy bx by_ * ay - cr px py qx qy ax ay * by_ = cr ax ay bx by_ px py * qy - cr ax ay bx by_ qx qy * py := by unfold cr; grind
theorem idK (ax ay bx by_ px py qx qy : Int) : cr px py qx qy bx by_ - cr px py qx qy ax ay = cr ax ay bx by_ px py - cr ax ay bx by_ qx qy := by unfold cr; grind

/-- A mean with weights lies between. -/
theorem btw {u v p a b : Int} (hu : 0 ≤ u) (hv : 0 ≤ v) (h : 0 < u + v) (e : (u + v) * p = u * a + v * b) : (a ≤ p ∧ p ≤ b) ∨ (b ≤ p ∧ p ≤ a) := by
  have e1 : u * (p - a) = v * (b - p) := by grind
  rcases Int.lt_or_le p a with h1 | h1
  · rcases Int.lt_or_le p b with h2 | h2
    · exfalso
      have f1 := pn0 hu (show p - a ≤ 0 by omega)
      have f2 := pp0 hv (show 0 ≤ b - p by omega)
      rcases Int.lt_or_le 0 u with g | g
      · have := pn g (show p - a < 0 by omega); omega
      · have := pp (show 0 < v by omega) (show 0 < b - p by omega); omega
    · right; omega
  · rcases Int.lt_or_le b p with h2 | h2
    · rcases Int.lt_or_le a p with h3 | h3
      · exfalso
        have f1 := pp0 hu (show 0 ≤ p - a by omega)
        have f2 := pn0 hv (show b - p ≤ 0 by omega)
        rcases Int.lt_or_le 0 u with g | g
        · have := pp g (show 0 < p - a by omega); omega
        · have := pn (show 0 < v by omega) (show b - p < 0 by omega); omega
      · right; omega
    · left; omega

section
variable {ax ay bx by_ px py qx qy : Int}
/-- p on the endless line through a and b, and a and b not on one side of the one through p and q. -/
theorem on1 (h0 : cr ax ay bx by_ px py = 0) (hd : ¬ 0 < cr px py qx qy ax ay * cr px py qx qy bx by_) (hne : cr px py qx qy ax ay ≠ cr px py qx qy bx by_) : onB ax ay bx by_ px py = true := by
  have eX := idX ax ay bx by_ px py qx qy
  have eY := idY ax ay bx by_ px py qx qy
  have eK := idK ax ay bx by_ px py qx qy
  rw [h0] at eX eY eK
  generalize cr ax ay bx by_ qx qy = c2 at *
  generalize cr px py qx qy ax ay = d1 at *
  generalize cr px py qx qy bx by_ = d2 at *
  refine decide_eq_true ⟨h0, ?_⟩
  have hs : (0 ≤ d2 ∧ d1 ≤ 0) ∨ (d2 ≤ 0 ∧ 0 ≤ d1) := by
    rcases Int.lt_or_le d1 0 with h1 | h1
    · rcases Int.lt_or_le d2 0 with h2 | h2
      · exact absurd (nn h1 h2) hd
      · omega
    · rcases Int.lt_or_le 0 d2 with h2 | h2
      · rcases Int.lt_or_le 0 d1 with h3 | h3
        · exact absurd (pp h3 h2) hd
        · omega
      · omega
  rcases hs with ⟨h1, h2⟩ | ⟨h1, h2⟩
  · exact ⟨btw h1 (show 0 ≤ - d1 by omega) (by omega) (by grind), btw h1 (show 0 ≤ - d1 by omega) (by omega) (by grind)⟩
  · exact ⟨btw (show 0 ≤ - d2 by omega) h2 (by omega) (by grind), btw (show 0 ≤ - d2 by omega) h2 (by omega) (by grind)⟩
/-- .. and the other way round. -/
theorem noprod (h : onB ax ay bx by_ px py = true) : ¬ 0 < cr px py qx qy ax ay * cr px py qx qy bx by_ := fun hd => by
  obtain ⟨h0, hx, hy⟩ := on_parts h
  have eX := idX ax ay bx by_ px py qx qy
  have eY := idY ax ay bx by_ px py qx qy
  have eK := idK ax ay bx by_ px py qx qy
  have hz : ax = px → ay = py → cr px py qx qy ax ay = 0 := fun e1 e2 => by rw [e1, e2]; unfold cr; grind
  rw [h0] at eX eY eK
  generalize cr ax ay bx by_ qx qy = c2 at *
  generalize cr px py qx qy ax ay = d1 at *
  generalize cr px py qx qy bx by_ = d2 at *
  have gX : d2 * (px - ax) = d1 * (px - bx) := by grind
  have gY : d2 * (py - ay) = d1 * (py - by_) := by grind
  have hs : (0 < d2 ∧ 0 < d1) ∨ (d2 < 0 ∧ d1 < 0) := by
    rcases Int.lt_trichotomy d1 0 with h1 | h1 | h1
    · rcases Int.lt_or_le d2 0 with h2 | h2
      · omega
      · have := np0 (Int.le_of_lt h1) h2; omega
    · rw [h1, Int.zero_mul] at hd; omega
    · rcases Int.lt_or_le 0 d2 with h2 | h2
      · omega
      · have := pn0 (Int.le_of_lt h1) h2; omega
  have one : ∀ {p a b : Int}, d2 * (p - a) = d1 * (p - b) → ((a ≤ p ∧ p ≤ b) ∨ (b ≤ p ∧ p ≤ a)) → a = p := by
    intro p a b e hb
    refine Classical.byContradiction fun hh => ?_
    rcases hs with ⟨g2, g1⟩ | ⟨g2, g1⟩ <;> rcases hb with hb | hb
    · have f1 := pp g2 (show 0 < p - a by omega)
      have f2 := pn0 (Int.le_of_lt g1) (show p - b ≤ 0 by omega)
      omega
    · have f1 := pn g2 (show p - a < 0 by omega)
      have f2 := pp0 (Int.le_of_lt g1) (show 0 ≤ p - b by omega)
      omega
    · have f1 := np g2 (show 0 < p - a by omega)
      have f2 := nn0 (Int.le_of_lt g1) (show p - b ≤ 0 by omega)
      omega
    · have f1 := nn g2 (show p - a < 0 by omega)
      have f2 := np0 (Int.le_of_lt g1) (show 0 ≤ p - b by omega)
      omega
  have := hz (one gX hx) (one gY hy)
  omega
theorem cr_swap (px py qx qy ax ay : Int) : cr qx qy px py ax ay = - cr px py qx qy ax ay := cr_flip px py qx qy ax ay
theorem neg2 (u v : Int) : (-u) * (-v) = u * v := by grind
end
/-- Two lines that cross: their ranges overlap. -/
theorem ov_cross {a b p q c1 c2 d1 d2 : Int} (e : d2 * a - d1 * b = c1 * q - c2 * p) (k : d2 - d1 = c1 - c2) (h1 : (c1 < 0 ∧ 0 < c2) ∨ (0 < c1 ∧ c2 < 0)) (h2 : (d1 < 0 ∧ 0 < d2) ∨ (0 < d1 ∧ d2 < 0)) : ov a b p q = true := by
  refine decide_eq_true (Classical.byContradiction fun hh => ?_)
  have hg : (∃ m : Int, a < m ∧ b < m ∧ m ≤ p ∧ m ≤ q) ∨ (∃ m : Int, p < m ∧ q < m ∧ m ≤ a ∧ m ≤ b) := by
    rcases Int.lt_or_le (max a b) (min p q) with g | g
    · exact Or.inl ⟨min p q, by omega, by omega, by omega, by omega⟩
    · exact Or.inr ⟨min a b, by omega, by omega, by omega, by omega⟩
  rcases hg with ⟨m, g1, g2, g3, g4⟩ | ⟨m, g1, g2, g3, g4⟩
  · have E : d2 * (a - m) - d1 * (b - m) = c1 * (q - m) - c2 * (p - m) := by grind
    rcases h2 with h2 | h2
    · have f1 := pn h2.2 (show a - m < 0 by omega)
      have f2 := nn h2.1 (show b - m < 0 by omega)
      have f3 := pp0 (show 0 ≤ c1 by omega) (show 0 ≤ q - m by omega)
      have f4 := np0 (show c2 ≤ 0 by omega) (show 0 ≤ p - m by omega)
      omega
    · have f1 := nn h2.2 (show a - m < 0 by omega)
      have f2 := pn h2.1 (show b - m < 0 by omega)
      have f3 := np0 (show c1 ≤ 0 by omega) (show 0 ≤ q - m by omega)
      have f4 := pp0 (show 0 ≤ c2 by omega) (show 0 ≤ p - m by omega)
      omega
  · have E : d2 * (a - m) - d1 * (b - m) = c1 * (q - m) - c2 * (p - m) := by grind
    rcases h2 with h2 | h2
    · have f1 := pp0 (Int.le_of_lt h2.2) (show 0 ≤ a - m by omega)
      have f2 := np0 (Int.le_of_lt h2.1) (show 0 ≤ b - m by omega)
      have f3 := pn (show 0 < c1 by omega) (show q - m < 0 by omega)
      have f4 := nn (show c2 < 0 by omega) (show p - m < 0 by omega)
      omega
    · have f1 := np0 (Int.le_of_lt h2.2) (show 0 ≤ a - m by omega)
      have f2 := pp0 (Int.le_of_lt h2.1) (show 0 ≤ b - m by omega)
      have f3 := nn (show c1 < 0 by omega) (show q - m < 0 by omega)
      have f4 := pn (show 0 < c2 by omega) (show p - m < 0 by omega)
      omega
section
variable {ax ay bx by_ px py qx qy : Int}
theorem ov_yes {a b c d : Int} (h : ov a b c d = true) : max (min a b) (min c d) ≤ min (max a b) (max c d) := of_decide_eq_true h
theorem bes_no (h : ¬ 0 < cr ax ay bx by_ px py * cr ax ay bx by_ qx qy) : bes ax ay bx by_ px py qx qy = false := decide_eq_false h
/-- All four places on one endless line: where the ranges overlap, one lies on the other line. -/
theorem flat (c1 : cr ax ay bx by_ px py = 0) (c2 : cr ax ay bx by_ qx qy = 0) (d1 : cr px py qx qy ax ay = 0) (d2 : cr px py qx qy bx by_ = 0) (hx : max (min ax bx) (min px qx) ≤ min (max ax bx) (max px qx)) (hy : max (min ay by_) (min py qy) ≤ min (max ay by_) (max py qy)) :
    onB ax ay bx by_ px py = true ∨ onB ax ay bx by_ qx qy = true ∨ onB px py qx qy ax ay = true ∨ onB px py qx qy bx by_ = true := by
  -- where the X differ, the Y follow
  have fol : ∀ {ax ay bx by_ px py : Int}, ax < bx → cr ax ay bx by_ px py = 0 → ax ≤ px → px ≤ bx → onB ax ay bx by_ px py = true := by
    intro ax ay bx by_ px py h h0 h1 h2
    refine decide_eq_true ⟨h0, Or.inl ⟨h1, h2⟩, ?_⟩
    exact btw (u := bx - px) (v := px - ax) (by omega) (by omega) (by omega) (by unfold cr at h0; grind)
  have folr : ∀ {ax ay bx by_ px py : Int}, ax ≠ bx → cr ax ay bx by_ px py = 0 → ((ax ≤ px ∧ px ≤ bx) ∨ (bx ≤ px ∧ px ≤ ax)) → onB ax ay bx by_ px py = true := by
    intro ax ay bx by_ px py h h0 h1
    rcases Int.lt_or_le ax bx with g | g
    · exact fol g h0 (by omega) (by omega)
    · rw [← on_flip]
      exact fol (by omega) (by rw [cr_flip, h0]; rfl) (by omega) (by omega)
  by_cases hab : ax = bx
  · by_cases hpq : px = qx
    · have e : ax = px := by omega
      have : ((ay ≤ py ∧ py ≤ by_) ∨ (by_ ≤ py ∧ py ≤ ay)) ∨ ((ay ≤ qy ∧ qy ≤ by_) ∨ (by_ ≤ qy ∧ qy ≤ ay)) ∨ ((py ≤ ay ∧ ay ≤ qy) ∨ (qy ≤ ay ∧ ay ≤ py)) ∨ ((py ≤ by_ ∧ by_ ≤ qy) ∨ (qy ≤ by_ ∧ by_ ≤ py)) := by omega
      rcases this with h | h | h | h
      · exact Or.inl (decide_eq_true ⟨c1, by omega, h⟩)
      · exact Or.inr (Or.inl (decide_eq_true ⟨c2, by omega, h⟩))
      · exact Or.inr (Or.inr (Or.inl (decide_eq_true ⟨d1, by omega, h⟩)))
      · exact Or.inr (Or.inr (Or.inr (decide_eq_true ⟨d2, by omega, h⟩)))
    · exact Or.inr (Or.inr (Or.inl (folr hpq d1 (by omega))))
  · have : ((ax ≤ px ∧ px ≤ bx) ∨ (bx ≤ px ∧ px ≤ ax)) ∨ ((ax ≤ qx ∧ qx ≤ bx) ∨ (bx ≤ qx ∧ qx ≤ ax)) ∨ ((px < ax ∧ ax ≤ qx) ∨ (qx ≤ ax ∧ ax < px)) := by omega
    rcases this with h | h | h
    · exact Or.inl (folr hab c1 h)
    · exact Or.inr (Or.inl (folr hab c2 h))
    · exact Or.inr (Or.inr (Or.inl (folr (by omega) d1 (by omega))))
/-- impl's test and spec's agree. -/
theorem mt_is (ax ay bx by_ px py qx qy : Int) : mtB ax ay bx by_ px py qx qy = meB ax ay bx by_ px py qx qy := by
  rw [Bool.eq_iff_iff]
  constructor
  · intro h
    unfold mtB at h
    rw [Bool.and_eq_true, Bool.and_eq_true, Bool.and_eq_true, Bool.not_eq_true', Bool.not_eq_true'] at h
    obtain ⟨hx, hy, b1, b2⟩ := h
    have b1 : ¬ 0 < cr ax ay bx by_ px py * cr ax ay bx by_ qx qy := of_decide_eq_false b1
    have b2 : ¬ 0 < cr px py qx qy ax ay * cr px py qx qy bx by_ := of_decide_eq_false b2
    have hx := ov_yes hx
    have hy := ov_yes hy
    have four : (onB ax ay bx by_ px py = true ∨ onB ax ay bx by_ qx qy = true ∨ onB px py qx qy ax ay = true ∨ onB px py qx qy bx by_ = true) → meB ax ay bx by_ px py qx qy = true := by
      intro h
      unfold meB
      rcases h with h | h | h | h <;> rw [h] <;> simp
    have eK := idK ax ay bx by_ px py qx qy
    by_cases e : cr px py qx qy ax ay = cr px py qx qy bx by_
    · have e' : cr ax ay bx by_ px py = cr ax ay bx by_ qx qy := by omega
      have sq : ∀ c : Int, ¬ 0 < c * c → c = 0 := fun c hc => by
        rcases Int.lt_trichotomy c 0 with h | h | h
        · exact absurd (nn h h) hc
        · exact h
        · exact absurd (pp h h) hc
      rw [e'] at b1
      rw [e] at b2
      have z1 := sq _ b1
      have z2 := sq _ b2
      exact four (flat (e'.trans z1) z1 (e.trans z2) z2 hx hy)
    · by_cases c1 : cr ax ay bx by_ px py = 0
      · exact four (Or.inl (on1 c1 b2 e))
      by_cases c2 : cr ax ay bx by_ qx qy = 0
      · exact four (Or.inr (Or.inl (on1 (px := qx) (py := qy) (qx := px) (qy := py) c2 (by rw [cr_swap, cr_swap px py qx qy bx by_, neg2]; exact b2) (by rw [cr_swap, cr_swap px py qx qy bx by_]; omega))))
      by_cases d1 : cr px py qx qy ax ay = 0
      · exact four (Or.inr (Or.inr (Or.inl (on1 d1 b1 (by omega)))))
      by_cases d2 : cr px py qx qy bx by_ = 0
      · exact four (Or.inr (Or.inr (Or.inr (on1 (px := bx) (py := by_) (qx := ax) (qy := ay) d2 (by rw [cr_swap, cr_swap ax ay bx by_ qx qy, neg2]; exact b1) (by rw [cr_swap, cr_swap ax ay bx by_ qx qy]; omega)))))
      unfold meB
      have sgn : ∀ {u v : Int}, ¬ 0 < u * v → u ≠ 0 → v ≠ 0 → opp u v = true := by
        intro u v h hu hv
        refine decide_eq_true (Classical.byContradiction fun hh => h ?_)
        rcases Int.lt_or_le u 0 with g | g
        · exact nn g (by omega)
        · exact pp (by omega) (by omega)
      rw [sgn b1 c1 c2, sgn b2 d1 d2]
      simp
  · intro h
    have mk : ov ax bx px qx = true → ov ay by_ py qy = true → (¬ 0 < cr ax ay bx by_ px py * cr ax ay bx by_ qx qy) → (¬ 0 < cr px py qx qy ax ay * cr px py qx qy bx by_) → mtB ax ay bx by_ px py qx qy = true := by
      intro h1 h2 h3 h4
      unfold mtB
      rw [h1, h2, bes_no h3, bes_no h4]; rfl
    unfold meB at h
    rw [Bool.or_eq_true, Bool.or_eq_true, Bool.or_eq_true, Bool.or_eq_true, Bool.and_eq_true] at h
    rcases h with ((h | h) | (h | h)) | h
    · have b2 := noprod (qx := qx) (qy := qy) h
      obtain ⟨h0, x, y⟩ := on_parts h
      exact mk (decide_eq_true (by omega)) (decide_eq_true (by omega)) (by rw [h0, Int.zero_mul]; omega) b2
    · have b2 := noprod (qx := px) (qy := py) h
      rw [cr_swap, cr_swap px py qx qy bx by_, neg2] at b2
      obtain ⟨h0, x, y⟩ := on_parts h
      exact mk (decide_eq_true (by omega)) (decide_eq_true (by omega)) (by rw [h0, Int.mul_zero]; omega) b2
    · have b1 := noprod (qx := bx) (qy := by_) h
      obtain ⟨h0, x, y⟩ := on_parts h
      exact mk (decide_eq_true (by omega)) (decide_eq_true (by omega)) b1 (by rw [h0, Int.zero_mul]; omega)
    · have b1 := noprod (qx := ax) (qy := ay) h
      rw [cr_swap, cr_swap ax ay bx by_ qx qy, neg2] at b1
      obtain ⟨h0, x, y⟩ := on_parts h
      exact mk (decide_eq_true (by omega)) (decide_eq_true (by omega)) b1 (by rw [h0, Int.mul_zero]; omega)
    · have h1 : (cr ax ay bx by_ px py < 0 ∧ 0 < cr ax ay bx by_ qx qy) ∨ (0 < cr ax ay bx by_ px py ∧ cr ax ay bx by_ qx qy < 0) := of_decide_eq_true h.1
      have h2 : (cr px py qx qy ax ay < 0 ∧ 0 < cr px py qx qy bx by_) ∨ (0 < cr px py qx qy ax ay ∧ cr px py qx qy bx by_ < 0) := of_decide_eq_true h.2
      have np2 : ∀ {u v : Int}, ((u < 0 ∧ 0 < v) ∨ (0 < u ∧ v < 0)) → ¬ 0 < u * v := by
        intro u v g
        rcases g with g | g
        · have := np g.1 g.2; omega
        · have := pn g.1 g.2; omega
      exact mk (ov_cross (idX ax ay bx by_ px py qx qy) (idK ax ay bx by_ px py qx qy) h1 h2) (ov_cross (idY ax ay bx by_ px py qx qy) (idK ax ay bx by_ px py qx qy) h1 h2) (np2 h1) (np2 h2)
end
end Go.Proofs.Ytkndfklbonkbiaa.scti
