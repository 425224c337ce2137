/- Geometry of chapter 17 in plain mathematics (no program in it): lines that meet, and the parity of a ray: where a line meets no side of a border, its two ends are both inside or both outside. -/
import Derived.Test.YtkndfklbonkbiaaIn
namespace Go.Proofs.Ytkndfklbonkbiaa.sct

/-- The cross product of the ways from o to a and to b. -/
def cr (ox oy ax ay bx by_ : Int) : Int := (ax - ox) * (by_ - oy) - (ay - oy) * (bx - ox)
/-- p lies on the line from a to b. -/
def onB (ax ay bx by_ px py : Int) : Bool := decide (cr ax ay bx by_ px py = 0 ∧ ((ax ≤ px ∧ px ≤ bx) ∨ (bx ≤ px ∧ px ≤ ax)) ∧ ((ay ≤ py ∧ py ≤ by_) ∨ (by_ ≤ py ∧ py ≤ ay)))
/-- Two numbers of opposite signs. -/
def opp (u v : Int) : Bool := decide ((u < 0 ∧ 0 < v) ∨ (0 < u ∧ v < 0))
/-- The lines from a to b and from p to q have a point in common. -/
def meB (ax ay bx by_ px py qx qy : Int) : Bool :=
  ((onB ax ay bx by_ px py || onB ax ay bx by_ qx qy) || (onB px py qx qy ax ay || onB px py qx qy bx by_)) || (opp (cr ax ay bx by_ px py) (cr ax ay bx by_ qx qy) && opp (cr px py qx qy ax ay) (cr px py qx qy bx by_))
/-- The ray from p to the right crosses the side from a to b. -/
def tog (ax ay bx by_ px py : Int) : Bool := (decide (py < ay) != decide (py < by_)) && (decide (ay < by_) == decide (0 < cr ax ay bx by_ px py))
/-- v lies right of the line from p up to q. -/
def rig (px py qx qy vx vy : Int) : Bool := decide (py < vy ∧ vy ≤ qy ∧ cr px py qx qy vx vy < 0)

theorem cr_back (ox oy ax ay bx by_ : Int) : cr bx by_ ax ay ox oy = - cr ax ay bx by_ ox oy := by unfold cr; grind
theorem i1 (ax ay bx by_ px py qx qy : Int) : cr ax ay bx by_ px py * (qy - py) = cr px py qx qy bx by_ * (ay - py) - cr px py qx qy ax ay * (by_ - py) := by unfold cr; grind
theorem i2 (ax ay bx by_ px py qx qy : Int) : cr ax ay bx by_ qx qy * (qy - py) = cr px py qx qy bx by_ * (ay - qy) - cr px py qx qy ax ay * (by_ - qy) := by unfold cr; grind
theorem j1 (ax ay bx by_ px py qx qy : Int) : cr px py qx qy ax ay * (by_ - ay) = cr ax ay bx by_ qx qy * (py - ay) - cr ax ay bx by_ px py * (qy - ay) := by unfold cr; grind
theorem j2 (ax ay bx by_ px py qx qy : Int) : cr px py qx qy bx by_ * (by_ - ay) = cr ax ay bx by_ qx qy * (py - by_) - cr ax ay bx by_ px py * (qy - by_) := by unfold cr; grind

/- Signs of products. -/
theorem pp {a b : Int} (h1 : 0 < a) (h2 : 0 < b) : 0 < a * b := Int.mul_pos h1 h2
theorem pn {a b : Int} (h1 : 0 < a) (h2 : b < 0) : a * b < 0 := Int.mul_neg_of_pos_of_neg h1 h2
theorem np {a b : Int} (h1 : a < 0) (h2 : 0 < b) : a * b < 0 := Int.mul_neg_of_neg_of_pos h1 h2
theorem nn {a b : Int} (h1 : a < 0) (h2 : b < 0) : 0 < a * b := Int.mul_pos_of_neg_of_neg h1 h2
theorem pp0 {a b : Int} (h1 : 0 ≤ a) (h2 : 0 ≤ b) : 0 ≤ a * b := Int.mul_nonneg h1 h2
theorem pn0 {a b : Int} (h1 : 0 ≤ a) (h2 : b ≤ 0) : a * b ≤ 0 := Int.mul_nonpos_of_nonneg_of_nonpos h1 h2
theorem np0 {a b : Int} (h1 : a ≤ 0) (h2 : 0 ≤ b) : a * b ≤ 0 := Int.mul_nonpos_of_nonpos_of_nonneg h1 h2
theorem nn0 {a b : Int} (h1 : a ≤ 0) (h2 : b ≤ 0) : 0 ≤ a * b := Int.mul_nonneg_of_nonpos_of_nonpos h1 h2
theorem pos_of {c D : Int} (hD : 0 < D) (h : 0 < c * D) : 0 < c := by
  rcases Int.lt_or_le 0 c with h1 | h1
  · exact h1
  · have := np0 h1 (Int.le_of_lt hD); omega
theorem neg_of {c D : Int} (hD : 0 < D) (h : c * D < 0) : c < 0 := by
  rcases Int.lt_or_le c 0 with h1 | h1
  · exact h1
  · have := pp0 h1 (Int.le_of_lt hD); omega
theorem nneg_of {c D : Int} (hD : 0 < D) (h : 0 ≤ c * D) : 0 ≤ c := by
  rcases Int.lt_or_le c 0 with h1 | h1
  · have := np h1 hD; omega
  · exact h1
theorem npos_of {c D : Int} (hD : 0 < D) (h : c * D ≤ 0) : c ≤ 0 := by
  rcases Int.lt_or_le 0 c with h1 | h1
  · have := pp h1 hD; omega
  · exact h1

theorem on_parts {ax ay bx by_ px py : Int} (h : onB ax ay bx by_ px py = true) : cr ax ay bx by_ px py = 0 ∧ ((ax ≤ px ∧ px ≤ bx) ∨ (bx ≤ px ∧ px ≤ ax)) ∧ ((ay ≤ py ∧ py ≤ by_) ∨ (by_ ≤ py ∧ py ≤ ay)) := of_decide_eq_true h
/-- p at a height between those of a and b lies on their line if the product is 0. -/
theorem on_mid {ax ay bx by_ px py : Int} (h0 : cr ax ay bx by_ px py = 0) (h1 : ay ≤ py) (h2 : py ≤ by_) (h3 : ay < by_) : onB ax ay bx by_ px py = true := by
  have e1 : (px - ax) * (by_ - ay) = (bx - ax) * (py - ay) := by unfold cr at h0; grind
  have e2 : (bx - px) * (by_ - ay) = (bx - ax) * (by_ - py) := by unfold cr at h0; grind
  refine decide_eq_true ⟨h0, ?_, Or.inl ⟨h1, h2⟩⟩
  rcases Int.lt_or_le bx ax with h | h
  · right
    have g1 := np0 (show bx - ax ≤ 0 by omega) (show 0 ≤ py - ay by omega)
    have g2 := np0 (show bx - ax ≤ 0 by omega) (show 0 ≤ by_ - py by omega)
    rw [← e1] at g1
    rw [← e2] at g2
    have f1 := npos_of (by omega) g1
    have f2 := npos_of (by omega) g2
    omega
  · left
    have g1 := pp0 (show 0 ≤ bx - ax by omega) (show 0 ≤ py - ay by omega)
    have g2 := pp0 (show 0 ≤ bx - ax by omega) (show 0 ≤ by_ - py by omega)
    rw [← e1] at g1
    rw [← e2] at g2
    have f1 := nneg_of (by omega) g1
    have f2 := nneg_of (by omega) g2
    omega
/-- What a line that meets no other one tells. -/
theorem no_parts {ax ay bx by_ px py qx qy : Int} (h : meB ax ay bx by_ px py qx qy = false) :
    onB ax ay bx by_ px py = false ∧ onB ax ay bx by_ qx qy = false ∧ onB px py qx qy ax ay = false ∧ onB px py qx qy bx by_ = false ∧ ¬ (((cr ax ay bx by_ px py < 0 ∧ 0 < cr ax ay bx by_ qx qy) ∨ (0 < cr ax ay bx by_ px py ∧ cr ax ay bx by_ qx qy < 0)) ∧ ((cr px py qx qy ax ay < 0 ∧ 0 < cr px py qx qy bx by_) ∨ (0 < cr px py qx qy ax ay ∧ cr px py qx qy bx by_ < 0))) := by
  unfold meB at h
  rw [Bool.or_eq_false_iff, Bool.or_eq_false_iff, Bool.or_eq_false_iff, Bool.or_eq_false_iff, Bool.and_eq_false_iff] at h
  obtain ⟨⟨⟨h1, h2⟩, h3, h4⟩, h5⟩ := h
  refine ⟨h1, h2, h3, h4, fun ⟨g1, g2⟩ => ?_⟩
  rcases h5 with h5 | h5
  · exact of_decide_eq_false h5 g1
  · exact of_decide_eq_false h5 g2
theorem no_mid {ax ay bx by_ px py : Int} (h : onB ax ay bx by_ px py = false) (h1 : ay ≤ py) (h2 : py ≤ by_) (h3 : ay < by_) : cr ax ay bx by_ px py ≠ 0 := fun h0 => by
  rw [on_mid h0 h1 h2 h3] at h; cases h

section
variable {ax ay bx by_ px py qx qy : Int}
/-- a below, b between. -/
theorem lowMid (hM : meB ax ay bx by_ px py qx qy = false) (h1 : ay ≤ py) (h2 : py < by_) (h3 : by_ ≤ qy) : 0 < cr ax ay bx by_ px py ↔ cr px py qx qy bx by_ < 0 := by
  obtain ⟨n1, n2, n3, n4, n5⟩ := no_parts hM
  have z1 := no_mid n1 (by omega) (by omega) (by omega)
  have z4 := no_mid n4 (by omega) (by omega) (by omega)
  have e1 := i1 ax ay bx by_ px py qx qy
  have e2 := i2 ax ay bx by_ px py qx qy
  generalize cr ax ay bx by_ px py = c at *
  generalize cr ax ay bx by_ qx qy = d at *
  generalize cr px py qx qy ax ay = A at *
  generalize cr px py qx qy bx by_ = B at *
  constructor
  · intro hc
    rcases Int.lt_or_le B 0 with hB | hB
    · exact hB
    · exfalso
      have f1 := pp hc (show 0 < qy - py by omega)
      have f2 := pn0 hB (show ay - py ≤ 0 by omega)
      have hA := neg_of (show 0 < by_ - py by omega) (show A * (by_ - py) < 0 by omega)
      have f3 := pn (show 0 < B by omega) (show ay - qy < 0 by omega)
      have f4 := nn0 (Int.le_of_lt hA) (show by_ - qy ≤ 0 by omega)
      have hd := neg_of (show 0 < qy - py by omega) (show d * (qy - py) < 0 by omega)
      omega
  · intro hB
    rcases Int.lt_or_le 0 c with hc | hc
    · exact hc
    · exfalso
      have f1 := np (show c < 0 by omega) (show 0 < qy - py by omega)
      have f2 := nn0 (Int.le_of_lt hB) (show ay - py ≤ 0 by omega)
      have hA := pos_of (show 0 < by_ - py by omega) (show 0 < A * (by_ - py) by omega)
      have f3 := nn hB (show ay - qy < 0 by omega)
      have f4 := pn0 (Int.le_of_lt hA) (show by_ - qy ≤ 0 by omega)
      have hd := pos_of (show 0 < qy - py by omega) (show 0 < d * (qy - py) by omega)
      omega
/-- a between, b above. -/
theorem midHigh (hM : meB ax ay bx by_ px py qx qy = false) (h1 : py < ay) (h2 : ay ≤ qy) (h3 : qy < by_) : 0 < cr ax ay bx by_ qx qy ↔ cr px py qx qy ax ay < 0 := by
  obtain ⟨n1, n2, n3, n4, n5⟩ := no_parts hM
  have z2 := no_mid n2 (by omega) (by omega) (by omega)
  have z3 := no_mid n3 (by omega) (by omega) (by omega)
  have e1 := i1 ax ay bx by_ px py qx qy
  have e2 := i2 ax ay bx by_ px py qx qy
  generalize cr ax ay bx by_ px py = c at *
  generalize cr ax ay bx by_ qx qy = d at *
  generalize cr px py qx qy ax ay = A at *
  generalize cr px py qx qy bx by_ = B at *
  constructor
  · intro hd
    rcases Int.lt_or_le A 0 with hA | hA
    · exact hA
    · exfalso
      have f1 := pp hd (show 0 < qy - py by omega)
      have f2 := pp (show 0 < A by omega) (show 0 < by_ - qy by omega)
      have hB : B < 0 := by
        rcases Int.lt_or_le B 0 with h | h
        · exact h
        · have := pn0 h (show ay - qy ≤ 0 by omega); omega
      have f3 := np hB (show 0 < ay - py by omega)
      have f4 := pp (show 0 < A by omega) (show 0 < by_ - py by omega)
      have hc := neg_of (show 0 < qy - py by omega) (show c * (qy - py) < 0 by omega)
      omega
  · intro hA
    rcases Int.lt_or_le 0 d with hd | hd
    · exact hd
    · exfalso
      have f1 := np (show d < 0 by omega) (show 0 < qy - py by omega)
      have f2 := np hA (show 0 < by_ - qy by omega)
      have hB : 0 < B := by
        rcases Int.lt_or_le 0 B with h | h
        · exact h
        · have := nn0 h (show ay - qy ≤ 0 by omega); omega
      have f3 := pp hB (show 0 < ay - py by omega)
      have f4 := np hA (show 0 < by_ - py by omega)
      have hc := pos_of (show 0 < qy - py by omega) (show 0 < c * (qy - py) by omega)
      omega
/-- Both between. -/
theorem midMid1 (hM : meB ax ay bx by_ px py qx qy = false) (h1 : py < ay) (h2 : ay ≤ qy) (h3 : py < by_) (h4 : by_ ≤ qy) (hA : cr px py qx qy ax ay < 0) : cr px py qx qy bx by_ < 0 := by
  obtain ⟨n1, n2, n3, n4, n5⟩ := no_parts hM
  have z4 := no_mid n4 (by omega) (by omega) (by omega)
  have e1 := i1 ax ay bx by_ px py qx qy
  have e2 := i2 ax ay bx by_ px py qx qy
  have z2 : cr ax ay bx by_ qx qy = 0 → 0 < cr px py qx qy bx by_ → False := fun h0 hB => by
    rw [h0, Int.zero_mul] at e2
    have f1 := pn0 (Int.le_of_lt hB) (show ay - qy ≤ 0 by omega)
    have f2 := nn0 (Int.le_of_lt hA) (show by_ - qy ≤ 0 by omega)
    have g1 : ay - qy = 0 := by
      rcases Int.lt_or_le (ay - qy) 0 with h | h
      · have := pn hB h; omega
      · omega
    have g2 : by_ - qy = 0 := by
      rcases Int.lt_or_le (by_ - qy) 0 with h | h
      · have := nn hA h; omega
      · omega
    -- a, b and q at one height: q between them
    have k1 : cr px py qx qy ax ay = (qx - ax) * (qy - py) := by unfold cr; rw [show ay = qy by omega]; grind
    have k2 : cr px py qx qy bx by_ = (qx - bx) * (qy - py) := by unfold cr; rw [show by_ = qy by omega]; grind
    rw [k1] at hA
    rw [k2] at hB
    have l1 := neg_of (show 0 < qy - py by omega) hA
    have l2 := pos_of (show 0 < qy - py by omega) hB
    have : onB ax ay bx by_ qx qy = true := decide_eq_true ⟨h0, by omega, by omega⟩
    rw [this] at n2; cases n2
  generalize cr ax ay bx by_ px py = c at *
  generalize cr ax ay bx by_ qx qy = d at *
  generalize cr px py qx qy ax ay = A at *
  generalize cr px py qx qy bx by_ = B at *
  rcases Int.lt_or_le B 0 with hB | hB
  · exact hB
  · exfalso
    have hB : 0 < B := by omega
    have f1 := pp hB (show 0 < ay - py by omega)
    have f2 := np hA (show 0 < by_ - py by omega)
    have hc := pos_of (show 0 < qy - py by omega) (show 0 < c * (qy - py) by omega)
    have f3 := pn0 (Int.le_of_lt hB) (show ay - qy ≤ 0 by omega)
    have f4 := nn0 (Int.le_of_lt hA) (show by_ - qy ≤ 0 by omega)
    have hd := npos_of (show 0 < qy - py by omega) (show d * (qy - py) ≤ 0 by omega)
    have hd0 : d ≠ 0 := fun h => z2 h hB
    omega
/-- a below, b above. -/
theorem lowHigh (hM : meB ax ay bx by_ px py qx qy = false) (h1 : ay ≤ py) (h2 : py ≤ qy) (h3 : qy < by_) : 0 < cr ax ay bx by_ px py ↔ 0 < cr ax ay bx by_ qx qy := by
  obtain ⟨n1, n2, n3, n4, n5⟩ := no_parts hM
  have z1 := no_mid n1 (by omega) (by omega) (by omega)
  have z2 := no_mid n2 (by omega) (by omega) (by omega)
  have e1 := j1 ax ay bx by_ px py qx qy
  have e2 := j2 ax ay bx by_ px py qx qy
  have z3 : py = ay → qy = ay → cr px py qx qy ax ay = 0 → ((0 < cr ax ay bx by_ px py ∧ cr ax ay bx by_ qx qy < 0) ∨ (cr ax ay bx by_ px py < 0 ∧ 0 < cr ax ay bx by_ qx qy)) → False := fun g1 g2 h0 hh => by
    have k1 : cr ax ay bx by_ px py = (ax - px) * (by_ - ay) := by unfold cr; rw [g1]; grind
    have k2 : cr ax ay bx by_ qx qy = (ax - qx) * (by_ - ay) := by unfold cr; rw [g2]; grind
    rw [k1, k2] at hh
    have : onB px py qx qy ax ay = true := decide_eq_true ⟨h0, by
      rcases hh with ⟨l1, l2⟩ | ⟨l1, l2⟩
      · have m1 := pos_of (show 0 < by_ - ay by omega) l1
        have m2 := neg_of (show 0 < by_ - ay by omega) l2
        omega
      · have m1 := neg_of (show 0 < by_ - ay by omega) l1
        have m2 := pos_of (show 0 < by_ - ay by omega) l2
        omega, by omega⟩
    rw [this] at n3; cases n3
  generalize cr ax ay bx by_ px py = c at *
  generalize cr ax ay bx by_ qx qy = d at *
  generalize cr px py qx qy ax ay = A at *
  generalize cr px py qx qy bx by_ = B at *
  constructor
  · intro hc
    rcases Int.lt_or_le 0 d with hd | hd
    · exact hd
    · exfalso
      have hd : d < 0 := by omega
      have f1 := np0 (Int.le_of_lt hd) (show 0 ≤ py - ay by omega)
      have f2 := pp0 (Int.le_of_lt hc) (show 0 ≤ qy - ay by omega)
      have f3 := nn hd (show py - by_ < 0 by omega)
      have f4 := pn hc (show qy - by_ < 0 by omega)
      have hB := pos_of (show 0 < by_ - ay by omega) (show 0 < B * (by_ - ay) by omega)
      have hA := npos_of (show 0 < by_ - ay by omega) (show A * (by_ - ay) ≤ 0 by omega)
      by_cases hA0 : A = 0
      · rw [hA0, Int.zero_mul] at e1
        have g1 : py - ay = 0 := by
          rcases Int.lt_or_le 0 (py - ay) with h | h
          · have := np hd h; omega
          · omega
        have g2 : qy - ay = 0 := by
          rcases Int.lt_or_le 0 (qy - ay) with h | h
          · have := pp hc h; omega
          · omega
        exact z3 (by omega) (by omega) hA0 (Or.inl ⟨hc, hd⟩)
      · omega
  · intro hd
    rcases Int.lt_or_le 0 c with hc | hc
    · exact hc
    · exfalso
      have hc : c < 0 := by omega
      have f1 := pp0 (Int.le_of_lt hd) (show 0 ≤ py - ay by omega)
      have f2 := np0 (Int.le_of_lt hc) (show 0 ≤ qy - ay by omega)
      have f3 := pn hd (show py - by_ < 0 by omega)
      have f4 := nn hc (show qy - by_ < 0 by omega)
      have hB := neg_of (show 0 < by_ - ay by omega) (show B * (by_ - ay) < 0 by omega)
      have hA := nneg_of (show 0 < by_ - ay by omega) (show 0 ≤ A * (by_ - ay) by omega)
      by_cases hA0 : A = 0
      · rw [hA0, Int.zero_mul] at e1
        have g1 : py - ay = 0 := by
          rcases Int.lt_or_le 0 (py - ay) with h | h
          · have := pp hd h; omega
          · omega
        have g2 : qy - ay = 0 := by
          rcases Int.lt_or_le 0 (qy - ay) with h | h
          · have := np hc h; omega
          · omega
        exact z3 (by omega) (by omega) hA0 (Or.inr ⟨hc, hd⟩)
      · omega
end

/- The same lines the other way round. -/
theorem cr_flip (ax ay bx by_ px py : Int) : cr bx by_ ax ay px py = - cr ax ay bx by_ px py := by unfold cr; grind
theorem on_flip (ax ay bx by_ px py : Int) : onB bx by_ ax ay px py = onB ax ay bx by_ px py := by
  unfold onB
  rw [cr_flip]
  generalize cr ax ay bx by_ px py = c
  exact decide_eq_decide.2 (by omega)
theorem opp_neg (u v : Int) : opp (-u) (-v) = opp u v := decide_eq_decide.2 (by omega)
theorem opp_comm (u v : Int) : opp v u = opp u v := decide_eq_decide.2 (by omega)
theorem me_flip (ax ay bx by_ px py qx qy : Int) : meB bx by_ ax ay px py qx qy = meB ax ay bx by_ px py qx qy := by
  unfold meB
  rw [on_flip ax ay bx by_ px py, on_flip ax ay bx by_ qx qy, cr_flip ax ay bx by_ px py, cr_flip ax ay bx by_ qx qy, opp_neg, opp_comm (cr px py qx qy ax ay), Bool.or_comm (onB px py qx qy bx by_)]
theorem me_swap (ax ay bx by_ px py qx qy : Int) : meB ax ay bx by_ qx qy px py = meB ax ay bx by_ px py qx qy := by
  unfold meB
  rw [on_flip px py qx qy ax ay, on_flip px py qx qy bx by_, cr_flip px py qx qy ax ay, cr_flip px py qx qy bx by_, opp_neg, opp_comm (cr ax ay bx by_ px py), Bool.or_comm (onB ax ay bx by_ qx qy)]
theorem tog_flip {ax ay bx by_ px py : Int} (h : onB ax ay bx by_ px py = false) : tog bx by_ ax ay px py = tog ax ay bx by_ px py := by
  have z1 : ay ≤ py → py < by_ → cr ax ay bx by_ px py ≠ 0 := fun h1 h2 => no_mid h h1 (by omega) (by omega)
  have z2 : by_ ≤ py → py < ay → cr ax ay bx by_ px py ≠ 0 := fun h1 h2 h0 => by
    have := no_mid (on_flip ax ay bx by_ px py ▸ h) h1 (by omega) (by omega)
    rw [cr_flip, h0] at this
    exact this rfl
  unfold tog
  rw [cr_flip]
  generalize cr ax ay bx by_ px py = c at *
  rcases Int.lt_or_le py ay with h1 | h1 <;> rcases Int.lt_or_le py by_ with h2 | h2
  · rw [decide_eq_true h1, decide_eq_true h2]; rfl
  · have z := z2 h2 h1
    rw [decide_eq_true h1, decide_eq_false (show ¬ py < by_ by omega), decide_eq_true (show by_ < ay by omega), decide_eq_false (show ¬ ay < by_ by omega)]
    rcases Int.lt_or_le 0 c with h3 | h3
    · rw [decide_eq_true h3, decide_eq_false (show ¬ 0 < -c by omega)]; rfl
    · rw [decide_eq_false (show ¬ 0 < c by omega), decide_eq_true (show 0 < -c by omega)]; rfl
  · have z := z1 h1 h2
    rw [decide_eq_true h2, decide_eq_false (show ¬ py < ay by omega), decide_eq_true (show ay < by_ by omega), decide_eq_false (show ¬ by_ < ay by omega)]
    rcases Int.lt_or_le 0 c with h3 | h3
    · rw [decide_eq_true h3, decide_eq_false (show ¬ 0 < -c by omega)]; rfl
    · rw [decide_eq_false (show ¬ 0 < c by omega), decide_eq_true (show 0 < -c by omega)]; rfl
  · rw [decide_eq_false (show ¬ py < ay by omega), decide_eq_false (show ¬ py < by_ by omega)]; rfl

section
variable {ax ay bx by_ px py qx qy : Int}
theorem tog_no (h : py < ay ↔ py < by_) : tog ax ay bx by_ px py = false := by unfold tog; rw [show decide (py < ay) = decide (py < by_) from decide_eq_decide.2 h]; simp
theorem tog_up (h1 : ay ≤ py) (h2 : py < by_) : tog ax ay bx by_ px py = decide (0 < cr ax ay bx by_ px py) := by
  unfold tog
  rw [decide_eq_false (show ¬ py < ay by omega), decide_eq_true h2, decide_eq_true (show ay < by_ by omega)]
  simp
theorem rig_no (h : ¬ (py < ay ∧ ay ≤ qy)) : rig px py qx qy ax ay = false := decide_eq_false (fun hh => h ⟨hh.1, hh.2.1⟩)
theorem rig_is (h1 : py < ay) (h2 : ay ≤ qy) : rig px py qx qy ax ay = decide (cr px py qx qy ax ay < 0) := decide_eq_decide.2 ⟨fun hh => hh.2.2, fun hh => ⟨h1, h2, hh⟩⟩
/-- A side that the line from p up to q doesn't meet, and that doesn't fall. -/
theorem side1 (hpq : py ≤ qy) (hab : ay ≤ by_) (hM : meB ax ay bx by_ px py qx qy = false) : (tog ax ay bx by_ px py != tog ax ay bx by_ qx qy) = (rig px py qx qy ax ay != rig px py qx qy bx by_) := by
  rcases Int.lt_or_le py ay with ha | ha
  · rw [tog_no (ax := ax) (bx := bx) (px := px) (show py < ay ↔ py < by_ by omega)]
    rcases Int.lt_or_le qy ay with hq | hq
    · rw [tog_no (show qy < ay ↔ qy < by_ by omega), rig_no (by omega), rig_no (by omega)]
    · rcases Int.lt_or_le qy by_ with hb | hb
      · rw [tog_up hq hb, rig_is ha hq, rig_no (ax := bx) (ay := by_) (by omega), decide_eq_decide.2 (midHigh hM ha hq hb)]
        cases decide (cr px py qx qy ax ay < 0) <;> rfl
      · have hM2 := hM
        rw [← me_flip] at hM2
        rw [tog_no (show qy < ay ↔ qy < by_ by omega), rig_is ha hq, rig_is (show py < by_ by omega) hb, decide_eq_decide.2 (Iff.intro (midMid1 hM ha hq (by omega) hb) (midMid1 hM2 (by omega) hb ha hq))]
        cases decide (cr px py qx qy bx by_ < 0) <;> rfl
  · rw [rig_no (ax := ax) (ay := ay) (by omega)]
    rcases Int.lt_or_le py by_ with hb | hb
    · rw [tog_up ha hb]
      rcases Int.lt_or_le qy by_ with hc | hc
      · rw [tog_up (show ay ≤ qy by omega) hc, rig_no (by omega), decide_eq_decide.2 (lowHigh hM ha hpq hc)]
        cases decide (0 < cr ax ay bx by_ qx qy) <;> rfl
      · rw [tog_no (show qy < ay ↔ qy < by_ by omega), rig_is hb hc, decide_eq_decide.2 (lowMid hM ha hb hc)]
        cases decide (cr px py qx qy bx by_ < 0) <;> rfl
    · rw [tog_no (show py < ay ↔ py < by_ by omega), tog_no (show qy < ay ↔ qy < by_ by omega), rig_no (by omega)]
/-- .. and any side. -/
theorem side (hpq : py ≤ qy) (hM : meB ax ay bx by_ px py qx qy = false) : (tog ax ay bx by_ px py != tog ax ay bx by_ qx qy) = (rig px py qx qy ax ay != rig px py qx qy bx by_) := by
  rcases Int.lt_or_le by_ ay with h | h
  · have hM2 := hM
    rw [← me_flip] at hM2
    have := side1 hpq (Int.le_of_lt h) hM2
    obtain ⟨n1, n2, -⟩ := no_parts hM
    rw [tog_flip n1, tog_flip n2] at this
    rw [this]
    cases rig px py qx qy ax ay <;> cases rig px py qx qy bx by_ <;> rfl
  · exact side1 hpq h hM
end

/- Borders: the corners by their coordinates. -/
/-- The parity of the first k sides. -/
def par (X Y : Nat → Int) (n : Nat) (px py : Int) : Nat → Bool
  | 0 => false
  | k + 1 => par X Y n px py k != tog (X k) (Y k) (X ((k + 1) % n)) (Y ((k + 1) % n)) px py
/-- One of the first k sides has the place. -/
def brd (X Y : Nat → Int) (n : Nat) (px py : Int) : Nat → Bool
  | 0 => false
  | k + 1 => brd X Y n px py k || onB (X k) (Y k) (X ((k + 1) % n)) (Y ((k + 1) % n)) px py
/-- How many of the first k sides the line meets. -/
def cnt (X Y : Nat → Int) (n : Nat) (px py qx qy : Int) : Nat → Nat
  | 0 => 0
  | k + 1 => cnt X Y n px py qx qy k + (if meB (X k) (Y k) (X ((k + 1) % n)) (Y ((k + 1) % n)) px py qx qy then 1 else 0)
/-- In the sector. -/
def inB (X Y : Nat → Int) (n : Nat) (px py : Int) : Bool := brd X Y n px py n || par X Y n px py n
section
variable {X Y : Nat → Int} {n : Nat} {px py qx qy : Int}
theorem cnt_none {m : Nat} (h : cnt X Y n px py qx qy m = 0) : ∀ k, k < m → meB (X k) (Y k) (X ((k + 1) % n)) (Y ((k + 1) % n)) px py qx qy = false := by
  induction m with
  | zero => intro k hk; omega
  | succ m ih =>
    intro k hk
    rw [cnt] at h
    rcases Nat.lt_or_ge k m with h1 | h1
    · exact ih (by omega) k h1
    · obtain rfl : k = m := by omega
      cases hq : meB (X k) (Y k) (X ((k + 1) % n)) (Y ((k + 1) % n)) px py qx qy
      · rfl
      · rw [hq, if_pos rfl] at h; omega
theorem cnt_swap (X Y : Nat → Int) (n : Nat) (px py qx qy : Int) : ∀ k, cnt X Y n qx qy px py k = cnt X Y n px py qx qy k
  | 0 => rfl
  | k + 1 => by rw [cnt, cnt, cnt_swap X Y n px py qx qy k, me_swap]
theorem brd_none {m : Nat} (h : ∀ k, k < m → onB (X k) (Y k) (X ((k + 1) % n)) (Y ((k + 1) % n)) px py = false) : brd X Y n px py m = false := by
  induction m with
  | zero => rfl
  | succ m ih => rw [brd, ih (fun k hk => h k (by omega)), h m (by omega)]; rfl
theorem brd_some {m : Nat} (h : brd X Y n px py m = true) : ∃ k, k < m ∧ onB (X k) (Y k) (X ((k + 1) % n)) (Y ((k + 1) % n)) px py = true := by
  induction m with
  | zero => cases h
  | succ m ih =>
    rw [brd, Bool.or_eq_true] at h
    rcases h with h | h
    · obtain ⟨k, hk, e⟩ := ih h
      exact ⟨k, by omega, e⟩
    · exact ⟨m, by omega, h⟩
theorem par_side (hpq : py ≤ qy) (hM : ∀ k, k < n → meB (X k) (Y k) (X ((k + 1) % n)) (Y ((k + 1) % n)) px py qx qy = false) : ∀ k, k ≤ n → (par X Y n px py k != par X Y n qx qy k) = (rig px py qx qy (X 0) (Y 0) != rig px py qx qy (X (k % n)) (Y (k % n))) := by
  intro k
  induction k with
  | zero => intro _; rw [Nat.zero_mod]; simp [par]
  | succ k ih =>
    intro hk
    have h1 := ih (by omega)
    have h2 := side hpq (hM k (by omega))
    rw [Nat.mod_eq_of_lt (show k < n by omega)] at h1
    rw [par, par]
    generalize par X Y n px py k = u at *
    generalize par X Y n qx qy k = v at *
    generalize tog (X k) (Y k) (X ((k + 1) % n)) (Y ((k + 1) % n)) px py = s at *
    generalize tog (X k) (Y k) (X ((k + 1) % n)) (Y ((k + 1) % n)) qx qy = t at *
    generalize rig px py qx qy (X 0) (Y 0) = a at *
    generalize rig px py qx qy (X k) (Y k) = b at *
    generalize rig px py qx qy (X ((k + 1) % n)) (Y ((k + 1) % n)) = c at *
    revert h1 h2
    cases u <;> cases v <;> cases s <;> cases t <;> cases a <;> cases b <;> cases c <;> decide
theorem par_same (hM : ∀ k, k < n → meB (X k) (Y k) (X ((k + 1) % n)) (Y ((k + 1) % n)) px py qx qy = false) : par X Y n px py n = par X Y n qx qy n := by
  rcases Int.lt_or_le qy py with h | h
  · have := par_side (Int.le_of_lt h) (X := X) (Y := Y) (n := n) (px := qx) (qx := px) (fun k hk => by rw [me_swap]; exact hM k hk) n (Nat.le_refl _)
    rw [Nat.mod_self] at this
    revert this
    cases par X Y n px py n <;> cases par X Y n qx qy n <;> simp
  · have := par_side h hM n (Nat.le_refl _)
    rw [Nat.mod_self] at this
    revert this
    cases par X Y n px py n <;> cases par X Y n qx qy n <;> simp
/-- A line that meets no side has both ends in the sector, or none. -/
theorem in_same (h : cnt X Y n px py qx qy n = 0) : inB X Y n px py = inB X Y n qx qy := by
  have hM := cnt_none h
  unfold inB
  rw [par_same hM, brd_none (fun k hk => (no_parts (hM k hk)).1), brd_none (fun k hk => (no_parts (hM k hk)).2.1)]
theorem brd_cnt (h : brd X Y n px py n = true) : 0 < cnt X Y n px py qx qy n := by
  obtain ⟨k, hk, e⟩ := brd_some h
  rcases Nat.eq_zero_or_pos (cnt X Y n px py qx qy n) with h0 | h0
  · have := (no_parts (cnt_none h0 k hk)).1
    rw [e] at this; cases this
  · exact h0
end
end Go.Proofs.Ytkndfklbonkbiaa.sct
