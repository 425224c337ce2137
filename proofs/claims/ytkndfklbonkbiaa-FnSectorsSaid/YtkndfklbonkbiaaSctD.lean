/- The areas of the sectors that spec draws, in plain mathematics: corners relative to the first rectangle (x, y, w, h); X1 is the X of corner 1 (x + w, or one farther right). None is 0, but where corner 2 is corner 0 again. -/
import Derived.Test.YtkndfklbonkbiaaSctT
namespace Go.Proofs.Ytkndfklbonkbiaa.sctd
open Go.Proofs.Ytkndfklbonkbiaa.sct Go.Proofs.Ytkndfklbonkbiaa.sctt
set_option linter.unusedVariables false

theorem dbl1 (X Y : Nat → Int) : dbl X Y 1 = cr (X 0) (Y 0) (X 1) (Y 1) (X 2) (Y 2) := by simp [dbl, sm]
theorem dbl2 (X Y : Nat → Int) : dbl X Y 2 = cr (X 0) (Y 0) (X 1) (Y 1) (X 2) (Y 2) + cr (X 0) (Y 0) (X 2) (Y 2) (X 3) (Y 3) := by simp [dbl, sm]
theorem dbl3 (X Y : Nat → Int) : dbl X Y 3 = cr (X 0) (Y 0) (X 1) (Y 1) (X 2) (Y 2) + cr (X 0) (Y 0) (X 2) (Y 2) (X 3) (Y 3) + cr (X 0) (Y 0) (X 3) (Y 3) (X 4) (Y 4) := by simp [dbl, sm]
section
variable {x y w h X1 u v w2 h2 : Int}
/-- The triangle. -/
theorem tri_pos (hX : x + w ≤ X1) (hw : 0 < w) (hh : 0 < h) : 0 < cr x y X1 y (x + w) (y + h) := by
  have e : cr x y X1 y (x + w) (y + h) = (X1 - x) * h := by unfold cr; grind
  rw [e]
  exact pp (by omega) hh
/-- The rectangle, with corner 1 moved to the right. -/
theorem rect_pos (hX : x + w ≤ X1) (hw : 0 < w) (hh : 0 < h) : 0 < cr x y X1 y (x + w) (y + h) + cr x y (x + w) (y + h) x (y + h) := by
  have e : cr x y (x + w) (y + h) x (y + h) = w * h := by unfold cr; grind
  have f1 := tri_pos (y := y) hX hw hh
  have f2 := pp hw hh
  omega
/-- .. with the middle as a fifth corner. -/
theorem five_pos (hX : x + w ≤ X1) (hw : 0 < w) (hh : 0 < h) (h1 : w2 ≤ w) : 0 < cr x y X1 y (x + w) (y + h) + cr x y (x + w) (y + h) x (y + h) + cr x y x (y + h) (x + w2) (y + h2) := by
  have e : cr x y (x + w) (y + h) x (y + h) + cr x y x (y + h) (x + w2) (y + h2) = (w - w2) * h := by unfold cr; grind
  have f1 := tri_pos (y := y) hX hw hh
  have f2 := pp0 (show 0 ≤ w - w2 by omega) (Int.le_of_lt hh)
  omega
/-- Corner 0 moved inside. -/
theorem in0_pos (hX : x + w ≤ X1) (hw : 0 < w) (hh : 0 < h) (u0 : 0 ≤ u) (u1 : u < w) (v0 : 0 ≤ v) (v1 : v < h) : 0 < cr (x + u) (y + v) X1 y (x + w) (y + h) + cr (x + u) (y + v) (x + w) (y + h) x (y + h) := by
  have e : cr (x + u) (y + v) X1 y (x + w) (y + h) + cr (x + u) (y + v) (x + w) (y + h) x (y + h) = (X1 - x - u) * (h - v) + v * (w - u) + w * (h - v) := by unfold cr; grind
  rw [e]
  have f1 := pp (show 0 < X1 - x - u by omega) (show 0 < h - v by omega)
  have f2 := pp0 v0 (show 0 ≤ w - u by omega)
  have f3 := pp hw (show 0 < h - v by omega)
  omega
/-- Corner 1 moved inside. -/
theorem in1_pos (hw : 0 < w) (hh : 0 < h) (u0 : 0 ≤ u) (v1 : v < h) : 0 < cr x y (x + u) (y + v) (x + w) (y + h) + cr x y (x + w) (y + h) x (y + h) := by
  have e : cr x y (x + u) (y + v) (x + w) (y + h) + cr x y (x + w) (y + h) x (y + h) = u * h + w * (h - v) := by unfold cr; grind
  rw [e]
  have f1 := pp0 u0 (Int.le_of_lt hh)
  have f2 := pp hw (show 0 < h - v by omega)
  omega
/-- Corner 2 moved inside: 0 only if it is corner 0 again. -/
theorem in2_pos (hX : x + w ≤ X1) (hw : 0 < w) (hh : 0 < h) (u0 : 0 ≤ u) (v0 : 0 ≤ v) (hn : ¬ (u = 0 ∧ v = 0)) : 0 < cr x y X1 y (x + u) (y + v) + cr x y (x + u) (y + v) x (y + h) := by
  have e : cr x y X1 y (x + u) (y + v) + cr x y (x + u) (y + v) x (y + h) = (X1 - x) * v + u * h := by unfold cr; grind
  rw [e]
  rcases Int.lt_or_le 0 v with g | g
  · have f1 := pp (show 0 < X1 - x by omega) g
    have f2 := pp0 u0 (Int.le_of_lt hh)
    omega
  · have f1 := pp0 (show 0 ≤ X1 - x by omega) v0
    have f2 := pp (show 0 < u by omega) hh
    omega
/-- Corner 3 moved inside. -/
theorem in3_pos (hX : x + w ≤ X1) (hw : 0 < w) (hh : 0 < h) (u1 : u < w) (v0 : 0 ≤ v) : 0 < cr x y X1 y (x + w) (y + h) + cr x y (x + w) (y + h) (x + u) (y + v) := by
  have e : cr x y X1 y (x + w) (y + h) + cr x y (x + w) (y + h) (x + u) (y + v) = (X1 - x - w) * h + (w - u) * h + w * v := by unfold cr; grind
  rw [e]
  have f1 := pp0 (show 0 ≤ X1 - x - w by omega) (Int.le_of_lt hh)
  have f2 := pp (show 0 < w - u by omega) hh
  have f3 := pp0 (Int.le_of_lt hw) v0
  omega
end
end Go.Proofs.Ytkndfklbonkbiaa.sctd
