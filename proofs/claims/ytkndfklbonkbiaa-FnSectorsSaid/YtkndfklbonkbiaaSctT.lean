/- Geometry of chapter 17 in plain mathematics: a sector with its corners in the opposite order has the same places and the same area, and is valid; a place in it lies in the box of its corners. -/
import Derived.Test.YtkndfklbonkbiaaSct
namespace Go.Proofs.Ytkndfklbonkbiaa.sctt
open Go.Proofs.Ytkndfklbonkbiaa.sct

def nx (n k : Nat) : Nat := if k + 1 = n then 0 else k + 1
theorem nx_mod {n k : Nat} (h : k < n) : (k + 1) % n = nx n k := by
  unfold nx
  split
  · rename_i e; rw [e]; exact Nat.mod_self _
  · exact Nat.mod_eq_of_lt (by omega)
theorem nx_lt {n k : Nat} (h : k < n) : nx n k < n := by unfold nx; split <;> omega
theorem nx2_mod {n k : Nat} (h : k < n) (h3 : 3 ≤ n) : (k + 2) % n = nx n (nx n k) := by
  unfold nx
  rcases Nat.lt_or_ge (k + 2) n with h1 | h1
  · rw [Nat.mod_eq_of_lt h1, if_neg (show ¬ k + 1 = n by omega), if_neg (by omega)]
  · by_cases h2 : k + 2 = n
    · rw [h2, Nat.mod_self, if_neg (show ¬ k + 1 = n by omega), if_pos (by omega)]
    · obtain rfl : n = k + 1 := by omega
      rw [show k + 2 = 1 + (k + 1) by omega, Nat.add_mod_right, Nat.mod_eq_of_lt (by omega), if_pos rfl, if_neg (by omega)]
/-- Where corner k of the turned sector comes from. -/
def rv (n k : Nat) : Nat := if k = 0 then 0 else n - k
theorem rv_lt {n k : Nat} (h : k < n) : rv n k < n := by unfold rv; split <;> omega
theorem rv_rv {n k : Nat} (h : k < n) : rv n (rv n k) = k := by unfold rv; split <;> split <;> omega
theorem rv_nx {n k : Nat} (h : k < n) : rv n (nx n k) = n - 1 - k := by unfold rv nx; split <;> split <;> omega
theorem rv_is {n k : Nat} (h : k < n) : rv n k = nx n (n - 1 - k) := by unfold rv nx; split <;> split <;> omega

/- Exclusive or over the first m. -/
def xr (f : Nat → Bool) : Nat → Bool
  | 0 => false
  | k + 1 => xr f k != f k
theorem xr_congr {f g : Nat → Bool} : ∀ m, (∀ k, k < m → f k = g k) → xr f m = xr g m
  | 0, _ => rfl
  | m + 1, h => by rw [xr, xr, xr_congr m (fun k hk => h k (by omega)), h m (by omega)]
theorem xr_front (f : Nat → Bool) : ∀ m, xr f (m + 1) = (f 0 != xr (fun i => f (i + 1)) m)
  | 0 => by simp [xr]
  | m + 1 => by
    rw [xr, xr_front f m, xr]
    cases f 0 <;> cases xr (fun i => f (i + 1)) m <;> cases f (m + 1) <;> rfl
theorem xr_rev (f : Nat → Bool) : ∀ m, xr (fun i => f (m - 1 - i)) m = xr f m
  | 0 => rfl
  | m + 1 => by
    rw [xr_front, xr, ← xr_rev f m, Nat.add_sub_cancel, Nat.sub_zero]
    rw [xr_congr (f := fun i => f (m - (i + 1))) (g := fun i => f (m - 1 - i)) m (fun k _ => by rw [show m - (k + 1) = m - 1 - k by omega])]
    cases f m <;> cases xr (fun i => f (m - 1 - i)) m <;> rfl
/- Sums over the first m. -/
def sm (f : Nat → Int) : Nat → Int
  | 0 => 0
  | k + 1 => sm f k + f k
theorem sm_congr {f g : Nat → Int} : ∀ m, (∀ k, k < m → f k = g k) → sm f m = sm g m
  | 0, _ => rfl
  | m + 1, h => by rw [sm, sm, sm_congr m (fun k hk => h k (by omega)), h m (by omega)]
theorem sm_front (f : Nat → Int) : ∀ m, sm f (m + 1) = f 0 + sm (fun i => f (i + 1)) m
  | 0 => by simp [sm]
  | m + 1 => by rw [sm, sm_front f m, sm]; omega
theorem sm_rev (f : Nat → Int) : ∀ m, sm (fun i => f (m - 1 - i)) m = sm f m
  | 0 => rfl
  | m + 1 => by
    rw [sm_front, sm, ← sm_rev f m, Nat.add_sub_cancel, Nat.sub_zero]
    rw [sm_congr (f := fun i => f (m - (i + 1))) (g := fun i => f (m - 1 - i)) m (fun k _ => by rw [show m - (k + 1) = m - 1 - k by omega])]
    omega
theorem sm_neg (f : Nat → Int) : ∀ m, sm (fun i => - f i) m = - sm f m
  | 0 => rfl
  | m + 1 => by rw [sm, sm, sm_neg f m]; omega

/-- Twice the area with its sign: the first k triangles. -/
def dbl (X Y : Nat → Int) : Nat → Int := sm fun i => cr (X 0) (Y 0) (X (i + 1)) (Y (i + 1)) (X (i + 2)) (Y (i + 2))
theorem cr_anti (ox oy ax ay bx by_ : Int) : cr ox oy bx by_ ax ay = - cr ox oy ax ay bx by_ := by unfold cr; grind

section
variable {X Y : Nat → Int} {n : Nat} {px py : Int}
theorem par_xr (X Y : Nat → Int) (n : Nat) (px py : Int) : ∀ k, par X Y n px py k = xr (fun j => tog (X j) (Y j) (X ((j + 1) % n)) (Y ((j + 1) % n)) px py) k
  | 0 => rfl
  | k + 1 => by rw [par, xr, par_xr X Y n px py k]
theorem brd_at {m : Nat} (h : brd X Y n px py m = false) : ∀ k, k < m → onB (X k) (Y k) (X ((k + 1) % n)) (Y ((k + 1) % n)) px py = false := by
  induction m with
  | zero => intro k hk; omega
  | succ m ih =>
    rw [brd, Bool.or_eq_false_iff] at h
    intro k hk
    rcases Nat.lt_or_ge k m with h1 | h1
    · exact ih h.1 k h1
    · obtain rfl : k = m := by omega
      exact h.2
/-- Side k of the turned sector is side n - 1 - k the other way round. -/
theorem brd_turn (X Y : Nat → Int) (n : Nat) (px py : Int) : brd (fun k => X (rv n k)) (fun k => Y (rv n k)) n px py n = brd X Y n px py n := by
  rw [Bool.eq_iff_iff]
  constructor
  · intro h
    obtain ⟨k, hk, e⟩ := brd_some h
    rw [nx_mod hk, rv_nx hk, rv_is hk, on_flip] at e
    cases hq : brd X Y n px py n
    · have := brd_at hq (n - 1 - k) (by omega)
      rw [nx_mod (by omega)] at this
      rw [this] at e; cases e
    · rfl
  · intro h
    obtain ⟨k, hk, e⟩ := brd_some h
    cases hq : brd (fun k => X (rv n k)) (fun k => Y (rv n k)) n px py n
    · have := brd_at hq (n - 1 - k) (by omega)
      rw [nx_mod (by omega), rv_nx (by omega), rv_is (by omega), show n - 1 - (n - 1 - k) = k by omega, on_flip, ← nx_mod hk, e] at this
      cases this
    · rfl
theorem par_turn (h : brd X Y n px py n = false) : par (fun k => X (rv n k)) (fun k => Y (rv n k)) n px py n = par X Y n px py n := by
  rw [par_xr, par_xr, ← xr_rev (fun j => tog (X j) (Y j) (X ((j + 1) % n)) (Y ((j + 1) % n)) px py)]
  refine xr_congr n fun k hk => ?_
  have h1 := brd_at h (n - 1 - k) (by omega)
  rw [nx_mod hk, rv_nx hk, rv_is hk, ← nx_mod (show n - 1 - k < n by omega)]
  exact tog_flip h1
/-- The turned sector has the same places. -/
theorem in_turn (X Y : Nat → Int) (n : Nat) (px py : Int) : inB (fun k => X (rv n k)) (fun k => Y (rv n k)) n px py = inB X Y n px py := by
  unfold inB
  rw [brd_turn]
  cases h : brd X Y n px py n
  · rw [par_turn h]
  · rfl
/-- .. and the same area, with the other sign. -/
theorem dbl_turn (X Y : Nat → Int) {n : Nat} (h : 3 ≤ n) : dbl (fun k => X (rv n k)) (fun k => Y (rv n k)) (n - 2) = - dbl X Y (n - 2) := by
  unfold dbl
  rw [← sm_neg, ← sm_rev (fun i => - cr (X 0) (Y 0) (X (i + 1)) (Y (i + 1)) (X (i + 2)) (Y (i + 2)))]
  refine sm_congr (n - 2) fun k hk => ?_
  have e0 : rv n 0 = 0 := rfl
  have e1 : rv n (k + 1) = n - 2 - 1 - k + 2 := by unfold rv; rw [if_neg (by omega)]; omega
  have e2 : rv n (k + 2) = n - 2 - 1 - k + 1 := by unfold rv; rw [if_neg (by omega)]; omega
  show cr (X (rv n 0)) (Y (rv n 0)) (X (rv n (k + 1))) (Y (rv n (k + 1))) (X (rv n (k + 2))) (Y (rv n (k + 2))) = _
  rw [e0, e1, e2]
  exact cr_anti _ _ _ _ _ _
/-- A corner lies on the border. -/
theorem corner_on (ax ay bx by_ : Int) : onB ax ay bx by_ ax ay = true := decide_eq_true ⟨by unfold cr; grind, by omega, by omega⟩
theorem brd_of {m k : Nat} (hk : k < m) (h : onB (X k) (Y k) (X ((k + 1) % n)) (Y ((k + 1) % n)) px py = true) : brd X Y n px py m = true := by
  cases hq : brd X Y n px py m
  · rw [brd_at hq k hk] at h; cases h
  · rfl
theorem brd_corner {k : Nat} (hk : k < n) : brd X Y n (X k) (Y k) n = true := brd_of hk (corner_on _ _ _ _)

/- The box. -/
theorem cr_two (ax ay bx by_ px py : Int) : cr ax ay bx by_ px py = (ax - px) * (by_ - py) + (bx - px) * (py - ay) := by unfold cr; grind
theorem tog_right {ax ay bx by_ px py : Int} (h1 : ax < px) (h2 : bx < px) : tog ax ay bx by_ px py = false := by
  have e := cr_two ax ay bx by_ px py
  unfold tog
  rcases Int.lt_or_le py ay with g1 | g1 <;> rcases Int.lt_or_le py by_ with g2 | g2
  · rw [decide_eq_true g1, decide_eq_true g2]; rfl
  · have f1 := nn0 (show ax - px ≤ 0 by omega) (show by_ - py ≤ 0 by omega)
    have f2 := nn (show bx - px < 0 by omega) (show py - ay < 0 by omega)
    rw [decide_eq_false (show ¬ ay < by_ by omega), decide_eq_true (show 0 < cr ax ay bx by_ px py by omega)]
    simp
  · have f1 := np (show ax - px < 0 by omega) (show 0 < by_ - py by omega)
    have f2 := np0 (show bx - px ≤ 0 by omega) (show 0 ≤ py - ay by omega)
    rw [decide_eq_true (show ay < by_ by omega), decide_eq_false (show ¬ 0 < cr ax ay bx by_ px py by omega)]
    simp
  · rw [decide_eq_false (show ¬ py < ay by omega), decide_eq_false (show ¬ py < by_ by omega)]; rfl
theorem tog_left {ax ay bx by_ px py : Int} (h1 : px < ax) (h2 : px < bx) : tog ax ay bx by_ px py = (decide (py < ay) != decide (py < by_)) := by
  have e := cr_two ax ay bx by_ px py
  unfold tog
  rcases Int.lt_or_le py ay with g1 | g1 <;> rcases Int.lt_or_le py by_ with g2 | g2
  · rw [decide_eq_true g1, decide_eq_true g2]; rfl
  · have f1 := pn0 (show 0 ≤ ax - px by omega) (show by_ - py ≤ 0 by omega)
    have f2 := pn (show 0 < bx - px by omega) (show py - ay < 0 by omega)
    rw [decide_eq_false (show ¬ ay < by_ by omega), decide_eq_false (show ¬ 0 < cr ax ay bx by_ px py by omega)]
    simp
  · have f1 := pp (show 0 < ax - px by omega) (show 0 < by_ - py by omega)
    have f2 := pp0 (show 0 ≤ bx - px by omega) (show 0 ≤ py - ay by omega)
    rw [decide_eq_true (show ay < by_ by omega), decide_eq_true (show 0 < cr ax ay bx by_ px py by omega)]
    simp
  · rw [decide_eq_false (show ¬ py < ay by omega), decide_eq_false (show ¬ py < by_ by omega)]; rfl
theorem par_zero {m : Nat} (h : ∀ k, k < m → tog (X k) (Y k) (X ((k + 1) % n)) (Y ((k + 1) % n)) px py = false) : par X Y n px py m = false := by
  induction m with
  | zero => rfl
  | succ m ih => rw [par, ih (fun k hk => h k (by omega)), h m (by omega)]; rfl
theorem par_tele (h : ∀ k, k < n → tog (X k) (Y k) (X ((k + 1) % n)) (Y ((k + 1) % n)) px py = (decide (py < Y k) != decide (py < Y ((k + 1) % n)))) : ∀ k, k ≤ n → par X Y n px py k = (decide (py < Y 0) != decide (py < Y (k % n))) := by
  intro k
  induction k with
  | zero => intro _; rw [Nat.zero_mod]; simp [par]
  | succ k ih =>
    intro hk
    rw [par, ih (by omega), h k (by omega), Nat.mod_eq_of_lt (show k < n by omega)]
    cases decide (py < Y 0) <;> cases decide (py < Y k) <;> cases decide (py < Y ((k + 1) % n)) <;> rfl
/-- A place in the sector lies in the box. -/
theorem in_box {a b c d : Int} (hX : ∀ k, k < n → a ≤ X k ∧ X k ≤ b) (hY : ∀ k, k < n → c ≤ Y k ∧ Y k ≤ d) (h : inB X Y n px py = true) : (a ≤ px ∧ px ≤ b) ∧ (c ≤ py ∧ py ≤ d) := by
  have hn : ∀ k, k < n → (k + 1) % n < n := fun k hk => Nat.mod_lt _ (by omega)
  unfold inB at h
  rw [Bool.or_eq_true] at h
  rcases h with h | h
  · obtain ⟨k, hk, e⟩ := brd_some h
    obtain ⟨-, e1, e2⟩ := on_parts e
    have x1 := hX k hk
    have x2 := hX _ (hn k hk)
    have y1 := hY k hk
    have y2 := hY _ (hn k hk)
    omega
  · refine Classical.byContradiction fun hh => ?_
    have hz : par X Y n px py n = false := by
      rcases Int.lt_or_le px a with g | g
      · have := par_tele (X := X) (Y := Y) (n := n) (px := px) (py := py) (fun k hk => tog_left (by have := hX k hk; omega) (by have := hX _ (hn k hk); omega)) n (Nat.le_refl _)
        rw [this, Nat.mod_self]
        simp
      · refine par_zero fun k hk => ?_
        have x1 := hX k hk
        have x2 := hX _ (hn k hk)
        have y1 := hY k hk
        have y2 := hY _ (hn k hk)
        rcases Int.lt_or_le b px with g2 | g2
        · exact tog_right (by omega) (by omega)
        · exact tog_no (by omega)
    rw [hz] at h; cases h
end
end Go.Proofs.Ytkndfklbonkbiaa.sctt
