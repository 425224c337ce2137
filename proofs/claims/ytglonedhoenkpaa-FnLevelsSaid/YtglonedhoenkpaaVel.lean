/- Velocities in plain mathematics (no program in it): validity, squares, the code of 24 bits, directions, turns, whole speeds. -/
import Derived.Test.YtglonedhoenkpaaAid
import Derived.Test.YtglonedhoenkpaaIn
namespace Go.Proofs.Ytglonedhoenkpaa.vel
open Go.Proofs.Ytglonedhoenkpaa.in_

def vB (x y : Int) : Bool := isIn x (-200) 200 && isIn y (-200) 200
theorem vB_yes {x y : Int} (h : vB x y = true) : (-200 ≤ x ∧ x ≤ 200) ∧ -200 ≤ y ∧ y ≤ 200 := by
  unfold vB isIn at h
  rw [Bool.and_eq_true] at h
  exact ⟨of_decide_eq_true h.1, of_decide_eq_true h.2⟩
theorem vB_of {x y : Int} (h1 : -200 ≤ x ∧ x ≤ 200) (h2 : -200 ≤ y ∧ y ≤ 200) : vB x y = true := by
  unfold vB isIn
  rw [Bool.and_eq_true]
  exact ⟨decide_eq_true h1, decide_eq_true h2⟩
theorem vB_neg (x y : Int) : vB (-x) (-y) = vB x y := by
  rw [Bool.eq_iff_iff]
  exact ⟨fun h => by have := vB_yes h; exact vB_of (by omega) (by omega), fun h => by have := vB_yes h; exact vB_of (by omega) (by omega)⟩
theorem prod_le {x y : Int} (hx : -200 ≤ x ∧ x ≤ 200) (hy : -200 ≤ y ∧ y ≤ 200) : -40000 ≤ x * y ∧ x * y ≤ 40000 := by
  have h : x.natAbs * y.natAbs ≤ 200 * 200 := Nat.mul_le_mul (by omega) (by omega)
  rw [← Int.natAbs_mul] at h
  omega
theorem self_nonneg (x : Int) : 0 ≤ x * x := by
  have := Int.natAbs_mul_self (a := x)
  omega
theorem self_le {x : Int} (hx : -200 ≤ x ∧ x ≤ 200) : 0 ≤ x * x ∧ x * x ≤ 40000 := ⟨self_nonneg x, (prod_le hx hx).2⟩
theorem self_zero {x : Int} (h : x * x ≤ 0) : x = 0 := by
  have h2 := self_nonneg x
  have h3 : x * x = 0 := by omega
  rcases Int.mul_eq_zero.1 h3 with h | h <;> exact h

/- The sum of the squares. -/
def sq (x y : Int) : Int := x * x + y * y
theorem sq_le {x y : Int} (h : vB x y = true) : 0 ≤ sq x y ∧ sq x y ≤ 80000 := by
  obtain ⟨hx, hy⟩ := vB_yes h
  have h1 := self_le hx
  have h2 := self_le hy
  unfold sq
  omega
theorem sq_neg (x y : Int) : sq (-x) (-y) = sq x y := by unfold sq; rw [Int.neg_mul_neg, Int.neg_mul_neg]
/-- Is it valid, and is it not 0 and 0? -/
def mB (x y : Int) : Bool := vB x y && !(decide (x = 0) && decide (y = 0))
theorem mB_yes {x y : Int} (h : mB x y = true) : vB x y = true ∧ (x ≠ 0 ∨ y ≠ 0) := by
  unfold mB at h
  simp only [Bool.and_eq_true, Bool.not_eq_true', Bool.and_eq_false_iff, decide_eq_false_iff_not] at h
  exact h
theorem mB_of {x y : Int} (h1 : vB x y = true) (h2 : x ≠ 0 ∨ y ≠ 0) : mB x y = true := by
  unfold mB
  simp only [Bool.and_eq_true, Bool.not_eq_true', Bool.and_eq_false_iff, decide_eq_false_iff_not]
  exact ⟨h1, h2⟩
theorem mB_neg (x y : Int) : mB (-x) (-y) = mB x y := by
  rw [Bool.eq_iff_iff]
  exact ⟨fun h => by have := mB_yes h; rw [vB_neg] at this; exact mB_of this.1 (by omega), fun h => by have := mB_yes h; exact mB_of (by rw [vB_neg]; exact this.1) (by omega)⟩
theorem mB_sq (x y : Int) : mB x y = (vB x y && !decide (sq x y = 0)) := by
  unfold mB
  congr 2
  rw [Bool.eq_iff_iff]
  simp only [Bool.and_eq_true, decide_eq_true_eq]
  constructor
  · rintro ⟨rfl, rfl⟩; rfl
  · intro h
    unfold sq at h
    have h1 := self_nonneg x
    have h2 := self_nonneg y
    exact ⟨self_zero (by omega), self_zero (by omega)⟩

/- The number that is sent. -/
def pk (x : Int) : Int := if x < 0 then 1024 + -x else x
def enc (x y : Int) : Int := (pk x * 2048 + pk y) * 4
def enV (x y : Int) : Int := if vB x y then enc x y else 0
def up (m : Int) : Int := if m / 1024 % 2 = 1 then -(m % 1024) else m % 1024
theorem pk_in {x : Int} (h : -200 ≤ x ∧ x ≤ 200) : 0 ≤ pk x ∧ pk x ≤ 1224 := by unfold pk; split <;> omega
theorem up_pk {x : Int} (h : -200 ≤ x ∧ x ≤ 200) (k : Int) : up (k * 2048 + pk x) = x := by
  unfold up pk
  split <;> split <;> omega
def dcB (n : Int) : Bool := vB (up (n / 8192)) (up (n / 4)) && decide (enc (up (n / 8192)) (up (n / 4)) = n)
def dcX (n : Int) : Int := if dcB n then up (n / 8192) else 0
def dcY (n : Int) : Int := if dcB n then up (n / 4) else 0
theorem dc_back {x y : Int} (h : vB x y = true) : dcB (enc x y) = true ∧ dcX (enc x y) = x ∧ dcY (enc x y) = y := by
  obtain ⟨hx, hy⟩ := vB_yes h
  have h1 := pk_in hx
  have h2 := pk_in hy
  have e1 : enc x y / 8192 = 0 * 2048 + pk x := by unfold enc; omega
  have e2 : enc x y / 4 = pk x * 2048 + pk y := by unfold enc; omega
  have e3 : dcB (enc x y) = true := by
    unfold dcB
    rw [e1, e2, up_pk hx, up_pk hy, h, decide_eq_true rfl]
    rfl
  refine ⟨e3, ?_, ?_⟩
  · unfold dcX; rw [e3, if_pos rfl, e1, up_pk hx]
  · unfold dcY; rw [e3, if_pos rfl, e2, up_pk hy]
theorem dc_in {n : Int} (h : dcB n = true) : 0 ≤ n ∧ n ≤ 16777215 := by
  unfold dcB at h
  rw [Bool.and_eq_true] at h
  obtain ⟨hx, hy⟩ := vB_yes h.1
  have h1 := pk_in hx
  have h2 := pk_in hy
  have h3 := of_decide_eq_true h.2
  unfold enc at h3
  omega

/- Directions. -/
def ab (x : Int) : Int := if x < 0 then -x else x
theorem ab_le {x : Int} (h : -200 ≤ x ∧ x ≤ 200) : 0 ≤ ab x ∧ ab x ≤ 200 := by unfold ab; split <;> omega
theorem ab_neg (x : Int) : ab (-x) = ab x := by unfold ab; split <;> split <;> omega
theorem ab_sq (x : Int) : ab x * ab x = x * x := by unfold ab; split; exact Int.neg_mul_neg _ _; rfl
def near (a b : Int) : Bool := decide ((ab a + ab b) * (ab a + ab b) < 2 * a * a)
theorem near_neg (a b : Int) : near (-a) (-b) = near a b := by
  unfold near
  rw [ab_neg, ab_neg, Int.mul_assoc, Int.neg_mul_neg, Int.mul_assoc]
theorem near_ab (a b : Int) : near (ab a) (ab b) = near a b := by
  have e : ∀ x, ab (ab x) = ab x := fun x => by
    have h : ¬ ab x < 0 := by unfold ab; split <;> omega
    show (if ab x < 0 then -ab x else ab x) = ab x
    rw [if_neg h]
  unfold near
  rw [e, e, Int.mul_assoc, ab_sq, Int.mul_assoc]
theorem near_ne {a b : Int} (h : near a b = true) : a ≠ 0 := by
  rintro rfl
  have h2 := of_decide_eq_true h
  have h3 := self_nonneg (ab 0 + ab b)
  simp only [Int.mul_zero] at h2
  omega
theorem near_zero {a : Int} (h : a ≠ 0) : near a 0 = true := by
  have e : ab a + ab 0 = ab a := by show ab a + (if (0 : Int) < 0 then -0 else 0) = ab a; rw [if_neg (by omega), Int.add_zero]
  apply decide_eq_true
  rw [e, ab_sq, Int.mul_assoc]
  have h3 := self_nonneg a
  have h4 : ¬ a * a ≤ 0 := fun h5 => h (self_zero h5)
  omega
def dV (n1 n2 : Bool) (x y : Int) : Int := if n1 then (if 0 < y then 0 else 4) else if n2 then (if 0 < x then 2 else 6) else if 0 < x then (if 0 < y then 1 else 3) else if y < 0 then 5 else 7
def dirV (x y : Int) : Int := if mB x y then dV (near y x) (near x y) x y else 0
def sg (x : Int) : Int := if x < 0 then -1 else if 0 < x then 1 else 0
def dt (e n : Int) : Int := if e = 1 ∧ n = 1 then 1 else if e = 1 ∧ n = 0 then 2 else if e = 1 ∧ n = -1 then 3 else if e = 0 ∧ n = -1 then 4 else if e = -1 ∧ n = -1 then 5 else if e = -1 ∧ n = 0 then 6 else if e = -1 ∧ n = 1 then 7 else 0
theorem sg_n {x : Int} (h : x < 0) : sg x = -1 := by unfold sg; rw [if_pos h]
theorem sg_p {x : Int} (h : 0 < x) : sg x = 1 := by unfold sg; rw [if_neg (by omega), if_pos h]
theorem near_both {x y : Int} (h : x ≠ 0 ∨ y ≠ 0) : (near y x = true → y ≠ 0) ∧ (near x y = true → x ≠ 0) ∧ (near y x = false → near x y = false → x ≠ 0 ∧ y ≠ 0) := by
  refine ⟨near_ne, near_ne, fun h1 h2 => ⟨?_, ?_⟩⟩
  · rintro rfl
    rw [near_zero (by omega)] at h1
    cases h1
  · rintro rfl
    rw [near_zero (by omega)] at h2
    cases h2
theorem dV_yes (n2 : Bool) (x y : Int) : dV true n2 x y = if 0 < y then 0 else 4 := by unfold dV; rw [if_pos rfl]
theorem dV_mid (x y : Int) : dV false true x y = if 0 < x then 2 else 6 := by unfold dV; rw [if_neg (by simp), if_pos rfl]
theorem dV_no (x y : Int) : dV false false x y = if 0 < x then (if 0 < y then 1 else 3) else if y < 0 then 5 else 7 := by unfold dV; rw [if_neg (by simp), if_neg (by simp)]
theorem dV_dt {x y : Int} (h : x ≠ 0 ∨ y ≠ 0) : dV (near y x) (near x y) x y = if near y x then dt 0 (sg y) else if near x y then dt (sg x) 0 else dt (sg x) (sg y) := by
  obtain ⟨h1, h2, h3⟩ := near_both h
  generalize near y x = n1 at *
  generalize near x y = n2 at *
  cases n1
  · rw [if_neg (by simp)]
    cases n2
    · rw [if_neg (by simp), dV_no]
      obtain ⟨hx, hy⟩ := h3 rfl rfl
      by_cases a : 0 < x
      · by_cases b : 0 < y
        · rw [if_pos a, if_pos b, sg_p a, sg_p b]; rfl
        · rw [if_pos a, if_neg b, sg_p a, sg_n (by omega)]; rfl
      · by_cases b : y < 0
        · rw [if_neg a, if_pos b, sg_n (by omega), sg_n b]; rfl
        · rw [if_neg a, if_neg b, sg_n (by omega), sg_p (by omega)]; rfl
    · rw [if_pos rfl, dV_mid]
      have hx := h2 rfl
      by_cases a : 0 < x
      · rw [if_pos a, sg_p a]; rfl
      · rw [if_neg a, sg_n (by omega)]; rfl
  · rw [if_pos rfl, dV_yes]
    have hy := h1 rfl
    by_cases b : 0 < y
    · rw [if_pos b, sg_p b]; rfl
    · rw [if_neg b, sg_n (by omega)]; rfl
theorem dir_neg (x y : Int) : dirV (-x) (-y) = if mB x y then (dirV x y + 4) % 8 else 0 := by
  unfold dirV
  rw [mB_neg, near_neg, near_neg]
  cases hb : mB x y
  · rfl
  · obtain ⟨h1, h2, h3⟩ := near_both (mB_yes hb).2
    rw [if_pos rfl, if_pos rfl, if_pos rfl]
    generalize near y x = n1 at *
    generalize near x y = n2 at *
    cases n1
    · cases n2
      · rw [dV_no, dV_no]
        obtain ⟨hx, hy⟩ := h3 rfl rfl
        by_cases a : 0 < x
        · by_cases b : 0 < y
          · rw [if_neg (by omega), if_pos (by omega), if_pos a, if_pos b]; rfl
          · rw [if_neg (by omega), if_neg (by omega), if_pos a, if_neg b]; rfl
        · by_cases b : y < 0
          · rw [if_pos (by omega), if_pos (by omega), if_neg a, if_pos b]; rfl
          · rw [if_pos (by omega), if_neg (by omega), if_neg a, if_neg b]; rfl
      · rw [dV_mid, dV_mid]
        have hx := h2 rfl
        by_cases a : 0 < x
        · rw [if_neg (by omega), if_pos a]; rfl
        · rw [if_pos (by omega), if_neg a]; rfl
    · rw [dV_yes, dV_yes]
      have hy := h1 rfl
      by_cases b : 0 < y
      · rw [if_neg (by omega), if_pos b]; rfl
      · rw [if_pos (by omega), if_neg b]; rfl
theorem dir_in (x y : Int) : 0 ≤ dirV x y ∧ dirV x y ≤ 7 := by
  unfold dirV dV
  repeat' split
  all_goals omega

/- Which one is faster. -/
def ftB (a b c d : Int) : Bool := vB a b && vB c d
def ftV (a b c d : Int) : Int := if ftB a b c d then (if sq c d < sq a b then 1 else if sq a b < sq c d then 2 else 0) else 0
theorem ft_turn (a b c d : Int) : ftB c d a b = ftB a b c d := by unfold ftB; rw [Bool.and_comm]
theorem ft_sum (a b c d : Int) : (ftV a b c d + ftV c d a b) % 3 = 0 := by
  unfold ftV
  rw [ft_turn]
  split
  · repeat' split
    all_goals omega
  · rfl

/- Turns. -/
def cr (a b c d : Int) : Int := a * d - b * c
def dot (a b c d : Int) : Int := a * c + b * d
def tuB (a b c d : Int) : Bool := mB a b && mB c d
def tuV (a b c d : Int) : Int := if tuB a b c d then (if cr a b c d < 0 then 1 else if 0 < cr a b c d then 2 else if dot a b c d < 0 then 3 else 0) else 0
theorem cr_turn (a b c d : Int) : cr c d a b = -cr a b c d := by unfold cr; rw [Int.mul_comm c b, Int.mul_comm d a]; omega
theorem dot_turn (a b c d : Int) : dot c d a b = dot a b c d := by unfold dot; rw [Int.mul_comm c a, Int.mul_comm d b]
theorem cr_dot {a b c d : Int} (h1 : a ≠ 0 ∨ b ≠ 0) (h2 : c ≠ 0 ∨ d ≠ 0) (hc : cr a b c d = 0) : dot a b c d ≠ 0 := by
  intro hd
  unfold cr at hc
  unfold dot at hd
  have hs : sq c d ≠ 0 := by
    intro h
    unfold sq at h
    have e1 := self_nonneg c
    have e2 := self_nonneg d
    have e3 := self_zero (x := c) (by omega)
    have e4 := self_zero (x := d) (by omega)
    omega
  have ea : a * sq c d = 0 := by
    have e : a * sq c d = c * (a * c + b * d) + d * (a * d - b * c) := by unfold sq; grind
    rw [e, hd, hc]
    simp
  have eb : b * sq c d = 0 := by
    have e : b * sq c d = d * (a * c + b * d) - c * (a * d - b * c) := by unfold sq; grind
    rw [e, hd, hc]
    simp
  rcases Int.mul_eq_zero.1 ea with h | h
  · rcases Int.mul_eq_zero.1 eb with h' | h'
    · omega
    · exact hs h'
  · exact hs h
theorem tu_turn (a b c d : Int) : tuB c d a b = tuB a b c d := by unfold tuB; rw [Bool.and_comm]
theorem tu_back (a b c d : Int) : tuV c d a b = if tuV a b c d = 1 then 2 else if tuV a b c d = 2 then 1 else tuV a b c d := by
  unfold tuV
  rw [tu_turn, cr_turn, dot_turn]
  generalize cr a b c d = u
  generalize dot a b c d = v
  split
  · repeat' split
    all_goals omega
  · rfl

/- Sums. -/
def adB (a b c d : Int) : Bool := vB a b && vB c d && vB (a + c) (b + d)
def adX (a b c d : Int) : Int := if adB a b c d then a + c else 0
def adY (a b c d : Int) : Int := if adB a b c d then b + d else 0
theorem ad_turn (a b c d : Int) : adB c d a b = adB a b c d := by unfold adB; rw [Bool.and_comm (vB c d), Int.add_comm c a, Int.add_comm d b]
theorem adX_turn (a b c d : Int) : adX c d a b = adX a b c d := by unfold adX; rw [ad_turn, Int.add_comm c a]
theorem adY_turn (a b c d : Int) : adY c d a b = adY a b c d := by unfold adY; rw [ad_turn, Int.add_comm d b]

/- The whole speed. -/
def rtA (s : Int) : Nat → Nat → Nat
  | 0, n => n
  | f + 1, n => if ((n : Int) + 1) * ((n : Int) + 1) ≤ s then rtA s f (n + 1) else n
def rt (s : Int) : Nat := rtA s 300 0
theorem rtA_step {s : Int} {f n : Nat} (h : ((n : Int) + 1) * ((n : Int) + 1) ≤ s) : rtA s (f + 1) n = rtA s f (n + 1) := by rw [rtA, if_pos h]
theorem rtA_end {s : Int} {f n : Nat} (h : ¬ ((n : Int) + 1) * ((n : Int) + 1) ≤ s) : rtA s (f + 1) n = n := by rw [rtA, if_neg h]
theorem rtA_is {s : Int} : ∀ (f n : Nat), (n : Int) * n ≤ s → s < ((n : Int) + f) * ((n : Int) + f) → (rtA s f n : Int) * (rtA s f n : Int) ≤ s ∧ s < ((rtA s f n : Int) + 1) * ((rtA s f n : Int) + 1)
  | 0, n, h1, h2 => by simp only [Int.natCast_zero, Int.add_zero] at h2; omega
  | f + 1, n, h1, h2 => by
    by_cases h : ((n : Int) + 1) * ((n : Int) + 1) ≤ s
    · rw [rtA_step h]
      refine rtA_is f (n + 1) ?_ ?_
      · rw [Int.natCast_add]; exact h
      · rw [show ((n + 1 : Nat) : Int) + (f : Int) = (n : Int) + ((f + 1 : Nat) : Int) by omega]; exact h2
    · rw [rtA_end h]
      exact ⟨h1, by omega⟩
def wsV (x y : Int) : Nat := if vB x y then rt (sq x y) else 0
theorem ws_is {x y : Int} (h : vB x y = true) : (wsV x y : Int) * (wsV x y : Int) ≤ sq x y ∧ sq x y < ((wsV x y : Int) + 1) * ((wsV x y : Int) + 1) := by
  have hs := sq_le h
  unfold wsV rt
  rw [h, if_pos rfl]
  exact rtA_is 300 0 (by simpa using hs.1) (by simp; omega)
theorem rtA_le {s : Int} : ∀ f n, rtA s f n ≤ n + f
  | 0, n => Nat.le_refl _
  | f + 1, n => by
    rw [rtA]
    split
    · have := rtA_le (s := s) f (n + 1); omega
    · omega
theorem ws_le (x y : Int) : wsV x y ≤ 300 := by
  unfold wsV rt
  split
  · have := rtA_le (s := sq x y) 300 0; omega
  · omega
end Go.Proofs.Ytglonedhoenkpaa.vel
