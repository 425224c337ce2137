/- Motions in plain mathematics (no program in it): x y the place, u v the velocity, h the height, c the climb. -/
import Derived.Test.YtinkkdgjpcnklaaPos
import Derived.Test.YtinkkdgjpcnklaaVel
import Derived.Test.YtinkkdgjpcnklaaHgt
namespace Go.Proofs.Ytinkkdgjpcnklaa.mot
open Go.Proofs.Ytinkkdgjpcnklaa.in_ Go.Proofs.Ytinkkdgjpcnklaa.pos Go.Proofs.Ytinkkdgjpcnklaa.vel Go.Proofs.Ytinkkdgjpcnklaa.hgt

theorem isIn_yes {x a b : Int} (h : isIn x a b = true) : a ≤ x ∧ x ≤ b := of_decide_eq_true h
theorem isIn_of {x a b : Int} (h1 : a ≤ x) (h2 : x ≤ b) : isIn x a b = true := decide_eq_true ⟨h1, h2⟩
def moB (x y u v h c : Int) : Bool := pB x y && (vB u v && (hB h && isIn c (-6000) 6000))
theorem moB_yes {x y u v h c : Int} (hh : moB x y u v h c = true) : pB x y = true ∧ vB u v = true ∧ (-2000 ≤ h ∧ h ≤ 130000) ∧ -6000 ≤ c ∧ c ≤ 6000 := by
  unfold moB at hh
  rw [Bool.and_eq_true, Bool.and_eq_true, Bool.and_eq_true] at hh
  exact ⟨hh.1, hh.2.1, of_decide_eq_true hh.2.2.1, isIn_yes hh.2.2.2⟩
theorem mo_in {x y u v h c : Int} (hh : moB x y u v h c = true) : (0 ≤ x ∧ x ≤ 9899) ∧ (0 ≤ y ∧ y ≤ 9899) ∧ (-200 ≤ u ∧ u ≤ 200) ∧ (-200 ≤ v ∧ v ≤ 200) ∧ (-2000 ≤ h ∧ h ≤ 130000) ∧ -6000 ≤ c ∧ c ≤ 6000 := by
  obtain ⟨h1, h2, h3, h4⟩ := moB_yes hh
  exact ⟨(pB_yes h1).1, (pB_yes h1).2, (vB_yes h2).1, (vB_yes h2).2, h3, h4⟩

/-- A time. -/
def tmB (n d : Int) : Bool := isIn d 1 1000 && isIn n 0 (60 * d)
theorem tmB_yes {n d : Int} (h : tmB n d = true) : (1 ≤ d ∧ d ≤ 1000) ∧ 0 ≤ n ∧ n ≤ 60 * d := by
  unfold tmB at h
  rw [Bool.and_eq_true] at h
  exact ⟨isIn_yes h.1, isIn_yes h.2⟩
theorem tmB_of {n d : Int} (h1 : 1 ≤ d ∧ d ≤ 1000) (h2 : 0 ≤ n ∧ n ≤ 60 * d) : tmB n d = true := by
  unfold tmB
  rw [isIn_of h1.1 h1.2, isIn_of h2.1 h2.2]; rfl
theorem tmB_no {n d : Int} (h : ¬ (1 ≤ d ∧ d ≤ 1000 ∧ 0 ≤ n ∧ n ≤ 60 * d)) : tmB n d = false := by
  cases e : tmB n d
  · rfl
  · exact absurd ⟨(tmB_yes e).1.1, (tmB_yes e).1.2, (tmB_yes e).2.1, (tmB_yes e).2.2⟩ h

theorem mul_le {a b M N : Int} (ha : -M ≤ a ∧ a ≤ M) (hb : -N ≤ b ∧ b ≤ N) : -(M * N) ≤ a * b ∧ a * b ≤ M * N := by
  have hM : 0 ≤ M := by omega
  have hN : 0 ≤ N := by omega
  have h1 : a * b ≤ (a.natAbs : Int) * (b.natAbs : Int) := by rw [← Int.natCast_mul, ← Int.natAbs_mul]; omega
  have h2 : -(a * b) ≤ (a.natAbs : Int) * (b.natAbs : Int) := by rw [← Int.natCast_mul, ← Int.natAbs_mul]; omega
  have h3 : (a.natAbs : Int) * (b.natAbs : Int) ≤ M * N := Int.mul_le_mul (by omega) (by omega) (by omega) hM
  omega

/-- A number that is a and changes by r in each minute, times d, after n / d minutes. -/
def at_ (a r n d : Int) : Int := a * d + r * n
def paB (x y u v h c n d : Int) : Bool := moB x y u v h c && tmB n d
def paV (x y u v h c n d a r : Int) : Int := if paB x y u v h c n d then at_ a r n d else 0
def paD (x y u v h c n d : Int) : Int := if paB x y u v h c n d then d else 0
theorem paB_yes {x y u v h c n d : Int} (h' : paB x y u v h c n d = true) : moB x y u v h c = true ∧ tmB n d = true := by
  unfold paB at h'
  rwa [Bool.and_eq_true] at h'
theorem pa_no {x y u v h c n d : Int} (h' : paB x y u v h c n d = false) (a r : Int) : paV x y u v h c n d a r = 0 ∧ paD x y u v h c n d = 0 := by
  unfold paV paD; rw [h']; exact ⟨rfl, rfl⟩
theorem pa_yes {x y u v h c n d : Int} (h' : paB x y u v h c n d = true) (a r : Int) : paV x y u v h c n d a r = at_ a r n d ∧ paD x y u v h c n d = d := by
  unfold paV paD; rw [h']; exact ⟨rfl, rfl⟩
theorem at_in {a r n d M R : Int} (ht : tmB n d = true) (ha : -M ≤ a ∧ a ≤ M) (hr : -R ≤ r ∧ r ≤ R) : (-(M * 1000) ≤ a * d ∧ a * d ≤ M * 1000) ∧ (-(R * 60000) ≤ r * n ∧ r * n ≤ R * 60000) := by
  obtain ⟨⟨h1, h2⟩, h3, h4⟩ := tmB_yes ht
  exact ⟨mul_le ha ⟨by omega, h2⟩, mul_le hr ⟨by omega, by omega⟩⟩

/-- The height at a time. -/
def haX (h c n d : Int) : Int := h * d + c * n
def haG (h c n d : Int) : Nat := Nat.gcd (haX h c n d).natAbs d.toNat
def haN (x y u v h c n d : Int) : Int := if paB x y u v h c n d then (haX h c n d).tdiv (haG h c n d) else 0
def haD (x y u v h c n d : Int) : Nat := if paB x y u v h c n d then d.toNat / haG h c n d else 0
theorem ha_no {x y u v h c n d : Int} (h' : paB x y u v h c n d = false) : haN x y u v h c n d = 0 ∧ haD x y u v h c n d = 0 := by
  unfold haN haD; rw [h']; exact ⟨rfl, rfl⟩
theorem ha_yes {x y u v h c n d : Int} (h' : paB x y u v h c n d = true) : haN x y u v h c n d = (haX h c n d).tdiv (haG h c n d) ∧ haD x y u v h c n d = d.toNat / haG h c n d := by
  unfold haN haD; rw [h']; exact ⟨rfl, rfl⟩
theorem haX_in {x y u v h c n d : Int} (h' : paB x y u v h c n d = true) : -1000000000 ≤ haX h c n d ∧ haX h c n d ≤ 1000000000 := by
  obtain ⟨h1, h2⟩ := paB_yes h'
  obtain ⟨-, -, -, -, k1, k2⟩ := mo_in h1
  have := at_in (M := 130000) (R := 6000) (a := h) (r := c) h2 ⟨by omega, by omega⟩ k2
  unfold haX; omega
theorem tdiv_gcd (x : Int) (d : Nat) (hd : 0 < d) : ∃ (a : Int) (b : Nat), x = a * (Nat.gcd x.natAbs d : Nat) ∧ d = b * Nat.gcd x.natAbs d ∧ x.tdiv (Nat.gcd x.natAbs d : Nat) = a ∧ d / Nat.gcd x.natAbs d = b ∧ 0 < Nat.gcd x.natAbs d := by
  have hp := Nat.gcd_pos_of_pos_right x.natAbs hd
  obtain ⟨b, hb⟩ := Nat.gcd_dvd_right x.natAbs d
  have hdv : ((Nat.gcd x.natAbs d : Nat) : Int) ∣ x := Int.dvd_trans (Int.natCast_dvd_natCast.2 (Nat.gcd_dvd_left x.natAbs d)) (Int.natAbs_dvd.2 (Int.dvd_refl x))
  obtain ⟨a, ha⟩ := hdv
  generalize Nat.gcd x.natAbs d = g at *
  refine ⟨a, b, by rw [ha, Int.mul_comm], by rw [hb, Nat.mul_comm], ?_, ?_, hp⟩
  · rw [ha]; exact Int.mul_tdiv_cancel_left a (by omega)
  · rw [hb]; exact Nat.mul_div_cancel_left b hp

/-- The time after which a number that changes by r in each minute has changed by D. -/
def whA (D r : Int) : Int := if r < 0 then -D else D
def whB (D r : Int) : Bool := decide (D = 0) || (decide (0 < whA D r) && decide (whA D r ≤ 60 * (r.natAbs : Int)))
def whG (D r : Int) : Nat := Nat.gcd (whA D r).natAbs r.natAbs
def whN (D r : Int) : Int := if whB D r then (if D = 0 then 0 else (whA D r).tdiv (whG D r)) else 0
def whD (D r : Int) : Nat := if whB D r then (if D = 0 then 1 else r.natAbs / whG D r) else 0
theorem wh_zero (r : Int) : whB 0 r = true ∧ whN 0 r = 0 ∧ whD 0 r = 1 := by
  have : whB 0 r = true := rfl
  unfold whN whD; rw [this]; exact ⟨rfl, rfl, rfl⟩
theorem wh_no {D r : Int} (h0 : D ≠ 0) (h : ¬ (0 < whA D r ∧ whA D r ≤ 60 * (r.natAbs : Int))) : whB D r = false ∧ whN D r = 0 ∧ whD D r = 0 := by
  have e : whB D r = false := by
    unfold whB
    rw [decide_eq_false h0, ← Bool.decide_and, decide_eq_false h]; rfl
  unfold whN whD; rw [e]; exact ⟨rfl, rfl, rfl⟩
theorem wh_yes {D r : Int} (h0 : D ≠ 0) (h : 0 < whA D r ∧ whA D r ≤ 60 * (r.natAbs : Int)) : whB D r = true ∧ whN D r = (whA D r).tdiv (whG D r) ∧ whD D r = r.natAbs / whG D r := by
  have e : whB D r = true := by
    unfold whB
    rw [decide_eq_false h0, ← Bool.decide_and, decide_eq_true h]; rfl
  unfold whN whD; rw [e, if_pos rfl, if_neg h0, if_pos rfl, if_neg h0]; exact ⟨rfl, rfl, rfl⟩
def twB (b : Bool) (D r : Int) : Bool := b && whB D r
def twN (b : Bool) (D r : Int) : Int := if b then whN D r else 0
def twD (b : Bool) (D r : Int) : Nat := if b then whD D r else 0
theorem tw_no (D r : Int) : twB false D r = false ∧ twN false D r = 0 ∧ twD false D r = 0 := ⟨rfl, rfl, rfl⟩
theorem tw_yes (D r : Int) : twB true D r = whB D r ∧ twN true D r = whN D r ∧ twD true D r = whD D r := ⟨rfl, rfl, rfl⟩

def txB (x y u v h c t : Int) : Bool := moB x y u v h c && isIn t 0 9899
def thB (x y u v h c t : Int) : Bool := moB x y u v h c && hB t

/-- The side of the course. -/
def crs (x y u v p q : Int) : Int := u * (q - y) - v * (p - x)
def clB (x y u v h c p q : Int) : Bool := moB x y u v h c && (pB p q && mB u v)
def clS (k : Int) : Int := if k < 0 then 1 else if 0 < k then 2 else 0
def clV (x y u v h c p q : Int) : Int := if clB x y u v h c p q then clS (crs x y u v p q) else 0
theorem cl_no {x y u v h c p q : Int} (e : clB x y u v h c p q = false) : clV x y u v h c p q = 0 := by unfold clV; rw [e]; rfl
theorem cl_yes {x y u v h c p q : Int} (e : clB x y u v h c p q = true) : clV x y u v h c p q = clS (crs x y u v p q) := by unfold clV; rw [e]; rfl

/-- The first of the smallest numbers. -/
def nmT (f : Nat → Int) : Nat → Nat
  | 0 => 0
  | k + 1 => if f k < f (nmT f k) then k else nmT f k
theorem nmT_yes {f : Nat → Int} {k : Nat} (h : f k < f (nmT f k)) : nmT f (k + 1) = k := by rw [nmT, if_pos h]
theorem nmT_no {f : Nat → Int} {k : Nat} (h : ¬ f k < f (nmT f k)) : nmT f (k + 1) = nmT f k := by rw [nmT, if_neg h]
theorem nmT_one (f : Nat → Int) : nmT f 1 = 0 := by rw [nmT]; split <;> rfl
theorem nmT_lt (f : Nat → Int) : ∀ k, nmT f (k + 1) ≤ k
  | 0 => by rw [nmT_one]; exact Nat.le_refl 0
  | k + 1 => by
    have := nmT_lt f k
    by_cases h : f (k + 1) < f (nmT f (k + 1))
    · rw [nmT_yes h]; exact Nat.le_refl _
    · rw [nmT_no h]; omega
theorem nmT_min (f : Nat → Int) : ∀ k i, i < k → f (nmT f k) ≤ f i ∧ (f i = f (nmT f k) → nmT f k ≤ i)
  | 0, i, h => absurd h (Nat.not_lt_zero i)
  | k + 1, i, h => by
    by_cases hk : f k < f (nmT f k)
    · rw [nmT_yes hk]
      by_cases e : i = k
      · rw [e]; exact ⟨Int.le_refl _, fun _ => Nat.le_refl _⟩
      · have := nmT_min f k i (by omega)
        exact ⟨by omega, fun hh => by omega⟩
    · rw [nmT_no hk]
      by_cases e : i = k
      · subst e
        refine ⟨by omega, fun hh => ?_⟩
        cases i with
        | zero => exact Nat.le_refl 0
        | succ i => have := nmT_lt f i; omega
      · exact nmT_min f k i (by omega)
def sqd (x y u v p q : Int) (k : Nat) : Int := (x + u * (k : Int) - p) * (x + u * (k : Int) - p) + (y + v * (k : Int) - q) * (y + v * (k : Int) - q)
def nmB (x y u v h c p q : Int) : Bool := moB x y u v h c && pB p q
def nmV (x y u v h c p q : Int) : Nat := if nmB x y u v h c p q then nmT (sqd x y u v p q) 61 else 0
theorem nm_no {x y u v h c p q : Int} (e : nmB x y u v h c p q = false) : nmV x y u v h c p q = 0 := by unfold nmV; rw [e]; rfl
theorem nm_yes {x y u v h c p q : Int} (e : nmB x y u v h c p q = true) : nmV x y u v h c p q = nmT (sqd x y u v p q) 61 := by unfold nmV; rw [e]; rfl
/-- How far a number goes in sixty minutes. -/
theorem far {a r : Int} {k : Nat} (ha : 0 ≤ a ∧ a ≤ 9899) (hr : -200 ≤ r ∧ r ≤ 200) (hk : k ≤ 60) : (-12000 ≤ r * (k : Int) ∧ r * (k : Int) ≤ 12000) ∧ -12000 ≤ a + r * (k : Int) ∧ a + r * (k : Int) ≤ 21899 := by
  have := mul_le (a := r) (b := (k : Int)) (M := 200) (N := 60) hr ⟨by omega, by omega⟩
  omega
theorem square_in {z : Int} (h : -30000 ≤ z ∧ z ≤ 30000) : 0 ≤ z * z ∧ z * z ≤ 900000000 :=
  ⟨self_nonneg z, (mul_le (M := 30000) (N := 30000) h h).2⟩

/-- How many of the first n are all so. -/
def led (f : Nat → Bool) : Nat → Nat
  | 0 => 0
  | n + 1 => if led f n = n ∧ f n = true then n + 1 else led f n
theorem led_le (f : Nat → Bool) : ∀ n, led f n ≤ n
  | 0 => Nat.le_refl 0
  | n + 1 => by
    have := led_le f n
    rw [led]; split <;> omega
theorem led_all {f : Nat → Bool} : ∀ n, (∀ i, i < n → f i = true) → led f n = n
  | 0, _ => rfl
  | n + 1, h => by rw [led, if_pos ⟨led_all n (fun i hi => h i (by omega)), h n (by omega)⟩]
theorem led_before {f : Nat → Bool} : ∀ n i, i < led f n → f i = true
  | 0, i, h => absurd h (Nat.not_lt_zero i)
  | n + 1, i, h => by
    rw [led] at h
    split at h
    · next hh =>
      by_cases e : i = n
      · rw [e]; exact hh.2
      · exact led_before n i (by omega)
    · exact led_before n i h
theorem led_stop {f : Nat → Bool} {k : Nat} (hb : ∀ i, i < k → f i = true) (hk : f k = false) : ∀ n, k < n → led f n = k
  | 0, h => absurd h (Nat.not_lt_zero k)
  | n + 1, h => by
    by_cases e : n = k
    · subst e
      rw [led, if_neg (fun hh => by rw [hh.2] at hk; exact absurd hk (by decide))]
      exact led_all n hb
    · have := led_stop hb hk n (by omega)
      rw [led, if_neg (fun hh => by omega)]
      exact this
def okT (x y u v : Int) (k : Nat) : Bool := pB (x + u * (k : Int)) (y + v * (k : Int))
def lvB (x y u v h c : Int) : Bool := moB x y u v h c && decide (led (okT x y u v) 61 < 61)
def lvV (x y u v h c : Int) : Nat := if lvB x y u v h c then led (okT x y u v) 61 else 0

/-- The path: cells, each once. f and g give the two numbers of the k-th one. -/
def cp (f g : Nat → Int) : Nat → List Int
  | 0 => []
  | k + 1 => if 0 < k ∧ f k = f (k - 1) ∧ g k = g (k - 1) then cp f g k else cp f g k ++ [f k, g k]
def cpN (f g : Nat → Int) : Nat → Nat
  | 0 => 0
  | k + 1 => if 0 < k ∧ f k = f (k - 1) ∧ g k = g (k - 1) then cpN f g k else cpN f g k + 1
theorem cp_same {f g : Nat → Int} {k : Nat} (h : 0 < k ∧ f k = f (k - 1) ∧ g k = g (k - 1)) : cp f g (k + 1) = cp f g k ∧ cpN f g (k + 1) = cpN f g k := by rw [cp, cpN, if_pos h, if_pos h]; exact ⟨rfl, rfl⟩
theorem cp_new {f g : Nat → Int} {k : Nat} (h : ¬ (0 < k ∧ f k = f (k - 1) ∧ g k = g (k - 1))) : cp f g (k + 1) = cp f g k ++ [f k, g k] ∧ cpN f g (k + 1) = cpN f g k + 1 := by rw [cp, cpN, if_neg h, if_neg h]; exact ⟨rfl, rfl⟩
theorem cp_length (f g : Nat → Int) : ∀ k, (cp f g k).length = cpN f g k * 2
  | 0 => rfl
  | k + 1 => by
    have := cp_length f g k
    by_cases h : 0 < k ∧ f k = f (k - 1) ∧ g k = g (k - 1)
    · rw [(cp_same h).1, (cp_same h).2]; exact this
    · rw [(cp_new h).1, (cp_new h).2, List.length_append, this]; simp; omega
theorem cpN_le (f g : Nat → Int) : ∀ k, cpN f g k ≤ k
  | 0 => Nat.le_refl 0
  | k + 1 => by have := cpN_le f g k; rw [cpN]; split <;> omega
theorem cpN_step (f g : Nat → Int) (k : Nat) : cpN f g k ≤ cpN f g (k + 1) := by rw [cpN]; split <;> omega
theorem cpN_pos (f g : Nat → Int) : ∀ k, 1 ≤ cpN f g (k + 1)
  | 0 => by rw [(cp_new (k := 0) (fun h => absurd h.1 (Nat.lt_irrefl 0))).2]; omega
  | k + 1 => by have := cpN_pos f g k; have := cpN_step f g (k + 1); omega
/-- The last cell is that of the last minute. -/
theorem cp_last (f g : Nat → Int) : ∀ k, (cp f g (k + 1))[(cpN f g (k + 1) - 1) * 2]? = some (f k) ∧ (cp f g (k + 1))[(cpN f g (k + 1) - 1) * 2 + 1]? = some (g k)
  | 0 => by
    rw [(cp_new (k := 0) (fun h => absurd h.1 (Nat.lt_irrefl 0))).1, (cp_new (k := 0) (fun h => absurd h.1 (Nat.lt_irrefl 0))).2]; exact ⟨rfl, rfl⟩
  | k + 1 => by
    have ih := cp_last f g k
    by_cases h : 0 < k + 1 ∧ f (k + 1) = f (k + 1 - 1) ∧ g (k + 1) = g (k + 1 - 1)
    · rw [(cp_same h).1, (cp_same h).2, h.2.1, h.2.2]; exact ih
    · rw [(cp_new h).1, (cp_new h).2]
      have hl := cp_length f g (k + 1)
      rw [Nat.add_sub_cancel, ← hl]
      exact ⟨by simp, by rw [List.getElem?_append_right (by omega)]; simp⟩
/-- No cell is that of the one before it. -/
theorem cp_apart (f g : Nat → Int) : ∀ k i, 0 < i → i < cpN f g k → ¬ ((cp f g k)[i * 2]? = (cp f g k)[(i - 1) * 2]? ∧ (cp f g k)[i * 2 + 1]? = (cp f g k)[(i - 1) * 2 + 1]?)
  | 0, i, _, h => absurd h (Nat.not_lt_zero i)
  | k + 1, i, h0, h1 => by
    have hl := cp_length f g k
    by_cases h : 0 < k ∧ f k = f (k - 1) ∧ g k = g (k - 1)
    · rw [(cp_same h).2] at h1
      rw [(cp_same h).1]; exact cp_apart f g k i h0 h1
    · rw [(cp_new h).2] at h1
      rw [(cp_new h).1]
      by_cases e : i = cpN f g k
      · cases k with
        | zero => simp [cpN] at e; omega
        | succ k =>
          have hp := cpN_pos f g k
          have ih := cp_last f g k
          rw [e]
          rw [List.getElem?_append_right (i := cpN f g (k + 1) * 2) (by omega), List.getElem?_append_right (i := cpN f g (k + 1) * 2 + 1) (by omega), List.getElem?_append_left (i := (cpN f g (k + 1) - 1) * 2) (by omega), List.getElem?_append_left (i := (cpN f g (k + 1) - 1) * 2 + 1) (by omega), ih.1, ih.2, hl, Nat.sub_self, show cpN f g (k + 1) * 2 + 1 - cpN f g (k + 1) * 2 = 1 by omega]
          intro hh
          refine h ⟨by omega, ?_, ?_⟩
          · simpa using hh.1
          · simpa using hh.2
      · rw [List.getElem?_append_left (by omega), List.getElem?_append_left (by omega), List.getElem?_append_left (by omega), List.getElem?_append_left (by omega)]
        exact cp_apart f g k i h0 (by omega)
theorem cp_congr {f g f' g' : Nat → Int} : ∀ k, (∀ i, i < k → f i = f' i ∧ g i = g' i) → cp f g k = cp f' g' k ∧ cpN f g k = cpN f' g' k
  | 0, _ => ⟨rfl, rfl⟩
  | k + 1, h => by
    obtain ⟨e1, e2⟩ := cp_congr k (fun i hi => h i (by omega))
    rw [cp, cp, cpN, cpN, e1, e2, (h k (by omega)).1, (h k (by omega)).2]
    by_cases hk : 0 < k
    · rw [(h (k - 1) (by omega)).1, (h (k - 1) (by omega)).2]; exact ⟨rfl, rfl⟩
    · rw [if_neg (fun hh => hk hh.1), if_neg (fun hh => hk hh.1), if_neg (fun hh => hk hh.1), if_neg (fun hh => hk hh.1)]; exact ⟨rfl, rfl⟩
def ceX (a r s : Int) (k : Nat) : Int := (a + r * (k : Int)) / s
def pcB (x y u v h c m s : Int) : Bool := moB x y u v h c && (isIn m 0 60 && (isIn s 1 1000 && decide (led (okT x y u v) (m.toNat + 1) = m.toNat + 1)))
def pcV (x y u v h c m s : Int) : List Int := if pcB x y u v h c m s then cp (ceX x u s) (ceX y v s) (m.toNat + 1) else []
def pcN (x y u v h c m s : Int) : Nat := if pcB x y u v h c m s then cpN (ceX x u s) (ceX y v s) (m.toNat + 1) else 0
theorem pc_no {x y u v h c m s : Int} (e : pcB x y u v h c m s = false) : pcV x y u v h c m s = [] ∧ pcN x y u v h c m s = 0 := by unfold pcV pcN; rw [e]; exact ⟨rfl, rfl⟩
theorem pc_yes {x y u v h c m s : Int} (e : pcB x y u v h c m s = true) : pcV x y u v h c m s = cp (ceX x u s) (ceX y v s) (m.toNat + 1) ∧ pcN x y u v h c m s = cpN (ceX x u s) (ceX y v s) (m.toNat + 1) := by unfold pcV pcN; rw [e]; exact ⟨rfl, rfl⟩
theorem pcV_length (x y u v h c m s : Int) : (pcV x y u v h c m s).length = pcN x y u v h c m s * 2 := by
  unfold pcV pcN; split
  · exact cp_length ..
  · rfl
theorem pcB_yes {x y u v h c m s : Int} (e : pcB x y u v h c m s = true) : moB x y u v h c = true ∧ (0 ≤ m ∧ m ≤ 60) ∧ (1 ≤ s ∧ s ≤ 1000) ∧ led (okT x y u v) (m.toNat + 1) = m.toNat + 1 := by
  unfold pcB at e
  rw [Bool.and_eq_true, Bool.and_eq_true, Bool.and_eq_true] at e
  exact ⟨e.1, isIn_yes e.2.1, isIn_yes e.2.2.1, of_decide_eq_true e.2.2.2⟩
theorem pcN_le (x y u v h c m s : Int) : pcN x y u v h c m s ≤ 61 := by
  unfold pcN; split
  · next e =>
    obtain ⟨-, h1, -, -⟩ := pcB_yes e
    have := cpN_le (ceX x u s) (ceX y v s) (m.toNat + 1)
    omega
  · omega
end Go.Proofs.Ytinkkdgjpcnklaa.mot
