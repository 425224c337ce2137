/- Links between clocks in plain mathematics, on: links that agree one after the other; each link walked in both directions. -/
import Derived.Test.YtndogafihaooiaaLnk
namespace Go.Proofs.Ytndogafihaooiaa.lnkp
open Go.Proofs.Ytndogafihaooiaa.in_ Go.Proofs.Ytndogafihaooiaa.lst Go.Proofs.Ytndogafihaooiaa.lnk

theorem rch_le {ls : List Int} {k m s c : Nat} (h : Rch ls k s c) (hk : k ≤ m) : Rch ls m s c :=
  fun Q a b d => h Q a (fun i hi => b i (by omega)) (fun i hi => d i (by omega))
/-- One way of telling what all clocks show agrees with all links. -/
def Glob (ls : List Int) (m : Nat) (p : Nat → Int) : Prop := ∀ i, i < m → p (lT ls i) = p (lF ls i) + lO ls i
open Classical in
noncomputable def glB (ls : List Int) (m : Nat) : Bool := decide (∃ p, Glob ls m p)
open Classical in
theorem gl_yes {ls : List Int} {m : Nat} (h : glB ls m = true) : ∃ p, Glob ls m p := by unfold glB at h; exact of_decide_eq_true h
open Classical in
theorem gl_of {ls : List Int} {m : Nat} {p : Nat → Int} (h : Glob ls m p) : glB ls m = true := by unfold glB; exact decide_eq_true ⟨p, h⟩
theorem gl_zero (ls : List Int) : glB ls 0 = true := gl_of (p := fun _ => 0) (fun i hi => absurd hi (Nat.not_lt_zero i))
theorem gl_ag {ls : List Int} {m : Nat} (h : glB ls m = true) (s : Nat) : agB ls m s = true := by
  obtain ⟨p, hp⟩ := gl_yes h
  exact agB_of ⟨p, fun i hi _ => hp i hi⟩
theorem gl_next {ls : List Int} {k : Nat} {p : Nat → Int} (h : Glob ls k p) (he : p (lT ls k) = p (lF ls k) + lO ls k) : glB ls (k + 1) = true :=
  gl_of (p := p) fun i hi => by
    by_cases e : i = k
    · rw [e]; exact he
    · exact h i (by omega)
/-- A link whose clocks are not connected yet. -/
theorem gl_apart {ls : List Int} {k : Nat} (h : glB ls k = true) (hc : rcB ls k (lF ls k) (lT ls k) = false) : glB ls (k + 1) = true := by
  obtain ⟨p, hp⟩ := gl_yes h
  have hF : rcB ls k (lF ls k) (lF ls k) = true := rcB_of .here
  refine gl_next (p := fun c => if rcB ls k (lF ls k) c then p c else p c + (p (lF ls k) + lO ls k - p (lT ls k))) (fun i hi => ?_) ?_
  · have e : rcB ls k (lF ls k) (lT ls i) = rcB ls k (lF ls k) (lF ls i) := by
      cases e1 : rcB ls k (lF ls k) (lF ls i) with
      | true => exact rcB_of (.to (rcB_yes e1) hi)
      | false =>
        cases e2 : rcB ls k (lF ls k) (lT ls i) with
        | false => rfl
        | true => rw [rcB_of (.fro (rcB_yes e2) hi)] at e1; cases e1
    have := hp i hi
    simp only [e]
    split <;> omega
  · simp only [hF, hc]
    simp
    omega
theorem tells_glob {ls : List Int} {k m s c : Nat} {p q : Nat → Int} (hp : Tells ls m s p) (hq : Glob ls k q) (hk : k ≤ m) (h : Rch ls k s c) : q c - q s = p c - p s := by
  have := h (fun c => q c - q s = p c - p s ∧ Rch ls m s c) ⟨by omega, .here⟩
    (fun i hi ⟨e, r⟩ => by
      have h1 := hp i (by omega) r
      have h2 := hq i hi
      exact ⟨by omega, .to r (by omega)⟩)
    (fun i hi ⟨e, r⟩ => by
      have r2 : Rch ls m s (lF ls i) := .fro r (by omega)
      have h1 := hp i (by omega) r2
      have h2 := hq i hi
      exact ⟨by omega, r2⟩)
  exact this.1
/-- A link whose clocks are connected. -/
theorem gl_conn {ls : List Int} {n k : Nat} {sn : Nat → Bool} {of : Nat → Int} (h : glB ls k = true) (hs : Srch ls n k (lF ls k) sn of) (hc : sn (lT ls k) = true) (he : of (lT ls k) = lO ls k) : glB ls (k + 1) = true := by
  obtain ⟨p, hp⟩ := gl_yes h
  have := hs.tells p (fun i hi _ => hp i hi) _ hc
  exact gl_next hp (by omega)
theorem gl_bad {ls : List Int} {n k m : Nat} {sn : Nat → Bool} {of : Nat → Int} (hk : k < m) (hs : Srch ls n k (lF ls k) sn of) (hc : sn (lT ls k) = true) (he : of (lT ls k) ≠ lO ls k) : glB ls m = false := by
  cases e : glB ls m with
  | false => rfl
  | true =>
    obtain ⟨p, hp⟩ := gl_yes e
    have h1 := hs.tells p (fun i hi _ => hp i (by omega)) _ hc
    have h2 := hp k hk
    exact absurd (by omega) he
theorem alT_gl {ls : List Int} {m : Nat} (h : glB ls m = true) : ∀ n, alT ls m n = true
  | 0 => rfl
  | n + 1 => by rw [alT, alT_gl h n, gl_ag h n]; rfl
theorem alT_at {ls : List Int} {m n k : Nat} (h : alT ls m n = true) (hk : k < n) : agB ls m k = true := by
  cases e : agB ls m k with
  | true => rfl
  | false => rw [alT_no hk e] at h; cases h
theorem gl_alT {ls : List Int} {n m : Nat} (hv : lkT ls (n : Int) m = true) : glB ls m = alT ls m n := by
  cases e : alT ls m n with
  | false =>
    cases e2 : glB ls m with
    | false => rfl
    | true => rw [alT_gl e2] at e; cases e
  | true =>
    have : ∀ k, k ≤ m → glB ls k = true := by
      intro k
      induction k with
      | zero => intro _; exact gl_zero ls
      | succ k ih =>
        intro hk
        have ih := ih (by omega)
        cases hc : rcB ls k (lF ls k) (lT ls k) with
        | false => exact gl_apart ih hc
        | true =>
          obtain ⟨-, -, f1, -⟩ := ln_nat (lkT_at hv (show k < m by omega))
          obtain ⟨p, hp⟩ := agB_yes (alT_at e f1)
          obtain ⟨q, hq⟩ := gl_yes ih
          have h1 := tells_glob hp hq (by omega) (rcB_yes hc)
          have h2 := hp k (by omega) .here
          exact gl_next hq (by omega)
    exact this m (Nat.le_refl m)
theorem gl_ag0 {ls : List Int} {n m : Nat} (hv : lkT ls (n : Int) m = true) (ha : allT (rcB ls m 0) n = true) : glB ls m = agB ls m 0 := by
  cases e : agB ls m 0 with
  | false =>
    cases e2 : glB ls m with
    | false => rfl
    | true => rw [gl_ag e2] at e; cases e
  | true =>
    obtain ⟨p, hp⟩ := agB_yes e
    refine gl_of (p := p) fun i hi => hp i hi ?_
    obtain ⟨-, -, f1, -⟩ := ln_nat (lkT_at hv hi)
    exact rcB_yes (allT_at ha f1)
theorem allT_no {sn : Nat → Bool} {n k : Nat} (hk : k < n) (h : sn k = false) : allT sn n = false := by
  cases e : allT sn n with
  | false => rfl
  | true => rw [allT_at e hk] at h; cases h
theorem allT_of {sn : Nat → Bool} {n : Nat} (h : ∀ k, k < n → sn k = true) : allT sn n = true := by
  induction n with
  | zero => rfl
  | succ n ih => rw [allT, ih (fun k hk => h k (by omega)), h n (by omega)]; rfl
theorem co_glob {ls : List Int} {n m : Nat} (h : lkB ls (n : Int) m = true) : coB ls n m = (glB ls m && allT (rcB ls m 0) n) := by
  unfold coB
  rw [h, Int.toNat_natCast]
  cases ha : allT (rcB ls m 0) n with
  | false => simp
  | true => rw [gl_ag0 (lkB_yes h).1 ha]; simp

/- Each link in both directions: the list of the ways. -/
def wys (ls : List Int) : Nat → List Int
  | 0 => []
  | k + 1 => wys ls k ++ [fld 3 ls k 0, fld 3 ls k 1, fld 3 ls k 2, fld 3 ls k 1, fld 3 ls k 0, -fld 3 ls k 2]
theorem wys_length (ls : List Int) (k : Nat) : (wys ls k).length = 2 * k * 3 := by
  induction k with
  | zero => rfl
  | succ k ih => rw [wys, List.length_append, ih]; simp; omega
theorem wys_low {ls : List Int} {k i j : Nat} (h : i < 2 * k) (hj : j < 3) : fld 3 (wys ls (k + 1)) i j = fld 3 (wys ls k) i j := by
  unfold fld
  rw [wys, List.getD_eq_getElem?_getD, List.getElem?_append_left (by rw [wys_length]; omega), ← List.getD_eq_getElem?_getD]
theorem wys_top {ls : List Int} (k r : Nat) : (wys ls (k + 1)).getD (2 * k * 3 + r) 0 = [fld 3 ls k 0, fld 3 ls k 1, fld 3 ls k 2, fld 3 ls k 1, fld 3 ls k 0, -fld 3 ls k 2].getD r 0 := by
  rw [wys, List.getD_eq_getElem?_getD, List.getElem?_append_right (by rw [wys_length]; omega), wys_length, Nat.add_sub_cancel_left, ← List.getD_eq_getElem?_getD]
theorem wys_at {ls : List Int} {m k : Nat} (h : k < m) :
    (fld 3 (wys ls m) (2 * k) 0 = fld 3 ls k 0 ∧ fld 3 (wys ls m) (2 * k) 1 = fld 3 ls k 1 ∧ fld 3 (wys ls m) (2 * k) 2 = fld 3 ls k 2) ∧
    (fld 3 (wys ls m) (2 * k + 1) 0 = fld 3 ls k 1 ∧ fld 3 (wys ls m) (2 * k + 1) 1 = fld 3 ls k 0 ∧ fld 3 (wys ls m) (2 * k + 1) 2 = -fld 3 ls k 2) := by
  induction m with
  | zero => omega
  | succ m ih =>
    by_cases e : k = m
    · subst e
      have hh := wys_top (ls := ls) k
      refine ⟨⟨hh 0, hh 1, hh 2⟩, ?_, ?_, ?_⟩
      · have := hh 3; unfold fld; rw [show (2 * k + 1) * 3 + 0 = 2 * k * 3 + 3 by omega]; exact this
      · have := hh 4; unfold fld; rw [show (2 * k + 1) * 3 + 1 = 2 * k * 3 + 4 by omega]; exact this
      · have := hh 5; unfold fld; rw [show (2 * k + 1) * 3 + 2 = 2 * k * 3 + 5 by omega]; exact this
    · rw [wys_low (by omega) (by omega), wys_low (by omega) (by omega), wys_low (by omega) (by omega), wys_low (by omega) (by omega), wys_low (by omega) (by omega), wys_low (by omega) (by omega)]
      exact ih (by omega)
/-- From and to of the i-th way. -/
def wF (ls : List Int) (i : Nat) : Nat := if i % 2 = 0 then lF ls (i / 2) else lT ls (i / 2)
def wT (ls : List Int) (i : Nat) : Nat := if i % 2 = 0 then lT ls (i / 2) else lF ls (i / 2)
def wO (ls : List Int) (i : Nat) : Int := if i % 2 = 0 then lO ls (i / 2) else -lO ls (i / 2)
theorem way_nat {ls : List Int} {n m i : Nat} (hv : lkT ls (n : Int) m = true) (hi : i < 2 * m) :
    fld 3 (wys ls m) i 0 = (wF ls i : Int) ∧ fld 3 (wys ls m) i 1 = (wT ls i : Int) ∧ fld 3 (wys ls m) i 2 = wO ls i ∧ wF ls i < n ∧ wT ls i < n ∧ -1000000 ≤ wO ls i ∧ wO ls i ≤ 1000000 := by
  obtain ⟨e0, e1, f0, f1, f2, f3, f4⟩ := ln_nat (lkT_at hv (show i / 2 < m by omega))
  obtain ⟨⟨a0, a1, a2⟩, b0, b1, b2⟩ := wys_at (ls := ls) (show i / 2 < m by omega)
  unfold wF wT wO
  have h2 : lO ls (i / 2) = fld 3 ls (i / 2) 2 := rfl
  rcases Nat.mod_two_eq_zero_or_one i with h | h
  · rw [if_pos h, if_pos h, if_pos h]
    rw [show 2 * (i / 2) = i by omega] at a0 a1 a2
    exact ⟨a0.trans e0, a1.trans e1, a2, f0, f1, f3, f4⟩
  · rw [if_neg (by omega), if_neg (by omega), if_neg (by omega)]
    rw [show 2 * (i / 2) + 1 = i by omega] at b0 b1 b2
    exact ⟨b0.trans e1, b1.trans e0, b2, f1, f0, by omega, by omega⟩
theorem way_next {ls : List Int} {n m s i : Nat} {sn : Nat → Bool} {of : Nat → Int} (hv : lkT ls (n : Int) m = true) (h : Srch ls n m s sn of) (hi : i < 2 * m) (hF : sn (wF ls i) = true) (hT : sn (wT ls i) = false) :
    Srch ls n m s (upd sn (wT ls i) true) (upd of (wT ls i) (of (wF ls i) + wO ls i)) := by
  have hv' := lkT_at hv (show i / 2 < m by omega)
  unfold wF at hF
  unfold wT at hT
  unfold wF wT wO
  rcases Nat.mod_two_eq_zero_or_one i with e | e
  · rw [if_pos e] at hF hT
    rw [if_pos e, if_pos e, if_pos e]
    exact h.to (by omega) hv' hF hT
  · rw [if_neg (by omega)] at hF hT
    rw [if_neg (by omega), if_neg (by omega), if_neg (by omega), ← Int.sub_eq_add_neg]
    exact h.fro (by omega) hv' hF hT
/-- The first k ways out of the clock c are walked. -/
def Out (ls : List Int) (k : Nat) (sn : Nat → Bool) (c : Nat) : Prop := ∀ i, i < k → wF ls i = c → sn (wT ls i) = true
/-- What is known and not waiting is walked. -/
def Walked (ls : List Int) (m : Nat) (sn : Nat → Bool) (Q : List Nat) : Prop := ∀ c, sn c = true → c ∉ Q → Out ls (2 * m) sn c
theorem walked_closed {ls : List Int} {m : Nat} {sn : Nat → Bool} (h : Walked ls m sn []) : Closed ls m sn := by
  intro i hi
  cases e1 : sn (lF ls i) with
  | true =>
    have := h _ e1 (by simp) (2 * i) (by omega) (by unfold wF; rw [if_pos (by omega), show 2 * i / 2 = i by omega])
    unfold wT at this
    rw [if_pos (by omega), show 2 * i / 2 = i by omega] at this
    rw [this]
  | false =>
    cases e2 : sn (lT ls i) with
    | false => rfl
    | true =>
      have := h _ e2 (by simp) (2 * i + 1) (by omega) (by unfold wF; rw [if_neg (by omega), show (2 * i + 1) / 2 = i by omega])
      unfold wT at this
      rw [if_neg (by omega), show (2 * i + 1) / 2 = i by omega, e1] at this
      cases this
end Go.Proofs.Ytndogafihaooiaa.lnkp
