/- Links between clocks in plain mathematics (no program in it): what is connected, whether no two ways differ, offsets. -/
import Derived.Test.YtndogafihaooiaaIn
import Derived.Test.YtndogafihaooiaaLst
namespace Go.Proofs.Ytndogafihaooiaa.lnk
open Go.Proofs.Ytndogafihaooiaa.in_ Go.Proofs.Ytndogafihaooiaa.lst

def lF (ls : List Int) (k : Nat) : Nat := (fld 3 ls k 0).toNat
def lT (ls : List Int) (k : Nat) : Nat := (fld 3 ls k 1).toNat
def lO (ls : List Int) (k : Nat) : Int := fld 3 ls k 2
/-- One link between two different ones of n clocks. -/
def lnB (ls : List Int) (n : Int) (k : Nat) : Bool := isIn (fld 3 ls k 0) 0 (n - 1) && (isIn (fld 3 ls k 1) 0 (n - 1) && (decide (fld 3 ls k 0 ≠ fld 3 ls k 1) && isIn (fld 3 ls k 2) (-1000000) 1000000))
def lkT (ls : List Int) (n : Int) : Nat → Bool
  | 0 => true
  | k + 1 => lkT ls n k && lnB ls n k
theorem lkT_at {ls : List Int} {n : Int} {m k : Nat} (h : lkT ls n m = true) (hk : k < m) : lnB ls n k = true := by
  induction m with
  | zero => omega
  | succ m ih =>
    rw [lkT, Bool.and_eq_true] at h
    by_cases e : k = m
    · subst e; exact h.2
    · exact ih h.1 (by omega)
theorem lkT_le {ls : List Int} {n : Int} {m k : Nat} (h : lkT ls n m = true) (hk : k ≤ m) : lkT ls n k = true := by
  induction m with
  | zero => obtain rfl : k = 0 := by omega
            rfl
  | succ m ih =>
    by_cases e : k = m + 1
    · rw [e]; exact h
    · rw [lkT, Bool.and_eq_true] at h
      exact ih h.1 (by omega)
theorem lkT_no {ls : List Int} {n : Int} {m k : Nat} (hk : k < m) (h : lnB ls n k = false) : lkT ls n m = false := by
  cases e : lkT ls n m with
  | false => rfl
  | true => rw [lkT_at e hk] at h; cases h
theorem lnB_yes {ls : List Int} {n : Int} {k : Nat} (h : lnB ls n k = true) : (0 ≤ fld 3 ls k 0 ∧ fld 3 ls k 0 ≤ n - 1) ∧ (0 ≤ fld 3 ls k 1 ∧ fld 3 ls k 1 ≤ n - 1) ∧ fld 3 ls k 0 ≠ fld 3 ls k 1 ∧ -1000000 ≤ fld 3 ls k 2 ∧ fld 3 ls k 2 ≤ 1000000 := by
  unfold lnB at h
  rw [Bool.and_eq_true, Bool.and_eq_true, Bool.and_eq_true] at h
  exact ⟨of_decide_eq_true h.1, of_decide_eq_true h.2.1, of_decide_eq_true h.2.2.1, of_decide_eq_true h.2.2.2⟩
/-- .. at natural numbers. -/
theorem ln_nat {ls : List Int} {n k : Nat} (h : lnB ls (n : Int) k = true) : fld 3 ls k 0 = (lF ls k : Int) ∧ fld 3 ls k 1 = (lT ls k : Int) ∧ lF ls k < n ∧ lT ls k < n ∧ lF ls k ≠ lT ls k ∧ -1000000 ≤ lO ls k ∧ lO ls k ≤ 1000000 := by
  obtain ⟨h1, h2, h3, h4⟩ := lnB_yes h
  unfold lF lT lO
  omega
def lkB (ls : List Int) (n : Int) (m : Nat) : Bool := lkT ls n m && (isIn n 1 6 && decide (m ≤ 12))
theorem lkB_yes {ls : List Int} {n : Int} {m : Nat} (h : lkB ls n m = true) : lkT ls n m = true ∧ 1 ≤ n ∧ n ≤ 6 ∧ m ≤ 12 := by
  unfold lkB at h
  rw [Bool.and_eq_true, Bool.and_eq_true] at h
  have := of_decide_eq_true h.2.1
  exact ⟨h.1, this.1, this.2, of_decide_eq_true h.2.2⟩
theorem lkB_no {ls : List Int} {n : Int} {m : Nat} (h : lkT ls n m = false) : lkB ls n m = false := by unfold lkB; rw [h]; rfl

/-- The clocks that links connect with the clock s. -/
def Rch (ls : List Int) (m s c : Nat) : Prop := ∀ Q : Nat → Prop, Q s → (∀ i, i < m → Q (lF ls i) → Q (lT ls i)) → (∀ i, i < m → Q (lT ls i) → Q (lF ls i)) → Q c
theorem Rch.here {ls : List Int} {m s : Nat} : Rch ls m s s := fun _ h _ _ => h
theorem Rch.to {ls : List Int} {m s i : Nat} (h : Rch ls m s (lF ls i)) (hi : i < m) : Rch ls m s (lT ls i) := fun Q a b c => b i hi (h Q a b c)
theorem Rch.fro {ls : List Int} {m s i : Nat} (h : Rch ls m s (lT ls i)) (hi : i < m) : Rch ls m s (lF ls i) := fun Q a b c => c i hi (h Q a b c)
/-- p tells what the clocks that are connected with s show. -/
def Tells (ls : List Int) (m s : Nat) (p : Nat → Int) : Prop := ∀ i, i < m → Rch ls m s (lF ls i) → p (lT ls i) = p (lF ls i) + lO ls i
open Classical in
noncomputable def rcB (ls : List Int) (m s c : Nat) : Bool := decide (Rch ls m s c)
open Classical in
noncomputable def agB (ls : List Int) (m s : Nat) : Bool := decide (∃ p, Tells ls m s p)
open Classical in
theorem rcB_yes {ls : List Int} {m s c : Nat} (h : rcB ls m s c = true) : Rch ls m s c := by unfold rcB at h; exact of_decide_eq_true h
open Classical in
theorem rcB_of {ls : List Int} {m s c : Nat} (h : Rch ls m s c) : rcB ls m s c = true := by unfold rcB; exact decide_eq_true h
open Classical in
theorem agB_yes {ls : List Int} {m s : Nat} (h : agB ls m s = true) : ∃ p, Tells ls m s p := by unfold agB at h; exact of_decide_eq_true h
open Classical in
theorem agB_of {ls : List Int} {m s : Nat} (h : ∃ p, Tells ls m s p) : agB ls m s = true := by unfold agB; exact decide_eq_true h
open Classical in
theorem agB_not {ls : List Int} {m s : Nat} (h : ¬ ∃ p, Tells ls m s p) : agB ls m s = false := by unfold agB; exact decide_eq_false h

/- A search: which clocks are known to be connected (sn), and what they show (of). -/
def upd {α : Type} (f : Nat → α) (c : Nat) (v : α) : Nat → α := fun x => if x = c then v else f x
theorem upd_same {α : Type} (f : Nat → α) (c : Nat) (v : α) : upd f c v c = v := by unfold upd; rw [if_pos rfl]
theorem upd_other {α : Type} (f : Nat → α) {c x : Nat} (v : α) (h : x ≠ c) : upd f c v x = f x := by unfold upd; rw [if_neg h]
def cnT (sn : Nat → Bool) : Nat → Nat
  | 0 => 0
  | k + 1 => if sn k then cnT sn k + 1 else cnT sn k
theorem cnT_le (sn : Nat → Bool) (n : Nat) : cnT sn n ≤ n := by
  induction n with
  | zero => exact Nat.le_refl _
  | succ n ih => rw [cnT]; split <;> omega
theorem cnT_upd_ge (sn : Nat → Bool) {c n : Nat} (h : n ≤ c) : cnT (upd sn c true) n = cnT sn n := by
  induction n with
  | zero => rfl
  | succ n ih => rw [cnT, cnT, ih (by omega), upd_other sn true (show n ≠ c by omega)]
theorem cnT_upd {sn : Nat → Bool} {c n : Nat} (h : c < n) (hc : sn c = false) : cnT (upd sn c true) n = cnT sn n + 1 := by
  induction n with
  | zero => omega
  | succ n ih =>
    rw [cnT, cnT]
    by_cases e : c = n
    · subst e
      rw [upd_same, cnT_upd_ge sn (Nat.le_refl _), if_pos rfl, hc, if_neg (by simp)]
    · rw [upd_other sn true (show n ≠ c by omega), ih (by omega)]
      split <;> omega
theorem cnT_pos {sn : Nat → Bool} {c n : Nat} (h : c < n) (hc : sn c = true) : 1 ≤ cnT sn n := by
  induction n with
  | zero => omega
  | succ n ih =>
    rw [cnT]
    by_cases e : c = n
    · subst e; rw [hc, if_pos rfl]; omega
    · have := ih (by omega)
      split <;> omega
structure Srch (ls : List Int) (n m s : Nat) (sn : Nat → Bool) (of : Nat → Int) : Prop where
  start : sn s = true
  conn : ∀ c, sn c = true → c < n ∧ Rch ls m s c
  tells : ∀ p, Tells ls m s p → ∀ c, sn c = true → of c = p c - p s
  small : ∀ c, -1000000 * (cnT sn n : Int) ≤ of c ∧ of c ≤ 1000000 * (cnT sn n : Int)
theorem Srch.begin {ls : List Int} {n m s : Nat} (hs : s < n) : Srch ls n m s (upd (fun _ => false) s true) (fun _ => 0) where
  start := upd_same _ _ _
  conn := fun c hc => by
    by_cases e : c = s
    · subst e; exact ⟨hs, .here⟩
    · rw [upd_other _ _ e] at hc; cases hc
  tells := fun p _ c hc => by
    by_cases e : c = s
    · subst e; omega
    · rw [upd_other _ _ e] at hc; cases hc
  small := fun c => by have := Int.natCast_nonneg (cnT (upd (fun _ => false) s true) n); omega
theorem Srch.to {ls : List Int} {n m s i : Nat} {sn : Nat → Bool} {of : Nat → Int} (h : Srch ls n m s sn of) (hi : i < m) (hv : lnB ls (n : Int) i = true) (hF : sn (lF ls i) = true) (hT : sn (lT ls i) = false) :
    Srch ls n m s (upd sn (lT ls i) true) (upd of (lT ls i) (of (lF ls i) + lO ls i)) := by
  obtain ⟨-, -, f1, f2, f3, f4, f5⟩ := ln_nat hv
  have hc := cnT_upd (n := n) f2 hT
  refine ⟨?_, fun c hc => ?_, fun p hp c hc => ?_, fun c => ?_⟩
  · rw [upd_other _ _ (fun e => by rw [← e, h.start] at hT; cases hT)]; exact h.start
  · by_cases e : c = lT ls i
    · subst e; exact ⟨f2, .to (h.conn _ hF).2 hi⟩
    · rw [upd_other _ _ e] at hc; exact h.conn c hc
  · by_cases e : c = lT ls i
    · subst e
      rw [upd_same, h.tells p hp _ hF, hp i hi (h.conn _ hF).2]; omega
    · rw [upd_other _ _ e] at hc ⊢; exact h.tells p hp c hc
  · rw [hc]
    by_cases e : c = lT ls i
    · subst e
      rw [upd_same]
      have := h.small (lF ls i)
      omega
    · rw [upd_other _ _ e]
      have := h.small c
      omega
theorem Srch.fro {ls : List Int} {n m s i : Nat} {sn : Nat → Bool} {of : Nat → Int} (h : Srch ls n m s sn of) (hi : i < m) (hv : lnB ls (n : Int) i = true) (hT : sn (lT ls i) = true) (hF : sn (lF ls i) = false) :
    Srch ls n m s (upd sn (lF ls i) true) (upd of (lF ls i) (of (lT ls i) - lO ls i)) := by
  obtain ⟨-, -, f1, f2, f3, f4, f5⟩ := ln_nat hv
  have hc := cnT_upd (n := n) f1 hF
  have hr : Rch ls m s (lF ls i) := .fro (h.conn _ hT).2 hi
  refine ⟨?_, fun c hc => ?_, fun p hp c hc => ?_, fun c => ?_⟩
  · rw [upd_other _ _ (fun e => by rw [← e, h.start] at hF; cases hF)]; exact h.start
  · by_cases e : c = lF ls i
    · subst e; exact ⟨f1, hr⟩
    · rw [upd_other _ _ e] at hc; exact h.conn c hc
  · by_cases e : c = lF ls i
    · subst e
      rw [upd_same, h.tells p hp _ hT, hp i hi hr]; omega
    · rw [upd_other _ _ e] at hc ⊢; exact h.tells p hp c hc
  · rw [hc]
    by_cases e : c = lF ls i
    · subst e
      rw [upd_same]
      have := h.small (lT ls i)
      omega
    · rw [upd_other _ _ e]
      have := h.small c
      omega
/-- No link leads out of what is known. -/
def Closed (ls : List Int) (m : Nat) (sn : Nat → Bool) : Prop := ∀ i, i < m → sn (lF ls i) = sn (lT ls i)
theorem Srch.whole {ls : List Int} {n m s : Nat} {sn : Nat → Bool} {of : Nat → Int} (h : Srch ls n m s sn of) (hc : Closed ls m sn) (c : Nat) : sn c = rcB ls m s c := by
  cases e : sn c with
  | true => exact (rcB_of (h.conn c e).2).symm
  | false =>
    cases e2 : rcB ls m s c with
    | false => rfl
    | true =>
      have hr := rcB_yes e2
      have : sn c = true := by
        exact hr (fun c => sn c = true) h.start (fun i hi ih => by rw [← hc i hi]; exact ih) (fun i hi ih => by rw [hc i hi]; exact ih)
      rw [e] at this; cases this
/-- Do the known offsets agree with the first k links? -/
def okT (ls : List Int) (sn : Nat → Bool) (of : Nat → Int) : Nat → Bool
  | 0 => true
  | k + 1 => okT ls sn of k && (!sn (lF ls k) || decide (of (lT ls k) = of (lF ls k) + lO ls k))
theorem okT_at {ls : List Int} {sn : Nat → Bool} {of : Nat → Int} {m k : Nat} (h : okT ls sn of m = true) (hk : k < m) (hs : sn (lF ls k) = true) : of (lT ls k) = of (lF ls k) + lO ls k := by
  induction m with
  | zero => omega
  | succ m ih =>
    rw [okT, Bool.and_eq_true] at h
    by_cases e : k = m
    · subst e
      have h2 := h.2
      rw [hs] at h2
      simpa using h2
    · exact ih h.1 (by omega)
theorem okT_no {ls : List Int} {sn : Nat → Bool} {of : Nat → Int} {m k : Nat} (hk : k < m) (hs : sn (lF ls k) = true) (h : of (lT ls k) ≠ of (lF ls k) + lO ls k) : okT ls sn of m = false := by
  cases e : okT ls sn of m with
  | false => rfl
  | true => exact absurd (okT_at e hk hs) h
theorem okT_of {ls : List Int} {sn : Nat → Bool} {of : Nat → Int} {m : Nat} (h : ∀ i, i < m → sn (lF ls i) = true → of (lT ls i) = of (lF ls i) + lO ls i) : okT ls sn of m = true := by
  induction m with
  | zero => rfl
  | succ m ih =>
    rw [okT, ih (fun i hi => h i (by omega))]
    cases e : sn (lF ls m)
    · rfl
    · rw [decide_eq_true (h m (by omega) e)]; rfl
theorem Srch.agree {ls : List Int} {n m s : Nat} {sn : Nat → Bool} {of : Nat → Int} (h : Srch ls n m s sn of) (hc : Closed ls m sn) : okT ls sn of m = agB ls m s := by
  by_cases hp : ∃ p, Tells ls m s p
  · rw [agB_of hp]
    obtain ⟨p, hp⟩ := hp
    refine okT_of fun i hi hs => ?_
    rw [h.tells p hp _ hs, h.tells p hp _ (by rw [← hc i hi]; exact hs), hp i hi (h.conn _ hs).2]; omega
  · rw [agB_not hp]
    cases e : okT ls sn of m with
    | false => rfl
    | true => exact absurd ⟨of, fun i hi hr => okT_at e hi (by rw [h.whole hc]; exact rcB_of hr)⟩ hp

/- ClockOffsets. -/
def allT (sn : Nat → Bool) : Nat → Bool
  | 0 => true
  | k + 1 => allT sn k && sn k
theorem allT_at {sn : Nat → Bool} {n k : Nat} (h : allT sn n = true) (hk : k < n) : sn k = true := by
  induction n with
  | zero => omega
  | succ n ih =>
    rw [allT, Bool.and_eq_true] at h
    by_cases e : k = n
    · subst e; exact h.2
    · exact ih h.1 (by omega)
noncomputable def coB (ls : List Int) (n : Int) (m : Nat) : Bool := lkB ls n m && (agB ls m 0 && allT (rcB ls m 0) n.toNat)
open Classical in
noncomputable def shw (ls : List Int) (m : Nat) : Nat → Int := if h : ∃ p, Tells ls m 0 p then fun c => h.choose c - h.choose 0 else fun _ => 0
theorem shw_is {ls : List Int} {n m : Nat} {sn : Nat → Bool} {of : Nat → Int} (h : Srch ls n m 0 sn of) (ha : agB ls m 0 = true) {c : Nat} (hc : sn c = true) : of c = shw ls m c := by
  have hp := agB_yes ha
  unfold shw
  rw [dif_pos hp]
  exact h.tells _ hp.choose_spec c hc
noncomputable def coV (ls : List Int) (n : Int) (m : Nat) : List Int := if coB ls n m then (List.range n.toNat).map (shw ls m) else []
theorem coV_yes {ls : List Int} {n : Int} {m : Nat} (h : coB ls n m = true) : coV ls n m = (List.range n.toNat).map (shw ls m) := by unfold coV; rw [h]; rfl
theorem coV_no {ls : List Int} {n : Int} {m : Nat} (h : coB ls n m = false) : coV ls n m = [] := by unfold coV; rw [h]; rfl

/- NeedlessLinks, AddClockLink. -/
noncomputable def ndT (ls : List Int) : Nat → Nat
  | 0 => 0
  | k + 1 => if rcB ls k (lF ls k) (lT ls k) then ndT ls k + 1 else ndT ls k
noncomputable def ndV (ls : List Int) (n : Int) (m : Nat) : Int := if lkB ls n m then (ndT ls m : Int) else 0
theorem nd_yes {ls : List Int} {n : Int} {m : Nat} (h : lkB ls n m = true) : ndV ls n m = (ndT ls m : Int) := by unfold ndV; rw [h]; rfl
theorem nd_no {ls : List Int} {n : Int} {m : Nat} (h : lkB ls n m = false) : ndV ls n m = 0 := by unfold ndV; rw [h]; rfl
theorem ndT_le (ls : List Int) (k : Nat) : ndT ls k ≤ k := by
  induction k with
  | zero => exact Nat.le_refl _
  | succ k ih => rw [ndT]; split <;> omega
noncomputable def alT (ls : List Int) (m : Nat) : Nat → Bool
  | 0 => true
  | k + 1 => alT ls m k && agB ls m k
theorem alT_no {ls : List Int} {m n k : Nat} (hk : k < n) (h : agB ls m k = false) : alT ls m n = false := by
  induction n with
  | zero => omega
  | succ n ih =>
    rw [alT]
    by_cases e : k = n
    · subst e; rw [h]; simp
    · rw [ih (by omega)]; rfl
noncomputable def adB (ls : List Int) (n : Int) (m : Nat) (a b o : Int) : Bool := lkB (ls ++ [a, b, o]) n (m + 1) && alT (ls ++ [a, b, o]) (m + 1) n.toNat
noncomputable def adV (ls : List Int) (n : Int) (m : Nat) (a b o : Int) : List Int := if adB ls n m a b o then ls ++ [a, b, o] else []
noncomputable def adN (ls : List Int) (n : Int) (m : Nat) (a b o : Int) : Nat := if adB ls n m a b o then m + 1 else 0
end Go.Proofs.Ytndogafihaooiaa.lnk
