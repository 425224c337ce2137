/- Height codes: plain mathematics. Gray codes of 11 bits, the codes of fine and coarse heights, the nearest height, changed bits. -/
import Derived.Test.YtinkkdgjpcnklaaBin
namespace Go.Proofs.Ytinkkdgjpcnklaa.hgt
open Go.RowKit Go.Proofs.Ytinkkdgjpcnklaa.bin

/-- The Gray code of a number, and the loop that undoes it. -/
def gray (n : Nat) : Nat := n ^^^ (n / 2)
def unA : Nat → Nat → Nat → Nat
  | 0, _, a => a
  | f + 1, g, a => unA f (g / 2) (a ^^^ g)
def un (g : Nat) : Nat := unA 11 g 0
theorem unA_zero : ∀ f a, unA f 0 a = a
  | 0, _ => rfl
  | f + 1, a => by rw [unA, Nat.zero_div, Nat.xor_zero, unA_zero f]
theorem gray_fin : ∀ n : Fin 2048, gray n.val < 2048 ∧ un (gray n.val) = n.val ∧ un n.val < 2048 ∧ gray (un n.val) = n.val := by decide +kernel
theorem gray_lt {n : Nat} (h : n < 2048) : gray n < 2048 := (gray_fin ⟨n, h⟩).1
theorem un_gray {n : Nat} (h : n < 2048) : un (gray n) = n := (gray_fin ⟨n, h⟩).2.1
theorem un_lt {n : Nat} (h : n < 2048) : un n < 2048 := (gray_fin ⟨n, h⟩).2.2.1
theorem gray_un {n : Nat} (h : n < 2048) : gray (un n) = n := (gray_fin ⟨n, h⟩).2.2.2
/-- The Gray codes of successive numbers differ in one bit. -/
theorem succ_fin : ∀ n : Fin 2047, pc 12 (gray n.val ^^^ gray (n.val + 1)) = 1 := by decide +kernel
theorem one_bit {n : Nat} (h : n < 2047) : pc 12 (gray n ^^^ gray (n + 1)) = 1 := succ_fin ⟨n, h⟩

/-- GrayOf, FromGray. -/
def grB (n : Int) : Bool := decide (0 ≤ n ∧ n ≤ 2047)
def grV (n : Int) : Nat := if grB n then gray n.toNat else 0
def ugV (n : Int) : Nat := if grB n then un n.toNat else 0
theorem gr_no {n : Int} (h : ¬ (0 ≤ n ∧ n ≤ 2047)) : grB n = false ∧ grV n = 0 ∧ ugV n = 0 := by
  have e : grB n = false := decide_eq_false h
  exact ⟨e, by unfold grV; rw [e]; rfl, by unfold ugV; rw [e]; rfl⟩
theorem gr_yes {k : Nat} (h : k < 2048) : grB (k : Int) = true ∧ grV (k : Int) = gray k ∧ ugV (k : Int) = un k := by
  have e : grB (k : Int) = true := decide_eq_true ⟨by omega, by omega⟩
  exact ⟨e, by unfold grV; rw [e]; simp, by unfold ugV; rw [e]; simp⟩

/-- A kind of heights: the lowest one, the highest one, the step. -/
def lo (f : Bool) : Int := if f then -1000 else -1200
def hi (f : Bool) : Int := if f then 50175 else 126700
def st (f : Bool) : Int := if f then 25 else 100
/-- EncodeHeight: is the height one of the kind? its code. -/
def enB (h : Int) (f : Bool) : Bool := decide (lo f ≤ h ∧ h ≤ hi f ∧ (h - lo f) % st f = 0)
def enV (h : Int) (f : Bool) : Nat := if enB h f then (if f then 2048 + ((h + 1000) / 25).toNat else gray ((h + 1200) / 100).toNat) else 0
/-- DecodeHeight. -/
def dcF (c : Int) : Bool := decide (2048 ≤ c ∧ c ≤ 4095)
def dcC (c : Int) : Bool := decide (0 ≤ c ∧ c ≤ 2047) && decide (un c.toNat ≤ 1279)
def dcB (c : Int) : Bool := dcF c || dcC c
def dcH (c : Int) : Int := if dcF c then 25 * (c - 2048) - 1000 else if dcC c then 100 * (un c.toNat : Int) - 1200 else 0
/-- NearestHeight. -/
def hB (h : Int) : Bool := decide (-2000 ≤ h ∧ h ≤ 130000)
def clamp (h : Int) (f : Bool) : Int := if h < lo f then lo f else if hi f < h then hi f else h
def nrV (h : Int) (f : Bool) : Int := if hB h then lo f + st f * ((clamp h f - lo f + (st f - 1) / 2) / st f) else 0
/-- ChangedBits. -/
def cbB (a b : Int) : Bool := dcB a && dcB b
def cbV (a b : Int) : Nat := if cbB a b then pc 12 (a.toNat ^^^ b.toNat) else 0

theorem dc_range {c : Int} (h : dcB c = true) : 0 ≤ c ∧ c ≤ 4095 := by
  unfold dcB dcF dcC at h
  simp only [Bool.or_eq_true, Bool.and_eq_true, decide_eq_true_eq] at h
  omega

/-- A height that has a code is the one of its code, and the nearest one of its kind. -/
theorem back (h : Int) (f : Bool) (hb : enB h f = true) : dcB (enV h f) = true ∧ dcH (enV h f) = h ∧ dcF (enV h f) = f ∧ hB h = true ∧ nrV h f = h := by
  have hb2 := hb
  unfold enB at hb2
  have e : hB h = true := by
    cases f
    · simp [lo, hi, st] at hb2; exact decide_eq_true ⟨by omega, by omega⟩
    · simp [lo, hi, st] at hb2; exact decide_eq_true ⟨by omega, by omega⟩
  unfold enV nrV clamp
  rw [hb, e]
  cases f
  · simp [lo, hi, st] at hb2 ⊢
    obtain ⟨h1, h2, h3⟩ := hb2
    obtain ⟨k, rfl⟩ : ∃ k : Nat, h = 100 * (k : Int) - 1200 := ⟨((h + 1200) / 100).toNat, by omega⟩
    have e1 : ((100 * (k : Int) - 1200 + 1200) / 100).toNat = k := by omega
    rw [e1]
    have hk : k < 1280 := by omega
    have g1 := gray_lt (n := k) (by omega)
    have g2 := un_gray (n := k) (by omega)
    generalize gray k = g at *
    have f0 : dcF (g : Int) = false := decide_eq_false (by omega)
    have f1 : dcC (g : Int) = true := by
      unfold dcC
      rw [Int.toNat_natCast, g2, decide_eq_true (show (0 : Int) ≤ g ∧ (g : Int) ≤ 2047 by omega), decide_eq_true (show k ≤ 1279 by omega)]
      rfl
    refine ⟨by unfold dcB; rw [f0, f1]; rfl, ?_, f0, ?_⟩
    · unfold dcH
      rw [f0, f1, Int.toNat_natCast, g2]
      rfl
    · split <;> omega
  · simp [lo, hi, st] at hb2 ⊢
    obtain ⟨h1, h2, h3⟩ := hb2
    obtain ⟨k, rfl⟩ : ∃ k : Nat, h = 25 * (k : Int) - 1000 := ⟨((h + 1000) / 25).toNat, by omega⟩
    have e1 : ((25 * (k : Int) - 1000 + 1000) / 25).toNat = k := by omega
    rw [show (25 * (k : Int) - 1000 + 1000) / 25 = (k : Int) by omega]
    have f0 : dcF (2048 + max (k : Int) 0) = true := decide_eq_true (by omega)
    refine ⟨by unfold dcB; rw [f0]; rfl, ?_, f0, ?_⟩
    · unfold dcH
      rw [f0]
      show 25 * (2048 + max (k : Int) 0 - 2048) - 1000 = _
      omega
    · split <;> omega

/-- A code is the code of its height. -/
theorem again (c : Int) (hb : dcB c = true) : enB (dcH c) (dcF c) = true ∧ (enV (dcH c) (dcF c) : Int) = c := by
  have hr := dc_range hb
  obtain ⟨k, rfl⟩ := Int.eq_ofNat_of_zero_le hr.1
  cases hf : dcF (k : Int)
  · have hc : dcC (k : Int) = true := by unfold dcB at hb; rw [hf] at hb; simpa using hb
    have e : dcH (k : Int) = 100 * (un k : Int) - 1200 := by unfold dcH; rw [hf, hc, Int.toNat_natCast]; rfl
    unfold dcC at hc
    simp only [Bool.and_eq_true, decide_eq_true_eq, Int.toNat_natCast] at hc
    obtain ⟨⟨c1, c2⟩, c3⟩ := hc
    have g := gray_un (n := k) (by omega)
    rw [e]
    generalize un k = u at *
    have hb : enB (100 * (u : Int) - 1200) false = true := decide_eq_true ⟨by simp [lo] <;> omega, by simp [hi] <;> omega, by simp [lo, st] <;> omega⟩
    refine ⟨hb, ?_⟩
    unfold enV
    rw [hb]
    simp only [if_true, Bool.false_eq_true, if_false]
    rw [show ((100 * (u : Int) - 1200 + 1200) / 100).toNat = u by omega, g]
  · have e : dcH (k : Int) = 25 * ((k : Int) - 2048) - 1000 := by unfold dcH; rw [hf]; rfl
    unfold dcF at hf
    rw [decide_eq_true_eq] at hf
    rw [e]
    have hb : enB (25 * ((k : Int) - 2048) - 1000) true = true := decide_eq_true ⟨by simp [lo] <;> omega, by simp [hi] <;> omega, by simp [lo, st] <;> omega⟩
    refine ⟨hb, ?_⟩
    unfold enV
    rw [hb]
    simp only [if_true]
    omega

/-- The codes of two successive coarse heights differ in one bit. -/
theorem next_bits (n : Int) (h0 : 0 ≤ n) (h1 : n < 1279) : cbB (grV n) (grV (n + 1)) = true ∧ cbV (grV n) (grV (n + 1)) = 1 := by
  obtain ⟨k, rfl⟩ := Int.eq_ofNat_of_zero_le h0
  have hk : k < 1279 := by omega
  have e1 := (gr_yes (k := k) (by omega)).2.1
  have e2 := (gr_yes (k := k + 1) (by omega)).2.1
  rw [show ((k : Int) + 1) = ((k + 1 : Nat) : Int) by omega, e1, e2]
  have m : ∀ j : Nat, j < 1280 → dcB (gray j : Int) = true := by
    intro j hj
    have g1 := gray_lt (n := j) (by omega)
    have g2 := un_gray (n := j) (by omega)
    unfold dcB dcC
    rw [Int.toNat_natCast, g2, decide_eq_true (show (0 : Int) ≤ (gray j : Int) ∧ (gray j : Int) ≤ 2047 by omega), decide_eq_true (show j ≤ 1279 by omega)]
    simp
  have hb : cbB (gray k : Int) (gray (k + 1) : Int) = true := by unfold cbB; rw [m k (by omega), m (k + 1) (by omega)]; rfl
  refine ⟨hb, ?_⟩
  unfold cbV
  rw [hb]
  simp only [if_true, Int.toNat_natCast]
  exact one_bit (by omega)

/-- The nearest height is one of the kind, and no other one of the kind is nearer. -/
theorem near_in (x : Int) (f : Bool) (hb : hB x = true) : enB (nrV x f) f = true := by
  have h2 := hb
  unfold hB at h2
  rw [decide_eq_true_eq] at h2
  unfold enB nrV clamp
  rw [hb]
  cases f
  · simp [lo, hi, st]
    repeat' split
    all_goals omega
  · simp [lo, hi, st]
    repeat' split
    all_goals omega
theorem near_bd (x : Int) (f : Bool) : -1200 ≤ nrV x f ∧ nrV x f ≤ 126700 := by
  cases hb : hB x
  · have e : nrV x f = 0 := by unfold nrV; rw [hb]; rfl
    omega
  · have h := near_in x f hb
    generalize nrV x f = n at *
    unfold enB at h
    cases f
    · simp [lo, hi, st] at h; omega
    · simp [lo, hi, st] at h; omega
def ab (x : Int) : Int := if x < 0 then -x else x
theorem near_best (x : Int) (f : Bool) (k : Int) (hk : k = -1 ∨ k = 1) (hb : hB x = true) (ho : enB (nrV x f + k * st f) f = true) : ¬ ab (nrV x f + k * st f - x) < ab (nrV x f - x) := by
  have h2 := hb
  unfold hB at h2
  rw [decide_eq_true_eq] at h2
  unfold nrV clamp enB ab at *
  rw [hb] at ho ⊢
  rcases hk with rfl | rfl
  · cases f
    · simp only [lo, hi, st, if_true, Bool.false_eq_true, if_false, decide_eq_true_eq] at ho ⊢
      repeat' split
      all_goals (repeat' split at ho)
      all_goals omega
    · simp only [lo, hi, st, if_true, decide_eq_true_eq] at ho ⊢
      repeat' split
      all_goals (repeat' split at ho)
      all_goals omega
  · cases f
    · simp only [lo, hi, st, if_true, Bool.false_eq_true, if_false, decide_eq_true_eq] at ho ⊢
      repeat' split
      all_goals (repeat' split at ho)
      all_goals omega
    · simp only [lo, hi, st, if_true, decide_eq_true_eq] at ho ⊢
      repeat' split
      all_goals (repeat' split at ho)
      all_goals omega

/-- ClimbRate. -/
def crB (a f b t : Int) : Bool := hB a && hB b && decide (0 ≤ f ∧ f < t ∧ t ≤ 86400)
def crG (a f b t : Int) : Nat := Nat.gcd ((b - a) * 60).natAbs (t - f).toNat
def crN (a f b t : Int) : Int := if crB a f b t then ((b - a) * 60).tdiv (crG a f b t) else 0
def crD (a f b t : Int) : Nat := if crB a f b t then (t - f).toNat / crG a f b t else 0
/-- Climbing back. -/
theorem cr_back (a f b t : Int) : crB b f a t = crB a f b t ∧ crN b f a t = -crN a f b t ∧ crD b f a t = crD a f b t := by
  have e1 : crB b f a t = crB a f b t := by unfold crB; rw [Bool.and_comm (hB b)]
  have e0 : (a - b) * 60 = -((b - a) * 60) := by omega
  have e2 : crG b f a t = crG a f b t := by unfold crG; rw [e0, Int.natAbs_neg]
  refine ⟨e1, ?_, ?_⟩
  · unfold crN
    rw [e1, e2, e0]
    cases crB a f b t
    · rfl
    · simp only [if_true]
      rw [Int.neg_tdiv]
  · unfold crD
    rw [e1, e2]
end Go.Proofs.Ytinkkdgjpcnklaa.hgt
