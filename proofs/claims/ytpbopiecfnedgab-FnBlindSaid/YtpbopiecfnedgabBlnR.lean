/- What the map of BlindPoints reads as when N points have been counted; which keys have come in a range over it. -/
import Derived.Test.YtpbopiecfnedgabBlnP
import Derived.Maps.OwnSet
import Derived.Maps.RangeWalk
namespace Go.Proofs.Ytpbopiecfnedgab.blnr
open Go.RowKit Go.Proofs.Ytpbopiecfnedgab.sit Go.Proofs.Ytpbopiecfnedgab.loc Go.Proofs.Ytpbopiecfnedgab.bln Go.Proofs.Ytpbopiecfnedgab.blni Go.Proofs.Ytpbopiecfnedgab.blnp
open Go.Maps (Keyed)

theorem law : Keyed Try.prog 86 := Keyed.of_law law5
theorem v5_inj {a b : List Int} (h : v5 a = v5 b) : a = b := by
  unfold v5 at h
  injection h with h
  have h : a.map (Value.int .i64) = b.map (Value.int .i64) := by simpa using congrArg Array.toList h
  exact (List.map_inj_right (fun x y e => by injection e)).1 h

def KO (zs : List Int) (n k : Nat) (kl : Lit) : Prop := keyOf Try.prog 86 (v5 (k5 zs n k)) = some kl
theorem KO.same {zs : List Int} {n j k : Nat} {kl : Lit} (h : KO zs n j kl) (h' : KO zs n k kl) : k5 zs n j = k5 zs n k := v5_inj (law.inj h h')
theorem KO.lit {zs : List Int} {n j k : Nat} {kl kl' : Lit} (h : KO zs n j kl) (h' : KO zs n k kl') (e : k5 zs n j = k5 zs n k) : kl = kl' := by
  unfold KO at h h'
  rw [e, h'] at h
  exact (Option.some.inj h).symm

def DI (zs : List Int) (n : Nat) (D : DataW Unit) (N : Nat) : Prop :=
  Maps.IsMap D ∧ (∀ k kl, KO zs n k kl → D.atKey kl (.lit (.int .i64 0)) = .lit (.int .i64 ((cF (k5 zs n) (k5 zs n k) N : Nat) : Int))) ∧
    (∀ k kl, k < N → KO zs n k kl → Maps.has D kl = true) ∧ ∀ kl, Maps.has D kl = true → ∃ k, k < N ∧ KO zs n k kl
theorem DI.zero (zs : List Int) (n : Nat) : DI zs n (.map []) 0 :=
  ⟨Maps.isMap_empty, fun _ _ _ => rfl, fun _ _ h => absurd h (Nat.not_lt_zero _), fun kl h => by simp [Maps.has] at h⟩
theorem DI.step {zs : List Int} {n N : Nat} {D : DataW Unit} (h : DI zs n D N) {kl0 : Lit} (h0 : KO zs n N kl0) : DI zs n (D.put kl0 (.lit (.int .i64 (((cF (k5 zs n) (k5 zs n N) N : Nat) : Int) + 1)))) (N + 1) := by
  obtain ⟨h1, h2, h3, h4⟩ := h
  refine ⟨h1.put _ _, fun k kl hk => ?_, fun k kl hk hkl => ?_, fun kl hk => ?_⟩
  · rw [cF_succ]
    by_cases e : kl = kl0
    · subst e
      rw [Maps.atKey_put_same h1 (law.key h0), hk.same h0, if_pos rfl]
      rfl
    · rw [Maps.atKey_put_other e, h2 k kl hk, if_neg (fun e2 => e (hk.lit h0 e2.symm)), Nat.add_zero]
  · by_cases e : kl = kl0
    · subst e
      exact Maps.has_put_same h1 (law.key h0) _
    · rw [Maps.has_put_other e]
      refine h3 k kl ?_ hkl
      rcases Nat.lt_or_ge k N with hlt | hge
      · exact hlt
      · obtain rfl : k = N := by omega
        exact absurd (hkl.lit h0 rfl) e
  · by_cases e : kl = kl0
    · subst e
      exact ⟨N, Nat.lt_succ_self _, h0⟩
    · rw [Maps.has_put_other e] at hk
      obtain ⟨k, hlt, hk⟩ := h4 kl hk
      exact ⟨k, Nat.lt_succ_of_lt hlt, hk⟩

/-- The keys S have come, and left says which are still to come. -/
def RL (zs : List Int) (n : Nat) (D : DataW Unit) (left : Lit → Bool) (S : List (List Int)) : Prop :=
  (∀ kl, left kl = true → Maps.has D kl = true) ∧ (∀ k kl, k < 961 → KO zs n k kl → (left kl = true ↔ k5 zs n k ∉ S)) ∧ S.Nodup
theorem RL.start {zs : List Int} {n : Nat} {D : DataW Unit} (h : DI zs n D 961) : RL zs n D (Maps.has D) [] :=
  ⟨fun _ h => h, fun k kl hk hkl => ⟨fun _ => by simp, fun _ => h.2.2.1 k kl hk hkl⟩, List.nodup_nil⟩
theorem RL.next {zs : List Int} {n : Nat} {D : DataW Unit} {left : Lit → Bool} {S : List (List Int)} (hD : DI zs n D 961) (h : RL zs n D left S) {kl : Lit} (hl : left kl = true) :
    ∃ k, k < 961 ∧ D.atKey kl (.lit (.int .i64 0)) = .lit (.int .i64 ((cF (k5 zs n) (k5 zs n k) 961 : Nat) : Int)) ∧ RL zs n D (fun z => left z && !z.sameKey kl) (k5 zs n k :: S) := by
  obtain ⟨k, hk, hkl⟩ := hD.2.2.2 kl (h.1 kl hl)
  have hns := (h.2.1 k kl hk hkl).1 hl
  refine ⟨k, hk, hD.2.1 k kl hkl, fun z hz => ?_, fun j z hj hjz => ?_, List.nodup_cons.2 ⟨hns, h.2.2⟩⟩
  · rw [Bool.and_eq_true] at hz
    exact h.1 z hz.1
  · rw [Bool.and_eq_true, h.2.1 j z hj hjz, List.mem_cons, not_or, and_comm]
    refine and_congr_left fun _ => ?_
    rw [Bool.not_eq_true', ← Bool.not_eq_true, WideAt.sameKey_iff (law.key hkl)]
    exact not_congr ⟨fun e => by subst e; exact hjz.same hkl, fun e => hjz.lit hkl e⟩
theorem RL.all {zs : List Int} {n : Nat} {D : DataW Unit} {left : Lit → Bool} {S : List (List Int)} (hon : onT zs n = true) (hn0 : 0 < n) (hn5 : n ≤ 5) (h : RL zs n D left S) (hl : ∀ kl, left kl = false) : sumF (k5 zs n) 961 S = blN zs n := by
  rw [← blN_five hn5]
  refine sum_all _ h.2.2 fun k hk => ?_
  obtain ⟨kl, hkl⟩ := key_of hon hn0 hk
  by_cases hm : k5 zs n k ∈ S
  · exact hm
  · have := (h.2.1 k kl hk hkl).2 hm
    rw [hl kl] at this
    cases this
theorem sum_le {α : Type} [DecidableEq α] (f : Nat → α) (N : Nat) (S : List α) (h : S.Nodup) : sumF f N S ≤ N := by
  rw [sum_part f N S h]
  have := List.countP_le_length (p := fun k => decide (f k ∈ S) && decide (1 < cF f (f k) N)) (l := List.range N)
  rw [List.length_range] at this
  exact this
theorem RL.le {zs : List Int} {n : Nat} {D : DataW Unit} {left : Lit → Bool} {S : List (List Int)} (h : RL zs n D left S) : sumF (k5 zs n) 961 S ≤ 961 :=
   sum_le _ _ _ h.2.2
end Go.Proofs.Ytpbopiecfnedgab.blnr
