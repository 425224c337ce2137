/- Blind points in plain mathematics: keys of points, how often each occurs, and the points whose key occurs more than once. -/
import Derived.Test.YtpbopiecfnedgabLoc
namespace Go.Proofs.Ytpbopiecfnedgab.bln
open Go.Proofs.Ytpbopiecfnedgab.sit Go.Proofs.Ytpbopiecfnedgab.loc

section
variable {α : Type} [DecidableEq α] (f : Nat → α)
/-- How many of the first N points have the key x. -/
def cF (x : α) (N : Nat) : Nat := (List.range N).countP fun k => decide (f k = x)
theorem cF_zero (x : α) : cF f x 0 = 0 := rfl
theorem cF_succ (x : α) (N : Nat) : cF f x (N + 1) = cF f x N + if f N = x then 1 else 0 := by
  unfold cF
  rw [List.range_succ, List.countP_append]
  by_cases h : f N = x
  · rw [if_pos h, List.countP_cons_of_pos (by simpa using h)]; rfl
  · rw [if_neg h, List.countP_cons_of_neg (by simpa using h)]; rfl
theorem cF_le (x : α) (N : Nat) : cF f x N ≤ N := by
  have := List.countP_le_length (p := fun k => decide (f k = x)) (l := List.range N)
  rw [List.length_range] at this
  exact this
/-- How many of the first N points have a key that occurs more than once. -/
def blF (N : Nat) : Nat := (List.range N).countP fun k => decide (1 < cF f (f k) N)
def gF (N : Nat) (x : α) : Nat := if 1 < cF f x N then cF f x N else 0
def sumF (N : Nat) : List α → Nat
  | [] => 0
  | x :: S => gF f N x + sumF N S
theorem part (c : Nat → Bool) (x : α) (S : List α) (hx : x ∉ S) : ∀ L : List Nat, (L.countP fun k => decide (f k ∈ x :: S) && c k) = (L.countP fun k => decide (f k = x) && c k) + L.countP fun k => decide (f k ∈ S) && c k
  | [] => rfl
  | k :: L => by
    have ih := part c x S hx L
    rw [List.countP_cons, List.countP_cons, List.countP_cons, ih]
    by_cases h1 : f k = x
    · have h2 : f k ∉ S := fun h => hx (h1 ▸ h)
      rw [decide_eq_true h1, decide_eq_false h2, decide_eq_true (show f k ∈ x :: S by rw [h1]; exact List.mem_cons_self)]
      cases c k <;> simp <;> omega
    · by_cases h2 : f k ∈ S
      · rw [decide_eq_false h1, decide_eq_true h2, decide_eq_true (List.mem_cons_of_mem _ h2)]
        cases c k <;> simp <;> omega
      · rw [decide_eq_false h1, decide_eq_false h2, decide_eq_false (fun h => by rcases List.mem_cons.1 h with h | h; exact h1 h; exact h2 h)]
        simp
theorem one (N : Nat) (x : α) : ∀ L : List Nat, (L.countP fun k => decide (f k = x) && decide (1 < cF f (f k) N)) = if 1 < cF f x N then L.countP fun k => decide (f k = x) else 0
  | [] => by simp
  | k :: L => by
    rw [List.countP_cons, one N x L]
    by_cases h1 : f k = x
    · by_cases h2 : 1 < cF f x N
      · rw [if_pos h2, if_pos h2, List.countP_cons, h1, decide_eq_true h2]; simp
      · rw [if_neg h2, if_neg h2, h1, decide_eq_false h2]; simp
    · rw [decide_eq_false h1, List.countP_cons, decide_eq_false h1]
      by_cases h2 : 1 < cF f x N
      · rw [if_pos h2, if_pos h2]; simp
      · rw [if_neg h2, if_neg h2]; simp
theorem sum_part (N : Nat) : ∀ S : List α, S.Nodup → sumF f N S = (List.range N).countP fun k => decide (f k ∈ S) && decide (1 < cF f (f k) N)
  | [], _ => by simp [sumF]
  | x :: S, h => by
    rw [List.nodup_cons] at h
    rw [sumF, sum_part N S h.2, part f _ x S h.1, one f N x]
    rfl
/-- Over any list of all keys, each once. -/
theorem sum_all {N : Nat} {S : List α} (hn : S.Nodup) (hS : ∀ k, k < N → f k ∈ S) : sumF f N S = blF f N := by
  rw [sum_part f N S hn]
  unfold blF
  refine List.countP_congr fun k hk => ?_
  rw [decide_eq_true (hS k (List.mem_range.1 hk)), Bool.true_and]
theorem blF_le (N : Nat) : blF f N ≤ N := by
  have := List.countP_le_length (p := fun k => decide (1 < cF f (f k) N)) (l := List.range N)
  rw [List.length_range] at this
  exact this
theorem sum_take (N : Nat) : ∀ (S : List α) (k : Nat) (x : α), S[k]? = some x → sumF f N (S.take (k + 1)) = sumF f N (S.take k) + gF f N x
  | [], k, x, h => by simp at h
  | y :: S, 0, x, h => by simp at h; subst h; simp [sumF]
  | y :: S, k + 1, x, h => by
    rw [List.take_succ_cons, List.take_succ_cons, sumF, sumF, sum_take N S k x (by simpa using h)]
    omega
theorem sum_le_all (N : Nat) : ∀ (S T : List α), sumF f N S ≤ sumF f N (S ++ T)
  | [], T => by simp [sumF]
  | x :: S, T => by rw [List.cons_append, sumF, sumF]; have := sum_le_all N S T; omega

/-- The keys in the order in which they come first. -/
def seenT : Nat → List α
  | 0 => []
  | N + 1 => if f N ∈ seenT N then seenT N else seenT N ++ [f N]
theorem seen_mem {x : α} : ∀ N, x ∈ seenT f N ↔ ∃ k, k < N ∧ f k = x
  | 0 => by simp [seenT]
  | N + 1 => by
    have ih := seen_mem (x := x) N
    rw [seenT]
    split
    · rename_i h
      rw [ih]
      constructor
      · rintro ⟨k, hk, e⟩; exact ⟨k, by omega, e⟩
      · rintro ⟨k, hk, e⟩
        rcases Nat.lt_or_ge k N with h1 | h1
        · exact ⟨k, h1, e⟩
        · obtain rfl : k = N := by omega
          rw [e] at h
          exact ih.1 h
    · rw [List.mem_append, ih]
      constructor
      · rintro (⟨k, hk, e⟩ | h)
        · exact ⟨k, by omega, e⟩
        · exact ⟨N, by omega, (List.mem_singleton.1 h).symm⟩
      · rintro ⟨k, hk, e⟩
        rcases Nat.lt_or_ge k N with h1 | h1
        · exact .inl ⟨k, h1, e⟩
        · obtain rfl : k = N := by omega
          exact .inr (by rw [e]; exact List.mem_singleton.2 rfl)
theorem seen_nodup : ∀ N, (seenT f N).Nodup
  | 0 => by simp [seenT]
  | N + 1 => by
    rw [seenT]
    split
    · exact seen_nodup N
    · rename_i h
      refine List.nodup_append.2 ⟨seen_nodup N, by simp, fun a ha b hb e => ?_⟩
      rw [List.mem_singleton] at hb
      exact h (by rw [← hb, ← e]; exact ha)
theorem seen_len : ∀ N, (seenT f N).length ≤ N
  | 0 => Nat.le_refl _
  | N + 1 => by
    rw [seenT]
    have := seen_len N
    split
    · omega
    · rw [List.length_append]; show _ + 1 ≤ _; omega
/-- How often each of them has come. -/
def timT (N : Nat) : List Int := (seenT f N).map fun x => ((cF f x N : Nat) : Int)
theorem tim_at {N j : Nat} {x : α} (h : (seenT f N)[j]? = some x) : (timT f N)[j]? = some ((cF f x N : Nat) : Int) := by unfold timT; rw [List.getElem?_map, h]; rfl
theorem tim_len (N : Nat) : (timT f N).length = (seenT f N).length := by simp [timT]
theorem step_old {N j : Nat} (h : (seenT f N)[j]? = some (f N)) : seenT f (N + 1) = seenT f N ∧ timT f (N + 1) = (timT f N).set j ((cF f (f N) N : Nat) + 1 : Int) := by
  have hm : f N ∈ seenT f N := List.mem_of_getElem? h
  have e1 : seenT f (N + 1) = seenT f N := by rw [seenT, if_pos hm]
  refine ⟨e1, List.ext_getElem? fun i => ?_⟩
  unfold timT
  rw [e1, List.getElem?_map, List.getElem?_set, List.length_map]
  have hj := (List.getElem?_eq_some_iff.1 h).1
  by_cases hi : j = i
  · subst hi
    rw [if_pos rfl, if_pos hj, h]
    show some (((cF f (f N) (N + 1) : Nat)) : Int) = _
    rw [cF_succ, if_pos rfl]; rfl
  · rw [if_neg hi, List.getElem?_map]
    cases hx : (seenT f N)[i]? with
    | none => rfl
    | some y =>
      show some (((cF f y (N + 1) : Nat)) : Int) = some _
      have hne : f N ≠ y := fun e => hi (by
        have hnd := seen_nodup f N
        have hi' := (List.getElem?_eq_some_iff.1 hx).1
        have h1 := (List.getElem?_eq_some_iff.1 h).2
        have h2 := (List.getElem?_eq_some_iff.1 hx).2
        exact (List.getElem_inj hnd).1 (h1.trans (e.trans h2.symm)))
      rw [cF_succ, if_neg hne]; rfl
theorem step_new {N : Nat} (h : f N ∉ seenT f N) : seenT f (N + 1) = seenT f N ++ [f N] ∧ timT f (N + 1) = timT f N ++ [1] := by
  have e1 : seenT f (N + 1) = seenT f N ++ [f N] := by rw [seenT, if_neg h]
  refine ⟨e1, ?_⟩
  unfold timT
  rw [e1, List.map_append]
  congr 1
  · refine List.map_congr_left fun x hx => ?_
    rw [cF_succ, if_neg (fun e => h (by rw [e]; exact hx))]; rfl
  · show [((cF f (f N) (N + 1) : Nat) : Int)] = [1]
    have h0 : cF f (f N) N = 0 := by
      unfold cF
      rw [List.countP_eq_zero]
      intro k hk hd
      exact h ((seen_mem f N).2 ⟨k, List.mem_range.1 hk, of_decide_eq_true hd⟩)
    rw [cF_succ, h0, if_pos rfl]; rfl
end

/-- The key of a point: how much later than the first site each site hears it. -/
def kyT (zs : List Int) (n k : Nat) : List Int := (List.range n).map fun j => ds zs (pX k) (pY k) j - ds zs (pX k) (pY k) 0
theorem kyT_length (zs : List Int) (n k : Nat) : (kyT zs n k).length = n := by simp [kyT]
def blN (zs : List Int) (n : Nat) : Nat := blF (kyT zs n) 961
def blV (zs : List Int) (n : Nat) : Int := if siB zs n then (blN zs n : Int) else 0
theorem blV_no {zs : List Int} {n : Nat} (h : siB zs n = false) : blV zs n = 0 := by unfold blV; rw [h]; rfl
theorem blV_yes {zs : List Int} {n : Nat} (h : siB zs n = true) : blV zs n = (blN zs n : Int) := by unfold blV; rw [h]; rfl
end Go.Proofs.Ytpbopiecfnedgab.bln
