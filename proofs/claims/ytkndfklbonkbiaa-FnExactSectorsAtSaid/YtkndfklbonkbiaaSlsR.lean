/- Lists of sectors: what is valid, the Ids, where a place is in (plain mathematics); an element as it reads in later worlds. -/
import Derived.Test.YtkndfklbonkbiaaSlsA
import Derived.Test.YtkndfklbonkbiaaSctR
namespace Go.Proofs.Ytkndfklbonkbiaa.slsr
open Go.RowKit Go.Proofs.Ytkndfklbonkbiaa.lst Go.Proofs.Ytkndfklbonkbiaa.pos Go.Proofs.Ytkndfklbonkbiaa.sct Go.Proofs.Ytkndfklbonkbiaa.sctj Go.Proofs.Ytkndfklbonkbiaa.sctr Go.Proofs.Ytkndfklbonkbiaa.slsa

theorem RdS.at_ {q : Bool} {w : World} {n k : Nat} {A : Option Addr} {ps : List Se} {p : Se} (h : RdS q w w.heap.size A n ps) (hp : ps[k]? = some p) : ∃ b o A1 c1, A = some ⟨b, o, none⟩ ∧ (q = true → nc p ≤ c1) ∧
    ∀ W, Below w.heap.size w W → W.cell? ⟨b, o + k * 2, none⟩ = some (.int .i64 p.1) ∧ W.cell? ⟨b, o + k * 2 + 1, none⟩ = some (.slice A1 (nc p) c1) ∧ RdZ 2 W W.heap.size A1 (nc p) p.2 := by
  obtain ⟨b, o, A1, c1, e, hlt, h0, h1, h2, h3, h4⟩ := h.2 k p hp
  exact ⟨b, o, A1, c1, e, h4, fun W hb => ⟨(hb.cell (p := ⟨b, o + k * 2, none⟩) hlt).trans h0, (hb.cell (p := ⟨b, o + k * 2 + 1, none⟩) hlt).trans h1, h2.next hb⟩⟩

def seP (p : Se) : Bool := seV p.1 p.2 (nc p)
def gt (ps : List Se) (k : Nat) : Se := ps.getD k (0, [])
theorem gt_of {ps : List Se} {k : Nat} {p : Se} (h : ps[k]? = some p) : gt ps k = p := by unfold gt; rw [List.getD_eq_getElem?_getD, h]; rfl
def alS (ps : List Se) : Nat → Bool
  | 0 => true
  | k + 1 => alS ps k && seP (gt ps k)
theorem alS_step {ps : List Se} {k : Nat} {p : Se} (h : ps[k]? = some p) : alS ps (k + 1) = (alS ps k && seP p) := by rw [alS, gt_of h]
theorem alS_cut {ps : List Se} {n m : Nat} (h : alS ps n = false) (hm : n ≤ m) : alS ps m = false := by
  induction hm with
  | refl => exact h
  | step _ ih => rw [alS, ih]; rfl
theorem alS_all {ps : List Se} {n : Nat} (h : alS ps n = true) {k : Nat} (hk : k < n) : seP (gt ps k) = true := by
  cases hq : seP (gt ps k)
  · have := alS_cut (ps := ps) (n := k + 1) (m := n) (by rw [alS, hq, Bool.and_false]) hk
    rw [this] at h
    cases h
  · rfl
def ascB (xs : List Int) (n : Nat) : Bool := decide (∀ k, k < n → 0 < k → xs.getD (k - 1) 0 < xs.getD k 0)
theorem asc_no {xs : List Int} {n k : Nat} (hk : k < n) (h0 : 0 < k) (h : ¬ xs.getD (k - 1) 0 < xs.getD k 0) : ascB xs n = false := decide_eq_false (fun hh => h (hh k hk h0))
def idL (ps : List Se) : Nat → List Int
  | 0 => []
  | k + 1 => idL ps k ++ [(gt ps k).1]
theorem idL_length (ps : List Se) : ∀ n, (idL ps n).length = n
  | 0 => rfl
  | n + 1 => by rw [idL, List.length_append, idL_length ps n]; rfl
theorem idL_at (ps : List Se) : ∀ (n j : Nat), j < n → (idL ps n).getD j 0 = (gt ps j).1
  | 0, j, h => by omega
  | n + 1, j, h => by
    rw [idL, List.getD_eq_getElem?_getD]
    rcases Nat.lt_or_ge j n with h1 | h1
    · rw [List.getElem?_append_left (by rw [idL_length]; exact h1), ← List.getD_eq_getElem?_getD, idL_at ps n j h1]
    · obtain rfl : j = n := by omega
      rw [List.getElem?_append_right (by rw [idL_length]; exact Nat.le_refl _), idL_length, Nat.sub_self]
      rfl
def lsB (ps : List Se) (n : Nat) : Bool := decide (n ≤ 6) && (alS ps n && ascB (idL ps n) n)
theorem ls_long {ps : List Se} {n : Nat} (h : ¬ n ≤ 6) : lsB ps n = false := by unfold lsB; rw [decide_eq_false h]; rfl
theorem ls_no1 {ps : List Se} {n k : Nat} (h : alS ps k = false) (hk : k ≤ n) : lsB ps n = false := by unfold lsB; rw [alS_cut h hk, Bool.false_and, Bool.and_false]
theorem ls_no2 {ps : List Se} {n k : Nat} (hk : k < n) (h0 : 0 < k) (h : ¬ (gt ps (k - 1)).1 < (gt ps k).1) : lsB ps n = false := by
  unfold lsB
  rw [asc_no hk h0 (by rw [idL_at ps n _ (by omega), idL_at ps n _ hk]; exact h), Bool.and_false, Bool.and_false]
theorem ls_yes {ps : List Se} {n : Nat} (hn : n ≤ 6) (h : alS ps n = true) (h2 : ∀ k, k < n → 0 < k → (gt ps (k - 1)).1 < (gt ps k).1) : lsB ps n = true := by
  unfold lsB ascB
  rw [decide_eq_true hn, h, decide_eq_true (fun k hk h0 => by rw [idL_at ps n _ (by omega), idL_at ps n _ hk]; exact h2 k hk h0)]
  rfl
theorem ls_parts {ps : List Se} {n : Nat} (h : lsB ps n = true) : n ≤ 6 ∧ alS ps n = true := by
  unfold lsB at h
  rw [Bool.and_eq_true, Bool.and_eq_true] at h
  exact ⟨of_decide_eq_true h.1, h.2.1⟩
def satB (ps : List Se) (n : Nat) (px py : Int) : Bool := lsB ps n && pB px py
def inS (p : Se) (px py : Int) : Bool := inB (cX p.2) (cY p.2) (nc p) px py
def inL (ps : List Se) (px py : Int) : Nat → List Int
  | 0 => []
  | k + 1 => if inS (gt ps k) px py then inL ps px py k ++ [(gt ps k).1] else inL ps px py k
theorem inL_yes {ps : List Se} {px py : Int} {k : Nat} {p : Se} (hp : ps[k]? = some p) (h : inS p px py = true) : inL ps px py (k + 1) = inL ps px py k ++ [p.1] := by rw [inL, gt_of hp, if_pos h]
theorem inL_not {ps : List Se} {px py : Int} {k : Nat} {p : Se} (hp : ps[k]? = some p) (h : inS p px py = false) : inL ps px py (k + 1) = inL ps px py k := by rw [inL, gt_of hp, h]; rfl
theorem inL_length (ps : List Se) (px py : Int) : ∀ k, (inL ps px py k).length ≤ k
  | 0 => Nat.le_refl _
  | k + 1 => by
    have := inL_length ps px py k
    rw [inL]
    split
    · rw [List.length_append, List.length_singleton]; omega
    · omega
def satV (ps : List Se) (n : Nat) (px py : Int) : List Int := if satB ps n px py then inL ps px py n else []
theorem satV_no {ps : List Se} {n : Nat} {px py : Int} (h : satB ps n px py = false) : satV ps n px py = [] := by unfold satV; rw [h]; rfl
theorem satV_yes {ps : List Se} {n : Nat} {px py : Int} (h : satB ps n px py = true) : satV ps n px py = inL ps px py n := by unfold satV; rw [h]; rfl
theorem satV_le (ps : List Se) (n : Nat) (px py : Int) : (satV ps n px py).length ≤ n := by
  unfold satV
  split
  · exact inL_length ..
  · exact Nat.zero_le _
theorem sat_no1 {ps : List Se} {n : Nat} {px py : Int} (h : lsB ps n = false) : satB ps n px py = false := by unfold satB; rw [h]; rfl
theorem sat_no2 {ps : List Se} {n : Nat} {px py : Int} (h : pB px py = false) : satB ps n px py = false := by unfold satB; rw [h, Bool.and_false]
theorem sat_yes {ps : List Se} {n : Nat} {px py : Int} (h : lsB ps n = true) (h2 : pB px py = true) : satB ps n px py = true := by unfold satB; rw [h, h2]; rfl
end Go.Proofs.Ytkndfklbonkbiaa.slsr
