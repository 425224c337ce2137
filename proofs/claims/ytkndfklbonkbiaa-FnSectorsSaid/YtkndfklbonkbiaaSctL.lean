/- Corners in another order, in plain mathematics: flat lists of the corners f 0, f 1 .., and how reversing the tail by exchanges comes to the turned sector's order. -/
import Derived.Test.YtkndfklbonkbiaaSctR
namespace Go.Proofs.Ytkndfklbonkbiaa.sctl
open Go.Proofs.Ytkndfklbonkbiaa.in_ Go.Proofs.Ytkndfklbonkbiaa.pos Go.Proofs.Ytkndfklbonkbiaa.lst Go.Proofs.Ytkndfklbonkbiaa.sct Go.Proofs.Ytkndfklbonkbiaa.sctt Go.Proofs.Ytkndfklbonkbiaa.sctv Go.Proofs.Ytkndfklbonkbiaa.scti Go.Proofs.Ytkndfklbonkbiaa.sctj Go.Proofs.Ytkndfklbonkbiaa.sctr

/-- The corners f 0 .. f (k - 1), flat. -/
def prL (X Y : Nat → Int) (f : Nat → Nat) : Nat → List Int
  | 0 => []
  | k + 1 => prL X Y f k ++ [X (f k), Y (f k)]
theorem prL_length (X Y : Nat → Int) (f : Nat → Nat) : ∀ k, (prL X Y f k).length = k * 2
  | 0 => rfl
  | k + 1 => by rw [prL, List.length_append, prL_length X Y f k]; show _ + 2 = _; omega
theorem pr_get (X Y : Nat → Int) (f : Nat → Nat) : ∀ {m k c : Nat}, k < m → c < 2 → (prL X Y f m)[k * 2 + c]? = some (if c = 0 then X (f k) else Y (f k))
  | 0, _, _, h, _ => by omega
  | m + 1, k, c, h, hc => by
    have hl := prL_length X Y f m
    by_cases e : k = m
    · subst e
      rw [prL, List.getElem?_append_right (by omega), hl, show k * 2 + c - k * 2 = c by omega]
      match c, hc with
      | 0, _ => rfl
      | 1, _ => rfl
    · rw [prL, List.getElem?_append_left (by omega)]
      exact pr_get X Y f (by omega) hc
theorem cX_pr (X Y : Nat → Int) (f : Nat → Nat) {m k : Nat} (h : k < m) : cX (prL X Y f m) k = X (f k) := by
  unfold cX fld
  rw [List.getD_eq_getElem?_getD, pr_get X Y f h (by omega)]; rfl
theorem cY_pr (X Y : Nat → Int) (f : Nat → Nat) {m k : Nat} (h : k < m) : cY (prL X Y f m) k = Y (f k) := by
  unfold cY fld
  rw [List.getD_eq_getElem?_getD, pr_get X Y f h (by omega)]; rfl
theorem pr_ext (X Y : Nat → Int) {f g : Nat → Nat} : ∀ {m : Nat}, (∀ k, k < m → f k = g k) → prL X Y f m = prL X Y g m
  | 0, _ => rfl
  | m + 1, h => by rw [prL, prL, pr_ext X Y (fun k hk => h k (by omega)), h m (by omega)]
theorem list_ext2 {L M : List Int} {n : Nat} (h1 : L.length = n * 2) (h2 : M.length = n * 2) (h : ∀ k c, k < n → c < 2 → L[k * 2 + c]? = M[k * 2 + c]?) : L = M := by
  refine List.ext_getElem? fun j => ?_
  by_cases hj : j < n * 2
  · have := h (j / 2) (j % 2) (by omega) (by omega)
    rwa [show j / 2 * 2 + j % 2 = j by omega] at this
  · rw [List.getElem?_eq_none (by omega), List.getElem?_eq_none (by omega)]
theorem pr_id {zs : List Int} {n : Nat} (h : zs.length = n * 2) : prL (cX zs) (cY zs) (fun k => k) n = zs := by
  refine list_ext2 (prL_length ..) h fun k c hk hc => ?_
  rw [pr_get _ _ _ hk hc]
  have hj : k * 2 + c < zs.length := by omega
  rw [List.getElem?_eq_getElem hj]
  match c, hc with
  | 0, _ => simp [cX, fld, List.getD_eq_getElem?_getD, show k * 2 < zs.length by omega]
  | 1, _ => simp [cY, fld, List.getD_eq_getElem?_getD, hj]
/-- a and b exchanged. -/
def sw (f : Nat → Nat) (a b k : Nat) : Nat := if k = a then f b else if k = b then f a else f k
theorem pr_swap (X Y : Nat → Int) (f : Nat → Nat) {n a b : Nat} (ha : a < n) (hb : b < n) (hab : a ≠ b) :
    ((((prL X Y f n).set (a * 2) (X (f b))).set (a * 2 + 1) (Y (f b))).set (b * 2) (X (f a))).set (b * 2 + 1) (Y (f a)) = prL X Y (sw f a b) n := by
  have hl := prL_length X Y f n
  refine list_ext2 (n := n) (by simp [hl]) (prL_length ..) fun k c hk hc => ?_
  rw [pr_get _ _ _ hk hc]
  simp only [List.getElem?_set, List.length_set, hl]
  rw [pr_get X Y f hk hc]
  unfold sw
  match c, hc with
  | 0, _ =>
    by_cases e1 : k = a
    · subst e1
      rw [if_neg (by omega), if_neg (by omega), if_neg (by omega), if_pos (by omega), if_pos (by omega), if_pos rfl, if_pos rfl]
    · by_cases e2 : k = b
      · subst e2
        rw [if_neg (by omega), if_pos (by omega), if_pos (by omega), if_pos rfl, if_neg e1, if_pos rfl]
      · rw [if_neg (by omega), if_neg (by omega), if_neg (by omega), if_neg (by omega), if_pos rfl, if_pos rfl, if_neg e1, if_neg e2]
  | 1, _ =>
    by_cases e1 : k = a
    · subst e1
      rw [if_neg (by omega), if_neg (by omega), if_pos (by omega), if_pos (by omega), if_neg (by omega), if_pos rfl]
    · by_cases e2 : k = b
      · subst e2
        rw [if_pos (by omega), if_pos (by omega), if_neg (by omega), if_neg e1, if_pos rfl]
      · rw [if_neg (by omega), if_neg (by omega), if_neg (by omega), if_neg (by omega), if_neg (by omega), if_neg (by omega), if_neg e1, if_neg e2]
/-- After t exchanges from both ends of the tail. -/
def sg (n t k : Nat) : Nat := if k = 0 then 0 else if k ≤ t ∨ n ≤ k + t then n - k else k
theorem sg_zero {n k : Nat} (h : k < n) : sg n 0 k = k := by unfold sg; (repeat' split) <;> omega
theorem sg_succ {n t k : Nat} (h : k < n) (ht : 2 * t + 2 < n) : sw (sg n t) (t + 1) (n - 1 - t) k = sg n (t + 1) k := by
  unfold sw sg
  (repeat' split) <;> omega
theorem sg_end {n t k : Nat} (h : k < n) (ht : n ≤ 2 * t + 2) (ht2 : 2 * t ≤ n) : sg n t k = rv n k := by
  unfold sg rv
  (repeat' split) <;> omega
/-- The turned sector's corners, flat; none where the sector is not valid. -/
def tuV (d : Int) (zs : List Int) (n : Nat) : List Int := if seV d zs n then prL (cX zs) (cY zs) (rv n) n else []
def tuN (d : Int) (zs : List Int) (n : Nat) : Nat := if seV d zs n then n else 0
def tuD (d : Int) (zs : List Int) (n : Nat) : Int := if seV d zs n then d else 0
theorem tu_no {d : Int} {zs : List Int} {n : Nat} (h : seV d zs n = false) : tuV d zs n = [] ∧ tuN d zs n = 0 ∧ tuD d zs n = 0 := by unfold tuV tuN tuD; rw [h]; exact ⟨rfl, rfl, rfl⟩
theorem tu_yes {d : Int} {zs : List Int} {n : Nat} (h : seV d zs n = true) : tuV d zs n = prL (cX zs) (cY zs) (rv n) n ∧ tuN d zs n = n ∧ tuD d zs n = d := by unfold tuV tuN tuD; rw [h]; exact ⟨rfl, rfl, rfl⟩
theorem tu_len (d : Int) (zs : List Int) (n : Nat) : (tuV d zs n).length = tuN d zs n * 2 := by
  cases h : seV d zs n
  · rw [(tu_no h).1, (tu_no h).2.1]; rfl
  · rw [(tu_yes h).1, (tu_yes h).2.1]; exact prL_length ..
theorem tuN_le (d : Int) (zs : List Int) (n : Nat) : tuN d zs n ≤ 8 := by
  cases h : seV d zs n
  · rw [(tu_no h).2.1]; omega
  · rw [(tu_yes h).2.1]; exact (se_corner h).1.2
end Go.Proofs.Ytkndfklbonkbiaa.sctl
