/- The sectors that spec draws, in plain mathematics: what they are before the last change (Bs), and that a valid one has an area (Sd). -/
import Derived.Test.YtkndfklbonkbiaaSctD
import Derived.Test.YtkndfklbonkbiaaSctR
namespace Go.Proofs.Ytkndfklbonkbiaa.scte
open Go.Proofs.Ytkndfklbonkbiaa.sct Go.Proofs.Ytkndfklbonkbiaa.sctt Go.Proofs.Ytkndfklbonkbiaa.sctd Go.Proofs.Ytkndfklbonkbiaa.sctj Go.Proofs.Ytkndfklbonkbiaa.pos Go.Proofs.Ytkndfklbonkbiaa.lst
set_option linter.unusedVariables false

/-- A valid sector of these corners has an area. -/
def Sd (n : Nat) (zs : List Int) : Prop := 3 ≤ n → (∀ k, k < n → pB (cX zs k) (cY zs k) = true) → (∀ i j, i < j → j < n → ¬ (cX zs i = cX zs j ∧ cY zs i = cY zs j)) → 0 < dbl (cX zs) (cY zs) (n - 2)
def rc (x y w h : Int) : List Int := [x, y, x + w, y, x + w, y + h, x, y + h]
/-- What is drawn before the last change. -/
def Bs (n : Nat) (zs : List Int) (y : Int) : Prop := ∃ x w h u v : Int, (0 ≤ x ∧ x ≤ 1900 ∧ 0 < w ∧ w ≤ 300 ∧ 0 < h) ∧
  ((n = 3 ∧ zs = [x, y, x + w, y, x + w, y + h]) ∨ (n = 4 ∧ zs = rc x y w h) ∨ (n = 5 ∧ u ≤ w ∧ zs = rc x y w h ++ [x + u, y + v]) ∨
  ((0 ≤ u ∧ u < w ∧ 0 ≤ v ∧ v < h) ∧ n = 4 ∧ ∃ j, j < 4 ∧ zs = ((rc x y w h).set (j * 2) (x + u)).set (j * 2 + 1) (y + v)))
theorem bs_len {n : Nat} {zs : List Int} {y : Int} (h : Bs n zs y) : zs.length = n * 2 ∧ 3 ≤ n ∧ n ≤ 5 := by
  obtain ⟨x, w, h, u, v, -, ⟨rfl, rfl⟩ | ⟨rfl, rfl⟩ | ⟨rfl, -, rfl⟩ | ⟨-, rfl, j, -, rfl⟩⟩ := h
  · exact ⟨rfl, by omega, by omega⟩
  · exact ⟨rfl, by omega, by omega⟩
  · exact ⟨rfl, by omega, by omega⟩
  · exact ⟨by rw [List.length_set, List.length_set]; rfl, by omega, by omega⟩
section
variable {x y w h X1 u v : Int}
theorem sd_tri (hX : x + w ≤ X1) (hw : 0 < w) (hh : 0 < h) : Sd 3 [x, y, X1, y, x + w, y + h] := fun _ _ _ => by
  show 0 < dbl _ _ 1
  rw [dbl1]
  exact tri_pos hX hw hh
theorem sd_rect (hX : x + w ≤ X1) (hw : 0 < w) (hh : 0 < h) : Sd 4 [x, y, X1, y, x + w, y + h, x, y + h] := fun _ _ _ => by
  show 0 < dbl _ _ 2
  rw [dbl2]
  exact rect_pos hX hw hh
theorem sd_five (hX : x + w ≤ X1) (hw : 0 < w) (hh : 0 < h) (hu : u ≤ w) : Sd 5 [x, y, X1, y, x + w, y + h, x, y + h, x + u, y + v] := fun _ _ _ => by
  show 0 < dbl _ _ 3
  rw [dbl3]
  exact five_pos hX hw hh hu
theorem sd_in0 (hX : x + w ≤ X1) (hw : 0 < w) (hh : 0 < h) (u0 : 0 ≤ u) (u1 : u < w) (v0 : 0 ≤ v) (v1 : v < h) : Sd 4 [x + u, y + v, X1, y, x + w, y + h, x, y + h] := fun _ _ _ => by
  show 0 < dbl _ _ 2
  rw [dbl2]
  exact in0_pos hX hw hh u0 u1 v0 v1
theorem sd_in1 (hw : 0 < w) (hh : 0 < h) (u0 : 0 ≤ u) (v1 : v < h) : Sd 4 [x, y, x + u, y + v, x + w, y + h, x, y + h] := fun _ _ _ => by
  show 0 < dbl _ _ 2
  rw [dbl2]
  exact in1_pos hw hh u0 v1
theorem sd_in2 (hX : x + w ≤ X1) (hw : 0 < w) (hh : 0 < h) (u0 : 0 ≤ u) (v0 : 0 ≤ v) : Sd 4 [x, y, X1, y, x + u, y + v, x, y + h] := fun _ _ hd => by
  show 0 < dbl _ _ 2
  rw [dbl2]
  refine in2_pos hX hw hh u0 v0 (fun e => hd 0 2 (by omega) (by omega) ⟨?_, ?_⟩)
  · show x = x + u
    omega
  · show y = y + v
    omega
theorem sd_in3 (hX : x + w ≤ X1) (hw : 0 < w) (hh : 0 < h) (u1 : u < w) (v0 : 0 ≤ v) : Sd 4 [x, y, X1, y, x + w, y + h, x + u, y + v] := fun _ _ _ => by
  show 0 < dbl _ _ 2
  rw [dbl2]
  exact in3_pos hX hw hh u1 v0
end
theorem bs_sd {n : Nat} {zs : List Int} {y : Int} (h : Bs n zs y) : Sd n zs := by
  obtain ⟨x, w, h, u, v, ⟨x0, x1, w0, w1, h0⟩, ⟨rfl, rfl⟩ | ⟨rfl, rfl⟩ | ⟨rfl, hu, rfl⟩ | ⟨⟨u0, u1, v0, v1⟩, rfl, j, hj, rfl⟩⟩ := h
  · exact sd_tri (Int.le_refl _) w0 h0
  · exact sd_rect (Int.le_refl _) w0 h0
  · exact sd_five (Int.le_refl _) w0 h0 hu
  · match j, hj with
    | 0, _ => exact sd_in0 (Int.le_refl _) w0 h0 u0 u1 v0 v1
    | 1, _ => exact sd_in1 w0 h0 u0 v1
    | 2, _ => exact sd_in2 (Int.le_refl _) w0 h0 u0 v0
    | 3, _ => exact sd_in3 (Int.le_refl _) w0 h0 u1 v0
theorem set_one {zs : List Int} {a b : Int} (hl : 4 ≤ zs.length) : cX ((zs.set 2 a).set 3 b) 1 = a := by
  unfold cX fld
  rw [List.getD_eq_getElem?_getD]
  simp [show 2 < zs.length by omega]
theorem not_p1 (y : Int) : pB 9900 y = false := Bool.eq_false_iff.2 fun h => by have := pB_yes h; omega
theorem not_p2 (y : Int) : pB (-1) y = false := Bool.eq_false_iff.2 fun h => by have := pB_yes h; omega
theorem bs_right {n : Nat} {zs : List Int} {y X1 : Int} (h : Bs n zs y) (hX : X1 ∈ ([9899, 9900, -1] : List Int)) : Sd n ((zs.set 2 X1).set 3 y) := by
  have hl := bs_len h
  simp only [List.mem_cons, List.not_mem_nil, or_false] at hX
  rcases hX with rfl | rfl | rfl
  · obtain ⟨x, w, h, u, v, ⟨x0, x1, w0, w1, h0⟩, ⟨rfl, rfl⟩ | ⟨rfl, rfl⟩ | ⟨rfl, hu, rfl⟩ | ⟨⟨u0, u1, v0, v1⟩, rfl, j, hj, rfl⟩⟩ := h
    · exact sd_tri (by omega) w0 h0
    · exact sd_rect (by omega) w0 h0
    · exact sd_five (by omega) w0 h0 hu
    · match j, hj with
      | 0, _ => exact sd_in0 (by omega) w0 h0 u0 u1 v0 v1
      | 1, _ => exact sd_rect (by omega) w0 h0
      | 2, _ => exact sd_in2 (by omega) w0 h0 u0 v0
      | 3, _ => exact sd_in3 (by omega) w0 h0 u1 v0
  · intro _ hp _
    have := hp 1 (by omega)
    rw [set_one (by omega), not_p1] at this
    cases this
  · intro _ hp _
    have := hp 1 (by omega)
    rw [set_one (by omega), not_p2] at this
    cases this
theorem app_at {zs : List Int} {n k j : Nat} {a b : Int} (hl : zs.length = n * 2) (hk : k < n) (hj : j < 2) : fld 2 (zs ++ [a, b]) k j = fld 2 zs k j := by
  unfold fld
  rw [List.getD_eq_getElem?_getD, List.getD_eq_getElem?_getD, List.getElem?_append_left (by omega)]
theorem app_new {zs : List Int} {n : Nat} {a b : Int} (hl : zs.length = n * 2) : fld 2 (zs ++ [a, b]) n 0 = a ∧ fld 2 (zs ++ [a, b]) n 1 = b := by
  unfold fld
  rw [List.getD_eq_getElem?_getD, List.getD_eq_getElem?_getD, List.getElem?_append_right (by omega), List.getElem?_append_right (by omega), show n * 2 + 0 - zs.length = 0 by omega, show n * 2 + 1 - zs.length = 1 by omega]
  exact ⟨rfl, rfl⟩
theorem sd_dup {zs : List Int} {n k : Nat} (hl : zs.length = n * 2) (hk : k < n) : Sd (n + 1) (zs ++ [cX zs k, cY zs k]) := fun _ _ hd => by
  refine absurd ⟨?_, ?_⟩ (hd k n hk (by omega))
  · exact (app_at hl hk (by omega)).trans (app_new hl).1.symm
  · exact (app_at hl hk (by omega)).trans (app_new hl).2.symm
theorem sd_cut {zs : List Int} {n : Nat} (hn : n < 3) : Sd n zs := fun h => by omega
end Go.Proofs.Ytkndfklbonkbiaa.scte
