/- What the functions of chapter 17 return, in plain mathematics. -/
import Derived.Test.YtkndfklbonkbiaaSctJ
namespace Go.Proofs.Ytkndfklbonkbiaa.sctr
open Go.Proofs.Ytkndfklbonkbiaa.in_ Go.Proofs.Ytkndfklbonkbiaa.pos Go.Proofs.Ytkndfklbonkbiaa.lst Go.Proofs.Ytkndfklbonkbiaa.sct Go.Proofs.Ytkndfklbonkbiaa.sctt Go.Proofs.Ytkndfklbonkbiaa.sctv Go.Proofs.Ytkndfklbonkbiaa.scti Go.Proofs.Ytkndfklbonkbiaa.sctj

/-- A valid sector, by its list. -/
def seV (d : Int) (zs : List Int) (n : Nat) : Bool := seB d (cX zs) (cY zs) n
/-- Corners of a valid sector. -/
theorem se_corner {d : Int} {zs : List Int} {n : Nat} (h : seV d zs n = true) : (3 ≤ n ∧ n ≤ 8) ∧ ∀ k, k < n → pB (cX zs k) (cY zs k) = true := by
  obtain ⟨-, h2, h3⟩ := se_yes h
  exact ⟨h2, fun k hk => (co_yes ((bo_yes h3).1 k hk)).1⟩
def daV (d : Int) (zs : List Int) (n : Nat) : Int := if seV d zs n then ((dbl (cX zs) (cY zs) (n - 2)).natAbs : Int) else 0
theorem daV_no {d : Int} {zs : List Int} {n : Nat} (h : seV d zs n = false) : daV d zs n = 0 := by unfold daV; rw [h]; rfl
theorem daV_yes {d : Int} {zs : List Int} {n : Nat} (h : seV d zs n = true) : daV d zs n = ((dbl (cX zs) (cY zs) (n - 2)).natAbs : Int) := by unfold daV; rw [h]; rfl
theorem dbl_bd {zs : List Int} {n : Nat} (h3 : 3 ≤ n) (h8 : n ≤ 8) (hp : ∀ k, k < n → pB (cX zs k) (cY zs k) = true) : -1200000000 ≤ dbl (cX zs) (cY zs) (n - 2) ∧ dbl (cX zs) (cY zs) (n - 2) ≤ 1200000000 := by
  have := sm_bd (f := fun i => cr (cX zs 0) (cY zs 0) (cX zs (i + 1)) (cY zs (i + 1)) (cX zs (i + 2)) (cY zs (i + 2))) (B := 195980402) (m := n - 2) (fun i hi => (cr_bd (hp 0 (by omega)) (hp (i + 1) (by omega)) (hp (i + 2) (by omega))).2)
  change -(((n - 2 : Nat) : Int) * 195980402) ≤ dbl (cX zs) (cY zs) (n - 2) ∧ dbl (cX zs) (cY zs) (n - 2) ≤ ((n - 2 : Nat) : Int) * 195980402 at this
  omega
/-- Is it a sector and a place? -/
def iiB (d : Int) (zs : List Int) (n : Nat) (px py : Int) : Bool := seV d zs n && pB px py
def iiV (d : Int) (zs : List Int) (n : Nat) (px py : Int) : Bool := iiB d zs n px py && inB (cX zs) (cY zs) n px py
def ioV (d : Int) (zs : List Int) (n : Nat) (px py : Int) : Bool := iiB d zs n px py && brd (cX zs) (cY zs) n px py n
theorem ii_no1 {d : Int} {zs : List Int} {n : Nat} {px py : Int} (h : seV d zs n = false) : iiB d zs n px py = false := by unfold iiB; rw [h]; rfl
theorem ii_no2 {d : Int} {zs : List Int} {n : Nat} {px py : Int} (h : pB px py = false) : iiB d zs n px py = false := by unfold iiB; rw [h, Bool.and_false]
theorem ii_yes {d : Int} {zs : List Int} {n : Nat} {px py : Int} (h : seV d zs n = true) (h2 : pB px py = true) : iiB d zs n px py = true := by unfold iiB; rw [h, h2]; rfl
theorem iiV_no {d : Int} {zs : List Int} {n : Nat} {px py : Int} (h : iiB d zs n px py = false) : iiV d zs n px py = false ∧ ioV d zs n px py = false := by unfold iiV ioV; rw [h]; exact ⟨rfl, rfl⟩
theorem iiV_yes {d : Int} {zs : List Int} {n : Nat} {px py : Int} (h : iiB d zs n px py = true) : iiV d zs n px py = inB (cX zs) (cY zs) n px py ∧ ioV d zs n px py = brd (cX zs) (cY zs) n px py n := by unfold iiV ioV; rw [h]; exact ⟨rfl, rfl⟩
def ssB (d : Int) (zs : List Int) (n : Nat) (e : Int) (us : List Int) (m : Nat) : Bool := seV d zs n && seV e us m
def ssV (d : Int) (zs : List Int) (n : Nat) (e : Int) (us : List Int) (m : Nat) : Bool := ssB d zs n e us m && saB (cX zs) (cY zs) n (cX us) (cY us) m
theorem ss_no1 {d e : Int} {zs us : List Int} {n m : Nat} (h : seV d zs n = false) : ssB d zs n e us m = false := by unfold ssB; rw [h]; rfl
theorem ss_no2 {d e : Int} {zs us : List Int} {n m : Nat} (h : seV e us m = false) : ssB d zs n e us m = false := by unfold ssB; rw [h, Bool.and_false]
theorem ss_yes {d e : Int} {zs us : List Int} {n m : Nat} (h : seV d zs n = true) (h2 : seV e us m = true) : ssB d zs n e us m = true := by unfold ssB; rw [h, h2]; rfl
theorem ssV_no {d e : Int} {zs us : List Int} {n m : Nat} (h : ssB d zs n e us m = false) : ssV d zs n e us m = false := by unfold ssV; rw [h]; rfl
theorem ssV_yes {d e : Int} {zs us : List Int} {n m : Nat} (h : ssB d zs n e us m = true) : ssV d zs n e us m = saB (cX zs) (cY zs) n (cX us) (cY us) m := by unfold ssV; rw [h]; rfl
def csB (d : Int) (zs : List Int) (n : Nat) (px py qx qy : Int) : Bool := seV d zs n && (pB px py && pB qx qy)
def csV (d : Int) (zs : List Int) (n : Nat) (px py qx qy : Int) : Nat := if csB d zs n px py qx qy then cnt (cX zs) (cY zs) n px py qx qy n else 0
theorem cs_no1 {d : Int} {zs : List Int} {n : Nat} {px py qx qy : Int} (h : seV d zs n = false) : csB d zs n px py qx qy = false := by unfold csB; rw [h]; rfl
theorem cs_no2 {d : Int} {zs : List Int} {n : Nat} {px py qx qy : Int} (h : pB px py = false) : csB d zs n px py qx qy = false := by unfold csB; rw [h, Bool.false_and, Bool.and_false]
theorem cs_no3 {d : Int} {zs : List Int} {n : Nat} {px py qx qy : Int} (h : pB qx qy = false) : csB d zs n px py qx qy = false := by unfold csB; rw [h, Bool.and_false, Bool.and_false]
theorem cs_no23 {d : Int} {zs : List Int} {n : Nat} {px py qx qy : Int} (h : (pB px py && pB qx qy) = false) : csB d zs n px py qx qy = false := by unfold csB; rw [h, Bool.and_false]
theorem cs_yes {d : Int} {zs : List Int} {n : Nat} {px py qx qy : Int} (h : seV d zs n = true) (h2 : pB px py = true) (h3 : pB qx qy = true) : csB d zs n px py qx qy = true := by unfold csB; rw [h, h2, h3]; rfl
theorem csV_no {d : Int} {zs : List Int} {n : Nat} {px py qx qy : Int} (h : csB d zs n px py qx qy = false) : csV d zs n px py qx qy = 0 := by unfold csV; rw [h]; rfl
theorem csV_yes {d : Int} {zs : List Int} {n : Nat} {px py qx qy : Int} (h : csB d zs n px py qx qy = true) : csV d zs n px py qx qy = cnt (cX zs) (cY zs) n px py qx qy n := by unfold csV; rw [h]; rfl
theorem cnt_le (X Y : Nat → Int) (n : Nat) (px py qx qy : Int) : ∀ k, cnt X Y n px py qx qy k ≤ k
  | 0 => Nat.le_refl _
  | k + 1 => by rw [sct.cnt]; have := cnt_le X Y n px py qx qy k; split <;> omega
theorem cnt_yes {X Y : Nat → Int} {n k : Nat} {px py qx qy : Int} (h : meB (X k) (Y k) (X ((k + 1) % n)) (Y ((k + 1) % n)) px py qx qy = true) : cnt X Y n px py qx qy (k + 1) = cnt X Y n px py qx qy k + 1 := by rw [sct.cnt, if_pos h]
theorem cnt_no {X Y : Nat → Int} {n k : Nat} {px py qx qy : Int} (h : meB (X k) (Y k) (X ((k + 1) % n)) (Y ((k + 1) % n)) px py qx qy = false) : cnt X Y n px py qx qy (k + 1) = cnt X Y n px py qx qy k := by rw [sct.cnt, h]; rfl
end Go.Proofs.Ytkndfklbonkbiaa.sctr
