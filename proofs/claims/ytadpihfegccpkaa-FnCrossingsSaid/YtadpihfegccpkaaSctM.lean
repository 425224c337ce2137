/- FnCrossings' mathematics: both directions, and what crosses. -/
import Derived.Test.YtadpihfegccpkaaSctR
namespace Go.Proofs.Ytadpihfegccpkaa.sctm
open Go.Proofs.Ytadpihfegccpkaa.pos Go.Proofs.Ytadpihfegccpkaa.sct Go.Proofs.Ytadpihfegccpkaa.sctt Go.Proofs.Ytadpihfegccpkaa.sctv Go.Proofs.Ytadpihfegccpkaa.sctj Go.Proofs.Ytadpihfegccpkaa.sctr
set_option linter.unusedVariables false
theorem csB_swap (d : Int) (zs : List Int) (n : Nat) (px py qx qy : Int) : csB d zs n qx qy px py = csB d zs n px py qx qy := by unfold csB; rw [Bool.and_comm (pB qx qy)]
theorem csV_swap (d : Int) (zs : List Int) (n : Nat) (px py qx qy : Int) : csV d zs n qx qy px py = csV d zs n px py qx qy := by unfold csV; rw [csB_swap, cnt_swap]
theorem cs_parts {d : Int} {zs : List Int} {n : Nat} {px py qx qy : Int} (h : csB d zs n px py qx qy = true) : seV d zs n = true ∧ pB px py = true ∧ pB qx qy = true := by
  unfold csB at h
  rw [Bool.and_eq_true, Bool.and_eq_true] at h
  exact h
theorem cs_ii {d : Int} {zs : List Int} {n : Nat} {px py qx qy : Int} (h : csB d zs n px py qx qy = true) : iiB d zs n px py = true ∧ iiB d zs n qx qy = true := by
  obtain ⟨h1, h2, h3⟩ := cs_parts h
  exact ⟨ii_yes h1 h2, ii_yes h1 h3⟩
theorem cs_none {d : Int} {zs : List Int} {n : Nat} {px py qx qy : Int} (h : csB d zs n px py qx qy = true) (h0 : csV d zs n px py qx qy = 0) : iiV d zs n px py = iiV d zs n qx qy ∧ ioV d zs n px py = false := by
  obtain ⟨e1, e2⟩ := cs_ii h
  rw [csV_yes h] at h0
  rw [(iiV_yes e1).1, (iiV_yes e2).1, (iiV_yes e1).2]
  refine ⟨in_same h0, Bool.eq_false_iff.2 fun hb => ?_⟩
  have := brd_cnt (qx := qx) (qy := qy) hb
  omega
theorem ssB_swap (d : Int) (zs : List Int) (n : Nat) (e : Int) (us : List Int) (m : Nat) : ssB e us m d zs n = ssB d zs n e us m := by unfold ssB; rw [Bool.and_comm]
theorem ssV_swap (d : Int) (zs : List Int) (n : Nat) (e : Int) (us : List Int) (m : Nat) : ssV e us m d zs n = ssV d zs n e us m := by unfold ssV; rw [ssB_swap, sa_comm]
end Go.Proofs.Ytadpihfegccpkaa.sctm
