/- impl's PlacesWith. -/
import Derived.Test.YtelkflgmjfmadaaPosQ
namespace Go.Proofs.Ytelkflgmjfmadaa.posr
open Go.RowKit Go.Proofs.Ytelkflgmjfmadaa.pos Go.Proofs.Ytelkflgmjfmadaa.in_ Go.Proofs.Ytelkflgmjfmadaa.posi Go.Proofs.Ytelkflgmjfmadaa.posj Go.Proofs.Ytelkflgmjfmadaa.posm Go.Proofs.Ytelkflgmjfmadaa.posp Go.Proofs.Ytelkflgmjfmadaa.posq Go.Proofs.Ytelkflgmjfmadaa.ats Go.Proofs.Ytelkflgmjfmadaa.ints Go.Proofs.Ytelkflgmjfmadaa.lst

theorem pw_no {o : Bool} {a b lx ly hx hy : Int} (h : pwB o a b lx ly hx hy = false) : pwN o a b lx ly hx hy = 0 ∧ pwV o a b lx ly hx hy = [] := by unfold pwN pwV; rw [h]; exact ⟨rfl, rfl⟩
theorem pw_yes {o : Bool} {a b lx ly hx hy : Int} (h : pwB o a b lx ly hx hy = true) : pwN o a b lx ly hx hy = (pwX o a lx hx).length * (pwX o b ly hy).length ∧ pwV o a b lx ly hx hy = places (pwX o a lx hx) (pwX o b ly hy) := by unfold pwN pwV; rw [h]; exact ⟨rfl, rfl⟩
theorem pw_le (o : Bool) (a b lx ly hx hy : Int) : pwN o a b lx ly hx hy ≤ 10000 := by
  unfold pwN
  split
  · rename_i h
    unfold pwB at h
    rw [Bool.and_eq_true] at h
    have := of_decide_eq_true h.2
    omega
  · exact Nat.zero_le _

end Go.Proofs.Ytelkflgmjfmadaa.posr
