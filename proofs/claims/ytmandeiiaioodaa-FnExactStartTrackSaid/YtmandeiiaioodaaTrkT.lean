/- spec's l14Find, l14Hit, l14Miss; l1Rising at 1..999. -/
import Derived.Test.YtmandeiiaioodaaTrkS
import Derived.OwnWalk
namespace Go.Proofs.Ytmandeiiaioodaa.trkt
open Go.RowKit Go.Proofs.Ytmandeiiaioodaa.ints Go.Proofs.Ytmandeiiaioodaa.lst Go.Proofs.Ytmandeiiaioodaa.in_ Go.Proofs.Ytmandeiiaioodaa.ats Go.Proofs.Ytmandeiiaioodaa.pos Go.Proofs.Ytmandeiiaioodaa.trk Go.Proofs.Ytmandeiiaioodaa.trkm Go.Proofs.Ytmandeiiaioodaa.trke Go.Proofs.Ytmandeiiaioodaa.intc

/-- What l14Find returns. -/
def fdV (zs : List Int) (n : Nat) (d : Int) : Int := if idx (idL zs n) d n < n then ((idx (idL zs n) d n : Nat) : Int) else -1
theorem fd_at {zs : List Int} {n k : Nat} {d : Int} (hk : k < n) (h : fld 6 zs k 0 = d) (hn : ∀ j, j < k → fld 6 zs j 0 ≠ d) : fdV zs n d = (k : Int) := by
  have hi : idx (idL zs n) d n = k := idx_is hk (by rw [idL_getD hk]; exact h) (fun j hj => by rw [idL_getD (by omega)]; exact hn j hj)
  unfold fdV
  rw [hi, if_pos hk]
theorem fd_none {zs : List Int} {n : Nat} {d : Int} (hn : ∀ j, j < n → fld 6 zs j 0 ≠ d) : fdV zs n d = -1 := by
  have hi : idx (idL zs n) d n = n := idx_none (fun j hj => by rw [idL_getD hj]; exact hn j hj)
  unfold fdV
  rw [hi, if_neg (Nat.lt_irrefl _)]
theorem fd_yes {zs : List Int} {n : Nat} {d : Int} (h : hasId zs n d = true) : ∃ k, k < n ∧ fld 6 zs k 0 = d ∧ fdV zs n d = (k : Int) := by
  obtain ⟨k, hk, e, hn⟩ := hasId_yes h
  exact ⟨k, hk, e, fd_at hk e hn⟩
theorem fd_no {zs : List Int} {n : Nat} {d : Int} (h : hasId zs n d = false) : fdV zs n d = -1 := fd_none (hasId_no h)
end Go.Proofs.Ytmandeiiaioodaa.trkt
