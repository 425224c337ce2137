/- spec's l17Turned, TurnedSector, l17Cyclic and SameSector. -/
import Derived.Test.YtkndfklbonkbiaaSctW
import Derived.Test.YtkndfklbonkbiaaSctL
import Derived.Test.YtkndfklbonkbiaaTailH
import Derived.Laws.OwnMore
namespace Go.Proofs.Ytkndfklbonkbiaa.scth
set_option linter.unusedSimpArgs false
open Go.RowKit Go.Proofs.Ytkndfklbonkbiaa.ints Go.Proofs.Ytkndfklbonkbiaa.lst Go.Proofs.Ytkndfklbonkbiaa.in_ Go.Proofs.Ytkndfklbonkbiaa.ats Go.Proofs.Ytkndfklbonkbiaa.pos Go.Proofs.Ytkndfklbonkbiaa.sct Go.Proofs.Ytkndfklbonkbiaa.sctt Go.Proofs.Ytkndfklbonkbiaa.sctv Go.Proofs.Ytkndfklbonkbiaa.scti Go.Proofs.Ytkndfklbonkbiaa.sctj Go.Proofs.Ytkndfklbonkbiaa.sctb Go.Proofs.Ytkndfklbonkbiaa.sctr Go.Proofs.Ytkndfklbonkbiaa.sctl Go.Proofs.Ytkndfklbonkbiaa.tailh

theorem at_own {T : TypeId} {cs : Array Value} {w W W' : World} {b B e s n : Nat} {v : Value} {xs : List Value} (h : ats.AtS T cs w W b) (ho : W.ownsRow B e s v n xs) (hg : W.grownBy W' v.ownBlock) (hne : ∀ g, v.ownBlock = some g → b ≠ g) (hB : w.heap.size ≤ B) : ats.AtS T cs w W' b :=
  ⟨h.1.grown hg h.1.size (fun g e => Nat.le_trans hB (own_.row_ge ho g e)), h.2.1, Nat.lt_of_lt_of_le h.2.2.1 hg.size, (hg.block _ h.2.2.1 (fun e => hne b e.symm rfl)).trans h.2.2.2⟩
theorem own_at {e : TypeId} {a b : Value} {w W : World} {g : Nat} (h : AtS e #[a, b] w W g) : W.ownsRow w.heap.size e 2 (.slice (some ⟨g, 0, none⟩) 1 1) 1 [a, b] :=
  ⟨rfl, .inr ⟨g, 1, #[a, b], rfl, h.2.1, h.2.2.2, Nat.le_refl _, by decide, rfl, rfl⟩⟩
theorem own_app2 {w : World} {B e k : Nat} {v : Value} {L : List Int} {x y : Int} (h : w.ownsRow B e 2 v (k + 1) (cellsI L ++ [.int .i64 x, .int .i64 y])) : w.ownsRow B e 2 v (k + 1) (cellsI (L ++ [x, y])) := by
  unfold cellsI at h ⊢
  rw [List.map_append]
  exact h
theorem nil_own2 (w : World) (B e : Nat) : w.ownsRow B e 2 (.slice none 0 0) 0 (cellsI []) := ⟨by simp [cellsI], .inl ⟨rfl, rfl⟩⟩
theorem two_apart (T T' : TypeId) (a b : Array Value) (V : World) : AtS T a V ((V.alloc (.cells a T)).alloc (.cells b T')) V.heap.size ∧ AtS T' b V ((V.alloc (.cells a T)).alloc (.cells b T')) (V.heap.size + 1) := by
  have s0 := (newS T a V).alloc (.cells b T')
  have s1 := (newS T a V).next T' b
  rw [World.size_alloc] at s1
  exact ⟨s0, s1⟩
end Go.Proofs.Ytkndfklbonkbiaa.scth
