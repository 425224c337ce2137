/- spec's l10Arrivals, l10Sent, l10Cover: lists built by append in regions that draw; ArrivalsOf, SendTimes, CoverOf. -/
import Derived.Test.YtndogafihaooiaaSitS
import Derived.Test.YtndogafihaooiaaSitE
import Derived.Test.YtndogafihaooiaaIntC
import Derived.Deep.RegionHeld3
import Derived.Deep.CutRange
namespace Go.Proofs.Ytndogafihaooiaa.sitt
open Go.RowKit Go.Proofs.Ytndogafihaooiaa.ints Go.Proofs.Ytndogafihaooiaa.lst Go.Proofs.Ytndogafihaooiaa.sit Go.Proofs.Ytndogafihaooiaa.in_ Go.Proofs.Ytndogafihaooiaa.ats Go.Proofs.Ytndogafihaooiaa.sits

theorem own_new (w : World) (o : Obj) (e : TypeId) : ((w.alloc o).alloc (.cells #[] e)).ownsRow (w.alloc o).heap.size e 1 (.slice (some ⟨w.heap.size + 1, 0, none⟩) 0 0) 0 [] := by
  have := own_.own_empty (w.alloc o) e
  rw [World.size_alloc] at this ⊢
  exact this
theorem below_new (w : World) (o o' : Obj) : Below (w.alloc o).heap.size (w.alloc o) ((w.alloc o).alloc o') := (Below.refl _ _).alloc (Nat.le_refl _) _
theorem own_app {w : World} {B e k : Nat} {v : Value} {L : List Int} {x : Int} (h : w.ownsRow B e 1 v (k + 1) (cellsI L ++ [.int .i64 x])) : w.ownsRow B e 1 v (k + 1) (cellsI (L ++ [x])) := by
  unfold cellsI at h ⊢
  rw [List.map_append]
  exact h

end Go.Proofs.Ytndogafihaooiaa.sitt
