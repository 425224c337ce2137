/- spec's functions of chapter 10 on points, lists of sites and lists of arrivals: l10Point, l10Distance, l10Good, l10Reach, l10Asked, IsValidSites, SiteDistance. -/
import Derived.Test.YtndogafihaooiaaSit
import Derived.Test.YtndogafihaooiaaAtS
import Derived.Test.YtndogafihaooiaaPosT
import Derived.WalkKit
import Derived.IntWalk
import Derived.BigQuiet
import Derived.Deep.QuietTactic
namespace Go.Proofs.Ytndogafihaooiaa.sits
open Go.RowKit Go.Proofs.Ytndogafihaooiaa.ints Go.Proofs.Ytndogafihaooiaa.lst Go.Proofs.Ytndogafihaooiaa.sit Go.Proofs.Ytndogafihaooiaa.in_ Go.Proofs.Ytndogafihaooiaa.ats Go.Proofs.Ytndogafihaooiaa.post

theorem cells2 {w : World} {B n k : Nat} {A : Option Addr} {zs : List Int} (h : RdZ 2 w B A n zs) (hk : k < n) :
    ∃ b o, A = some ⟨b, o, none⟩ ∧ b < B ∧ w.cell? ⟨b, o + k * 2, none⟩ = some (.int .i64 (fld 2 zs k 0)) ∧ w.cell? ⟨b, o + k * 2 + 1, none⟩ = some (.int .i64 (fld 2 zs k 1)) := by
  obtain ⟨b, o, e, hb, hc⟩ := h.at_ hk
  exact ⟨b, o, e, hb, hc 0 (by omega), hc 1 (by omega)⟩

/-- Both points lie on the ground. -/
def sdB (x y a b : Int) : Bool := onB x y && onB a b
def sdV (x y a b : Int) : Int := if sdB x y a b then dist x y a b else 0
end Go.Proofs.Ytndogafihaooiaa.sits
