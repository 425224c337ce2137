/- slices.Grow and slices.Concat (of two slices) at sites; impl's DropSite. -/
import Derived.Test.YtndogafihaooiaaSitI
import Derived.Test.YtndogafihaooiaaSitV
import Derived.Shelf.Spec.SlicesGrow
namespace Go.Proofs.Ytndogafihaooiaa.sitg
open Go.RowKit Go.Proofs.Ytndogafihaooiaa.ints Go.Proofs.Ytndogafihaooiaa.lst Go.Proofs.Ytndogafihaooiaa.sit Go.Proofs.Ytndogafihaooiaa.in_ Go.Proofs.Ytndogafihaooiaa.ats Go.Proofs.Ytndogafihaooiaa.sits Go.Proofs.Ytndogafihaooiaa.siti Go.Proofs.Ytndogafihaooiaa.sitv

theorem drN_le {zs : List Int} {n : Nat} {i : Int} (h : n ≤ 1048576) : drN zs n i ≤ 1048576 := by unfold drN; split <;> omega
end Go.Proofs.Ytndogafihaooiaa.sitg
