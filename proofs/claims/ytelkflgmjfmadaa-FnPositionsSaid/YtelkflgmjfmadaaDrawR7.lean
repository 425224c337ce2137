/- spec's DrawPlacesWith. -/
import Derived.Test.YtelkflgmjfmadaaDrawQ7
import Derived.Test.YtelkflgmjfmadaaPosX
import Derived.Deep.RegionHeld3
import Derived.Deep.CutRange
namespace Go.Proofs.Ytelkflgmjfmadaa.drawr7
open Go.RowKit Go.Proofs.Ytelkflgmjfmadaa.cur Go.Proofs.Ytelkflgmjfmadaa.atc Go.Proofs.Ytelkflgmjfmadaa.ats Go.Proofs.Ytelkflgmjfmadaa.pos Go.Proofs.Ytelkflgmjfmadaa.poss Go.Proofs.Ytelkflgmjfmadaa.post Go.Proofs.Ytelkflgmjfmadaa.drawp7 Go.Proofs.Ytelkflgmjfmadaa.drawq7

theorem at_cellC {T : TypeId} {cs : Array Value} {p : Nat} {w W : World} {b : Nat} (h : AtC T cs p w W b) (i : Nat) (v : Value) (hv : cs[i]? = some v) : W.cell? ⟨b, i, none⟩ = some v := (h.cell i).trans hv
theorem results_cells3 {fn : Func} {p q r : Tmp} {ty ty' ty'' : TypeId} (h : fn.results = #[.cell p ty, .cell q ty', .cell r ty'']) (tmps : Array Value) (P : Program) (w : World) :
    (results fn tmps).run P w =
      ((asAddr (tmps.getD p undef)).run P w).andThen fun a w₁ => ((loadVar ty a).run P w₁).andThen fun v w₂ => ((asAddr (tmps.getD q undef)).run P w₂).andThen fun b w₃ => ((loadVar ty' b).run P w₃).andThen fun u w₄ => ((asAddr (tmps.getD r undef)).run P w₄).andThen fun d w₅ => ((loadVar ty'' d).run P w₅).andThen fun x w₆ => .ok (.tuple #[v, u, x]) w₆ := by
  simp only [results, h]
  simp [Sem.run_bind, Result.andThen]
/-- An old struct, seen from a region's first world on. -/
theorem atc_of_ats {T : TypeId} {cs : Array Value} {w V W : World} {b p : Nat} (h : AtS T cs w V b) (hg : V.grownBy W (some p)) (hne : b ≠ p) (hp : w.heap.size ≤ p) : AtS T cs w W b := at_grown h hg hne hp
def ReportPlaces (w : World) (e : Ending) (w' : World) : Prop := ∃ o a b x y u v, e = .returned (.tuple #[.agg #[.bool o, .int .i64 a, .int .i64 b], .agg #[.int .i64 x, .int .i64 y], .agg #[.int .i64 u, .int .i64 v]]) ∧ Below w.heap.size w w'

end Go.Proofs.Ytelkflgmjfmadaa.drawr7
