/- impl's GroupSightings, LonelySightings, SiteCounts. -/
import Derived.Test.YtdjcbfeilkepmaaPltK
namespace Go.Proofs.Ytdjcbfeilkepmaa.pltl
open Go.RowKit Go.Proofs.Ytdjcbfeilkepmaa.ints Go.Proofs.Ytdjcbfeilkepmaa.lst Go.Proofs.Ytdjcbfeilkepmaa.in_ Go.Proofs.Ytdjcbfeilkepmaa.ats Go.Proofs.Ytdjcbfeilkepmaa.pos Go.Proofs.Ytdjcbfeilkepmaa.plt Go.Proofs.Ytdjcbfeilkepmaa.pltm Go.Proofs.Ytdjcbfeilkepmaa.plte Go.Proofs.Ytdjcbfeilkepmaa.plti Go.Proofs.Ytdjcbfeilkepmaa.pltj Go.Proofs.Ytdjcbfeilkepmaa.pltk Go.Proofs.Ytdjcbfeilkepmaa.rws

theorem made_zero (n : Nat) : (madeCells (Value.cells (.int .i64 0)) (n * 1)).toList = cellsI (List.replicate n 0) := by
  refine List.ext_getElem (by simp [madeCells, cellsI]) fun i h1 h2 => ?_
  simp [madeCells, Value.cells, Nat.mod_one, cellsI]

set_option maxRecDepth 100000 in
theorem groupSightings (zs : List Int) (ww r : Int) (A : Option Addr) (n c : Nat) (w : World) (hn : n ≤ 1048577) (h1 : RdZ 5 w w.heap.size A n zs) :
    Calls Try.prog 24 #[.slice A n c, .int .i64 ww, .int .i64 r] w fun e w' => ∃ v, e = .returned (.tuple #[v, .bool (asB zs n ww r)]) ∧ w'.ownsRow w.heap.size 3 1 v (gsV zs n ww r).length (cellsI (gsV zs n ww r)) ∧ Below w.heap.size w w' := by
  have H := Lib.hid (groupsOf zs ww r A n c w hn h1)
  clear h1
  go_enter Try.func24, Try.ntmps24
  go_wp2_with fail
  refine H.out.mono ?_
  rintro e w1 ⟨v1, v2, rfl, h2, -, hb⟩
  have O := Lib.hid h2
  clear h2
  go_wp2_with fail
  go_ret2
  exact ⟨_, rfl, O.out, hb⟩

end Go.Proofs.Ytdjcbfeilkepmaa.pltl
