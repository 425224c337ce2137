/- What the cards' conditions on errors.errorType and errNotHit give a walk; a world that meets them. -/
import Derived.Test.YtfigjfckelichaaGreatDoorRows
import Derived.Test.YtfigjfckelichaaGreatDoorErA
import Derived.Test.YtfigjfckelichaaGreatDoorTrkW
import Derived.Test.YtfigjfckelichaaGreatDoorLaid
import Derived.LaidHandle
import Derived.Stop.LaidErr
import Derived.LaidLaws
namespace Go.Proofs.YtfigjfckelichaaGreatDoor.erl
open Go.RowKit Go.Proofs.YtfigjfckelichaaGreatDoor.era Go.Proofs.YtfigjfckelichaaGreatDoor.trkw

theorem et : Tryz.prog.globalNamed "errors.errorType" = some 2 := by kernel_rfl
theorem rt : (Tryz.prog.cutTypes.find? (·.1 == "internal/reflectlite.rtype")).map (·.2) = some 167 := by kernel_rfl
theorem oneRow : ((List.range 222).filter fun t => Tryz.prog.rowNamed t [101, 114, 114, 111, 114]) = [78] := by kernel_rfl
theorem tsize : Tryz.prog.types.size = 222 := by kernel_rfl
theorem handle_of {W : World} (h : handlesMet Tryz.prog [("errors.errorType", Rows.laid_errors_errorType)] W) : Eh W := by
  obtain ⟨name, u, ty, e1, e2, e3, e4, e5⟩ := h _ (List.mem_singleton.2 rfl)
  have en : name = [101, 114, 114, 111, 114] := (Option.some.inj e1).symm
  subst en
  obtain rfl := Option.some.inj (rt.symm.trans e2)
  have hm : ty ∈ (List.range 222).filter fun t => Tryz.prog.rowNamed t [101, 114, 114, 111, 114] := List.mem_filter.2 ⟨List.mem_range.2 (by rw [← tsize]; exact e3), e4⟩
  rw [oneRow] at hm
  obtain rfl := List.mem_singleton.1 hm
  have hh : typeHandle Tryz.prog 78 = .pointer (some ⟨7, 78, none⟩) := by kernel_rfl
  rw [hh] at e5
  simpa [Eh] using World.var?_cell et e5 0
theorem gE : Tryz.prog.globalNamed "loop.example/g00875/impl.errNotHit" = some 1 := by kernel_rfl
theorem gEType : (Tryz.prog.globals[1]?).map (·.type) = some 78 := by kernel_rfl
theorem cellsE : Tryz.prog.cellsOf 210 = 1 := by kernel_rfl
theorem cellsS : Tryz.prog.cellsOf 9 = 1 := by kernel_rfl
theorem star : "*" ++ "errors.errorString" = "*errors.errorString" := by decide
theorem rowE (u : TypeId) (h : Tryz.prog.typeName? 3 u = some "*errors.errorString") : u = 190 :=
  typeName_ptr_named (nm := "errors.errorString") (by rw [star]; kernel_rfl) (by kernel_rfl) (by decide) u (by rw [star]; exact h)
theorem sentinel_of {W : World} (h : laidMet Tryz.prog [("loop.example/g00875/impl.errNotHit", Rows.laid_loop_example_g00875_impl_errNotHit)] W) : Ex W := by
  obtain ⟨a0, s0, hv0, hc0, hs0, hz0⟩ := laid_sentinel h gE gEType Tryz.underlying78 rowE Tryz.underlying190 Tryz.underlying210 rfl rfl Tryz.underlying9 cellsE cellsS
  exact ⟨_, by simpa using World.var?_cell gE hv0 0⟩
/-- What a walk asks. -/
def LX (w : World) : Prop := Eh w ∧ Ex w
theorem lx_on {w w' : World} (h : LX w) (hb : Below w.heap.size w w') : LX w' := ⟨(hb.cell (World.block_lt_of_cell? _ _ h.1)).trans h.1, ex_on h.2 hb⟩
theorem lh_on {w w' : World} (h : Eh w) (hb : Below w.heap.size w w') : Eh w' := (hb.cell (World.block_lt_of_cell? _ _ h)).trans h
theorem of_both {W : World} (h : laidMetH Tryz.prog [("errors.errorType", Rows.laid_errors_errorType), ("loop.example/g00875/impl.errNotHit", Rows.laid_loop_example_g00875_impl_errNotHit)] W) : LX W := by
  have h' : laidMet Tryz.prog [("loop.example/g00875/impl.errNotHit", Rows.laid_loop_example_g00875_impl_errNotHit)] W ∧ handlesMet Tryz.prog [("errors.errorType", Rows.laid_errors_errorType)] W := h
  exact ⟨handle_of h'.2, sentinel_of h'.1⟩
theorem of_one {W : World} (h : laidMetH Tryz.prog [("errors.errorType", Rows.laid_errors_errorType)] W) : Eh W := by
  have h' : laidMet Tryz.prog [] W ∧ handlesMet Tryz.prog [("errors.errorType", Rows.laid_errors_errorType)] W := h
  exact handle_of h'.2

abbrev text : ByteArray := { data := #[110, 111, 32, 118, 97, 108, 105, 100, 32, 116, 114, 97, 99, 107, 32, 97, 102, 116, 101, 114, 32, 97, 32, 104, 105, 116] }
/-- So many blocks has the settled world. -/
noncomputable def low : Nat := (World.holding Tryz.prog default ⟨#[], #[], []⟩).heap.size
/-- A world that meets the conditions. -/
noncomputable def laidWorld (os : Os) : World :=
  let w0 := World.holding Tryz.prog os ⟨#[.cells #[.string text] 210], #[], []⟩
  { w0 with heap := (w0.heap.modify 2 fun
      | .cells _ t frozen => .cells #[.iface 167 (.agg #[.pointer (some ⟨7, 78, none⟩)])] t frozen
      | o => o).modify 1 fun
      | .cells _ t frozen => .cells #[.iface 190 (.pointer (some ⟨low, 0, none⟩))] t frozen
      | o => o }
theorem both_met (os : Os) (args : Array Value) : laidMetH Tryz.prog [("errors.errorType", Rows.laid_errors_errorType), ("loop.example/g00875/impl.errNotHit", Rows.laid_loop_example_g00875_impl_errNotHit)] ((laidWorld os).forCall (fun _ _ => 0) ⟨#[], args, []⟩).memory :=
  laidMetH_of_parts (laidMet_of_run (ps := [.cell 1 0, .cell low 0]) 8 (by kernel_rfl) (by kernel_rfl) (by kernel_rfl)) (by kernel_rfl)
theorem one_met (os : Os) (args : Array Value) : laidMetH Tryz.prog [("errors.errorType", Rows.laid_errors_errorType)] ((laidWorld os).forCall (fun _ _ => 0) ⟨#[], args, []⟩).memory :=
  laidMetH_of_parts (laidMet_of_run (ps := []) 8 (by kernel_rfl) (by kernel_rfl) (by kernel_rfl)) (by kernel_rfl)
end Go.Proofs.YtfigjfckelichaaGreatDoor.erl
