/- An argument that is a sector (an int and a slice of places), opened. -/
import Derived.Test.YtkndfklbonkbiaaLstO
import Derived.Test.YtkndfklbonkbiaaLst
import Derived.Lib.SmallJoins
namespace Go.Proofs.Ytkndfklbonkbiaa.secz
open Go.RowKit Go.ChangeShapes Go.WideShapes Go.Deep Go.Joins Go.Proofs.Ytkndfklbonkbiaa.lst Go.Proofs.Ytkndfklbonkbiaa.lsto

section
variable {H : Type} {enc : TypeId × Value → H} {w : World} {base : Nat} {spare : Nat → Bool} {held : Bool}
theorem cells_int : Try.prog.cellsOf 3 = 1 := by kernel_rfl
theorem cells_sector : Try.prog.cellsOf 82 = 2 := by kernel_rfl
theorem cells_places : Try.prog.cellsOf 80 = 1 := by kernel_rfl
theorem array2 {cs : Array Value} (h : cs.size = 2) : ∃ c0 c1, cs = #[c0, c1] := by
  obtain ⟨l⟩ := cs
  match l, h with
  | [c0, c1], _ => exact ⟨c0, c1, rfl⟩
theorem one_int {fuel : Nat} {c : Value} {x : DataW H × List MemPlace} (h : DataW.trod enc Try.prog w base spare held fuel 3 [c] = some x) : ∃ z, c = .int .i64 z := by
  obtain ⟨z, e, -, -⟩ := DataW.trod_int Try.underlying3 h
  exact ⟨z, by simpa using e⟩
set_option maxRecDepth 100000 in
theorem open_places {fuel : Nat} {cs : List Value} {x : DataW H × List MemPlace} (h : DataW.trod enc Try.prog w base spare held fuel 80 cs = some x) :
    ∃ (A : Option Addr) (n c : Nat) (zs : List Int), cs = [.slice A n c] ∧ RdZ 2 w w.heap.size A n zs ∧ n ≤ maxLen :=
  lsto.open_structs Try.underlying80 Try.underlying24 (by kernel_rfl) (by kernel_rfl) (by decide) (by
    intro j f hg
    match j, hg with
    | 0, hg => exact (Option.some.inj hg) ▸ Try.underlying3
    | 1, hg => exact (Option.some.inj hg) ▸ Try.underlying3
    | q + 2, hg => exact absurd (Array.getElem?_eq_some_iff.1 hg).1 (by simp)) h
set_option maxRecDepth 100000 in
theorem sector_cells {n : Nat} {cs : List Value} {d : DataW H × List MemPlace} (hc : cs.length = 2) (hf1 : DataW.trod enc Try.prog w base spare held n 82 cs = some d) :
    ∃ (i : Int) (A : Option Addr) (n c : Nat) (zs : List Int), cs = [.int .i64 i, .slice A n c] ∧ RdZ 2 w w.heap.size A n zs ∧ n ≤ maxLen := by
  obtain ⟨c0, c1, rfl⟩ : ∃ c0 c1, cs = [c0, c1] := by
    match cs, hc with
    | [c0, c1], _ => exact ⟨c0, c1, rfl⟩
  obtain ⟨xs, n, _, _, hlen, hxs, hf⟩ := DataW.trod_struct Try.underlying82 hf1
  have h0 : DataW.trod enc Try.prog w base spare held n 3 (([c0, c1].drop 0).take (Try.prog.cellsOf 3)) = xs[0]? := hf 0 _ rfl
  have h1 : DataW.trod enc Try.prog w base spare held n 80 (([c0, c1].drop 1).take (Try.prog.cellsOf 80)) = xs[1]? := hf 1 _ rfl
  rw [cells_int] at h0
  rw [cells_places] at h1
  have l : xs.length = 2 := hxs
  have g : ∀ i (hi : i < 2), xs[i]? = some (xs[i]'(by omega)) := fun i hi => List.getElem?_eq_getElem (by omega)
  obtain ⟨z0, rfl⟩ := one_int (c := c0) (h0.trans (g 0 (by omega)))
  obtain ⟨A, k, c, zs, e, hrd, hle⟩ := open_places (cs := [c1]) (h1.trans (g 1 (by omega)))
  obtain rfl : c1 = .slice A k c := by simpa using e
  exact ⟨z0, A, k, c, zs, rfl, hrd, hle⟩
set_option maxRecDepth 100000 in
theorem open_sector {r : Reach} {b0 : Nat} {v : Value} {d : DataW H} {p : List MemPlace} (hv : Value.okWide Try.prog w r b0 82 v) (h : DataW.Trod enc Try.prog w base spare held 82 v d p) :
    ∃ (i : Int) (A : Option Addr) (n c : Nat) (zs : List Int), v = .agg #[.int .i64 i, .slice A n c] ∧ RdZ 2 w w.heap.size A n zs ∧ n ≤ maxLen := by
  obtain ⟨cs, rfl, hsz⟩ := okWide_struct Try.underlying82 hv
  obtain ⟨c0, c1, rfl⟩ := array2 (hsz.trans cells_sector)
  obtain ⟨fuel, hf0⟩ := h
  have hf1 : DataW.trod enc Try.prog w base spare held fuel 82 [c0, c1] = some (d, p) := hf0
  obtain ⟨i, A, n, c, zs, e, hrd, hle⟩ := sector_cells rfl hf1
  simp only [List.cons.injEq, and_true] at e
  obtain ⟨rfl, rfl⟩ := e
  exact ⟨i, A, n, c, zs, rfl, hrd, hle⟩
end
end Go.Proofs.Ytkndfklbonkbiaa.secz
