/- A Motion argument of a law opened: six ints. -/
import Derived.Test.YtinkkdgjpcnklaaLstO
import Derived.Lib.SmallJoins
namespace Go.Proofs.Ytinkkdgjpcnklaa.moto
open Go.RowKit Go.ChangeShapes Go.WideShapes Go.Deep Go.Joins

section
variable {H : Type} {enc : TypeId × Value → H} {w : World} {base : Nat} {spare : Nat → Bool} {held : Bool}
theorem one_int {fuel : Nat} {c : Value} {x : DataW H × List MemPlace} (h : DataW.trod enc Try.prog w base spare held fuel 3 [c] = some x) : ∃ z, c = .int .i64 z ∧ (Lit.int .i64 z).wf = true := by
  obtain ⟨z, e, -, hw⟩ := DataW.trod_int Try.underlying3 h
  exact ⟨z, by simpa using e, hw⟩
theorem cells_int : Try.prog.cellsOf 3 = 1 := by kernel_rfl
theorem cells_place : Try.prog.cellsOf 48 = 2 := by kernel_rfl
set_option maxRecDepth 100000 in
theorem one_place {fuel : Nat} {c0 c1 : Value} {x : DataW H × List MemPlace} (h : DataW.trod enc Try.prog w base spare held fuel 48 [c0, c1] = some x) : ∃ a b, (c0 = .int .i64 a ∧ c1 = .int .i64 b) ∧ (Lit.int .i64 a).wf = true ∧ (Lit.int .i64 b).wf = true := by
  obtain ⟨xs, n, _, _, hlen, hxs, hf⟩ := DataW.trod_struct Try.underlying48 h
  have h0 : DataW.trod enc Try.prog w base spare held n 3 (([c0, c1].drop 0).take (Try.prog.cellsOf 3)) = xs[0]? := hf 0 _ rfl
  have h1 : DataW.trod enc Try.prog w base spare held n 3 (([c0, c1].drop 1).take (Try.prog.cellsOf 3)) = xs[1]? := hf 1 _ rfl
  rw [cells_int] at h0 h1
  have l : xs.length = 2 := hxs
  have g : ∀ i (hi : i < 2), xs[i]? = some (xs[i]'(by omega)) := fun i hi => List.getElem?_eq_getElem (by omega)
  obtain ⟨a, e1, k1⟩ := one_int (c := c0) (h0.trans (g 0 (by omega)))
  obtain ⟨b, e2, k2⟩ := one_int (c := c1) (h1.trans (g 1 (by omega)))
  exact ⟨a, b, ⟨e1, e2⟩, k1, k2⟩
theorem cells_velocity : Try.prog.cellsOf 49 = 2 := by kernel_rfl
set_option maxRecDepth 100000 in
theorem one_velocity {fuel : Nat} {c0 c1 : Value} {x : DataW H × List MemPlace} (h : DataW.trod enc Try.prog w base spare held fuel 49 [c0, c1] = some x) : ∃ a b, (c0 = .int .i64 a ∧ c1 = .int .i64 b) ∧ (Lit.int .i64 a).wf = true ∧ (Lit.int .i64 b).wf = true := by
  obtain ⟨xs, n, _, _, hlen, hxs, hf⟩ := DataW.trod_struct Try.underlying49 h
  have h0 : DataW.trod enc Try.prog w base spare held n 3 (([c0, c1].drop 0).take (Try.prog.cellsOf 3)) = xs[0]? := hf 0 _ rfl
  have h1 : DataW.trod enc Try.prog w base spare held n 3 (([c0, c1].drop 1).take (Try.prog.cellsOf 3)) = xs[1]? := hf 1 _ rfl
  rw [cells_int] at h0 h1
  have l : xs.length = 2 := hxs
  have g : ∀ i (hi : i < 2), xs[i]? = some (xs[i]'(by omega)) := fun i hi => List.getElem?_eq_getElem (by omega)
  obtain ⟨a, e1, k1⟩ := one_int (c := c0) (h0.trans (g 0 (by omega)))
  obtain ⟨b, e2, k2⟩ := one_int (c := c1) (h1.trans (g 1 (by omega)))
  exact ⟨a, b, ⟨e1, e2⟩, k1, k2⟩
theorem cells_motion : Try.prog.cellsOf 51 = 6 := by kernel_rfl
theorem array6 {cs : Array Value} (h : cs.size = 6) : ∃ c0 c1 c2 c3 c4 c5, cs = #[c0, c1, c2, c3, c4, c5] := by
  obtain ⟨l⟩ := cs
  match l, h with
  | [c0, c1, c2, c3, c4, c5], _ => exact ⟨c0, c1, c2, c3, c4, c5, rfl⟩
set_option maxRecDepth 100000 in
theorem open_motion {r : Reach} {b0 : Nat} {v : Value} {d : DataW H} {p : List MemPlace} (hv : Value.okWide Try.prog w r b0 51 v) (h : DataW.Trod enc Try.prog w base spare held 51 v d p) :
    ∃ a0 a1 a2 a3 a4 a5 : Int, v = .agg #[.int .i64 a0, .int .i64 a1, .int .i64 a2, .int .i64 a3, .int .i64 a4, .int .i64 a5] ∧ (Lit.int .i64 a0).wf = true ∧ (Lit.int .i64 a1).wf = true ∧ (Lit.int .i64 a2).wf = true ∧ (Lit.int .i64 a3).wf = true ∧ (Lit.int .i64 a4).wf = true ∧ (Lit.int .i64 a5).wf = true := by
  obtain ⟨cs, rfl, hsz⟩ := okWide_struct Try.underlying51 hv
  obtain ⟨c0, c1, c2, c3, c4, c5, rfl⟩ := array6 (hsz.trans cells_motion)
  obtain ⟨fuel, hf0⟩ := h
  have hf1 : DataW.trod enc Try.prog w base spare held fuel 51 [c0, c1, c2, c3, c4, c5] = some (d, p) := hf0
  obtain ⟨xs, n, _, _, hlen, hxs, hf⟩ := DataW.trod_struct Try.underlying51 hf1
  have h0 : DataW.trod enc Try.prog w base spare held n 48 (([c0, c1, c2, c3, c4, c5].drop 0).take (Try.prog.cellsOf 48)) = xs[0]? := hf 0 _ rfl
  have h1 : DataW.trod enc Try.prog w base spare held n 49 (([c0, c1, c2, c3, c4, c5].drop 2).take (Try.prog.cellsOf 49)) = xs[1]? := hf 1 _ rfl
  have h2 : DataW.trod enc Try.prog w base spare held n 3 (([c0, c1, c2, c3, c4, c5].drop 4).take (Try.prog.cellsOf 3)) = xs[2]? := hf 2 _ rfl
  have h3 : DataW.trod enc Try.prog w base spare held n 3 (([c0, c1, c2, c3, c4, c5].drop 5).take (Try.prog.cellsOf 3)) = xs[3]? := hf 3 _ rfl
  rw [cells_place] at h0
  rw [cells_velocity] at h1
  rw [cells_int] at h2 h3
  have l : xs.length = 4 := hxs
  have g : ∀ i (hi : i < 4), xs[i]? = some (xs[i]'(by omega)) := fun i hi => List.getElem?_eq_getElem (by omega)
  obtain ⟨z0, z1, ⟨rfl, rfl⟩, k0, k1⟩ := one_place (c0 := c0) (c1 := c1) (h0.trans (g 0 (by omega)))
  obtain ⟨z2, z3, ⟨rfl, rfl⟩, k2, k3⟩ := one_velocity (c0 := c2) (c1 := c3) (h1.trans (g 1 (by omega)))
  obtain ⟨z4, rfl, k4⟩ := one_int (c := c4) (h2.trans (g 2 (by omega)))
  obtain ⟨z5, rfl, k5⟩ := one_int (c := c5) (h3.trans (g 3 (by omega)))
  exact ⟨z0, z1, z2, z3, z4, z5, rfl, k0, k1, k2, k3, k4, k5⟩
end
end Go.Proofs.Ytinkkdgjpcnklaa.moto
