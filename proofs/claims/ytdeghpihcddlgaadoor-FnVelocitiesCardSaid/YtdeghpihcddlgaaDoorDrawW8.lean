/- spec's draws of two velocities; DrawIsValidVelocity. -/
import Derived.Test.YtdeghpihcddlgaaDoorDrawV8
import Derived.Test.YtdeghpihcddlgaaDoorAtS
import Derived.Test.YtdeghpihcddlgaaDoorCode
import Derived.Deep.RegionHeld3
import Derived.Deep.CutRange
import Derived.RegionTactic
import Derived.BigRegion
namespace Go.Proofs.YtdeghpihcddlgaaDoor.draww8
open Go.RowKit Go.Proofs.YtdeghpihcddlgaaDoor.code_ Go.Proofs.YtdeghpihcddlgaaDoor.cur Go.Proofs.YtdeghpihcddlgaaDoor.atc Go.Proofs.YtdeghpihcddlgaaDoor.ats Go.Proofs.YtdeghpihcddlgaaDoor.drawv8

theorem bytes_al {w : World} {A : Option Addr} {n : Nat} (o : Obj) (h : Bytes w w.heap.size A n) : Bytes (w.alloc o) (w.alloc o).heap.size A n := Bytes_below h ((Below.refl _ _).alloc (Nat.le_refl _) o)
theorem results_cells2 {fn : Func} {p q : Tmp} {ty ty' : TypeId} (h : fn.results = #[.cell p ty, .cell q ty']) (tmps : Array Value) (P : Program) (w : World) :
    (results fn tmps).run P w =
      ((asAddr (tmps.getD p undef)).run P w).andThen fun a w₁ => ((loadVar ty a).run P w₁).andThen fun v w₂ => ((asAddr (tmps.getD q undef)).run P w₂).andThen fun b w₃ => ((loadVar ty' b).run P w₃).andThen fun u w₄ => .ok (.tuple #[v, u]) w₄ := by
  simp only [results, h]
  simp [Sem.run_bind, Result.andThen]
def TwoV (w : World) (e : Ending) (w' : World) : Prop := ∃ x y u v, e = .returned (.tuple #[.agg #[.int .i64 x, .int .i64 y], .agg #[.int .i64 u, .int .i64 v]]) ∧ Below w.heap.size w w'
def OneV (w : World) (e : Ending) (w' : World) : Prop := ∃ x y, e = .returned (.agg #[.int .i64 x, .int .i64 y]) ∧ Below w.heap.size w w'
theorem set_ints {w : World} {p m g : Nat} {T : TypeId} {a b : Int} (h : Cur w p m) (hB : Blk T #[.int .i64 a, .int .i64 b] w g) (hne : g ≠ p) (i : Nat) (v : Value) : Cur (w.setCell ⟨g, i, none⟩ v) p m := by
  obtain ⟨A, n, c, k, sd, h1, h2, h3, h4⟩ := h
  refine ⟨A, n, c, k, sd, (Go.Deep.blk_setCell_other w ⟨g, i, none⟩ v p (fun e => hne e.symm)).trans h1, h2, h3, fun hn => ?_⟩
  obtain ⟨b, o, e, hlt, hc⟩ := h4 hn
  have hbg : b ≠ g := by
    rintro rfl
    obtain ⟨u, hu, -, -⟩ := hc 0 hn
    rw [cell_of_row _ _ (o + 0) _ T (0, 0) hB] at hu
    match o, hu with
    | 0, hu => simp at hu
    | 1, hu => simp at hu
    | o + 2, hu => simp at hu
  exact ⟨b, o, e, hlt, fun k hk => by
    obtain ⟨u, hu, h⟩ := hc k hk
    exact ⟨u, (World.cell?_setCell_far w ⟨g, i, none⟩ ⟨b, o + k, none⟩ v (fun e => hbg e.symm)).trans hu, h⟩⟩
theorem quo5 {x : Int} (h : -201 ≤ x ∧ x ≤ 201) : -201 ≤ x.tdiv 5 ∧ x.tdiv 5 ≤ 201 := by
  by_cases hx : 0 ≤ x
  · rw [Int.tdiv_eq_ediv_of_nonneg hx]; omega
  · obtain ⟨k, rfl⟩ : ∃ k, x = -k := ⟨-x, by omega⟩
    rw [Int.neg_tdiv, Int.tdiv_eq_ediv_of_nonneg (by omega)]; omega


end Go.Proofs.YtdeghpihcddlgaaDoor.draww8
