/- spec's draws for chapter 7's laws: DrawReportOf, DrawIsValidReport, DrawPackReport, DrawUnpackReport, DrawDecodeNear. -/
import Derived.Test.YtinkkdgjpcnklaaDrawP7
namespace Go.Proofs.Ytinkkdgjpcnklaa.drawq7
open Go.RowKit Go.Proofs.Ytinkkdgjpcnklaa.cur Go.Proofs.Ytinkkdgjpcnklaa.atc Go.Proofs.Ytinkkdgjpcnklaa.ats Go.Proofs.Ytinkkdgjpcnklaa.pos Go.Proofs.Ytinkkdgjpcnklaa.poss Go.Proofs.Ytinkkdgjpcnklaa.post Go.Proofs.Ytinkkdgjpcnklaa.drawp7

theorem bytes_al {w : World} {A : Option Addr} {n : Nat} (o : Obj) (h : Bytes w w.heap.size A n) : Bytes (w.alloc o) (w.alloc o).heap.size A n := by
  intro h0
  obtain ⟨b, o', e, hb, hc⟩ := h h0
  exact ⟨b, o', e, by rw [World.size_alloc]; omega, fun j hj => by
    obtain ⟨x, hx⟩ := hc j hj
    exact ⟨x, (World.cell?_alloc_lt w _ ⟨b, o' + j, none⟩ hb).trans hx.1, hx.2⟩⟩
theorem at_grown {T : TypeId} {cs : Array Value} {w W W' : World} {b p : Nat} (h : AtS T cs w W b) (hg : W.grownBy W' (some p)) (hne : b ≠ p) (hp : w.heap.size ≤ p) : AtS T cs w W' b :=
  ⟨h.1.grown hg h.1.size (fun g e => by injection e with e; omega), h.2.1, Nat.lt_of_lt_of_le h.2.2.1 hg.size, (hg.block b h.2.2.1 (fun e => hne (by injection e))).trans h.2.2.2⟩
theorem results_cells2 {fn : Func} {p q : Tmp} {ty ty' : TypeId} (h : fn.results = #[.cell p ty, .cell q ty']) (tmps : Array Value) (P : Program) (w : World) :
    (results fn tmps).run P w =
      ((asAddr (tmps.getD p undef)).run P w).andThen fun a w₁ => ((loadVar ty a).run P w₁).andThen fun v w₂ => ((asAddr (tmps.getD q undef)).run P w₂).andThen fun b w₃ => ((loadVar ty' b).run P w₃).andThen fun u w₄ => .ok (.tuple #[v, u]) w₄ := by
  simp only [results, h]
  simp [Sem.run_bind, Result.andThen]

/-- What the draws return. -/
def PlaceBool (w : World) (e : Ending) (w' : World) : Prop := ∃ x y o, e = .returned (.tuple #[.agg #[.int .i64 x, .int .i64 y], .bool o]) ∧ Below w.heap.size w w'
def Report1 (w : World) (e : Ending) (w' : World) : Prop := ∃ o a b, e = .returned (.agg #[.bool o, .int .i64 a, .int .i64 b]) ∧ Below w.heap.size w w'
def Int1 (w : World) (e : Ending) (w' : World) : Prop := ∃ x, e = .returned (.int .i64 x) ∧ Below w.heap.size w w'
def ReportPlace (w : World) (e : Ending) (w' : World) : Prop := ∃ o a b x y, e = .returned (.tuple #[.agg #[.bool o, .int .i64 a, .int .i64 b], .agg #[.int .i64 x, .int .i64 y]]) ∧ Below w.heap.size w w'

end Go.Proofs.Ytinkkdgjpcnklaa.drawq7
