/- spec's draws of FnCover's inputs: DrawCoverOf, DrawCoveredPoints, DrawDropSite. -/
import Derived.Test.YtpbopiecfnedgabDrawS10
namespace Go.Proofs.Ytpbopiecfnedgab.drawt10
open Go.RowKit Go.Proofs.Ytpbopiecfnedgab.cur Go.Proofs.Ytpbopiecfnedgab.atc Go.Proofs.Ytpbopiecfnedgab.ats Go.Proofs.Ytpbopiecfnedgab.ints Go.Proofs.Ytpbopiecfnedgab.lst Go.Proofs.Ytpbopiecfnedgab.sit Go.Proofs.Ytpbopiecfnedgab.code_ Go.Proofs.Ytpbopiecfnedgab.draws10

theorem bytes_al {w : World} {A : Option Addr} {n : Nat} (o : Obj) (h : Bytes w w.heap.size A n) : Bytes (w.alloc o) (w.alloc o).heap.size A n := by
  intro h0
  obtain ⟨b, o', e, hb, hc⟩ := h h0
  exact ⟨b, o', e, by rw [World.size_alloc]; omega, fun j hj => by
    obtain ⟨x, hx⟩ := hc j hj
    exact ⟨x, (World.cell?_alloc_lt w _ ⟨b, o' + j, none⟩ hb).trans hx.1, hx.2⟩⟩
theorem at_grown {T : TypeId} {cs : Array Value} {w W W' : World} {b p : Nat} (h : AtS T cs w W b) (hg : W.grownBy W' (some p)) (hne : b ≠ p) (hp : w.heap.size ≤ p) : AtS T cs w W' b :=
  ⟨h.1.grown hg h.1.size (fun g e => by injection e with e; omega), h.2.1, Nat.lt_of_lt_of_le h.2.2.1 hg.size, (hg.block b h.2.2.1 (fun e => hne (by injection e))).trans h.2.2.2⟩
theorem results_three {fn : Func} {p q r : Tmp} {ty : TypeId} (h : fn.results = #[.tmp p, .cell q ty, .tmp r]) (tmps : Array Value) (P : Program) (w : World) :
    (results fn tmps).run P w = ((asAddr (tmps.getD q undef)).run P w).andThen fun a w₁ => ((loadVar ty a).run P w₁).andThen fun v w₂ => .ok (.tuple #[tmps.getD p undef, v, tmps.getD r undef]) w₂ := by
  simp only [results, h]
  simp [Sem.run_bind, Result.andThen]

def CoverQ (w : World) (e : Ending) (w' : World) : Prop := ∃ v n zs x y r, e = .returned (.tuple #[v, .agg #[.int .i64 x, .int .i64 y], .int .i64 r]) ∧ w'.ownsRow w.heap.size 32 2 v n (cellsI zs) ∧ n ≤ 6 ∧ okL zs n ∧ Near x y ∧ Below w.heap.size w w'
def CoveredQ (w : World) (e : Ending) (w' : World) : Prop := ∃ v n zs r c, e = .returned (.tuple #[v, .int .i64 r, .int .i64 c]) ∧ w'.ownsRow w.heap.size 32 2 v n (cellsI zs) ∧ n ≤ 6 ∧ Below w.heap.size w w'
def DropQ (w : World) (e : Ending) (w' : World) : Prop := ∃ v n zs i, e = .returned (.tuple #[v, .int .i64 i]) ∧ w'.ownsRow w.heap.size 32 2 v n (cellsI zs) ∧ n ≤ 6 ∧ Below w.heap.size w w'

end Go.Proofs.Ytpbopiecfnedgab.drawt10
