/- spec's draws for chapter 7's laws: DrawReportOf, DrawIsValidReport, DrawPackReport, DrawUnpackReport, DrawDecodeNear. -/
import Derived.Test.YtelkflgmjfmadaaDrawP7
namespace Go.Proofs.Ytelkflgmjfmadaa.drawq7
open Go.RowKit Go.Proofs.Ytelkflgmjfmadaa.cur Go.Proofs.Ytelkflgmjfmadaa.atc Go.Proofs.Ytelkflgmjfmadaa.ats Go.Proofs.Ytelkflgmjfmadaa.pos Go.Proofs.Ytelkflgmjfmadaa.poss Go.Proofs.Ytelkflgmjfmadaa.post Go.Proofs.Ytelkflgmjfmadaa.drawp7

theorem bytes_al {w : World} {A : Option Addr} {n : Nat} (o : Obj) (h : Bytes w w.heap.size A n) : Bytes (w.alloc o) (w.alloc o).heap.size A n := by
  intro h0
  obtain ⟨b, o', e, hb, hc⟩ := h h0
  exact ⟨b, o', e, by rw [World.size_alloc]; omega, fun j hj => by
    obtain ⟨x, hx⟩ := hc j hj
    exact ⟨x, (World.cell?_alloc_lt w _ ⟨b, o' + j, none⟩ hb).trans hx.1, hx.2⟩⟩
theorem at_grown {T : TypeId} {cs : Array Value} {w W W' : World} {b p : Nat} (h : AtS T cs w W b) (hg : W.grownBy W' (some p)) (hne : b ≠ p) (hp : w.heap.size ≤ p) : AtS T cs w W' b :=
  ⟨h.1.grown hg h.1.size (fun g e => by injection e with e; omega), h.2.1, Nat.lt_of_lt_of_le h.2.2.1 hg.size, (hg.block b h.2.2.1 (fun e => hne (by injection e))).trans h.2.2.2⟩
theorem results_cells2 {fn : Func} {p q : Tmp} {ty ty' : TypeId} (h : fn.results = #[.cell p ty, .cell q ty']) (tmps : Array Value) (P : Program) (w : World) :
    (results fn tmps).run P w =
      ((asAddr (tmps.getD p undef)).run P w).andThen fun a w₁ => ((loadVar ty a).run P w₁).andThen fun v w₂ => ((asAddr (tmps.getD q undef)).run P w₂).andThen fun b w₃ => ((loadVar ty' b).run P w₃).andThen fun u w₄ => .ok (.tuple #[v, u]) w₄ := by
  simp only [results, h]
  simp [Sem.run_bind, Result.andThen]

/-- What the draws return. -/
def PlaceBool (w : World) (e : Ending) (w' : World) : Prop := ∃ x y o, e = .returned (.tuple #[.agg #[.int .i64 x, .int .i64 y], .bool o]) ∧ Below w.heap.size w w'
def Report1 (w : World) (e : Ending) (w' : World) : Prop := ∃ o a b, e = .returned (.agg #[.bool o, .int .i64 a, .int .i64 b]) ∧ Below w.heap.size w w'
def Int1 (w : World) (e : Ending) (w' : World) : Prop := ∃ x, e = .returned (.int .i64 x) ∧ Below w.heap.size w w'
def ReportPlace (w : World) (e : Ending) (w' : World) : Prop := ∃ o a b x y, e = .returned (.tuple #[.agg #[.bool o, .int .i64 a, .int .i64 b], .agg #[.int .i64 x, .int .i64 y]]) ∧ Below w.heap.size w w'

set_option maxRecDepth 100000 in
set_option maxHeartbeats 2000000 in
theorem reportOf (A : Option Addr) (n c : Nat) (w : World) (hn : n ≤ 65536) (h : Bytes w w.heap.size A n) :
    Calls Try.prog 8 #[.slice A n c] w (PlaceBool w) := by
  have B0 := Lib.hid ((newS 25 #[.int .i64 0, .int .i64 0] w).alloc (.cells #[.slice A n c, .int .i64 0, .int .u64 0] 77))
  have hc := new_cur c (by omega) (bytes_al (.cells #[.int .i64 0, .int .i64 0] 25) h)
  rw [World.size_alloc] at hc
  have HC := Lib.hid hc
  clear h hc
  go_enter Try.func8, Try.ntmps8
  go_wp2_with fail
  generalize (w.alloc (.cells #[.int .i64 0, .int .i64 0] 25)).alloc (.cells #[.slice A n c, .int .i64 0, .int .u64 0] 77) = W at *
  refine (anyPlace _ 0 W HC.out (by omega)).mono ?_
  rintro e w1 ⟨x, y, rfl, -, hc1, hg1⟩
  have B1 := Lib.hid (at_grown B0.out hg1 (by omega) (by omega))
  have HC1 := Lib.hid hc1
  clear hc1 hg1 B0 HC
  go_wp2_with fail
  refine (one _ _ 2 w1 HC1.out (by omega) (by omega) (by omega)).mono ?_
  rintro e w2 ⟨o, rfl, hc2, hg2⟩
  have B2 := Lib.hid (at_grown B1.out hg2 (by omega) (by omega))
  have c_0 : w2.cell? ⟨w.heap.size, 0, none⟩ = some (.int .i64 0) := B2.out.cell 0
  have cf_0 : w2.frozen? ⟨w.heap.size, 0, none⟩ = false := B2.out.frozen 0
  have c_1 : w2.cell? ⟨w.heap.size, 1, none⟩ = some (.int .i64 0) := B2.out.cell 1
  have cf_1 : w2.frozen? ⟨w.heap.size, 1, none⟩ = false := B2.out.frozen 1
  have HE := Lib.hid ((B2.out.set 0 (.int .i64 x)).set 1 (.int .i64 y))
  clear hc2 hg2 B1 B2 HC1
  go_wp2_with fail
  have hl := HE.out.load Try.underlying25 rfl (by kernel_rfl)
  refine bodyPost_ret (v := .tuple #[.agg #[.int .i64 x, .int .i64 y], .bool o]) ?_ rfl ⟨_, _, _, rfl, HE.out.1⟩
  rw [results_cell_tmp rfl]
  simp [asAddr, Result.andThen, hl]

end Go.Proofs.Ytelkflgmjfmadaa.drawq7
