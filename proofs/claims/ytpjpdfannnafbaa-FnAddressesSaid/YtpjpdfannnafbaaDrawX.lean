/- spec's DrawFrameDistance: two frames as results. -/
import Derived.Test.YtpjpdfannnafbaaDrawW
namespace Go.Proofs.Ytpjpdfannnafbaa.drawx
open Go.RowKit Go.Proofs.Ytpjpdfannnafbaa.cur Go.Proofs.Ytpjpdfannnafbaa.frm Go.Proofs.Ytpjpdfannnafbaa.ats Go.Proofs.Ytpjpdfannnafbaa.drawv

theorem results_cells2 {fn : Func} {p q : Tmp} {ty ty' : TypeId} (h : fn.results = #[.cell p ty, .cell q ty']) (tmps : Array Value) (P : Program) (w : World) :
    (results fn tmps).run P w =
      ((asAddr (tmps.getD p undef)).run P w).andThen fun a w₁ => ((loadVar ty a).run P w₁).andThen fun v w₂ => ((asAddr (tmps.getD q undef)).run P w₂).andThen fun b w₃ => ((loadVar ty' b).run P w₃).andThen fun u w₄ => .ok (.tuple #[v, u]) w₄ := by
  simp only [results, h]
  simp [Sem.run_bind, Result.andThen]
theorem AtS.other {T : TypeId} {cs : Array Value} {w W : World} {b b' : Nat} (h : AtS T cs w W b) (hb : w.heap.size ≤ b') (hne : b ≠ b') (i : Nat) (v : Value) : AtS T cs w (W.setCell ⟨b', i, none⟩ v) b :=
  ⟨h.1.setCell (p := ⟨b', i, none⟩) hb v, h.2.1, by have := h.2.2.1; simpa [World.setCell] using this, (Go.Deep.blk_setCell_other W ⟨b', i, none⟩ v b hne).trans h.2.2.2⟩
def Frame2 (w : World) (e : Ending) (w' : World) : Prop := ∃ K A D K' A' D', e = .returned (.tuple #[.agg #[.int .i64 K, .int .i64 A, .int .i64 D], .agg #[.int .i64 K', .int .i64 A', .int .i64 D']]) ∧ Near K A D ∧ Near K' A' D' ∧ Below w.heap.size w w'

set_option maxRecDepth 100000 in
set_option maxHeartbeats 4000000 in
theorem frameDistance (A : Option Addr) (n c : Nat) (w : World) (hn : n ≤ 65536) (h : Bytes w w.heap.size A n) :
    Calls Try.prog 12 #[.slice A n c] w (Frame2 w) := by
  have B0 := Lib.hid ((newS 25 #[.int .i64 0, .int .i64 0, .int .i64 0] w).alloc (.cells #[.int .i64 0, .int .i64 0, .int .i64 0] 25))
  have C0 := Lib.hid ((newS 25 #[.int .i64 0, .int .i64 0, .int .i64 0] w).next 25 #[.int .i64 0, .int .i64 0, .int .i64 0])
  have hsz : ((w.alloc (.cells #[.int .i64 0, .int .i64 0, .int .i64 0] 25)).alloc (.cells #[.int .i64 0, .int .i64 0, .int .i64 0] 25)).heap.size = w.heap.size + 2 := by rw [World.size_alloc, World.size_alloc]
  have hby : Bytes ((w.alloc (.cells #[.int .i64 0, .int .i64 0, .int .i64 0] 25)).alloc (.cells #[.int .i64 0, .int .i64 0, .int .i64 0] 25)) (w.heap.size + 2) A n := by
    intro h0
    obtain ⟨b, o, e, hb, hc⟩ := h h0
    exact ⟨b, o, e, by omega, fun j hj => by
      obtain ⟨x, hx⟩ := hc j hj
      exact ⟨x, ((World.cell?_alloc_lt _ _ ⟨b, o + j, none⟩ (by rw [World.size_alloc]; exact Nat.lt_succ_of_lt hb)).trans (World.cell?_alloc_lt w _ ⟨b, o + j, none⟩ hb)).trans hx.1, hx.2⟩⟩
  rw [World.size_alloc] at C0
  rw [← hsz] at hby
  have hc := Lib.hid (new_cur c (by omega) hby)
  have HSZ := Lib.hid hsz
  clear h hby hsz
  go_enter Try.func12, Try.ntmps12
  go_wp2_with fail
  generalize (w.alloc (.cells #[.int .i64 0, .int .i64 0, .int .i64 0] 25)).alloc (.cells #[.int .i64 0, .int .i64 0, .int .i64 0] 25) = W at *
  have hb0 : Below W.heap.size W (W.alloc (.cells #[.slice A n c, .int .i64 0, .int .u64 0] 63)) := (Below.refl _ _).alloc (Nat.le_refl _) _
  rw [← HSZ.out]
  refine (anyFrame _ 0 _ hc.out (by omega)).mono ?_
  rintro e w1 ⟨K, A1, D, rfl, hv, hc1, hg1⟩
  have hb1 := below_of_grown hb0 hg1
  have HC1 := Lib.hid hc1
  have HV := Lib.hid hv
  clear hv hc1 hg1 hc
  go_wp2_with fail
  refine (anyFrame _ _ _ HC1.out (by omega)).mono ?_
  rintro e w2 ⟨K', A2, D', rfl, hv, hc2, hg2⟩
  have B1 := Lib.hid (B0.out.old (below_of_grown hb1 hg2))
  have C1 := Lib.hid (C0.out.old (below_of_grown hb1 hg2))
  have HV2 := Lib.hid hv
  have c0 : w2.cell? ⟨w.heap.size, 0, none⟩ = some (.int .i64 0) := B1.out.cell 0
  have c1 : w2.cell? ⟨w.heap.size, 1, none⟩ = some (.int .i64 0) := B1.out.cell 1
  have c2 : w2.cell? ⟨w.heap.size, 2, none⟩ = some (.int .i64 0) := B1.out.cell 2
  have f0 : w2.frozen? ⟨w.heap.size, 0, none⟩ = false := B1.out.frozen 0
  have f1 : w2.frozen? ⟨w.heap.size, 1, none⟩ = false := B1.out.frozen 1
  have f2 : w2.frozen? ⟨w.heap.size, 2, none⟩ = false := B1.out.frozen 2
  have B4 := Lib.hid (((B1.out.set 0 (.int .i64 K)).set 1 (.int .i64 A1)).set 2 (.int .i64 D))
  have C4 := Lib.hid (AtS.other (AtS.other (AtS.other C1.out (b' := w.heap.size) (Nat.le_refl _) (by omega) 0 (.int .i64 K)) (b' := w.heap.size) (Nat.le_refl _) (by omega) 1 (.int .i64 A1)) (b' := w.heap.size) (Nat.le_refl _) (by omega) 2 (.int .i64 D))
  have q0 : (((w2.setCell ⟨w.heap.size, 0, none⟩ (.int .i64 K)).setCell ⟨w.heap.size, 1, none⟩ (.int .i64 A1)).setCell ⟨w.heap.size, 2, none⟩ (.int .i64 D)).cell? ⟨w.heap.size + 1, 0, none⟩ = some (.int .i64 0) := C4.out.cell 0
  have q1 : (((w2.setCell ⟨w.heap.size, 0, none⟩ (.int .i64 K)).setCell ⟨w.heap.size, 1, none⟩ (.int .i64 A1)).setCell ⟨w.heap.size, 2, none⟩ (.int .i64 D)).cell? ⟨w.heap.size + 1, 1, none⟩ = some (.int .i64 0) := C4.out.cell 1
  have q2 : (((w2.setCell ⟨w.heap.size, 0, none⟩ (.int .i64 K)).setCell ⟨w.heap.size, 1, none⟩ (.int .i64 A1)).setCell ⟨w.heap.size, 2, none⟩ (.int .i64 D)).cell? ⟨w.heap.size + 1, 2, none⟩ = some (.int .i64 0) := C4.out.cell 2
  have g0 : (((w2.setCell ⟨w.heap.size, 0, none⟩ (.int .i64 K)).setCell ⟨w.heap.size, 1, none⟩ (.int .i64 A1)).setCell ⟨w.heap.size, 2, none⟩ (.int .i64 D)).frozen? ⟨w.heap.size + 1, 0, none⟩ = false := C4.out.frozen 0
  have g1 : (((w2.setCell ⟨w.heap.size, 0, none⟩ (.int .i64 K)).setCell ⟨w.heap.size, 1, none⟩ (.int .i64 A1)).setCell ⟨w.heap.size, 2, none⟩ (.int .i64 D)).frozen? ⟨w.heap.size + 1, 1, none⟩ = false := C4.out.frozen 1
  have g2 : (((w2.setCell ⟨w.heap.size, 0, none⟩ (.int .i64 K)).setCell ⟨w.heap.size, 1, none⟩ (.int .i64 A1)).setCell ⟨w.heap.size, 2, none⟩ (.int .i64 D)).frozen? ⟨w.heap.size + 1, 2, none⟩ = false := C4.out.frozen 2
  have B5 := Lib.hid (AtS.other (AtS.other (AtS.other B4.out (b' := w.heap.size + 1) (by omega) (by omega) 0 (.int .i64 K')) (b' := w.heap.size + 1) (by omega) (by omega) 1 (.int .i64 A2)) (b' := w.heap.size + 1) (by omega) (by omega) 2 (.int .i64 D'))
  have C5 := Lib.hid (((C4.out.set 0 (.int .i64 K')).set 1 (.int .i64 A2)).set 2 (.int .i64 D'))
  clear hv hc2 hg2 hb1 hb0 HC1 B0 C0 B1 C1 B4 C4
  go_wp2_with fail
  have hl := B5.out.load Try.underlying25 rfl (by kernel_rfl)
  have hl2 := C5.out.load Try.underlying25 rfl (by kernel_rfl)
  refine bodyPost_ret (v := .tuple #[.agg #[.int .i64 K, .int .i64 A1, .int .i64 D], .agg #[.int .i64 K', .int .i64 A2, .int .i64 D']]) ?_ rfl ⟨_, _, _, _, _, _, rfl, HV.out, HV2.out, B5.out.1⟩
  rw [results_cells2 rfl]
  simp [asAddr, Result.andThen, hl, hl2]
end Go.Proofs.Ytpjpdfannnafbaa.drawx
