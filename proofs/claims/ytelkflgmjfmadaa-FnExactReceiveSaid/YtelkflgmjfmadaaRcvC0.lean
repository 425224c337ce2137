/- The laws' own toHeard. -/
import Derived.Test.YtelkflgmjfmadaaRcvM
import Derived.Test.YtelkflgmjfmadaaPosX
import Derived.BigQuiet
import Derived.Deep.QuietTactic
import Derived.Deep.CutRange
import Derived.Laws.MakeOwn
import Derived.Lib.QuietBelow
namespace Go.Proofs.Ytelkflgmjfmadaa.rcvc0
open Go.RowKit Go.Proofs.Ytelkflgmjfmadaa.rcv Go.Proofs.Ytelkflgmjfmadaa.rcvm Go.Proofs.Ytelkflgmjfmadaa.ats Go.Proofs.Ytelkflgmjfmadaa.lst

set_option maxRecDepth 100000 in
set_option maxHeartbeats 4000000 in
theorem toHeard (h : Hd) (w : World) :
    Calls Try.prog 114 #[.agg #[.int .i64 h.ad, .bool h.eo, .int .i64 h.ea, .int .i64 h.eb, .int .i64 h.et, .bool h.oo, .int .i64 h.oa, .int .i64 h.ob, .int .i64 h.ot, .int .i64 h.fr]] w fun e w' => e = .returned (.agg #[.int .i64 h.ad, .bool h.eo, .int .i64 h.ea, .int .i64 h.eb, .int .i64 h.et, .bool h.oo, .int .i64 h.oa, .int .i64 h.ob, .int .i64 h.ot, .int .i64 h.fr]) ∧ Below w.heap.size w w' := by
  have B0 := Lib.hid (((newS 141 #[.int .i64 h.ad, .bool h.eo, .int .i64 h.ea, .int .i64 h.eb, .int .i64 h.et, .bool h.oo, .int .i64 h.oa, .int .i64 h.ob, .int .i64 h.ot, .int .i64 h.fr] w).alloc (.cells #[.int .i64 0, .bool false, .int .i64 0, .int .i64 0, .int .i64 0, .bool false, .int .i64 0, .int .i64 0, .int .i64 0, .int .i64 0] 54)).alloc (.cells #[.int .i64 h.ad, .bool false, .int .i64 0, .int .i64 0, .int .i64 0, .bool false, .int .i64 0, .int .i64 0, .int .i64 0, .int .i64 0] 54))
  have C0 := Lib.hid (((newS 141 #[.int .i64 h.ad, .bool h.eo, .int .i64 h.ea, .int .i64 h.eb, .int .i64 h.et, .bool h.oo, .int .i64 h.oa, .int .i64 h.ob, .int .i64 h.ot, .int .i64 h.fr] w).next 54 #[.int .i64 0, .bool false, .int .i64 0, .int .i64 0, .int .i64 0, .bool false, .int .i64 0, .int .i64 0, .int .i64 0, .int .i64 0]).alloc (.cells #[.int .i64 h.ad, .bool false, .int .i64 0, .int .i64 0, .int .i64 0, .bool false, .int .i64 0, .int .i64 0, .int .i64 0, .int .i64 0] 54))
  have D0 := Lib.hid (((newS 141 #[.int .i64 h.ad, .bool h.eo, .int .i64 h.ea, .int .i64 h.eb, .int .i64 h.et, .bool h.oo, .int .i64 h.oa, .int .i64 h.ob, .int .i64 h.ot, .int .i64 h.fr] w).alloc (.cells #[.int .i64 0, .bool false, .int .i64 0, .int .i64 0, .int .i64 0, .bool false, .int .i64 0, .int .i64 0, .int .i64 0, .int .i64 0] 54)).next 54 #[.int .i64 h.ad, .bool false, .int .i64 0, .int .i64 0, .int .i64 0, .bool false, .int .i64 0, .int .i64 0, .int .i64 0, .int .i64 0])
  rw [World.size_alloc] at C0
  rw [World.size_alloc, World.size_alloc] at D0
  have LE := Lib.hid (show w.heap.size ≤ w.heap.size + 1 + 1 by omega)
  have NB := Lib.hid (show w.heap.size ≠ w.heap.size + 1 + 1 by omega)
  have NC := Lib.hid (show w.heap.size + 1 ≠ w.heap.size + 1 + 1 by omega)
  have X1 := Lib.hid (fun w => posx.toReport h.eo h.ea h.eb w)
  have X2 := Lib.hid (fun w => posx.toReport h.oo h.oa h.ob w)
  go_enter Try.func114, Try.ntmps114
  go_wp2_with fail
  refine (X1.out _).mono ?_
  rintro e V2 ⟨rfl, hb2⟩
  have B2 := Lib.hid (B0.out.old hb2)
  have C2 := Lib.hid (C0.out.old hb2)
  have D2 := Lib.hid (D0.out.old hb2)
  clear B0 C0 D0 hb2 X1
  have f1 : V2.cell? ⟨w.heap.size + 1 + 1, 1, none⟩ = some (.bool false) := D2.out.cell 1
  have f2 : V2.cell? ⟨w.heap.size + 1 + 1, 2, none⟩ = some (.int .i64 0) := D2.out.cell 2
  have f3 : V2.cell? ⟨w.heap.size + 1 + 1, 3, none⟩ = some (.int .i64 0) := D2.out.cell 3
  have f4 : V2.cell? ⟨w.heap.size + 1 + 1, 4, none⟩ = some (.int .i64 0) := D2.out.cell 4
  have g1 := D2.out.frozen 1
  have g2 := D2.out.frozen 2
  have g3 := D2.out.frozen 3
  have g4 := D2.out.frozen 4
  have c4 : V2.cell? ⟨w.heap.size, 4, none⟩ = some (.int .i64 h.et) := B2.out.cell 4
  have c5 : V2.cell? ⟨w.heap.size, 5, none⟩ = some (.bool h.oo) := B2.out.cell 5
  have c6 : V2.cell? ⟨w.heap.size, 6, none⟩ = some (.int .i64 h.oa) := B2.out.cell 6
  have c7 : V2.cell? ⟨w.heap.size, 7, none⟩ = some (.int .i64 h.ob) := B2.out.cell 7
  have D3 := Lib.hid (at_even D2.out (.bool h.eo) (.int .i64 h.ea) (.int .i64 h.eb) (.int .i64 h.et))
  have C3 := Lib.hid ((((C2.out.other (b' := w.heap.size + 1 + 1) LE.out NC.out 1 (.bool h.eo)).other (b' := w.heap.size + 1 + 1) LE.out NC.out 2 (.int .i64 h.ea)).other (b' := w.heap.size + 1 + 1) LE.out NC.out 3 (.int .i64 h.eb)).other (b' := w.heap.size + 1 + 1) LE.out NC.out 4 (.int .i64 h.et))
  have B3 := Lib.hid ((((B2.out.other (b' := w.heap.size + 1 + 1) LE.out NB.out 1 (.bool h.eo)).other (b' := w.heap.size + 1 + 1) LE.out NB.out 2 (.int .i64 h.ea)).other (b' := w.heap.size + 1 + 1) LE.out NB.out 3 (.int .i64 h.eb)).other (b' := w.heap.size + 1 + 1) LE.out NB.out 4 (.int .i64 h.et))
  clear B2 C2 D2
  go_wp2_with fail
  generalize (((V2.setCell ⟨w.heap.size + 1 + 1, 1, none⟩ (.bool h.eo)).setCell ⟨w.heap.size + 1 + 1, 2, none⟩ (.int .i64 h.ea)).setCell ⟨w.heap.size + 1 + 1, 3, none⟩ (.int .i64 h.eb)).setCell ⟨w.heap.size + 1 + 1, 4, none⟩ (.int .i64 h.et) = V3 at *
  clear f1 f2 f3 f4 g1 g2 g3 g4 c4 c5 c6 c7
  refine (X2.out _).mono ?_
  rintro e V4 ⟨rfl, hb4⟩
  have B4 := Lib.hid (B3.out.old hb4)
  have C4 := Lib.hid (C3.out.old hb4)
  have D4 := Lib.hid (D3.out.old hb4)
  clear B3 C3 D3 hb4 X2
  obtain ⟨f0, f1, f2, f3, f4, f5, f6, f7, f8, f9⟩ := ten D4.out
  obtain ⟨-, -, -, -, -, g5, g6, g7, g8, g9⟩ := tenF D4.out
  have c8 : V4.cell? ⟨w.heap.size, 8, none⟩ = some (.int .i64 h.ot) := B4.out.cell 8
  have c9 : V4.cell? ⟨w.heap.size, 9, none⟩ = some (.int .i64 h.fr) := B4.out.cell 9
  have C5 := Lib.hid (((((C4.out.other (b' := w.heap.size + 1 + 1) LE.out NC.out 5 (.bool h.oo)).other (b' := w.heap.size + 1 + 1) LE.out NC.out 6 (.int .i64 h.oa)).other (b' := w.heap.size + 1 + 1) LE.out NC.out 7 (.int .i64 h.ob)).other (b' := w.heap.size + 1 + 1) LE.out NC.out 8 (.int .i64 h.ot)).other (b' := w.heap.size + 1 + 1) LE.out NC.out 9 (.int .i64 h.fr))
  have D5 := Lib.hid (at_rest D4.out (.bool h.oo) (.int .i64 h.oa) (.int .i64 h.ob) (.int .i64 h.ot) (.int .i64 h.fr))
  clear B4 C4 D4
  go_upto_region 8 with fail
  generalize ((((V4.setCell ⟨w.heap.size + 1 + 1, 5, none⟩ (.bool h.oo)).setCell ⟨w.heap.size + 1 + 1, 6, none⟩ (.int .i64 h.oa)).setCell ⟨w.heap.size + 1 + 1, 7, none⟩ (.int .i64 h.ob)).setCell ⟨w.heap.size + 1 + 1, 8, none⟩ (.int .i64 h.ot)).setCell ⟨w.heap.size + 1 + 1, 9, none⟩ (.int .i64 h.fr) = V5 at *
  clear f0 f1 f2 f3 f4 f5 f6 f7 f8 f9 g5 g6 g7 g8 g9 c8 c9
  obtain ⟨c0, c1, c2, c3, c4, c5, c6, c7, c8, c9⟩ := ten D5.out
  obtain ⟨f0, f1, f2, f3, f4, f5, f6, f7, f8, f9⟩ := ten C5.out
  obtain ⟨g0, g1, g2, g3, g4, g5, g6, g7, g8, g9⟩ := tenF C5.out
  have HE := Lib.hid (at_all C5.out (.int .i64 h.ad) (.bool h.eo) (.int .i64 h.ea) (.int .i64 h.eb) (.int .i64 h.et) (.bool h.oo) (.int .i64 h.oa) (.int .i64 h.ob) (.int .i64 h.ot) (.int .i64 h.fr))
  clear C5 D5
  go_wp2_with fail
  have hl := HE.out.load Try.underlying54 rfl (by kernel_rfl)
  refine bodyPost_ret (v := .agg #[.int .i64 h.ad, .bool h.eo, .int .i64 h.ea, .int .i64 h.eb, .int .i64 h.et, .bool h.oo, .int .i64 h.oa, .int .i64 h.ob, .int .i64 h.ot, .int .i64 h.fr]) ?_ rfl ⟨rfl, HE.out.1⟩
  rw [results_cell1 rfl]
  simp [asAddr, Result.andThen, hl]

end Go.Proofs.Ytelkflgmjfmadaa.rcvc0
