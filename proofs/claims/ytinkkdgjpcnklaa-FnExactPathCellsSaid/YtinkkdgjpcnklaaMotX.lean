/- The laws' own helper toMotion. -/
import Derived.Test.YtinkkdgjpcnklaaPosX
import Derived.Test.YtinkkdgjpcnklaaVelX
import Derived.Deep.CutRange
namespace Go.Proofs.Ytinkkdgjpcnklaa.motx
open Go.RowKit Go.Proofs.Ytinkkdgjpcnklaa.ats

set_option maxRecDepth 100000 in
set_option maxHeartbeats 2000000 in
theorem toMotion (x y u v h c : Int) (w : World) :
    Calls Try.prog 41 #[.agg #[.int .i64 x, .int .i64 y, .int .i64 u, .int .i64 v, .int .i64 h, .int .i64 c]] w fun e w' => e = .returned (.agg #[.int .i64 x, .int .i64 y, .int .i64 u, .int .i64 v, .int .i64 h, .int .i64 c]) ∧ Below w.heap.size w w' := by
  have A0 := Lib.hid (((newS 51 #[.int .i64 x, .int .i64 y, .int .i64 u, .int .i64 v, .int .i64 h, .int .i64 c] w).alloc (.cells #[.int .i64 0, .int .i64 0, .int .i64 0, .int .i64 0, .int .i64 0, .int .i64 0] 28)).alloc (.cells #[.int .i64 0, .int .i64 0, .int .i64 0, .int .i64 0, .int .i64 0, .int .i64 0] 28))
  have C0 := Lib.hid (((newS 51 #[.int .i64 x, .int .i64 y, .int .i64 u, .int .i64 v, .int .i64 h, .int .i64 c] w).next 28 #[.int .i64 0, .int .i64 0, .int .i64 0, .int .i64 0, .int .i64 0, .int .i64 0]).alloc (.cells #[.int .i64 0, .int .i64 0, .int .i64 0, .int .i64 0, .int .i64 0, .int .i64 0] 28))
  have D0 := Lib.hid (((newS 51 #[.int .i64 x, .int .i64 y, .int .i64 u, .int .i64 v, .int .i64 h, .int .i64 c] w).alloc (.cells #[.int .i64 0, .int .i64 0, .int .i64 0, .int .i64 0, .int .i64 0, .int .i64 0] 28)).next 28 #[.int .i64 0, .int .i64 0, .int .i64 0, .int .i64 0, .int .i64 0, .int .i64 0])
  rw [World.size_alloc] at C0
  rw [World.size_alloc, World.size_alloc] at D0
  have LE := Lib.hid (show w.heap.size ≤ w.heap.size + 1 + 1 by omega)
  have NA := Lib.hid (show w.heap.size ≠ w.heap.size + 1 + 1 by omega)
  have NC := Lib.hid (show w.heap.size + 1 ≠ w.heap.size + 1 + 1 by omega)
  have X1 := Lib.hid (fun w => posx.toPlace x y w)
  have X2 := Lib.hid (fun w => velx.toVelocity u v w)
  go_enter Try.func41, Try.ntmps41
  go_wp2_with fail
  refine (X1.out _).mono ?_
  rintro e V2 ⟨rfl, hb2⟩
  have A2 := Lib.hid (A0.out.old hb2)
  have C2 := Lib.hid (C0.out.old hb2)
  have D2 := Lib.hid (D0.out.old hb2)
  clear A0 C0 D0 hb2 X1
  have f0 : V2.cell? ⟨w.heap.size + 1 + 1, 0, none⟩ = some (.int .i64 0) := D2.out.cell 0
  have g0 := D2.out.frozen 0
  have f1 : V2.cell? ⟨w.heap.size + 1 + 1, 1, none⟩ = some (.int .i64 0) := D2.out.cell 1
  have g1 := D2.out.frozen 1
  have D3 := Lib.hid ((D2.out.set 0 (.int .i64 x)).set 1 (.int .i64 y))
  have A3 := Lib.hid ((A2.out.other (b' := w.heap.size + 1 + 1) LE.out NA.out 0 (.int .i64 x)).other (b' := w.heap.size + 1 + 1) LE.out NA.out 1 (.int .i64 y))
  have C3 := Lib.hid ((C2.out.other (b' := w.heap.size + 1 + 1) LE.out NC.out 0 (.int .i64 x)).other (b' := w.heap.size + 1 + 1) LE.out NC.out 1 (.int .i64 y))
  clear A2 C2 D2
  go_upto_region 3 with fail
  generalize ((V2.setCell ⟨w.heap.size + 1 + 1, 0, none⟩ (.int .i64 x))).setCell ⟨w.heap.size + 1 + 1, 1, none⟩ (.int .i64 y) = V3 at *
  clear f0 f1 g0 g1
  have l2 : V3.cell? ⟨w.heap.size, 2, none⟩ = some (.int .i64 u) := A3.out.cell 2
  have l3 : V3.cell? ⟨w.heap.size, 3, none⟩ = some (.int .i64 v) := A3.out.cell 3
  go_wp2_with fail
  refine (X2.out _).mono ?_
  rintro e V4 ⟨rfl, hb4⟩
  have A4 := Lib.hid (A3.out.old hb4)
  have C4 := Lib.hid (C3.out.old hb4)
  have D4 := Lib.hid (D3.out.old hb4)
  clear A3 C3 D3 hb4 X2 l2 l3
  have f2 : V4.cell? ⟨w.heap.size + 1 + 1, 2, none⟩ = some (.int .i64 0) := D4.out.cell 2
  have g2 := D4.out.frozen 2
  have f3 : V4.cell? ⟨w.heap.size + 1 + 1, 3, none⟩ = some (.int .i64 0) := D4.out.cell 3
  have g3 := D4.out.frozen 3
  have D5 := Lib.hid ((D4.out.set 2 (.int .i64 u)).set 3 (.int .i64 v))
  have A5 := Lib.hid ((A4.out.other (b' := w.heap.size + 1 + 1) LE.out NA.out 2 (.int .i64 u)).other (b' := w.heap.size + 1 + 1) LE.out NA.out 3 (.int .i64 v))
  have C5 := Lib.hid ((C4.out.other (b' := w.heap.size + 1 + 1) LE.out NC.out 2 (.int .i64 u)).other (b' := w.heap.size + 1 + 1) LE.out NC.out 3 (.int .i64 v))
  clear A4 C4 D4
  go_upto_region 4 with fail
  generalize ((V4.setCell ⟨w.heap.size + 1 + 1, 2, none⟩ (.int .i64 u))).setCell ⟨w.heap.size + 1 + 1, 3, none⟩ (.int .i64 v) = V5 at *
  clear f2 f3 g2 g3
  have l4 : V5.cell? ⟨w.heap.size, 4, none⟩ = some (.int .i64 h) := A5.out.cell 4
  have f4 : V5.cell? ⟨w.heap.size + 1 + 1, 4, none⟩ = some (.int .i64 0) := D5.out.cell 4
  have g4 := D5.out.frozen 4
  have D6 := Lib.hid (D5.out.set 4 (.int .i64 h))
  have A6 := Lib.hid (A5.out.other (b' := w.heap.size + 1 + 1) LE.out NA.out 4 (.int .i64 h))
  have C6 := Lib.hid (C5.out.other (b' := w.heap.size + 1 + 1) LE.out NC.out 4 (.int .i64 h))
  clear A5 C5 D5
  go_upto_region 5 with fail
  generalize V5.setCell ⟨w.heap.size + 1 + 1, 4, none⟩ (.int .i64 h) = V6 at *
  clear f4 g4 l4
  have l5 : V6.cell? ⟨w.heap.size, 5, none⟩ = some (.int .i64 c) := A6.out.cell 5
  have f5 : V6.cell? ⟨w.heap.size + 1 + 1, 5, none⟩ = some (.int .i64 0) := D6.out.cell 5
  have g5 := D6.out.frozen 5
  have D7 := Lib.hid (D6.out.set 5 (.int .i64 c))
  have A7 := Lib.hid (A6.out.other (b' := w.heap.size + 1 + 1) LE.out NA.out 5 (.int .i64 c))
  have C7 := Lib.hid (C6.out.other (b' := w.heap.size + 1 + 1) LE.out NC.out 5 (.int .i64 c))
  clear A6 C6 D6
  go_upto_region 6 with fail
  generalize V6.setCell ⟨w.heap.size + 1 + 1, 5, none⟩ (.int .i64 c) = V7 at *
  clear f5 g5 l5
  have d0 : V7.cell? ⟨w.heap.size + 1 + 1, 0, none⟩ = some (.int .i64 x) := D7.out.cell 0
  have c0 : V7.cell? ⟨w.heap.size + 1, 0, none⟩ = some (.int .i64 0) := C7.out.cell 0
  have r0 := C7.out.frozen 0
  have d1 : V7.cell? ⟨w.heap.size + 1 + 1, 1, none⟩ = some (.int .i64 y) := D7.out.cell 1
  have c1 : V7.cell? ⟨w.heap.size + 1, 1, none⟩ = some (.int .i64 0) := C7.out.cell 1
  have r1 := C7.out.frozen 1
  have d2 : V7.cell? ⟨w.heap.size + 1 + 1, 2, none⟩ = some (.int .i64 u) := D7.out.cell 2
  have c2 : V7.cell? ⟨w.heap.size + 1, 2, none⟩ = some (.int .i64 0) := C7.out.cell 2
  have r2 := C7.out.frozen 2
  have d3 : V7.cell? ⟨w.heap.size + 1 + 1, 3, none⟩ = some (.int .i64 v) := D7.out.cell 3
  have c3 : V7.cell? ⟨w.heap.size + 1, 3, none⟩ = some (.int .i64 0) := C7.out.cell 3
  have r3 := C7.out.frozen 3
  have d4 : V7.cell? ⟨w.heap.size + 1 + 1, 4, none⟩ = some (.int .i64 h) := D7.out.cell 4
  have c4 : V7.cell? ⟨w.heap.size + 1, 4, none⟩ = some (.int .i64 0) := C7.out.cell 4
  have r4 := C7.out.frozen 4
  have d5 : V7.cell? ⟨w.heap.size + 1 + 1, 5, none⟩ = some (.int .i64 c) := D7.out.cell 5
  have c5 : V7.cell? ⟨w.heap.size + 1, 5, none⟩ = some (.int .i64 0) := C7.out.cell 5
  have r5 := C7.out.frozen 5
  have HE := Lib.hid ((((((C7.out.set 0 (.int .i64 x)).set 1 (.int .i64 y)).set 2 (.int .i64 u)).set 3 (.int .i64 v)).set 4 (.int .i64 h)).set 5 (.int .i64 c))
  clear C7 D7 A7
  go_wp2_with fail
  have hl := HE.out.load Try.underlying28 rfl (by kernel_rfl)
  refine bodyPost_ret (v := .agg #[.int .i64 x, .int .i64 y, .int .i64 u, .int .i64 v, .int .i64 h, .int .i64 c]) ?_ rfl ⟨rfl, HE.out.1⟩
  rw [results_cell1 rfl]
  simp [asAddr, Result.andThen, hl]
end Go.Proofs.Ytinkkdgjpcnklaa.motx
