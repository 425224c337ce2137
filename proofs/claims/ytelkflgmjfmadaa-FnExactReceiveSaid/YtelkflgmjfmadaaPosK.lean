/- impl's ReportOf, PackReport, UnpackReport. -/
import Derived.Test.YtelkflgmjfmadaaPosJ
namespace Go.Proofs.Ytelkflgmjfmadaa.posk
open Go.RowKit Go.Proofs.Ytelkflgmjfmadaa.pos Go.Proofs.Ytelkflgmjfmadaa.in_ Go.Proofs.Ytelkflgmjfmadaa.posi Go.Proofs.Ytelkflgmjfmadaa.posj Go.Proofs.Ytelkflgmjfmadaa.ats

theorem ro_no {x y : Int} {o : Bool} (h : pB x y = false) : (Value.tuple #[.agg #[.bool false, .int .i64 0, .int .i64 0], .bool false]) = .tuple #[.agg #[.bool (roO x y o), .int .i64 (roV x y x o), .int .i64 (roV x y y o)], .bool (pB x y)] := by unfold roO roV; rw [h]; rfl
theorem ro_yes {x y : Int} {o : Bool} (h : pB x y = true) : (Value.tuple #[.agg #[.bool o, .int .i64 (x % sz o), .int .i64 (y % sz o)], .bool true]) = .tuple #[.agg #[.bool (roO x y o), .int .i64 (roV x y x o), .int .i64 (roV x y y o)], .bool (pB x y)] := by unfold roO roV; rw [h]; rfl

set_option maxRecDepth 100000 in
theorem reportOf (x y : Int) (o : Bool) (w : World) :
    Calls Try.prog 9 #[.agg #[.int .i64 x, .int .i64 y], .bool o] w
      fun e w' => e = .returned (.tuple #[.agg #[.bool (roO x y o), .int .i64 (roV x y x o), .int .i64 (roV x y y o)], .bool (pB x y)]) ∧ Below w.heap.size w w' := by
  have hv := fun w => isValidPlace x y w
  have S := Lib.hid (fun w => posi.sizeOf o w)
  have B0 := Lib.hid ((newS 25 #[.int .i64 x, .int .i64 y] w).alloc (.cells #[.bool false, .int .i64 0, .int .i64 0] 29))
  have C0 := Lib.hid ((newS 25 #[.int .i64 x, .int .i64 y] w).next 29 #[.bool false, .int .i64 0, .int .i64 0])
  rw [World.size_alloc] at C0
  cases hb : pB x y
  · have HN := Lib.hid (ro_no (o := o) hb)
    rw [hb] at hv HN
    have HV := Lib.hid hv
    clear hv hb
    go_enter Try.func9, Try.ntmps9
    go_wp2_with fail
    generalize (w.alloc (.cells #[.int .i64 x, .int .i64 y] 25)).alloc (.cells #[.bool false, .int .i64 0, .int .i64 0] 29) = W at *
    refine (HV.out _).mono ?_
    rintro e w1 ⟨rfl, hb1⟩
    have C1 := Lib.hid (C0.out.old hb1)
    have c0 : w1.cell? ⟨w.heap.size + 1, 0, none⟩ = some (.bool false) := C1.out.cell 0
    have c1 : w1.cell? ⟨w.heap.size + 1, 1, none⟩ = some (.int .i64 0) := C1.out.cell 1
    have c2 : w1.cell? ⟨w.heap.size + 1, 2, none⟩ = some (.int .i64 0) := C1.out.cell 2
    have f0 := C1.out.frozen 0
    have f1 := C1.out.frozen 1
    have f2 := C1.out.frozen 2
    have HE := Lib.hid (((C1.out.set 0 (.bool false)).set 1 (.int .i64 0)).set 2 (.int .i64 0))
    clear hb1
    go_wp2_with fail
    have hl := HE.out.load Try.underlying29 rfl (by kernel_rfl)
    refine bodyPost_ret (v := .tuple #[.agg #[.bool false, .int .i64 0, .int .i64 0], .bool false]) ?_ rfl ⟨by rw [HN.out], HE.out.1⟩
    rw [results_cell_tmp rfl]
    simp [asAddr, Result.andThen, hl]
  · have HN := Lib.hid (ro_yes (o := o) hb)
    obtain ⟨⟨x0, x1⟩, y0, y1⟩ := pB_yes hb
    rw [hb] at hv HN
    have HV := Lib.hid hv
    have hs := sz_pos o
    clear hv hb
    generalize sz o = s at *
    go_enter Try.func9, Try.ntmps9
    go_wp2_with fail
    generalize (w.alloc (.cells #[.int .i64 x, .int .i64 y] 25)).alloc (.cells #[.bool false, .int .i64 0, .int .i64 0] 29) = W at *
    refine (HV.out _).mono ?_
    rintro e w1 ⟨rfl, hb1⟩
    have C1 := Lib.hid (C0.out.old hb1)
    have B1 := Lib.hid (B0.out.old hb1)
    clear hb1
    go_wp2_with fail
    refine (S.out _).mono ?_
    rintro e w2 ⟨rfl, rfl⟩
    have p0 : w1.cell? ⟨w.heap.size, 0, none⟩ = some (.int .i64 x) := B1.out.cell 0
    have p1 : w1.cell? ⟨w.heap.size, 1, none⟩ = some (.int .i64 y) := B1.out.cell 1
    have c0 : w1.cell? ⟨w.heap.size + 1, 0, none⟩ = some (.bool false) := C1.out.cell 0
    have c1 : w1.cell? ⟨w.heap.size + 1, 1, none⟩ = some (.int .i64 0) := C1.out.cell 1
    have c2 : w1.cell? ⟨w.heap.size + 1, 2, none⟩ = some (.int .i64 0) := C1.out.cell 2
    have f0 := C1.out.frozen 0
    have f1 := C1.out.frozen 1
    have f2 := C1.out.frozen 2
    have HE := Lib.hid (((C1.out.set 0 (.bool o)).set 1 (.int .i64 (x % s))).set 2 (.int .i64 (y % s))).drew
    go_wp2_with fail
    go_region
    go_wp2_with fail
    have hl := HE.out.load Try.underlying29 rfl (by kernel_rfl)
    refine bodyPost_ret (v := .tuple #[.agg #[.bool o, .int .i64 (x % s), .int .i64 (y % s)], .bool true]) ?_ rfl ⟨by rw [HN.out], HE.out.1⟩
    rw [results_cell_tmp rfl]
    simp [asAddr, Result.andThen, hl]
end Go.Proofs.Ytelkflgmjfmadaa.posk
