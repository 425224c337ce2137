/- impl's DecodePair. -/
import Derived.Test.YtelkflgmjfmadaaPosJ
import Derived.Deep.RegionHeld3
import Derived.Deep.CutRange
namespace Go.Proofs.Ytelkflgmjfmadaa.posm
open Go.RowKit Go.Proofs.Ytelkflgmjfmadaa.pos Go.Proofs.Ytelkflgmjfmadaa.in_ Go.Proofs.Ytelkflgmjfmadaa.posi Go.Proofs.Ytelkflgmjfmadaa.posj Go.Proofs.Ytelkflgmjfmadaa.ats

theorem flip {f : FuncId} {args : Array Value} {v : Value} {w : World} (h : Calls Try.prog f args w (fun e w' => e = .returned v ∧ w = w')) : Calls Try.prog f args w (fun e w' => e = .returned v ∧ w' = w) := h.mono fun _ _ h => ⟨h.1, h.2.symm⟩
theorem reports_new (o1 : Bool) (a1 b1 : Int) (o2 : Bool) (a2 b2 : Int) (W : World) (b : Nat) (hb : W.heap.size = b) :
    Calls Try.prog 50 #[.func (.func 51) #[] #[], .slice (some ⟨b, 0, none⟩) 2 2] (W.alloc (.cells #[.bool o1, .int .i64 a1, .int .i64 b1, .bool o2, .int .i64 a2, .int .i64 b2] 29))
      fun e w' => e = .returned (.bool (rB o1 a1 b1 && rB o2 a2 b2)) ∧ Below W.heap.size W w' := by
  subst hb
  have A := newS 29 #[.bool o1, .int .i64 a1, .int .i64 b1, .bool o2, .int .i64 a2, .int .i64 b2] W
  exact (areAllReport o1 a1 b1 o2 a2 b2 _ _ A.2.2.1 (A.cell 0) (A.cell 1) (A.cell 2) (A.cell 3) (A.cell 4) (A.cell 5)).mono fun _ _ ⟨h, hb⟩ => ⟨h, A.1.trans (hb.mono A.1.size)⟩
theorem dp_no {o1 : Bool} {a1 b1 : Int} {o2 : Bool} {a2 b2 : Int} (h : dpB o1 a1 b1 o2 a2 b2 = false) : (Value.tuple #[.agg #[.int .i64 0, .int .i64 0], .bool false]) = .tuple #[.agg #[.int .i64 (dpV o1 a1 b1 o2 a2 b2 a1 a2), .int .i64 (dpV o1 a1 b1 o2 a2 b2 b1 b2)], .bool (dpB o1 a1 b1 o2 a2 b2)] := by unfold dpV; rw [h]; rfl
theorem dp_yes {o1 : Bool} {a1 b1 : Int} {o2 : Bool} {a2 b2 : Int} (h : dpB o1 a1 b1 o2 a2 b2 = true) : (Value.tuple #[.agg #[.int .i64 (both a1 a2), .int .i64 (both b1 b2)], .bool true]) = .tuple #[.agg #[.int .i64 (dpV o1 a1 b1 o2 a2 b2 a1 a2), .int .i64 (dpV o1 a1 b1 o2 a2 b2 b1 b2)], .bool (dpB o1 a1 b1 o2 a2 b2)] := by unfold dpV; rw [h]; rfl

set_option maxRecDepth 100000 in
set_option maxHeartbeats 2000000 in
theorem decodePair (o1 : Bool) (a1 b1 : Int) (o2 : Bool) (a2 b2 : Int) (w : World) :
    Calls Try.prog 12 #[.agg #[.bool o1, .int .i64 a1, .int .i64 b1], .agg #[.bool o2, .int .i64 a2, .int .i64 b2]] w
      fun e w' => e = .returned (.tuple #[.agg #[.int .i64 (dpV o1 a1 b1 o2 a2 b2 a1 a2), .int .i64 (dpV o1 a1 b1 o2 a2 b2 b1 b2)], .bool (dpB o1 a1 b1 o2 a2 b2)]) ∧ Below w.heap.size w w' := by
  have hv := fun (W : World) (b : Nat) (hb : W.heap.size = b) => reports_new o1 a1 b1 o2 a2 b2 W b hb
  have A0 := Lib.hid (((newS 29 #[.bool o1, .int .i64 a1, .int .i64 b1] w).alloc (.cells #[.bool o2, .int .i64 a2, .int .i64 b2] 29)).alloc (.cells #[.int .i64 0, .int .i64 0] 25))
  have B0 := Lib.hid (((newS 29 #[.bool o1, .int .i64 a1, .int .i64 b1] w).next 29 #[.bool o2, .int .i64 a2, .int .i64 b2]).alloc (.cells #[.int .i64 0, .int .i64 0] 25))
  have C0 := Lib.hid (((newS 29 #[.bool o1, .int .i64 a1, .int .i64 b1] w).alloc (.cells #[.bool o2, .int .i64 a2, .int .i64 b2] 29)).next 25 #[.int .i64 0, .int .i64 0])
  rw [World.size_alloc] at B0
  rw [World.size_alloc, World.size_alloc] at C0
  have HZ := Lib.hid (show (((w.alloc (.cells #[.bool o1, .int .i64 a1, .int .i64 b1] 29)).alloc (.cells #[.bool o2, .int .i64 a2, .int .i64 b2] 29)).alloc (.cells #[.int .i64 0, .int .i64 0] 25)).heap.size = w.heap.size + 1 + 1 + 1 by rw [World.size_alloc, World.size_alloc, World.size_alloc])
  have HB := Lib.hid (show dpB o1 a1 b1 o2 a2 b2 = ((rB o1 a1 b1 && rB o2 a2 b2) && !o1 && o2) from rfl)
  have HN := Lib.hid (fun h => dp_no (o1 := o1) (a1 := a1) (b1 := b1) (o2 := o2) (a2 := a2) (b2 := b2) h)
  have HY := Lib.hid (fun h => dp_yes (o1 := o1) (a1 := a1) (b1 := b1) (o2 := o2) (a2 := a2) (b2 := b2) h)
  cases hq : (rB o1 a1 b1 && rB o2 a2 b2)
  · have HQ := Lib.hid hq
    rw [hq] at hv
    have HV := Lib.hid hv
    clear hv hq
    have HR := Lib.hid (HN.out (by rw [HB.out, HQ.out]; simp))
    go_enter Try.func12, Try.ntmps12
    go_wp2_with fail
    generalize ((w.alloc (.cells #[.bool o1, .int .i64 a1, .int .i64 b1] 29)).alloc (.cells #[.bool o2, .int .i64 a2, .int .i64 b2] 29)).alloc (.cells #[.int .i64 0, .int .i64 0] 25) = W at *
    refine (HV.out W _ HZ.out).mono ?_
    rintro e w1 ⟨rfl, hb1⟩
    have A1 := Lib.hid (A0.out.old hb1)
    have B1 := Lib.hid (B0.out.old hb1)
    have C1 := Lib.hid (C0.out.old hb1)
    have a_0 : w1.cell? ⟨w.heap.size, 0, none⟩ = some (.bool o1) := A1.out.cell 0
    have b_0 : w1.cell? ⟨w.heap.size + 1, 0, none⟩ = some (.bool o2) := B1.out.cell 0
    have c_0 : w1.cell? ⟨w.heap.size + 1 + 1, 0, none⟩ = some (.int .i64 0) := C1.out.cell 0
    have c_1 : w1.cell? ⟨w.heap.size + 1 + 1, 1, none⟩ = some (.int .i64 0) := C1.out.cell 1
    have f_0 : w1.frozen? ⟨w.heap.size + 1 + 1, 0, none⟩ = false := C1.out.frozen 0
    have f_1 : w1.frozen? ⟨w.heap.size + 1 + 1, 1, none⟩ = false := C1.out.frozen 1
    clear hb1 A0 B0 C0
    have HE := Lib.hid ((C1.out.set 0 (.int .i64 0)).set 1 (.int .i64 0))
    go_wp2_with fail
    have hl := HE.out.load Try.underlying25 rfl (by kernel_rfl)
    refine bodyPost_ret (v := .tuple #[.agg #[.int .i64 0, .int .i64 0], .bool false]) ?_ rfl ⟨by rw [HR.out], HE.out.1⟩
    rw [results_cell_tmp rfl]
    simp [asAddr, Result.andThen, hl]
  · have HQ := Lib.hid hq
    rw [hq] at hv
    have HV := Lib.hid hv
    clear hv hq
    cases o1
    · cases o2
      · have HR := Lib.hid (HN.out (by rw [HB.out, HQ.out]; simp))
        go_enter Try.func12, Try.ntmps12
        go_wp2_with fail
        generalize ((w.alloc (.cells #[.bool false, .int .i64 a1, .int .i64 b1] 29)).alloc (.cells #[.bool false, .int .i64 a2, .int .i64 b2] 29)).alloc (.cells #[.int .i64 0, .int .i64 0] 25) = W at *
        refine (HV.out W _ HZ.out).mono ?_
        rintro e w1 ⟨rfl, hb1⟩
        have A1 := Lib.hid (A0.out.old hb1)
        have B1 := Lib.hid (B0.out.old hb1)
        have C1 := Lib.hid (C0.out.old hb1)
        have a_0 : w1.cell? ⟨w.heap.size, 0, none⟩ = some (.bool false) := A1.out.cell 0
        have b_0 : w1.cell? ⟨w.heap.size + 1, 0, none⟩ = some (.bool false) := B1.out.cell 0
        have c_0 : w1.cell? ⟨w.heap.size + 1 + 1, 0, none⟩ = some (.int .i64 0) := C1.out.cell 0
        have c_1 : w1.cell? ⟨w.heap.size + 1 + 1, 1, none⟩ = some (.int .i64 0) := C1.out.cell 1
        have f_0 : w1.frozen? ⟨w.heap.size + 1 + 1, 0, none⟩ = false := C1.out.frozen 0
        have f_1 : w1.frozen? ⟨w.heap.size + 1 + 1, 1, none⟩ = false := C1.out.frozen 1
        clear hb1 A0 B0 C0
        have HE := Lib.hid ((C1.out.set 0 (.int .i64 0)).set 1 (.int .i64 0))
        go_wp2_with fail
        have hl := HE.out.load Try.underlying25 rfl (by kernel_rfl)
        refine bodyPost_ret (v := .tuple #[.agg #[.int .i64 0, .int .i64 0], .bool false]) ?_ rfl ⟨by rw [HR.out], HE.out.1⟩
        rw [results_cell_tmp rfl]
        simp [asAddr, Result.andThen, hl]
      · have HR := Lib.hid (HY.out (by rw [HB.out, HQ.out]; rfl))
        have hq := HQ.out
        rw [Bool.and_eq_true] at hq
        obtain ⟨⟨a1l, a1h⟩, b1l, b1h⟩ := rB_yes hq.1
        obtain ⟨⟨a2l, a2h⟩, b2l, b2h⟩ := rB_yes hq.2
        have F1 := Lib.hid (fun w => flip (coordinateOf a1 a2 ⟨a1l, a1h⟩ ⟨a2l, a2h⟩ w))
        have F2 := Lib.hid (fun w => flip (coordinateOf b1 b2 ⟨b1l, b1h⟩ ⟨b2l, b2h⟩ w))
        clear a1l a1h b1l b1h a2l a2h b2l b2h hq HQ HB HN HY
        generalize both a1 a2 = X at *
        generalize both b1 b2 = Y at *
        go_enter Try.func12, Try.ntmps12
        go_wp2_with fail
        generalize ((w.alloc (.cells #[.bool false, .int .i64 a1, .int .i64 b1] 29)).alloc (.cells #[.bool true, .int .i64 a2, .int .i64 b2] 29)).alloc (.cells #[.int .i64 0, .int .i64 0] 25) = W at *
        refine (HV.out W _ HZ.out).mono ?_
        rintro e w1 ⟨rfl, hb1⟩
        have A1 := Lib.hid (A0.out.old hb1)
        have B1 := Lib.hid (B0.out.old hb1)
        have C1 := Lib.hid (C0.out.old hb1)
        have a_0 : w1.cell? ⟨w.heap.size, 0, none⟩ = some (.bool false) := A1.out.cell 0
        have b_0 : w1.cell? ⟨w.heap.size + 1, 0, none⟩ = some (.bool true) := B1.out.cell 0
        have c_0 : w1.cell? ⟨w.heap.size + 1 + 1, 0, none⟩ = some (.int .i64 0) := C1.out.cell 0
        have c_1 : w1.cell? ⟨w.heap.size + 1 + 1, 1, none⟩ = some (.int .i64 0) := C1.out.cell 1
        have f_0 : w1.frozen? ⟨w.heap.size + 1 + 1, 0, none⟩ = false := C1.out.frozen 0
        have f_1 : w1.frozen? ⟨w.heap.size + 1 + 1, 1, none⟩ = false := C1.out.frozen 1
        clear hb1 A0 B0 C0
        have a_1 : w1.cell? ⟨w.heap.size, 1, none⟩ = some (.int .i64 a1) := A1.out.cell 1
        have a_2 : w1.cell? ⟨w.heap.size, 2, none⟩ = some (.int .i64 b1) := A1.out.cell 2
        have b_1 : w1.cell? ⟨w.heap.size + 1, 1, none⟩ = some (.int .i64 a2) := B1.out.cell 1
        have b_2 : w1.cell? ⟨w.heap.size + 1, 2, none⟩ = some (.int .i64 b2) := B1.out.cell 2
        have HE := Lib.hid (((C1.out.set 0 (.int .i64 X)).set 1 (.int .i64 Y)).drew)
        have A2 := ((A1.out.drew.other (b' := w.heap.size + 1 + 1) (by omega) (by omega) 0 (.int .i64 X)).other (b' := w.heap.size + 1 + 1) (by omega) (by omega) 1 (.int .i64 Y))
        have B2 := ((B1.out.drew.other (b' := w.heap.size + 1 + 1) (by omega) (by omega) 0 (.int .i64 X)).other (b' := w.heap.size + 1 + 1) (by omega) (by omega) 1 (.int .i64 Y))
        have K2 := Lib.hid (And.intro (A2.cell 1) (And.intro (A2.cell 2) (And.intro (B2.cell 1) (B2.cell 2))))
        clear A1 B1 C1 A2 B2
        go_upto_region 3 with fail
        go_region_held3 (fun w' => w'.cell? ⟨w.heap.size, 1, none⟩ = some (.int .i64 a1) ∧ w'.cell? ⟨w.heap.size, 2, none⟩ = some (.int .i64 b1) ∧ w'.cell? ⟨w.heap.size + 1, 1, none⟩ = some (.int .i64 a2) ∧ w'.cell? ⟨w.heap.size + 1, 2, none⟩ = some (.int .i64 b2)) (first
          | exact ⟨a_1, a_2, b_1, b_2⟩
          | exact K2.out
          | go_keep) (first
          | (go_at_call 52; (with_reducible refine (F1.out _).mono ?_); rintro e w' ⟨rfl, rfl⟩)
          | (go_at_call 52; (with_reducible refine (F2.out _).mono ?_); rintro e w' ⟨rfl, rfl⟩))
        all_goals
          go_wp2_with fail
          have hl := HE.out.load Try.underlying25 rfl (by kernel_rfl)
          refine bodyPost_ret (v := .tuple #[.agg #[.int .i64 X, .int .i64 Y], .bool true]) ?_ rfl ⟨by rw [HR.out], HE.out.1⟩
          rw [results_cell_tmp rfl]
          simp [asAddr, Result.andThen, hl]
    · have HR := Lib.hid (HN.out (by rw [HB.out, HQ.out]; simp))
      go_enter Try.func12, Try.ntmps12
      go_wp2_with fail
      generalize ((w.alloc (.cells #[.bool true, .int .i64 a1, .int .i64 b1] 29)).alloc (.cells #[.bool o2, .int .i64 a2, .int .i64 b2] 29)).alloc (.cells #[.int .i64 0, .int .i64 0] 25) = W at *
      refine (HV.out W _ HZ.out).mono ?_
      rintro e w1 ⟨rfl, hb1⟩
      have A1 := Lib.hid (A0.out.old hb1)
      have B1 := Lib.hid (B0.out.old hb1)
      have C1 := Lib.hid (C0.out.old hb1)
      have a_0 : w1.cell? ⟨w.heap.size, 0, none⟩ = some (.bool true) := A1.out.cell 0
      have b_0 : w1.cell? ⟨w.heap.size + 1, 0, none⟩ = some (.bool o2) := B1.out.cell 0
      have c_0 : w1.cell? ⟨w.heap.size + 1 + 1, 0, none⟩ = some (.int .i64 0) := C1.out.cell 0
      have c_1 : w1.cell? ⟨w.heap.size + 1 + 1, 1, none⟩ = some (.int .i64 0) := C1.out.cell 1
      have f_0 : w1.frozen? ⟨w.heap.size + 1 + 1, 0, none⟩ = false := C1.out.frozen 0
      have f_1 : w1.frozen? ⟨w.heap.size + 1 + 1, 1, none⟩ = false := C1.out.frozen 1
      clear hb1 A0 B0 C0
      have HE := Lib.hid ((C1.out.set 0 (.int .i64 0)).set 1 (.int .i64 0))
      go_wp2_with fail
      have hl := HE.out.load Try.underlying25 rfl (by kernel_rfl)
      refine bodyPost_ret (v := .tuple #[.agg #[.int .i64 0, .int .i64 0], .bool false]) ?_ rfl ⟨by rw [HR.out], HE.out.1⟩
      rw [results_cell_tmp rfl]
      simp [asAddr, Result.andThen, hl]
end Go.Proofs.Ytelkflgmjfmadaa.posm
