/- spec's l1Most, l7Nearest, l7Within, DecodePair. -/
import Derived.Test.YtelkflgmjfmadaaPosT
namespace Go.Proofs.Ytelkflgmjfmadaa.posu
open Go.RowKit Go.Proofs.Ytelkflgmjfmadaa.pos Go.Proofs.Ytelkflgmjfmadaa.in_ Go.Proofs.Ytelkflgmjfmadaa.posj Go.Proofs.Ytelkflgmjfmadaa.posm Go.Proofs.Ytelkflgmjfmadaa.poss Go.Proofs.Ytelkflgmjfmadaa.post Go.Proofs.Ytelkflgmjfmadaa.ats

theorem most7 (a b : Int) (w : World) :
    Calls Try.prog 91 #[.int .i64 a, .int .i64 b] w fun e w' => e = .returned (.int .i64 (max a b)) ∧ w = w' := by
  by_cases h : b < a
  · have e1 : max a b = a := by omega
    rw [e1]
    go_enter Try.func91, Try.ntmps91
    go_wp2_with fail
    go_ret
    exact ⟨rfl, rfl⟩
  · have e1 : max a b = b := by omega
    have g : decide (b < a) = false := decide_eq_false h
    rw [e1]
    clear e1 h
    go_enter Try.func91, Try.ntmps91
    go_wp2_with fail
    go_ret
    exact ⟨rfl, rfl⟩
set_option maxRecDepth 100000 in
set_option maxHeartbeats 2000000 in
theorem decodePair (o1 : Bool) (a1 b1 : Int) (o2 : Bool) (a2 b2 : Int) (w : World) :
    Calls Try.prog 20 #[.agg #[.bool o1, .int .i64 a1, .int .i64 b1], .agg #[.bool o2, .int .i64 a2, .int .i64 b2]] w
      fun e w' => e = .returned (.tuple #[.agg #[.int .i64 (dpV o1 a1 b1 o2 a2 b2 a1 a2), .int .i64 (dpV o1 a1 b1 o2 a2 b2 b1 b2)], .bool (dpB o1 a1 b1 o2 a2 b2)]) ∧ Below w.heap.size w w' := by
  have hv := fun W => report7 o1 a1 b1 W
  have hv2 := fun W => report7 o2 a2 b2 W
  have A0 := Lib.hid (((newS 29 #[.bool o1, .int .i64 a1, .int .i64 b1] w).alloc (.cells #[.bool o2, .int .i64 a2, .int .i64 b2] 29)).alloc (.cells #[.int .i64 0, .int .i64 0] 25))
  have B0 := Lib.hid (((newS 29 #[.bool o1, .int .i64 a1, .int .i64 b1] w).next 29 #[.bool o2, .int .i64 a2, .int .i64 b2]).alloc (.cells #[.int .i64 0, .int .i64 0] 25))
  have C0 := Lib.hid (((newS 29 #[.bool o1, .int .i64 a1, .int .i64 b1] w).alloc (.cells #[.bool o2, .int .i64 a2, .int .i64 b2] 29)).next 25 #[.int .i64 0, .int .i64 0])
  rw [World.size_alloc] at B0
  rw [World.size_alloc, World.size_alloc] at C0
  have HB := Lib.hid (show dpB o1 a1 b1 o2 a2 b2 = ((rB o1 a1 b1 && rB o2 a2 b2) && !o1 && o2) from rfl)
  have HN := Lib.hid (fun h => dp_no (o1 := o1) (a1 := a1) (b1 := b1) (o2 := o2) (a2 := a2) (b2 := b2) h)
  have HY := Lib.hid (fun h => dp_yes (o1 := o1) (a1 := a1) (b1 := b1) (o2 := o2) (a2 := a2) (b2 := b2) h)
  cases hq : rB o1 a1 b1
  · have HR := Lib.hid (HN.out (by rw [HB.out, hq]; rfl))
    rw [hq] at hv
    have HV := Lib.hid hv
    clear hv hv2 hq HN HY HB
    go_enter Try.func20, Try.ntmps20
    go_wp2_with fail
    generalize ((w.alloc (.cells #[.bool o1, .int .i64 a1, .int .i64 b1] 29)).alloc (.cells #[.bool o2, .int .i64 a2, .int .i64 b2] 29)).alloc (.cells #[.int .i64 0, .int .i64 0] 25) = W at *
    refine (HV.out W).mono ?_
    rintro e w1 ⟨rfl, hb1⟩
    have A1 := Lib.hid (A0.out.old hb1)
    have B1 := Lib.hid (B0.out.old hb1)
    have C1 := Lib.hid (C0.out.old hb1)
    have a_0 : w1.cell? ⟨w.heap.size, 0, none⟩ = some (.bool o1) := A1.out.cell 0
    have a_1 : w1.cell? ⟨w.heap.size, 1, none⟩ = some (.int .i64 a1) := A1.out.cell 1
    have a_2 : w1.cell? ⟨w.heap.size, 2, none⟩ = some (.int .i64 b1) := A1.out.cell 2
    have b_0 : w1.cell? ⟨w.heap.size + 1, 0, none⟩ = some (.bool o2) := B1.out.cell 0
    have b_1 : w1.cell? ⟨w.heap.size + 1, 1, none⟩ = some (.int .i64 a2) := B1.out.cell 1
    have b_2 : w1.cell? ⟨w.heap.size + 1, 2, none⟩ = some (.int .i64 b2) := B1.out.cell 2
    have c_0 : w1.cell? ⟨w.heap.size + 1 + 1, 0, none⟩ = some (.int .i64 0) := C1.out.cell 0
    have c_1 : w1.cell? ⟨w.heap.size + 1 + 1, 1, none⟩ = some (.int .i64 0) := C1.out.cell 1
    have f_0 : w1.frozen? ⟨w.heap.size + 1 + 1, 0, none⟩ = false := C1.out.frozen 0
    have f_1 : w1.frozen? ⟨w.heap.size + 1 + 1, 1, none⟩ = false := C1.out.frozen 1
    clear hb1 A0 B0 C0
    have HE := Lib.hid ((C1.out.set 0 (.int .i64 0)).set 1 (.int .i64 0))
    go_wp2_with fail
    have hl := HE.out.load Try.underlying25 rfl (by kernel_rfl)
    refine bodyPost_ret (v := .tuple #[.agg #[.int .i64 0, .int .i64 0], .bool false]) ?_ rfl ⟨by rw [HR.out], HE.out.1⟩
    rw [results_cell_tmp rfl]
    simp [asAddr, Result.andThen, hl]
  · have HQ := Lib.hid hq
    rw [hq] at hv
    have HV := Lib.hid hv
    clear hv hq
    cases hq : rB o2 a2 b2
    · have HR := Lib.hid (HN.out (by rw [HB.out, hq]; simp))
      rw [hq] at hv2
      have HV2 := Lib.hid hv2
      clear hv2 hq HN HY HB HQ
      go_enter Try.func20, Try.ntmps20
      go_wp2_with fail
      generalize ((w.alloc (.cells #[.bool o1, .int .i64 a1, .int .i64 b1] 29)).alloc (.cells #[.bool o2, .int .i64 a2, .int .i64 b2] 29)).alloc (.cells #[.int .i64 0, .int .i64 0] 25) = W at *
      refine (HV.out W).mono ?_
      rintro e w1 ⟨rfl, hb1⟩
      have A1 := Lib.hid (A0.out.old hb1)
      have B1 := Lib.hid (B0.out.old hb1)
      have C1 := Lib.hid (C0.out.old hb1)
      have a_0 : w1.cell? ⟨w.heap.size, 0, none⟩ = some (.bool o1) := A1.out.cell 0
      have a_1 : w1.cell? ⟨w.heap.size, 1, none⟩ = some (.int .i64 a1) := A1.out.cell 1
      have a_2 : w1.cell? ⟨w.heap.size, 2, none⟩ = some (.int .i64 b1) := A1.out.cell 2
      have b_0 : w1.cell? ⟨w.heap.size + 1, 0, none⟩ = some (.bool o2) := B1.out.cell 0
      have b_1 : w1.cell? ⟨w.heap.size + 1, 1, none⟩ = some (.int .i64 a2) := B1.out.cell 1
      have b_2 : w1.cell? ⟨w.heap.size + 1, 2, none⟩ = some (.int .i64 b2) := B1.out.cell 2
      have c_0 : w1.cell? ⟨w.heap.size + 1 + 1, 0, none⟩ = some (.int .i64 0) := C1.out.cell 0
      have c_1 : w1.cell? ⟨w.heap.size + 1 + 1, 1, none⟩ = some (.int .i64 0) := C1.out.cell 1
      have f_0 : w1.frozen? ⟨w.heap.size + 1 + 1, 0, none⟩ = false := C1.out.frozen 0
      have f_1 : w1.frozen? ⟨w.heap.size + 1 + 1, 1, none⟩ = false := C1.out.frozen 1
      clear hb1 A0 B0 C0
      go_wp2_with fail
      refine (HV2.out w1).mono ?_
      rintro e w2 ⟨rfl, hb2⟩
      have A2 := Lib.hid (A1.out.old hb2)
      have B2 := Lib.hid (B1.out.old hb2)
      have C2 := Lib.hid (C1.out.old hb2)
      clear a_0 a_1 a_2 b_0 b_1 b_2 c_0 c_1 f_0 f_1
      have a_0 : w2.cell? ⟨w.heap.size, 0, none⟩ = some (.bool o1) := A2.out.cell 0
      have a_1 : w2.cell? ⟨w.heap.size, 1, none⟩ = some (.int .i64 a1) := A2.out.cell 1
      have a_2 : w2.cell? ⟨w.heap.size, 2, none⟩ = some (.int .i64 b1) := A2.out.cell 2
      have b_0 : w2.cell? ⟨w.heap.size + 1, 0, none⟩ = some (.bool o2) := B2.out.cell 0
      have b_1 : w2.cell? ⟨w.heap.size + 1, 1, none⟩ = some (.int .i64 a2) := B2.out.cell 1
      have b_2 : w2.cell? ⟨w.heap.size + 1, 2, none⟩ = some (.int .i64 b2) := B2.out.cell 2
      have c_0 : w2.cell? ⟨w.heap.size + 1 + 1, 0, none⟩ = some (.int .i64 0) := C2.out.cell 0
      have c_1 : w2.cell? ⟨w.heap.size + 1 + 1, 1, none⟩ = some (.int .i64 0) := C2.out.cell 1
      have f_0 : w2.frozen? ⟨w.heap.size + 1 + 1, 0, none⟩ = false := C2.out.frozen 0
      have f_1 : w2.frozen? ⟨w.heap.size + 1 + 1, 1, none⟩ = false := C2.out.frozen 1
      clear hb2 A1 B1 C1
      have HE := Lib.hid ((C2.out.set 0 (.int .i64 0)).set 1 (.int .i64 0))
      go_wp2_with fail
      have hl := HE.out.load Try.underlying25 rfl (by kernel_rfl)
      refine bodyPost_ret (v := .tuple #[.agg #[.int .i64 0, .int .i64 0], .bool false]) ?_ rfl ⟨by rw [HR.out], HE.out.1⟩
      rw [results_cell_tmp rfl]
      simp [asAddr, Result.andThen, hl]
    · have HQ2 := Lib.hid hq
      rw [hq] at hv2
      have HV2 := Lib.hid hv2
      clear hv2 hq
      cases o1
      · cases o2
        · have HR := Lib.hid (HN.out (by rw [HB.out, HQ.out, HQ2.out]; simp))
          go_enter Try.func20, Try.ntmps20
          go_wp2_with fail
          generalize ((w.alloc (.cells #[.bool false, .int .i64 a1, .int .i64 b1] 29)).alloc (.cells #[.bool false, .int .i64 a2, .int .i64 b2] 29)).alloc (.cells #[.int .i64 0, .int .i64 0] 25) = W at *
          refine (HV.out W).mono ?_
          rintro e w1 ⟨rfl, hb1⟩
          have A1 := Lib.hid (A0.out.old hb1)
          have B1 := Lib.hid (B0.out.old hb1)
          have C1 := Lib.hid (C0.out.old hb1)
          have a_0 : w1.cell? ⟨w.heap.size, 0, none⟩ = some (.bool false) := A1.out.cell 0
          have a_1 : w1.cell? ⟨w.heap.size, 1, none⟩ = some (.int .i64 a1) := A1.out.cell 1
          have a_2 : w1.cell? ⟨w.heap.size, 2, none⟩ = some (.int .i64 b1) := A1.out.cell 2
          have b_0 : w1.cell? ⟨w.heap.size + 1, 0, none⟩ = some (.bool false) := B1.out.cell 0
          have b_1 : w1.cell? ⟨w.heap.size + 1, 1, none⟩ = some (.int .i64 a2) := B1.out.cell 1
          have b_2 : w1.cell? ⟨w.heap.size + 1, 2, none⟩ = some (.int .i64 b2) := B1.out.cell 2
          have c_0 : w1.cell? ⟨w.heap.size + 1 + 1, 0, none⟩ = some (.int .i64 0) := C1.out.cell 0
          have c_1 : w1.cell? ⟨w.heap.size + 1 + 1, 1, none⟩ = some (.int .i64 0) := C1.out.cell 1
          have f_0 : w1.frozen? ⟨w.heap.size + 1 + 1, 0, none⟩ = false := C1.out.frozen 0
          have f_1 : w1.frozen? ⟨w.heap.size + 1 + 1, 1, none⟩ = false := C1.out.frozen 1
          clear hb1 A0 B0 C0
          go_wp2_with fail
          refine (HV2.out w1).mono ?_
          rintro e w2 ⟨rfl, hb2⟩
          have A2 := Lib.hid (A1.out.old hb2)
          have B2 := Lib.hid (B1.out.old hb2)
          have C2 := Lib.hid (C1.out.old hb2)
          clear a_0 a_1 a_2 b_0 b_1 b_2 c_0 c_1 f_0 f_1
          have a_0 : w2.cell? ⟨w.heap.size, 0, none⟩ = some (.bool false) := A2.out.cell 0
          have a_1 : w2.cell? ⟨w.heap.size, 1, none⟩ = some (.int .i64 a1) := A2.out.cell 1
          have a_2 : w2.cell? ⟨w.heap.size, 2, none⟩ = some (.int .i64 b1) := A2.out.cell 2
          have b_0 : w2.cell? ⟨w.heap.size + 1, 0, none⟩ = some (.bool false) := B2.out.cell 0
          have b_1 : w2.cell? ⟨w.heap.size + 1, 1, none⟩ = some (.int .i64 a2) := B2.out.cell 1
          have b_2 : w2.cell? ⟨w.heap.size + 1, 2, none⟩ = some (.int .i64 b2) := B2.out.cell 2
          have c_0 : w2.cell? ⟨w.heap.size + 1 + 1, 0, none⟩ = some (.int .i64 0) := C2.out.cell 0
          have c_1 : w2.cell? ⟨w.heap.size + 1 + 1, 1, none⟩ = some (.int .i64 0) := C2.out.cell 1
          have f_0 : w2.frozen? ⟨w.heap.size + 1 + 1, 0, none⟩ = false := C2.out.frozen 0
          have f_1 : w2.frozen? ⟨w.heap.size + 1 + 1, 1, none⟩ = false := C2.out.frozen 1
          clear hb2 A1 B1 C1
          have HE := Lib.hid ((C2.out.set 0 (.int .i64 0)).set 1 (.int .i64 0))
          go_wp2_with fail
          have hl := HE.out.load Try.underlying25 rfl (by kernel_rfl)
          refine bodyPost_ret (v := .tuple #[.agg #[.int .i64 0, .int .i64 0], .bool false]) ?_ rfl ⟨by rw [HR.out], HE.out.1⟩
          rw [results_cell_tmp rfl]
          simp [asAddr, Result.andThen, hl]
        · have HR := Lib.hid (HY.out (by rw [HB.out, HQ.out, HQ2.out]; rfl))
          obtain ⟨⟨a1l, a1h⟩, b1l, b1h⟩ := rB_yes HQ.out
          obtain ⟨⟨a2l, a2h⟩, b2l, b2h⟩ := rB_yes HQ2.out
          have F1 := Lib.hid (fun w => flip (both7 a1 a2 ⟨a1l, a1h⟩ ⟨a2l, a2h⟩ w))
          have F2 := Lib.hid (fun w => flip (both7 b1 b2 ⟨b1l, b1h⟩ ⟨b2l, b2h⟩ w))
          clear a1l a1h b1l b1h a2l a2h b2l b2h HQ HQ2 HB HN HY
          generalize both a1 a2 = X at *
          generalize both b1 b2 = Y at *
          go_enter Try.func20, Try.ntmps20
          go_wp2_with fail
          generalize ((w.alloc (.cells #[.bool false, .int .i64 a1, .int .i64 b1] 29)).alloc (.cells #[.bool true, .int .i64 a2, .int .i64 b2] 29)).alloc (.cells #[.int .i64 0, .int .i64 0] 25) = W at *
          refine (HV.out W).mono ?_
          rintro e w1 ⟨rfl, hb1⟩
          have A1 := Lib.hid (A0.out.old hb1)
          have B1 := Lib.hid (B0.out.old hb1)
          have C1 := Lib.hid (C0.out.old hb1)
          have a_0 : w1.cell? ⟨w.heap.size, 0, none⟩ = some (.bool false) := A1.out.cell 0
          have a_1 : w1.cell? ⟨w.heap.size, 1, none⟩ = some (.int .i64 a1) := A1.out.cell 1
          have a_2 : w1.cell? ⟨w.heap.size, 2, none⟩ = some (.int .i64 b1) := A1.out.cell 2
          have b_0 : w1.cell? ⟨w.heap.size + 1, 0, none⟩ = some (.bool true) := B1.out.cell 0
          have b_1 : w1.cell? ⟨w.heap.size + 1, 1, none⟩ = some (.int .i64 a2) := B1.out.cell 1
          have b_2 : w1.cell? ⟨w.heap.size + 1, 2, none⟩ = some (.int .i64 b2) := B1.out.cell 2
          have c_0 : w1.cell? ⟨w.heap.size + 1 + 1, 0, none⟩ = some (.int .i64 0) := C1.out.cell 0
          have c_1 : w1.cell? ⟨w.heap.size + 1 + 1, 1, none⟩ = some (.int .i64 0) := C1.out.cell 1
          have f_0 : w1.frozen? ⟨w.heap.size + 1 + 1, 0, none⟩ = false := C1.out.frozen 0
          have f_1 : w1.frozen? ⟨w.heap.size + 1 + 1, 1, none⟩ = false := C1.out.frozen 1
          clear hb1 A0 B0 C0
          go_wp2_with fail
          refine (HV2.out w1).mono ?_
          rintro e w2 ⟨rfl, hb2⟩
          have A2 := Lib.hid (A1.out.old hb2)
          have B2 := Lib.hid (B1.out.old hb2)
          have C2 := Lib.hid (C1.out.old hb2)
          clear a_0 a_1 a_2 b_0 b_1 b_2 c_0 c_1 f_0 f_1
          have a_0 : w2.cell? ⟨w.heap.size, 0, none⟩ = some (.bool false) := A2.out.cell 0
          have a_1 : w2.cell? ⟨w.heap.size, 1, none⟩ = some (.int .i64 a1) := A2.out.cell 1
          have a_2 : w2.cell? ⟨w.heap.size, 2, none⟩ = some (.int .i64 b1) := A2.out.cell 2
          have b_0 : w2.cell? ⟨w.heap.size + 1, 0, none⟩ = some (.bool true) := B2.out.cell 0
          have b_1 : w2.cell? ⟨w.heap.size + 1, 1, none⟩ = some (.int .i64 a2) := B2.out.cell 1
          have b_2 : w2.cell? ⟨w.heap.size + 1, 2, none⟩ = some (.int .i64 b2) := B2.out.cell 2
          have c_0 : w2.cell? ⟨w.heap.size + 1 + 1, 0, none⟩ = some (.int .i64 0) := C2.out.cell 0
          have c_1 : w2.cell? ⟨w.heap.size + 1 + 1, 1, none⟩ = some (.int .i64 0) := C2.out.cell 1
          have f_0 : w2.frozen? ⟨w.heap.size + 1 + 1, 0, none⟩ = false := C2.out.frozen 0
          have f_1 : w2.frozen? ⟨w.heap.size + 1 + 1, 1, none⟩ = false := C2.out.frozen 1
          clear hb2 A1 B1 C1
          have HE := Lib.hid (((C2.out.set 0 (.int .i64 X)).set 1 (.int .i64 Y)).drew)
          have A3 := ((A2.out.drew.other (b' := w.heap.size + 1 + 1) (by omega) (by omega) 0 (.int .i64 X)).other (b' := w.heap.size + 1 + 1) (by omega) (by omega) 1 (.int .i64 Y))
          have B3 := ((B2.out.drew.other (b' := w.heap.size + 1 + 1) (by omega) (by omega) 0 (.int .i64 X)).other (b' := w.heap.size + 1 + 1) (by omega) (by omega) 1 (.int .i64 Y))
          have K2 := Lib.hid (And.intro (A3.cell 1) (And.intro (A3.cell 2) (And.intro (B3.cell 1) (B3.cell 2))))
          clear A2 B2 C2 A3 B3
          go_upto_region 3 with fail
          go_region_held3 (fun w' => w'.cell? ⟨w.heap.size, 1, none⟩ = some (.int .i64 a1) ∧ w'.cell? ⟨w.heap.size, 2, none⟩ = some (.int .i64 b1) ∧ w'.cell? ⟨w.heap.size + 1, 1, none⟩ = some (.int .i64 a2) ∧ w'.cell? ⟨w.heap.size + 1, 2, none⟩ = some (.int .i64 b2)) (first
            | exact ⟨a_1, a_2, b_1, b_2⟩
            | exact K2.out
            | go_keep) (first
            | (go_at_call 66; (with_reducible refine (F1.out _).mono ?_); rintro e w' ⟨rfl, rfl⟩)
            | (go_at_call 66; (with_reducible refine (F2.out _).mono ?_); rintro e w' ⟨rfl, rfl⟩))
          all_goals
            go_wp2_with fail
            have hl := HE.out.load Try.underlying25 rfl (by kernel_rfl)
            refine bodyPost_ret (v := .tuple #[.agg #[.int .i64 X, .int .i64 Y], .bool true]) ?_ rfl ⟨by rw [HR.out], HE.out.1⟩
            rw [results_cell_tmp rfl]
            simp [asAddr, Result.andThen, hl]
      · have HR := Lib.hid (HN.out (by rw [HB.out, HQ.out, HQ2.out]; simp))
        go_enter Try.func20, Try.ntmps20
        go_wp2_with fail
        generalize ((w.alloc (.cells #[.bool true, .int .i64 a1, .int .i64 b1] 29)).alloc (.cells #[.bool o2, .int .i64 a2, .int .i64 b2] 29)).alloc (.cells #[.int .i64 0, .int .i64 0] 25) = W at *
        refine (HV.out W).mono ?_
        rintro e w1 ⟨rfl, hb1⟩
        have A1 := Lib.hid (A0.out.old hb1)
        have B1 := Lib.hid (B0.out.old hb1)
        have C1 := Lib.hid (C0.out.old hb1)
        have a_0 : w1.cell? ⟨w.heap.size, 0, none⟩ = some (.bool true) := A1.out.cell 0
        have a_1 : w1.cell? ⟨w.heap.size, 1, none⟩ = some (.int .i64 a1) := A1.out.cell 1
        have a_2 : w1.cell? ⟨w.heap.size, 2, none⟩ = some (.int .i64 b1) := A1.out.cell 2
        have b_0 : w1.cell? ⟨w.heap.size + 1, 0, none⟩ = some (.bool o2) := B1.out.cell 0
        have b_1 : w1.cell? ⟨w.heap.size + 1, 1, none⟩ = some (.int .i64 a2) := B1.out.cell 1
        have b_2 : w1.cell? ⟨w.heap.size + 1, 2, none⟩ = some (.int .i64 b2) := B1.out.cell 2
        have c_0 : w1.cell? ⟨w.heap.size + 1 + 1, 0, none⟩ = some (.int .i64 0) := C1.out.cell 0
        have c_1 : w1.cell? ⟨w.heap.size + 1 + 1, 1, none⟩ = some (.int .i64 0) := C1.out.cell 1
        have f_0 : w1.frozen? ⟨w.heap.size + 1 + 1, 0, none⟩ = false := C1.out.frozen 0
        have f_1 : w1.frozen? ⟨w.heap.size + 1 + 1, 1, none⟩ = false := C1.out.frozen 1
        clear hb1 A0 B0 C0
        go_wp2_with fail
        refine (HV2.out w1).mono ?_
        rintro e w2 ⟨rfl, hb2⟩
        have A2 := Lib.hid (A1.out.old hb2)
        have B2 := Lib.hid (B1.out.old hb2)
        have C2 := Lib.hid (C1.out.old hb2)
        clear a_0 a_1 a_2 b_0 b_1 b_2 c_0 c_1 f_0 f_1
        have a_0 : w2.cell? ⟨w.heap.size, 0, none⟩ = some (.bool true) := A2.out.cell 0
        have a_1 : w2.cell? ⟨w.heap.size, 1, none⟩ = some (.int .i64 a1) := A2.out.cell 1
        have a_2 : w2.cell? ⟨w.heap.size, 2, none⟩ = some (.int .i64 b1) := A2.out.cell 2
        have b_0 : w2.cell? ⟨w.heap.size + 1, 0, none⟩ = some (.bool o2) := B2.out.cell 0
        have b_1 : w2.cell? ⟨w.heap.size + 1, 1, none⟩ = some (.int .i64 a2) := B2.out.cell 1
        have b_2 : w2.cell? ⟨w.heap.size + 1, 2, none⟩ = some (.int .i64 b2) := B2.out.cell 2
        have c_0 : w2.cell? ⟨w.heap.size + 1 + 1, 0, none⟩ = some (.int .i64 0) := C2.out.cell 0
        have c_1 : w2.cell? ⟨w.heap.size + 1 + 1, 1, none⟩ = some (.int .i64 0) := C2.out.cell 1
        have f_0 : w2.frozen? ⟨w.heap.size + 1 + 1, 0, none⟩ = false := C2.out.frozen 0
        have f_1 : w2.frozen? ⟨w.heap.size + 1 + 1, 1, none⟩ = false := C2.out.frozen 1
        clear hb2 A1 B1 C1
        have HE := Lib.hid ((C2.out.set 0 (.int .i64 0)).set 1 (.int .i64 0))
        go_wp2_with fail
        have hl := HE.out.load Try.underlying25 rfl (by kernel_rfl)
        refine bodyPost_ret (v := .tuple #[.agg #[.int .i64 0, .int .i64 0], .bool false]) ?_ rfl ⟨by rw [HR.out], HE.out.1⟩
        rw [results_cell_tmp rfl]
        simp [asAddr, Result.andThen, hl]
end Go.Proofs.Ytelkflgmjfmadaa.posu
