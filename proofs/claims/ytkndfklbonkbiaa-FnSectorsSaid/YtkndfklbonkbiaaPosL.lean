/- impl's PackReport and UnpackReport. -/
import Derived.Test.YtkndfklbonkbiaaPosJ
import Derived.Test.YtkndfklbonkbiaaPosB
namespace Go.Proofs.Ytkndfklbonkbiaa.posl
open Go.RowKit Go.Proofs.Ytkndfklbonkbiaa.pos Go.Proofs.Ytkndfklbonkbiaa.in_ Go.Proofs.Ytkndfklbonkbiaa.posi Go.Proofs.Ytkndfklbonkbiaa.posj Go.Proofs.Ytkndfklbonkbiaa.posb Go.Proofs.Ytkndfklbonkbiaa.ats

theorem pk_no {o : Bool} {a b : Int} (h : rB o a b = false) : (Value.tuple #[.int .i64 0, .bool false]) = .tuple #[.int .i64 (pkV o a b), .bool (rB o a b)] := by unfold pkV; rw [h]; rfl
theorem pk_yes {o : Bool} {a b : Int} (h : rB o a b = true) : (Value.tuple #[.int .i64 (pk o a b), .bool true]) = .tuple #[.int .i64 (pkV o a b), .bool (rB o a b)] := by unfold pkV; rw [h]; rfl

set_option maxRecDepth 100000 in
theorem packReport (o : Bool) (a b : Int) (w : World) :
    Calls Try.prog 161 #[.agg #[.bool o, .int .i64 a, .int .i64 b]] w
      fun e w' => e = .returned (.tuple #[.int .i64 (pkV o a b), .bool (rB o a b)]) ∧ Below w.heap.size w w' := by
  have hv := fun w => isValidReport o a b w
  have B0 := Lib.hid (newS 68 #[.bool o, .int .i64 a, .int .i64 b] w)
  cases hb : rB o a b
  · have HN := Lib.hid (pk_no hb)
    rw [hb] at hv HN
    have HV := Lib.hid hv
    clear hv hb
    go_enter Try.func161, Try.ntmps161
    go_wp2_with fail
    generalize w.alloc (.cells #[.bool o, .int .i64 a, .int .i64 b] 68) = W at *
    refine (HV.out _).mono ?_
    rintro e w1 ⟨rfl, hb1⟩
    have B1 := Lib.hid (B0.out.old hb1)
    clear hb1
    go_wp2_with fail
    go_ret2
    exact ⟨congrArg Ending.returned HN.out, B1.out.1⟩
  · have HN := Lib.hid (pk_yes hb)
    obtain ⟨⟨a0, a1⟩, b0, b1⟩ := rB_yes hb
    have hs := sz_pos o
    rw [hb] at hv HN
    have HV := Lib.hid hv
    have e1 : bits .or .i64 (a * 128) b = 128 * a + b := by rw [Int.mul_comm]; exact or7 (a := a) (b := b) ⟨a0, by omega⟩ ⟨b0, by omega⟩
    have e2 := or14 (n := 128 * a + b) ⟨by omega, by omega⟩
    have a2 : a < 100 := by omega
    have b2 : b < 100 := by omega
    clear hv hb hs a1 b1
    unfold pk at HN
    cases o
    all_goals
      go_enter Try.func161, Try.ntmps161
      go_wp2_with fail
      generalize w.alloc (.cells #[.bool _, .int .i64 a, .int .i64 b] 68) = W at *
      refine (HV.out _).mono ?_
      rintro e w1 ⟨rfl, hb1⟩
      have B1 := Lib.hid (B0.out.old hb1)
      have c0 := B1.out.cell 0
      have c1 : w1.cell? ⟨w.heap.size, 1, none⟩ = some (.int .i64 a) := B1.out.cell 1
      have c2 : w1.cell? ⟨w.heap.size, 2, none⟩ = some (.int .i64 b) := B1.out.cell 2
      simp only [List.getElem?_toArray, List.getElem?_cons_zero] at c0
      clear hb1
      go_wp2_with fail
      go_ret2
    · exact ⟨by rw [← HN.out]; simp, B1.out.1⟩
    · exact ⟨by rw [← HN.out]; simp, B1.out.1⟩

theorem uk_no {x : Int} (h : ukB x = false) : (Value.tuple #[.agg #[.bool false, .int .i64 0, .int .i64 0], .bool false]) = .tuple #[.agg #[.bool (ukO x), .int .i64 (ukA x), .int .i64 (ukV x)], .bool (ukB x)] := by unfold ukO ukA ukV; rw [h]; rfl
theorem uk_yes {x : Int} (h : ukB x = true) : (Value.tuple #[.agg #[.bool (decide (x / 16384 % 2 = 1)), .int .i64 (x / 128 % 128), .int .i64 (x % 128)], .bool true]) = .tuple #[.agg #[.bool (ukO x), .int .i64 (ukA x), .int .i64 (ukV x)], .bool (ukB x)] := by
  have h2 : 0 ≤ x ∧ x ≤ 32767 := by unfold ukB isIn at h; rw [Bool.and_eq_true] at h; exact of_decide_eq_true h.1
  obtain ⟨e1, e2⟩ := uk_parts h2
  unfold ukO ukA ukV
  rw [h, if_pos rfl, if_pos rfl, e2, Bool.true_and, decide_eq_decide.mpr e1]
theorem uk_is (x : Int) : ukB x = (rB (decide (x / 16384 % 2 = 1)) (x / 128 % 128) (x % 128) && decide (pkV (decide (x / 16384 % 2 = 1)) (x / 128 % 128) (x % 128) = x)) := by
  unfold pkV
  rw [pk_rest]
  unfold ukB
  by_cases h : 0 ≤ x ∧ x ≤ 32767
  · obtain ⟨e1, e2⟩ := uk_parts h
    have e3 : isIn x 0 32767 = true := decide_eq_true h
    rw [e3, Bool.true_and, e2, decide_eq_decide.mpr e1]
    cases hg : rB (decide (16384 ≤ x)) (x % 16384 / 128) (x % 128)
    · rfl
    · rw [if_pos rfl, decide_eq_true (by omega)]; rfl
  · have e3 : isIn x 0 32767 = false := decide_eq_false h
    rw [e3, Bool.false_and]
    cases hg : rB (decide (x / 16384 % 2 = 1)) (x / 128 % 128) (x % 128)
    · rfl
    · rw [if_pos rfl, decide_eq_false (by omega)]; rfl

set_option maxRecDepth 100000 in
theorem unpackReport (x : Int) (w : World) :
    Calls Try.prog 149 #[.int .i64 x] w
      fun e w' => e = .returned (.tuple #[.agg #[.bool (ukO x), .int .i64 (ukA x), .int .i64 (ukV x)], .bool (ukB x)]) ∧ Below w.heap.size w w' := by
  have hx := uk_is x
  have HY := Lib.hid (fun h => uk_yes (x := x) h)
  have HN := Lib.hid (fun h => uk_no (x := x) h)
  have e1 := and16384 x
  have e2 := and127 x
  have e3 := and127 (x / 128)
  have e4 : ((x / 16384) % 2 * 16384 != 0) = decide (x / 16384 % 2 = 1) := by
    by_cases h : x / 16384 % 2 = 1
    · rw [h]; rfl
    · rw [show x / 16384 % 2 = 0 by omega]; rfl
  have HP := Lib.hid (fun w => packReport (decide (x / 16384 % 2 = 1)) (x / 128 % 128) (x % 128) w)
  generalize x / 16384 % 2 * 16384 = v at *
  generalize decide (x / 16384 % 2 = 1) = o at *
  generalize x / 128 % 128 = a at *
  generalize x % 128 = b at *
  generalize pkV o a b = p at *
  generalize rB o a b = q at *
  generalize ukB x = r at *
  have C0 := Lib.hid ((newS 68 #[.bool false, .int .i64 0, .int .i64 0] w).alloc (.cells #[.bool o, .int .i64 a, .int .i64 b] 68))
  have D0 := Lib.hid ((newS 68 #[.bool false, .int .i64 0, .int .i64 0] w).next 68 #[.bool o, .int .i64 a, .int .i64 b])
  rw [World.size_alloc] at D0
  have HX := Lib.hid hx
  clear hx
  go_enter Try.func149, Try.ntmps149
  go_wp2_with fail
  generalize (w.alloc (.cells #[.bool false, .int .i64 0, .int .i64 0] 68)).alloc (.cells #[.bool o, .int .i64 a, .int .i64 b] 68) = W at *
  refine (HP.out _).mono ?_
  rintro e w1 ⟨rfl, hb1⟩
  have C1 := Lib.hid (C0.out.old hb1)
  have D1 := Lib.hid (D0.out.old hb1)
  have c0 : w1.cell? ⟨w.heap.size, 0, none⟩ = some (.bool false) := C1.out.cell 0
  have c1 : w1.cell? ⟨w.heap.size, 1, none⟩ = some (.int .i64 0) := C1.out.cell 1
  have c2 : w1.cell? ⟨w.heap.size, 2, none⟩ = some (.int .i64 0) := C1.out.cell 2
  have f0 := C1.out.frozen 0
  have f1 := C1.out.frozen 1
  have f2 := C1.out.frozen 2
  have d0 : w1.cell? ⟨w.heap.size + 1, 0, none⟩ = some (.bool o) := D1.out.cell 0
  have d1 : w1.cell? ⟨w.heap.size + 1, 1, none⟩ = some (.int .i64 a) := D1.out.cell 1
  have d2 : w1.cell? ⟨w.heap.size + 1, 2, none⟩ = some (.int .i64 b) := D1.out.cell 2
  clear hb1 C0 D0
  cases q
  · have HR := Lib.hid (HN.out HX.out)
    have HE := Lib.hid (((C1.out.set 0 (.bool false)).set 1 (.int .i64 0)).set 2 (.int .i64 0))
    go_wp2_with fail
    have hl := HE.out.load Try.underlying68 rfl (by kernel_rfl)
    refine bodyPost_ret (v := .tuple #[.agg #[.bool false, .int .i64 0, .int .i64 0], .bool false]) ?_ rfl ⟨by rw [HR.out], HE.out.1⟩
    rw [results_cell_tmp rfl]
    simp [asAddr, Result.andThen, hl]
  · by_cases hp : p = x
    · have HR := Lib.hid (HY.out (by rw [HX.out, decide_eq_true hp]; rfl))
      have HE := Lib.hid (((C1.out.set 0 (.bool o)).set 1 (.int .i64 a)).set 2 (.int .i64 b))
      have hq : (p != x) = false := by rw [hp]; simp
      clear hp
      go_wp2_with fail
      have hl := HE.out.load Try.underlying68 rfl (by kernel_rfl)
      refine bodyPost_ret (v := .tuple #[.agg #[.bool o, .int .i64 a, .int .i64 b], .bool true]) ?_ rfl ⟨by rw [HR.out], HE.out.1⟩
      rw [results_cell_tmp rfl]
      simp [asAddr, Result.andThen, hl]
    · have HR := Lib.hid (HN.out (by rw [HX.out, decide_eq_false hp]; rfl))
      have HE := Lib.hid (((C1.out.set 0 (.bool false)).set 1 (.int .i64 0)).set 2 (.int .i64 0))
      have hq : (p != x) = true := by simpa using hp
      clear hp
      go_wp2_with fail
      have hl := HE.out.load Try.underlying68 rfl (by kernel_rfl)
      refine bodyPost_ret (v := .tuple #[.agg #[.bool false, .int .i64 0, .int .i64 0], .bool false]) ?_ rfl ⟨by rw [HR.out], HE.out.1⟩
      rw [results_cell_tmp rfl]
      simp [asAddr, Result.andThen, hl]
end Go.Proofs.Ytkndfklbonkbiaa.posl
