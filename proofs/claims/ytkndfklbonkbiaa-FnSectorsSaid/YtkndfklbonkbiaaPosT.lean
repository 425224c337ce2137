/- spec's ReportOf, l7Abs, l7Both, DecodePair, l7Pack, PackReport, l7Unpack, UnpackReport. -/
import Derived.Test.YtkndfklbonkbiaaPosS
import Derived.Test.YtkndfklbonkbiaaPosK
import Derived.Test.YtkndfklbonkbiaaPosL
namespace Go.Proofs.Ytkndfklbonkbiaa.post
open Go.RowKit Go.Proofs.Ytkndfklbonkbiaa.pos Go.Proofs.Ytkndfklbonkbiaa.in_ Go.Proofs.Ytkndfklbonkbiaa.posj Go.Proofs.Ytkndfklbonkbiaa.posk Go.Proofs.Ytkndfklbonkbiaa.posl Go.Proofs.Ytkndfklbonkbiaa.posm Go.Proofs.Ytkndfklbonkbiaa.poss Go.Proofs.Ytkndfklbonkbiaa.ats

theorem most_neg (x : Int) (w : World) (h0 : -8000000 ≤ x) (h1 : x ≤ 8000000) :
    Calls Try.prog 96 #[.int .i64 x, .int .i64 (-x)] w fun e w' => e = .returned (.int .i64 (x.natAbs : Int)) ∧ w = w' := by
  by_cases h : 0 < x
  · have e1 : (x.natAbs : Int) = x := by omega
    rw [e1]
    have g : decide (-x < x) = true := decide_eq_true (by omega)
    clear e1
    go_enter Try.func96, Try.ntmps96
    go_wp2_with fail
    go_ret
    exact ⟨rfl, rfl⟩
  · have e1 : (x.natAbs : Int) = -x := by omega
    rw [e1]
    have g : decide (-x < x) = false := decide_eq_false (by omega)
    clear e1
    go_enter Try.func96, Try.ntmps96
    go_wp2_with fail
    go_ret
    exact ⟨rfl, rfl⟩
theorem pack7 (o : Bool) (a b : Int) (ha : 0 ≤ a ∧ a < 200) (hb : 0 ≤ b ∧ b < 200) (w : World) :
    Calls Try.prog 108 #[.agg #[.bool o, .int .i64 a, .int .i64 b]] w fun e w' => e = .returned (.int .i64 (pk o a b)) ∧ Below w.heap.size w w' := by
  obtain ⟨a0, a1⟩ := ha
  obtain ⟨b0, b1⟩ := hb
  unfold pk
  cases o
  · go_enter Try.func108, Try.ntmps108
    go_wp2_with fail
    go_ret
    exact ⟨by simp, (Below.refl _ _).alloc (Nat.le_refl _) _⟩
  · go_enter Try.func108, Try.ntmps108
    go_wp2_with fail
    go_ret
    exact ⟨by simp, (Below.refl _ _).alloc (Nat.le_refl _) _⟩
theorem uk_rest {x : Int} (h0 : 0 ≤ x) (h1 : x ≤ 32767) (h : rB (decide (16384 ≤ x)) (x % 16384 / 128) (x % 128) = true) : (Value.tuple #[.agg #[.bool (decide (16384 ≤ x)), .int .i64 (x % 16384 / 128), .int .i64 (x % 128)], .bool true]) = .tuple #[.agg #[.bool (ukO x), .int .i64 (ukA x), .int .i64 (ukV x)], .bool (ukB x)] := by
  have e : ukB x = true := by unfold ukB isIn; rw [h, decide_eq_true ⟨h0, h1⟩]; rfl
  unfold ukO ukA ukV
  rw [e]; rfl
set_option maxRecDepth 100000 in
theorem unpack7 (x : Int) (w : World) :
    Calls Try.prog 140 #[.int .i64 x] w
      fun e w' => e = .returned (.tuple #[.agg #[.bool (ukO x), .int .i64 (ukA x), .int .i64 (ukV x)], .bool (ukB x)]) ∧ Below w.heap.size w w' := by
  have hi := fun w => l1In x 0 32767 w
  by_cases hx : 0 ≤ x ∧ x ≤ 32767
  · have e1 : isIn x 0 32767 = true := decide_eq_true hx
    rw [e1] at hi
    have hr := fun w => report7 (decide (16384 ≤ x)) (x % 16384 / 128) (x % 128) w
    have HN := Lib.hid (fun h => uk_no (x := x) h)
    have HY := Lib.hid (fun h => uk_rest (x := x) hx.1 hx.2 h)
    have HB := Lib.hid (show ukB x = (isIn x 0 32767 && rB (decide (16384 ≤ x)) (x % 16384 / 128) (x % 128)) from rfl)
    have HI := Lib.hid hi
    obtain ⟨x0, x1⟩ := hx
    have C0 := Lib.hid ((newS 68 #[.bool false, .int .i64 0, .int .i64 0] w).alloc (.cells #[.bool (decide (16384 ≤ x)), .int .i64 (x % 16384 / 128), .int .i64 (x % 128)] 68))
    have D0 := Lib.hid ((newS 68 #[.bool false, .int .i64 0, .int .i64 0] w).next 68 #[.bool (decide (16384 ≤ x)), .int .i64 (x % 16384 / 128), .int .i64 (x % 128)])
    rw [World.size_alloc] at D0
    have t1 : x.tmod 16384 = x % 16384 := Int.tmod_eq_emod_of_nonneg x0
    have t2 : x.tmod 128 = x % 128 := Int.tmod_eq_emod_of_nonneg x0
    generalize hgv : rB (decide (16384 ≤ x)) (x % 16384 / 128) (x % 128) = g at *
    have HR0 := Lib.hid hr
    clear hr hi hgv
    cases g
    all_goals
      go_enter Try.func140, Try.ntmps140
      go_wp2_with fail
      refine (HI.out _).mono ?_
      rintro e w1 ⟨rfl, rfl⟩
      have HRR := Lib.hid HR0.out
      go_wp2_with fail
      generalize (w.alloc (.cells #[.bool false, .int .i64 0, .int .i64 0] 68)).alloc (.cells #[.bool (decide (16384 ≤ x)), .int .i64 (x % 16384 / 128), .int .i64 (x % 128)] 68) = W at *
      refine (HRR.out _).mono ?_
      rintro e w2 ⟨rfl, hb2⟩
      have C1 := Lib.hid (C0.out.old hb2)
      have D1 := Lib.hid (D0.out.old hb2)
      have c_0 : w2.cell? ⟨w.heap.size, 0, none⟩ = some (.bool false) := C1.out.cell 0
      have f_0 : w2.frozen? ⟨w.heap.size, 0, none⟩ = false := C1.out.frozen 0
      have c_1 : w2.cell? ⟨w.heap.size, 1, none⟩ = some (.int .i64 0) := C1.out.cell 1
      have f_1 : w2.frozen? ⟨w.heap.size, 1, none⟩ = false := C1.out.frozen 1
      have c_2 : w2.cell? ⟨w.heap.size, 2, none⟩ = some (.int .i64 0) := C1.out.cell 2
      have f_2 : w2.frozen? ⟨w.heap.size, 2, none⟩ = false := C1.out.frozen 2
      have d0 : w2.cell? ⟨w.heap.size + 1, 0, none⟩ = some (.bool (decide (16384 ≤ x))) := D1.out.cell 0
      have d1 : w2.cell? ⟨w.heap.size + 1, 1, none⟩ = some (.int .i64 (x % 16384 / 128)) := D1.out.cell 1
      have d2 : w2.cell? ⟨w.heap.size + 1, 2, none⟩ = some (.int .i64 (x % 128)) := D1.out.cell 2
      clear hb2 C0 D0
      go_wp2_with fail
    · have HR := Lib.hid (HN.out (by rw [HB.out]; simp))
      have HE := Lib.hid (((C1.out.set 0 (.bool false)).set 1 (.int .i64 0)).set 2 (.int .i64 0))
      have hl := HE.out.load Try.underlying68 rfl (by kernel_rfl)
      refine bodyPost_ret (v := .tuple #[.agg #[.bool false, .int .i64 0, .int .i64 0], .bool false]) ?_ rfl ⟨by rw [HR.out], HE.out.1⟩
      rw [results_cell_tmp rfl]
      simp [asAddr, Result.andThen, hl]
    · have HR := Lib.hid (HY.out (by first | trivial | rfl))
      have HE := Lib.hid (((C1.out.set 0 (.bool (decide (16384 ≤ x)))).set 1 (.int .i64 (x % 16384 / 128))).set 2 (.int .i64 (x % 128)))
      have hl := HE.out.load Try.underlying68 rfl (by kernel_rfl)
      refine bodyPost_ret (v := .tuple #[.agg #[.bool (decide (16384 ≤ x)), .int .i64 (x % 16384 / 128), .int .i64 (x % 128)], .bool true]) ?_ rfl ⟨by rw [HR.out], HE.out.1⟩
      rw [results_cell_tmp rfl]
      simp [asAddr, Result.andThen, hl]
  · have e1 : isIn x 0 32767 = false := decide_eq_false hx
    have HR := Lib.hid (uk_no (x := x) (by unfold ukB; rw [e1]; rfl))
    rw [e1] at hi
    have HI := Lib.hid hi
    have C1 := Lib.hid (newS 68 #[.bool false, .int .i64 0, .int .i64 0] w)
    clear hx hi e1
    go_enter Try.func140, Try.ntmps140
    go_wp2_with fail
    generalize w.alloc (.cells #[.bool false, .int .i64 0, .int .i64 0] 68) = W at *
    refine (HI.out _).mono ?_
    rintro e w1 ⟨rfl, rfl⟩
    have c_0 : W.cell? ⟨w.heap.size, 0, none⟩ = some (.bool false) := C1.out.cell 0
    have f_0 : W.frozen? ⟨w.heap.size, 0, none⟩ = false := C1.out.frozen 0
    have c_1 : W.cell? ⟨w.heap.size, 1, none⟩ = some (.int .i64 0) := C1.out.cell 1
    have f_1 : W.frozen? ⟨w.heap.size, 1, none⟩ = false := C1.out.frozen 1
    have c_2 : W.cell? ⟨w.heap.size, 2, none⟩ = some (.int .i64 0) := C1.out.cell 2
    have f_2 : W.frozen? ⟨w.heap.size, 2, none⟩ = false := C1.out.frozen 2
    have HE := Lib.hid (((C1.out.set 0 (.bool false)).set 1 (.int .i64 0)).set 2 (.int .i64 0))
    go_wp2_with fail
    have hl := HE.out.load Try.underlying68 rfl (by kernel_rfl)
    refine bodyPost_ret (v := .tuple #[.agg #[.bool false, .int .i64 0, .int .i64 0], .bool false]) ?_ rfl ⟨by rw [HR.out], HE.out.1⟩
    rw [results_cell_tmp rfl]
    simp [asAddr, Result.andThen, hl]

end Go.Proofs.Ytkndfklbonkbiaa.post
