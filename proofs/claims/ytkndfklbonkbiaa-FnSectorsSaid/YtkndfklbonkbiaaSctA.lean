/- impl's lines of chapter 17: turnTo, isBeside, doOverlap, meets, has, runsBackAlong, isEastOf. -/
import Derived.Test.YtkndfklbonkbiaaSctJ
import Derived.Test.YtkndfklbonkbiaaAtS
import Derived.Test.YtkndfklbonkbiaaPosJ
import Derived.Laws.Small
import Derived.Deep.QuietTactic
import Derived.BigQuiet
import Derived.Deep.RegionHeld3
import Derived.Deep.CutRange
namespace Go.Proofs.Ytkndfklbonkbiaa.scta
open Go.RowKit Go.Proofs.Ytkndfklbonkbiaa.in_ Go.Proofs.Ytkndfklbonkbiaa.ats Go.Proofs.Ytkndfklbonkbiaa.pos Go.Proofs.Ytkndfklbonkbiaa.sct Go.Proofs.Ytkndfklbonkbiaa.sctt Go.Proofs.Ytkndfklbonkbiaa.sctv Go.Proofs.Ytkndfklbonkbiaa.scti Go.Proofs.Ytkndfklbonkbiaa.sctj

theorem prod_bd {a b : Int} (h1 : -195980402 ≤ a) (h2 : a ≤ 195980402) (h3 : -195980402 ≤ b) (h4 : b ≤ 195980402) : -38408317968081604 ≤ a * b ∧ a * b ≤ 38408317968081604 := by
  have f1 := pp0 (show 0 ≤ 195980402 - a by omega) (show 0 ≤ 195980402 + b by omega)
  have f2 := pp0 (show 0 ≤ 195980402 + a by omega) (show 0 ≤ 195980402 - b by omega)
  have f3 := pp0 (show 0 ≤ 195980402 - a by omega) (show 0 ≤ 195980402 - b by omega)
  have f4 := pp0 (show 0 ≤ 195980402 + a by omega) (show 0 ≤ 195980402 + b by omega)
  have e1 : (195980402 - a) * (195980402 + b) + (195980402 + a) * (195980402 - b) = 76816635936163208 - 2 * (a * b) := by grind
  have e2 : (195980402 - a) * (195980402 - b) + (195980402 + a) * (195980402 + b) = 76816635936163208 + 2 * (a * b) := by grind
  omega
set_option maxRecDepth 100000 in
set_option maxHeartbeats 2000000 in
theorem turnTo (ax ay bx by_ px py : Int) (ha : pB ax ay = true) (hb : pB bx by_ = true) (hp : pB px py = true) (w : World) :
    Calls Try.prog 124 #[.agg #[.int .i64 ax, .int .i64 ay, .int .i64 bx, .int .i64 by_], .agg #[.int .i64 px, .int .i64 py]] w fun e w' => e = .returned (.int .i64 (cr ax ay bx by_ px py)) ∧ Below w.heap.size w w' := by
  have S0 := Lib.hid ((newS 103 #[.int .i64 ax, .int .i64 ay, .int .i64 bx, .int .i64 by_] w).alloc (.cells #[.int .i64 px, .int .i64 py] 31))
  have S1 := Lib.hid ((newS 103 #[.int .i64 ax, .int .i64 ay, .int .i64 bx, .int .i64 by_] w).next 31 #[.int .i64 px, .int .i64 py])
  rw [World.size_alloc] at S1
  obtain ⟨⟨⟨f1, f2⟩, f3, f4⟩, f5, f6⟩ := cr_bd ha hb hp
  obtain ⟨⟨x1, x2⟩, x3, x4⟩ := pB_yes ha
  obtain ⟨⟨y1, y2⟩, y3, y4⟩ := pB_yes hb
  obtain ⟨⟨z1, z2⟩, z3, z4⟩ := pB_yes hp
  have e1 : IntKind.i64.wrap (bx - ax) = bx - ax := IntWalk.i64_in _ (by omega)
  have e2 : IntKind.i64.wrap (py - ay) = py - ay := IntWalk.i64_in _ (by omega)
  have e3 : IntKind.i64.wrap (by_ - ay) = by_ - ay := IntWalk.i64_in _ (by omega)
  have e4 : IntKind.i64.wrap (px - ax) = px - ax := IntWalk.i64_in _ (by omega)
  unfold cr at f5 f6 ⊢
  generalize hA : bx - ax = A at *
  generalize hB : py - ay = B at *
  generalize hC : by_ - ay = C at *
  generalize hD : px - ax = D at *
  generalize hP : A * B = P at *
  generalize hQ : C * D = Q at *
  have e5 : IntKind.i64.wrap P = P := IntWalk.i64_in _ (by omega)
  have e6 : IntKind.i64.wrap Q = Q := IntWalk.i64_in _ (by omega)
  have e7 : IntKind.i64.wrap (P - Q) = P - Q := IntWalk.i64_in _ (by omega)
  have BX := Lib.hid (S0.out.1)
  clear ha hb hp x1 x2 x3 x4 y1 y2 y3 y4 z1 z2 z3 z4
  go_enter Try.func124, Try.ntmps124
  go_wp2_with fail
  go_ret
  exact ⟨rfl, BX.out⟩
theorem doOverlap (a b c d : Int) (w : World) : Calls Try.prog 129 #[.int .i64 a, .int .i64 b, .int .i64 c, .int .i64 d] w fun e w' => e = .returned (.bool (ov a b c d)) ∧ w = w' := by
  go_enter Try.func129, Try.ntmps129
  go_wp2_with fail
  all_goals (
    go_ret
    first
    | exact ⟨by rw [show ov a b c d = true from decide_eq_true (by omega)]; rfl, rfl⟩
    | exact ⟨by rw [show ov a b c d = false from decide_eq_false (by omega)]; rfl, rfl⟩
    | (refine ⟨?_, rfl⟩
       show Ending.returned (.bool (decide _)) = Ending.returned (.bool (decide _))
       exact congrArg (fun p => Ending.returned (Value.bool p)) (decide_eq_decide.2 (by omega)))
    | (exfalso; omega))
set_option maxRecDepth 100000 in
set_option maxHeartbeats 2000000 in
theorem isBeside (ax ay bx by_ px py qx qy : Int) (ha : pB ax ay = true) (hb : pB bx by_ = true) (hp : pB px py = true) (hq : pB qx qy = true) (w : World) :
    Calls Try.prog 130 #[.agg #[.int .i64 ax, .int .i64 ay, .int .i64 bx, .int .i64 by_], .agg #[.int .i64 px, .int .i64 py, .int .i64 qx, .int .i64 qy]] w fun e w' => e = .returned (.bool (bes ax ay bx by_ px py qx qy)) ∧ Below w.heap.size w w' := by
  have S0 := Lib.hid ((newS 103 #[.int .i64 ax, .int .i64 ay, .int .i64 bx, .int .i64 by_] w).alloc (.cells #[.int .i64 px, .int .i64 py, .int .i64 qx, .int .i64 qy] 103))
  have S1 := Lib.hid ((newS 103 #[.int .i64 ax, .int .i64 ay, .int .i64 bx, .int .i64 by_] w).next 103 #[.int .i64 px, .int .i64 py, .int .i64 qx, .int .i64 qy])
  rw [World.size_alloc] at S1
  have D1 := Lib.hid (fun W d0 os => Calls.regrown_of (show Calls Try.prog 124 #[.agg #[.int .i64 ax, .int .i64 ay, .int .i64 bx, .int .i64 by_], .agg #[.int .i64 px, .int .i64 py]] (Sort.grow (redrawn W d0) os) (fun e w' => e = .returned (.int .i64 (cr ax ay bx by_ px py)) ∧ Below (Sort.grow (redrawn W d0) os).heap.size (Sort.grow (redrawn W d0) os) w') from turnTo ax ay bx by_ px py ha hb hp _))
  have D2 := Lib.hid (fun W d0 os => Calls.regrown_of (show Calls Try.prog 124 #[.agg #[.int .i64 ax, .int .i64 ay, .int .i64 bx, .int .i64 by_], .agg #[.int .i64 qx, .int .i64 qy]] (Sort.grow (redrawn W d0) os) (fun e w' => e = .returned (.int .i64 (cr ax ay bx by_ qx qy)) ∧ Below (Sort.grow (redrawn W d0) os).heap.size (Sort.grow (redrawn W d0) os) w') from turnTo ax ay bx by_ qx qy ha hb hq _))
  obtain ⟨-, f1, f2⟩ := cr_bd ha hb hp
  obtain ⟨-, f3, f4⟩ := cr_bd ha hb hq
  have f5 := prod_bd f1 f2 f3 f4
  unfold bes
  clear ha hb hp hq
  generalize cr ax ay bx by_ px py = u at *
  generalize cr ax ay bx by_ qx qy = v at *
  have HZ := Lib.hid (show IntKind.i64.wrap (u * v) = u * v from IntWalk.i64_in _ (by omega))
  go_enter Try.func130, Try.ntmps130
  go_upto_region 1 with fail
  generalize ((w.alloc (.cells #[.int .i64 ax, .int .i64 ay, .int .i64 bx, .int .i64 by_] 103)).alloc (.cells #[.int .i64 px, .int .i64 py, .int .i64 qx, .int .i64 qy] 103)) = W0 at *
  have c00 : W0.cell? ⟨w.heap.size, 0, none⟩ = some (.int .i64 ax) := S0.out.cell 0
  have c01 : W0.cell? ⟨w.heap.size, 1, none⟩ = some (.int .i64 ay) := S0.out.cell 1
  have c02 : W0.cell? ⟨w.heap.size, 2, none⟩ = some (.int .i64 bx) := S0.out.cell 2
  have c03 : W0.cell? ⟨w.heap.size, 3, none⟩ = some (.int .i64 by_) := S0.out.cell 3
  have c10 : W0.cell? ⟨w.heap.size + 1, 0, none⟩ = some (.int .i64 px) := S1.out.cell 0
  have c11 : W0.cell? ⟨w.heap.size + 1, 1, none⟩ = some (.int .i64 py) := S1.out.cell 1
  have c12 : W0.cell? ⟨w.heap.size + 1, 2, none⟩ = some (.int .i64 qx) := S1.out.cell 2
  have c13 : W0.cell? ⟨w.heap.size + 1, 3, none⟩ = some (.int .i64 qy) := S1.out.cell 3
  have c00' := fun d0 os => cell_regrown c00 d0 os
  have c01' := fun d0 os => cell_regrown c01 d0 os
  have c02' := fun d0 os => cell_regrown c02 d0 os
  have c03' := fun d0 os => cell_regrown c03 d0 os
  have c10' := fun d0 os => cell_regrown c10 d0 os
  have c11' := fun d0 os => cell_regrown c11 d0 os
  have c12' := fun d0 os => cell_regrown c12 d0 os
  have c13' := fun d0 os => cell_regrown c13 d0 os
  clear c00 c01 c02 c03 c10 c11 c12 c13
  refine wp_region_quiet_below (by kernel_rfl) (by kernel_rfl) ?_
  repeat (
    with_reducible refine wpQuiet_step (fun K hK => ?_)
    go_simp
    first
      | (refine hK _ ?_; clear hK K)
      | (apply Exists.intro
         refine ⟨fun _ => ?_, hK _ ?_⟩
         (first
           | (go_at_call 124; with_reducible exact D1.out _ _ _)
           | (go_at_call 124; with_reducible exact D2.out _ _ _))
         clear hK K))
  with_reducible refine wpQuiet_nil ?_
  intro _ hw'
  obtain ⟨⟨dq, osq⟩, hw''⟩ := hw'
  subst hw''
  have hbl := (below_regrown W0 dq osq)
  clear c00' c01' c02' c03' c10' c11' c12' c13'
  generalize Sort.grow (redrawn W0 dq) osq = W3 at *
  have B3 := Lib.hid (S0.out.1.trans (hbl.mono S0.out.1.size))
  go_wp2_with fail
  go_ret
  exact ⟨by show Ending.returned (.bool (decide (0 < IntKind.i64.wrap (u * v)))) = _; rw [HZ.out], B3.out⟩
set_option maxRecDepth 100000 in
set_option maxHeartbeats 2000000 in
theorem meets (ax ay bx by_ px py qx qy : Int) (ha : pB ax ay = true) (hb : pB bx by_ = true) (hp : pB px py = true) (hq : pB qx qy = true) (w : World) :
    Calls Try.prog 101 #[.agg #[.int .i64 ax, .int .i64 ay, .int .i64 bx, .int .i64 by_], .agg #[.int .i64 px, .int .i64 py, .int .i64 qx, .int .i64 qy]] w fun e w' => e = .returned (.bool (meB ax ay bx by_ px py qx qy)) ∧ Below w.heap.size w w' := by
  rw [← mt_is]
  have S0 := Lib.hid ((newS 103 #[.int .i64 ax, .int .i64 ay, .int .i64 bx, .int .i64 by_] w).alloc (.cells #[.int .i64 px, .int .i64 py, .int .i64 qx, .int .i64 qy] 103))
  have S1 := Lib.hid ((newS 103 #[.int .i64 ax, .int .i64 ay, .int .i64 bx, .int .i64 by_] w).next 103 #[.int .i64 px, .int .i64 py, .int .i64 qx, .int .i64 qy])
  rw [World.size_alloc] at S1
  have T0 := Lib.hid (fun w => doOverlap ax bx px qx w)
  have T1 := Lib.hid (fun w => doOverlap ay by_ py qy w)
  have T2 := Lib.hid (fun w => isBeside ax ay bx by_ px py qx qy ha hb hp hq w)
  have T3 := Lib.hid (fun w => isBeside px py qx qy ax ay bx by_ hp hq ha hb w)
  clear ha hb hp hq
  unfold mtB
  generalize ov ax bx px qx = q0 at *
  generalize ov ay by_ py qy = q1 at *
  generalize bes ax ay bx by_ px py qx qy = q2 at *
  generalize bes px py qx qy ax ay bx by_ = q3 at *
  cases q0
  · go_enter Try.func101, Try.ntmps101
    go_wp2_with fail
    generalize ((w.alloc (.cells #[.int .i64 ax, .int .i64 ay, .int .i64 bx, .int .i64 by_] 103)).alloc (.cells #[.int .i64 px, .int .i64 py, .int .i64 qx, .int .i64 qy] 103)) = W0 at *
    refine (T0.out _).mono ?_
    rintro e w' ⟨rfl, rfl⟩
    have AN0 := Lib.hid (Below.refl W0.heap.size W0)
    have BX := Lib.hid (S0.out.1.trans (AN0.out.mono S0.out.1.size))
    have c00 : W0.cell? ⟨w.heap.size, 0, none⟩ = some (.int .i64 ax) := (S0.out.old AN0.out).cell 0
    have c01 : W0.cell? ⟨w.heap.size, 1, none⟩ = some (.int .i64 ay) := (S0.out.old AN0.out).cell 1
    have c02 : W0.cell? ⟨w.heap.size, 2, none⟩ = some (.int .i64 bx) := (S0.out.old AN0.out).cell 2
    have c03 : W0.cell? ⟨w.heap.size, 3, none⟩ = some (.int .i64 by_) := (S0.out.old AN0.out).cell 3
    have c10 : W0.cell? ⟨w.heap.size + 1, 0, none⟩ = some (.int .i64 px) := (S1.out.old AN0.out).cell 0
    have c11 : W0.cell? ⟨w.heap.size + 1, 1, none⟩ = some (.int .i64 py) := (S1.out.old AN0.out).cell 1
    have c12 : W0.cell? ⟨w.heap.size + 1, 2, none⟩ = some (.int .i64 qx) := (S1.out.old AN0.out).cell 2
    have c13 : W0.cell? ⟨w.heap.size + 1, 3, none⟩ = some (.int .i64 qy) := (S1.out.old AN0.out).cell 3
    go_wp2_with fail
    go_ret
    exact ⟨rfl, BX.out⟩
  cases q1
  · go_enter Try.func101, Try.ntmps101
    go_wp2_with fail
    generalize ((w.alloc (.cells #[.int .i64 ax, .int .i64 ay, .int .i64 bx, .int .i64 by_] 103)).alloc (.cells #[.int .i64 px, .int .i64 py, .int .i64 qx, .int .i64 qy] 103)) = W0 at *
    refine (T0.out _).mono ?_
    rintro e w' ⟨rfl, rfl⟩
    have c00 : W0.cell? ⟨w.heap.size, 0, none⟩ = some (.int .i64 ax) := S0.out.cell 0
    have c01 : W0.cell? ⟨w.heap.size, 1, none⟩ = some (.int .i64 ay) := S0.out.cell 1
    have c02 : W0.cell? ⟨w.heap.size, 2, none⟩ = some (.int .i64 bx) := S0.out.cell 2
    have c03 : W0.cell? ⟨w.heap.size, 3, none⟩ = some (.int .i64 by_) := S0.out.cell 3
    have c10 : W0.cell? ⟨w.heap.size + 1, 0, none⟩ = some (.int .i64 px) := S1.out.cell 0
    have c11 : W0.cell? ⟨w.heap.size + 1, 1, none⟩ = some (.int .i64 py) := S1.out.cell 1
    have c12 : W0.cell? ⟨w.heap.size + 1, 2, none⟩ = some (.int .i64 qx) := S1.out.cell 2
    have c13 : W0.cell? ⟨w.heap.size + 1, 3, none⟩ = some (.int .i64 qy) := S1.out.cell 3
    go_wp2_with fail
    clear c00 c01 c02 c03 c10 c11 c12 c13
    refine (T1.out _).mono ?_
    rintro e w' ⟨rfl, rfl⟩
    have AN0 := Lib.hid (Below.refl W0.heap.size W0)
    have BX := Lib.hid (S0.out.1.trans (AN0.out.mono S0.out.1.size))
    have c00 : W0.cell? ⟨w.heap.size, 0, none⟩ = some (.int .i64 ax) := (S0.out.old AN0.out).cell 0
    have c01 : W0.cell? ⟨w.heap.size, 1, none⟩ = some (.int .i64 ay) := (S0.out.old AN0.out).cell 1
    have c02 : W0.cell? ⟨w.heap.size, 2, none⟩ = some (.int .i64 bx) := (S0.out.old AN0.out).cell 2
    have c03 : W0.cell? ⟨w.heap.size, 3, none⟩ = some (.int .i64 by_) := (S0.out.old AN0.out).cell 3
    have c10 : W0.cell? ⟨w.heap.size + 1, 0, none⟩ = some (.int .i64 px) := (S1.out.old AN0.out).cell 0
    have c11 : W0.cell? ⟨w.heap.size + 1, 1, none⟩ = some (.int .i64 py) := (S1.out.old AN0.out).cell 1
    have c12 : W0.cell? ⟨w.heap.size + 1, 2, none⟩ = some (.int .i64 qx) := (S1.out.old AN0.out).cell 2
    have c13 : W0.cell? ⟨w.heap.size + 1, 3, none⟩ = some (.int .i64 qy) := (S1.out.old AN0.out).cell 3
    go_wp2_with fail
    go_ret
    exact ⟨rfl, BX.out⟩
  cases q2
  case true =>
    go_enter Try.func101, Try.ntmps101
    go_wp2_with fail
    generalize ((w.alloc (.cells #[.int .i64 ax, .int .i64 ay, .int .i64 bx, .int .i64 by_] 103)).alloc (.cells #[.int .i64 px, .int .i64 py, .int .i64 qx, .int .i64 qy] 103)) = W0 at *
    refine (T0.out _).mono ?_
    rintro e w' ⟨rfl, rfl⟩
    have c00 : W0.cell? ⟨w.heap.size, 0, none⟩ = some (.int .i64 ax) := S0.out.cell 0
    have c01 : W0.cell? ⟨w.heap.size, 1, none⟩ = some (.int .i64 ay) := S0.out.cell 1
    have c02 : W0.cell? ⟨w.heap.size, 2, none⟩ = some (.int .i64 bx) := S0.out.cell 2
    have c03 : W0.cell? ⟨w.heap.size, 3, none⟩ = some (.int .i64 by_) := S0.out.cell 3
    have c10 : W0.cell? ⟨w.heap.size + 1, 0, none⟩ = some (.int .i64 px) := S1.out.cell 0
    have c11 : W0.cell? ⟨w.heap.size + 1, 1, none⟩ = some (.int .i64 py) := S1.out.cell 1
    have c12 : W0.cell? ⟨w.heap.size + 1, 2, none⟩ = some (.int .i64 qx) := S1.out.cell 2
    have c13 : W0.cell? ⟨w.heap.size + 1, 3, none⟩ = some (.int .i64 qy) := S1.out.cell 3
    go_wp2_with fail
    clear c00 c01 c02 c03 c10 c11 c12 c13
    refine (T1.out _).mono ?_
    rintro e w' ⟨rfl, rfl⟩
    have AN0 := Lib.hid (Below.refl W0.heap.size W0)
    have c00 : W0.cell? ⟨w.heap.size, 0, none⟩ = some (.int .i64 ax) := (S0.out.old AN0.out).cell 0
    have c01 : W0.cell? ⟨w.heap.size, 1, none⟩ = some (.int .i64 ay) := (S0.out.old AN0.out).cell 1
    have c02 : W0.cell? ⟨w.heap.size, 2, none⟩ = some (.int .i64 bx) := (S0.out.old AN0.out).cell 2
    have c03 : W0.cell? ⟨w.heap.size, 3, none⟩ = some (.int .i64 by_) := (S0.out.old AN0.out).cell 3
    have c10 : W0.cell? ⟨w.heap.size + 1, 0, none⟩ = some (.int .i64 px) := (S1.out.old AN0.out).cell 0
    have c11 : W0.cell? ⟨w.heap.size + 1, 1, none⟩ = some (.int .i64 py) := (S1.out.old AN0.out).cell 1
    have c12 : W0.cell? ⟨w.heap.size + 1, 2, none⟩ = some (.int .i64 qx) := (S1.out.old AN0.out).cell 2
    have c13 : W0.cell? ⟨w.heap.size + 1, 3, none⟩ = some (.int .i64 qy) := (S1.out.old AN0.out).cell 3
    go_wp2_with fail
    clear c00 c01 c02 c03 c10 c11 c12 c13
    refine (T2.out _).mono ?_
    rintro e V2 ⟨rfl, hb2⟩
    have AN2 := Lib.hid (AN0.out.trans (hb2.mono AN0.out.size))
    clear hb2
    have BX := Lib.hid (S0.out.1.trans (AN2.out.mono S0.out.1.size))
    have c00 : V2.cell? ⟨w.heap.size, 0, none⟩ = some (.int .i64 ax) := (S0.out.old AN2.out).cell 0
    have c01 : V2.cell? ⟨w.heap.size, 1, none⟩ = some (.int .i64 ay) := (S0.out.old AN2.out).cell 1
    have c02 : V2.cell? ⟨w.heap.size, 2, none⟩ = some (.int .i64 bx) := (S0.out.old AN2.out).cell 2
    have c03 : V2.cell? ⟨w.heap.size, 3, none⟩ = some (.int .i64 by_) := (S0.out.old AN2.out).cell 3
    have c10 : V2.cell? ⟨w.heap.size + 1, 0, none⟩ = some (.int .i64 px) := (S1.out.old AN2.out).cell 0
    have c11 : V2.cell? ⟨w.heap.size + 1, 1, none⟩ = some (.int .i64 py) := (S1.out.old AN2.out).cell 1
    have c12 : V2.cell? ⟨w.heap.size + 1, 2, none⟩ = some (.int .i64 qx) := (S1.out.old AN2.out).cell 2
    have c13 : V2.cell? ⟨w.heap.size + 1, 3, none⟩ = some (.int .i64 qy) := (S1.out.old AN2.out).cell 3
    go_wp2_with fail
    go_ret
    exact ⟨rfl, BX.out⟩
  cases q3
  case true =>
    go_enter Try.func101, Try.ntmps101
    go_wp2_with fail
    generalize ((w.alloc (.cells #[.int .i64 ax, .int .i64 ay, .int .i64 bx, .int .i64 by_] 103)).alloc (.cells #[.int .i64 px, .int .i64 py, .int .i64 qx, .int .i64 qy] 103)) = W0 at *
    refine (T0.out _).mono ?_
    rintro e w' ⟨rfl, rfl⟩
    have c00 : W0.cell? ⟨w.heap.size, 0, none⟩ = some (.int .i64 ax) := S0.out.cell 0
    have c01 : W0.cell? ⟨w.heap.size, 1, none⟩ = some (.int .i64 ay) := S0.out.cell 1
    have c02 : W0.cell? ⟨w.heap.size, 2, none⟩ = some (.int .i64 bx) := S0.out.cell 2
    have c03 : W0.cell? ⟨w.heap.size, 3, none⟩ = some (.int .i64 by_) := S0.out.cell 3
    have c10 : W0.cell? ⟨w.heap.size + 1, 0, none⟩ = some (.int .i64 px) := S1.out.cell 0
    have c11 : W0.cell? ⟨w.heap.size + 1, 1, none⟩ = some (.int .i64 py) := S1.out.cell 1
    have c12 : W0.cell? ⟨w.heap.size + 1, 2, none⟩ = some (.int .i64 qx) := S1.out.cell 2
    have c13 : W0.cell? ⟨w.heap.size + 1, 3, none⟩ = some (.int .i64 qy) := S1.out.cell 3
    go_wp2_with fail
    clear c00 c01 c02 c03 c10 c11 c12 c13
    refine (T1.out _).mono ?_
    rintro e w' ⟨rfl, rfl⟩
    have AN0 := Lib.hid (Below.refl W0.heap.size W0)
    have c00 : W0.cell? ⟨w.heap.size, 0, none⟩ = some (.int .i64 ax) := (S0.out.old AN0.out).cell 0
    have c01 : W0.cell? ⟨w.heap.size, 1, none⟩ = some (.int .i64 ay) := (S0.out.old AN0.out).cell 1
    have c02 : W0.cell? ⟨w.heap.size, 2, none⟩ = some (.int .i64 bx) := (S0.out.old AN0.out).cell 2
    have c03 : W0.cell? ⟨w.heap.size, 3, none⟩ = some (.int .i64 by_) := (S0.out.old AN0.out).cell 3
    have c10 : W0.cell? ⟨w.heap.size + 1, 0, none⟩ = some (.int .i64 px) := (S1.out.old AN0.out).cell 0
    have c11 : W0.cell? ⟨w.heap.size + 1, 1, none⟩ = some (.int .i64 py) := (S1.out.old AN0.out).cell 1
    have c12 : W0.cell? ⟨w.heap.size + 1, 2, none⟩ = some (.int .i64 qx) := (S1.out.old AN0.out).cell 2
    have c13 : W0.cell? ⟨w.heap.size + 1, 3, none⟩ = some (.int .i64 qy) := (S1.out.old AN0.out).cell 3
    go_wp2_with fail
    clear c00 c01 c02 c03 c10 c11 c12 c13
    refine (T2.out _).mono ?_
    rintro e V2 ⟨rfl, hb2⟩
    have AN2 := Lib.hid (AN0.out.trans (hb2.mono AN0.out.size))
    clear hb2
    have c00 : V2.cell? ⟨w.heap.size, 0, none⟩ = some (.int .i64 ax) := (S0.out.old AN2.out).cell 0
    have c01 : V2.cell? ⟨w.heap.size, 1, none⟩ = some (.int .i64 ay) := (S0.out.old AN2.out).cell 1
    have c02 : V2.cell? ⟨w.heap.size, 2, none⟩ = some (.int .i64 bx) := (S0.out.old AN2.out).cell 2
    have c03 : V2.cell? ⟨w.heap.size, 3, none⟩ = some (.int .i64 by_) := (S0.out.old AN2.out).cell 3
    have c10 : V2.cell? ⟨w.heap.size + 1, 0, none⟩ = some (.int .i64 px) := (S1.out.old AN2.out).cell 0
    have c11 : V2.cell? ⟨w.heap.size + 1, 1, none⟩ = some (.int .i64 py) := (S1.out.old AN2.out).cell 1
    have c12 : V2.cell? ⟨w.heap.size + 1, 2, none⟩ = some (.int .i64 qx) := (S1.out.old AN2.out).cell 2
    have c13 : V2.cell? ⟨w.heap.size + 1, 3, none⟩ = some (.int .i64 qy) := (S1.out.old AN2.out).cell 3
    go_wp2_with fail
    clear c00 c01 c02 c03 c10 c11 c12 c13
    refine (T3.out _).mono ?_
    rintro e V3 ⟨rfl, hb3⟩
    have AN3 := Lib.hid (AN2.out.trans (hb3.mono AN2.out.size))
    clear hb3
    have BX := Lib.hid (S0.out.1.trans (AN3.out.mono S0.out.1.size))
    have c00 : V3.cell? ⟨w.heap.size, 0, none⟩ = some (.int .i64 ax) := (S0.out.old AN3.out).cell 0
    have c01 : V3.cell? ⟨w.heap.size, 1, none⟩ = some (.int .i64 ay) := (S0.out.old AN3.out).cell 1
    have c02 : V3.cell? ⟨w.heap.size, 2, none⟩ = some (.int .i64 bx) := (S0.out.old AN3.out).cell 2
    have c03 : V3.cell? ⟨w.heap.size, 3, none⟩ = some (.int .i64 by_) := (S0.out.old AN3.out).cell 3
    have c10 : V3.cell? ⟨w.heap.size + 1, 0, none⟩ = some (.int .i64 px) := (S1.out.old AN3.out).cell 0
    have c11 : V3.cell? ⟨w.heap.size + 1, 1, none⟩ = some (.int .i64 py) := (S1.out.old AN3.out).cell 1
    have c12 : V3.cell? ⟨w.heap.size + 1, 2, none⟩ = some (.int .i64 qx) := (S1.out.old AN3.out).cell 2
    have c13 : V3.cell? ⟨w.heap.size + 1, 3, none⟩ = some (.int .i64 qy) := (S1.out.old AN3.out).cell 3
    go_wp2_with fail
    go_ret
    exact ⟨rfl, BX.out⟩
  go_enter Try.func101, Try.ntmps101
  go_wp2_with fail
  generalize ((w.alloc (.cells #[.int .i64 ax, .int .i64 ay, .int .i64 bx, .int .i64 by_] 103)).alloc (.cells #[.int .i64 px, .int .i64 py, .int .i64 qx, .int .i64 qy] 103)) = W0 at *
  refine (T0.out _).mono ?_
  rintro e w' ⟨rfl, rfl⟩
  have c00 : W0.cell? ⟨w.heap.size, 0, none⟩ = some (.int .i64 ax) := S0.out.cell 0
  have c01 : W0.cell? ⟨w.heap.size, 1, none⟩ = some (.int .i64 ay) := S0.out.cell 1
  have c02 : W0.cell? ⟨w.heap.size, 2, none⟩ = some (.int .i64 bx) := S0.out.cell 2
  have c03 : W0.cell? ⟨w.heap.size, 3, none⟩ = some (.int .i64 by_) := S0.out.cell 3
  have c10 : W0.cell? ⟨w.heap.size + 1, 0, none⟩ = some (.int .i64 px) := S1.out.cell 0
  have c11 : W0.cell? ⟨w.heap.size + 1, 1, none⟩ = some (.int .i64 py) := S1.out.cell 1
  have c12 : W0.cell? ⟨w.heap.size + 1, 2, none⟩ = some (.int .i64 qx) := S1.out.cell 2
  have c13 : W0.cell? ⟨w.heap.size + 1, 3, none⟩ = some (.int .i64 qy) := S1.out.cell 3
  go_wp2_with fail
  clear c00 c01 c02 c03 c10 c11 c12 c13
  refine (T1.out _).mono ?_
  rintro e w' ⟨rfl, rfl⟩
  have AN0 := Lib.hid (Below.refl W0.heap.size W0)
  have c00 : W0.cell? ⟨w.heap.size, 0, none⟩ = some (.int .i64 ax) := (S0.out.old AN0.out).cell 0
  have c01 : W0.cell? ⟨w.heap.size, 1, none⟩ = some (.int .i64 ay) := (S0.out.old AN0.out).cell 1
  have c02 : W0.cell? ⟨w.heap.size, 2, none⟩ = some (.int .i64 bx) := (S0.out.old AN0.out).cell 2
  have c03 : W0.cell? ⟨w.heap.size, 3, none⟩ = some (.int .i64 by_) := (S0.out.old AN0.out).cell 3
  have c10 : W0.cell? ⟨w.heap.size + 1, 0, none⟩ = some (.int .i64 px) := (S1.out.old AN0.out).cell 0
  have c11 : W0.cell? ⟨w.heap.size + 1, 1, none⟩ = some (.int .i64 py) := (S1.out.old AN0.out).cell 1
  have c12 : W0.cell? ⟨w.heap.size + 1, 2, none⟩ = some (.int .i64 qx) := (S1.out.old AN0.out).cell 2
  have c13 : W0.cell? ⟨w.heap.size + 1, 3, none⟩ = some (.int .i64 qy) := (S1.out.old AN0.out).cell 3
  go_wp2_with fail
  clear c00 c01 c02 c03 c10 c11 c12 c13
  refine (T2.out _).mono ?_
  rintro e V2 ⟨rfl, hb2⟩
  have AN2 := Lib.hid (AN0.out.trans (hb2.mono AN0.out.size))
  clear hb2
  have c00 : V2.cell? ⟨w.heap.size, 0, none⟩ = some (.int .i64 ax) := (S0.out.old AN2.out).cell 0
  have c01 : V2.cell? ⟨w.heap.size, 1, none⟩ = some (.int .i64 ay) := (S0.out.old AN2.out).cell 1
  have c02 : V2.cell? ⟨w.heap.size, 2, none⟩ = some (.int .i64 bx) := (S0.out.old AN2.out).cell 2
  have c03 : V2.cell? ⟨w.heap.size, 3, none⟩ = some (.int .i64 by_) := (S0.out.old AN2.out).cell 3
  have c10 : V2.cell? ⟨w.heap.size + 1, 0, none⟩ = some (.int .i64 px) := (S1.out.old AN2.out).cell 0
  have c11 : V2.cell? ⟨w.heap.size + 1, 1, none⟩ = some (.int .i64 py) := (S1.out.old AN2.out).cell 1
  have c12 : V2.cell? ⟨w.heap.size + 1, 2, none⟩ = some (.int .i64 qx) := (S1.out.old AN2.out).cell 2
  have c13 : V2.cell? ⟨w.heap.size + 1, 3, none⟩ = some (.int .i64 qy) := (S1.out.old AN2.out).cell 3
  go_wp2_with fail
  clear c00 c01 c02 c03 c10 c11 c12 c13
  refine (T3.out _).mono ?_
  rintro e V3 ⟨rfl, hb3⟩
  have AN3 := Lib.hid (AN2.out.trans (hb3.mono AN2.out.size))
  clear hb3
  have BX := Lib.hid (S0.out.1.trans (AN3.out.mono S0.out.1.size))
  have c00 : V3.cell? ⟨w.heap.size, 0, none⟩ = some (.int .i64 ax) := (S0.out.old AN3.out).cell 0
  have c01 : V3.cell? ⟨w.heap.size, 1, none⟩ = some (.int .i64 ay) := (S0.out.old AN3.out).cell 1
  have c02 : V3.cell? ⟨w.heap.size, 2, none⟩ = some (.int .i64 bx) := (S0.out.old AN3.out).cell 2
  have c03 : V3.cell? ⟨w.heap.size, 3, none⟩ = some (.int .i64 by_) := (S0.out.old AN3.out).cell 3
  have c10 : V3.cell? ⟨w.heap.size + 1, 0, none⟩ = some (.int .i64 px) := (S1.out.old AN3.out).cell 0
  have c11 : V3.cell? ⟨w.heap.size + 1, 1, none⟩ = some (.int .i64 py) := (S1.out.old AN3.out).cell 1
  have c12 : V3.cell? ⟨w.heap.size + 1, 2, none⟩ = some (.int .i64 qx) := (S1.out.old AN3.out).cell 2
  have c13 : V3.cell? ⟨w.heap.size + 1, 3, none⟩ = some (.int .i64 qy) := (S1.out.old AN3.out).cell 3
  go_wp2_with fail
  go_ret
  exact ⟨rfl, BX.out⟩
set_option maxRecDepth 100000 in
set_option maxHeartbeats 2000000 in
theorem has (ax ay bx by_ px py : Int) (ha : pB ax ay = true) (hb : pB bx by_ = true) (hp : pB px py = true) (w : World) :
    Calls Try.prog 92 #[.agg #[.int .i64 ax, .int .i64 ay, .int .i64 bx, .int .i64 by_], .agg #[.int .i64 px, .int .i64 py]] w fun e w' => e = .returned (.bool (onB ax ay bx by_ px py)) ∧ Below w.heap.size w w' := by
  rw [← has_is, mt_is]
  have S0 := Lib.hid ((newS 103 #[.int .i64 ax, .int .i64 ay, .int .i64 bx, .int .i64 by_] w).alloc (.cells #[.int .i64 px, .int .i64 py] 31))
  have S1 := Lib.hid ((newS 103 #[.int .i64 ax, .int .i64 ay, .int .i64 bx, .int .i64 by_] w).next 31 #[.int .i64 px, .int .i64 py])
  rw [World.size_alloc] at S1
  have T0 := Lib.hid (fun w => meets ax ay bx by_ px py px py ha hb hp hp w)
  clear ha hb hp
  generalize meB ax ay bx by_ px py px py = q0 at *
  go_enter Try.func92, Try.ntmps92
  go_wp2_with fail
  generalize ((w.alloc (.cells #[.int .i64 ax, .int .i64 ay, .int .i64 bx, .int .i64 by_] 103)).alloc (.cells #[.int .i64 px, .int .i64 py] 31)) = W0 at *
  refine (T0.out _).mono ?_
  rintro e V ⟨rfl, hb⟩
  have BX := Lib.hid (S0.out.1.trans (hb.mono S0.out.1.size))
  clear hb
  go_wp2_with fail
  go_ret
  exact ⟨rfl, BX.out⟩
set_option maxRecDepth 100000 in
set_option maxHeartbeats 2000000 in
theorem runsBackAlong (ax ay bx by_ px py qx qy : Int) (ha : pB ax ay = true) (hb : pB bx by_ = true) (hp : pB px py = true) (hq : pB qx qy = true) (w : World) :
    Calls Try.prog 100 #[.agg #[.int .i64 ax, .int .i64 ay, .int .i64 bx, .int .i64 by_], .agg #[.int .i64 px, .int .i64 py, .int .i64 qx, .int .i64 qy]] w fun e w' => e = .returned (.bool (rbB ax ay bx by_ px py qx qy)) ∧ Below w.heap.size w w' := by
  have S0 := Lib.hid ((newS 103 #[.int .i64 ax, .int .i64 ay, .int .i64 bx, .int .i64 by_] w).alloc (.cells #[.int .i64 px, .int .i64 py, .int .i64 qx, .int .i64 qy] 103))
  have S1 := Lib.hid ((newS 103 #[.int .i64 ax, .int .i64 ay, .int .i64 bx, .int .i64 by_] w).next 103 #[.int .i64 px, .int .i64 py, .int .i64 qx, .int .i64 qy])
  rw [World.size_alloc] at S1
  have T0 := Lib.hid (fun w => has px py qx qy bx by_ hp hq hb w)
  have T1 := Lib.hid (fun w => has ax ay bx by_ px py ha hb hp w)
  clear ha hb hp hq
  unfold rbB
  generalize onB px py qx qy bx by_ = q0 at *
  generalize onB ax ay bx by_ px py = q1 at *
  cases q0
  case true =>
    go_enter Try.func100, Try.ntmps100
    go_wp2_with fail
    generalize ((w.alloc (.cells #[.int .i64 ax, .int .i64 ay, .int .i64 bx, .int .i64 by_] 103)).alloc (.cells #[.int .i64 px, .int .i64 py, .int .i64 qx, .int .i64 qy] 103)) = W0 at *
    refine (T0.out _).mono ?_
    rintro e V1 ⟨rfl, hb1⟩
    have AN := Lib.hid hb1
    clear hb1
    have BX := Lib.hid (S0.out.1.trans (AN.out.mono S0.out.1.size))
    go_wp2_with fail
    go_ret
    exact ⟨rfl, BX.out⟩
  go_enter Try.func100, Try.ntmps100
  go_wp2_with fail
  generalize ((w.alloc (.cells #[.int .i64 ax, .int .i64 ay, .int .i64 bx, .int .i64 by_] 103)).alloc (.cells #[.int .i64 px, .int .i64 py, .int .i64 qx, .int .i64 qy] 103)) = W0 at *
  refine (T0.out _).mono ?_
  rintro e V1 ⟨rfl, hb1⟩
  have AN := Lib.hid hb1
  clear hb1
  have c00 : V1.cell? ⟨w.heap.size, 0, none⟩ = some (.int .i64 ax) := (S0.out.old AN.out).cell 0
  have c01 : V1.cell? ⟨w.heap.size, 1, none⟩ = some (.int .i64 ay) := (S0.out.old AN.out).cell 1
  have c02 : V1.cell? ⟨w.heap.size, 2, none⟩ = some (.int .i64 bx) := (S0.out.old AN.out).cell 2
  have c03 : V1.cell? ⟨w.heap.size, 3, none⟩ = some (.int .i64 by_) := (S0.out.old AN.out).cell 3
  have c10 : V1.cell? ⟨w.heap.size + 1, 0, none⟩ = some (.int .i64 px) := (S1.out.old AN.out).cell 0
  have c11 : V1.cell? ⟨w.heap.size + 1, 1, none⟩ = some (.int .i64 py) := (S1.out.old AN.out).cell 1
  have c12 : V1.cell? ⟨w.heap.size + 1, 2, none⟩ = some (.int .i64 qx) := (S1.out.old AN.out).cell 2
  have c13 : V1.cell? ⟨w.heap.size + 1, 3, none⟩ = some (.int .i64 qy) := (S1.out.old AN.out).cell 3
  go_wp2_with fail
  clear c00 c01 c02 c03 c10 c11 c12 c13
  refine (T1.out _).mono ?_
  rintro e V2 ⟨rfl, hb2⟩
  have AN2 := Lib.hid (AN.out.trans (hb2.mono AN.out.size))
  clear hb2 AN
  have BX := Lib.hid (S0.out.1.trans (AN2.out.mono S0.out.1.size))
  go_wp2_with fail
  go_ret
  exact ⟨rfl, BX.out⟩
set_option maxRecDepth 100000 in
set_option maxHeartbeats 2000000 in
theorem isEastOf (ax ay bx by_ px py : Int) (ha : pB ax ay = true) (hb : pB bx by_ = true) (hp : pB px py = true) (w : World) :
    Calls Try.prog 93 #[.agg #[.int .i64 ax, .int .i64 ay, .int .i64 bx, .int .i64 by_], .agg #[.int .i64 px, .int .i64 py]] w fun e w' => e = .returned (.bool (tog ax ay bx by_ px py)) ∧ Below w.heap.size w w' := by
  rw [← ea_is]
  have S0 := Lib.hid ((newS 103 #[.int .i64 ax, .int .i64 ay, .int .i64 bx, .int .i64 by_] w).alloc (.cells #[.int .i64 px, .int .i64 py] 31))
  have S1 := Lib.hid ((newS 103 #[.int .i64 ax, .int .i64 ay, .int .i64 bx, .int .i64 by_] w).next 31 #[.int .i64 px, .int .i64 py])
  rw [World.size_alloc] at S1
  have T0 := Lib.hid (fun w => turnTo ax ay bx by_ px py ha hb hp w)
  unfold eaB
  clear ha hb hp
  generalize cr ax ay bx by_ px py = c at *
  by_cases h1 : py < ay
  · by_cases h2 : py < by_
    · rw [decide_eq_true h1, decide_eq_true h2]
      go_enter Try.func93, Try.ntmps93
      go_upto_region 1 with fail
      generalize ((w.alloc (.cells #[.int .i64 ax, .int .i64 ay, .int .i64 bx, .int .i64 by_] 103)).alloc (.cells #[.int .i64 px, .int .i64 py] 31)) = W0 at *
      have c00 : W0.cell? ⟨w.heap.size, 0, none⟩ = some (.int .i64 ax) := S0.out.cell 0
      have c01 : W0.cell? ⟨w.heap.size, 1, none⟩ = some (.int .i64 ay) := S0.out.cell 1
      have c02 : W0.cell? ⟨w.heap.size, 2, none⟩ = some (.int .i64 bx) := S0.out.cell 2
      have c03 : W0.cell? ⟨w.heap.size, 3, none⟩ = some (.int .i64 by_) := S0.out.cell 3
      have c10 : W0.cell? ⟨w.heap.size + 1, 0, none⟩ = some (.int .i64 px) := S1.out.cell 0
      have c11 : W0.cell? ⟨w.heap.size + 1, 1, none⟩ = some (.int .i64 py) := S1.out.cell 1
      have c00' := fun d0 os => cell_regrown c00 d0 os
      have c01' := fun d0 os => cell_regrown c01 d0 os
      have c02' := fun d0 os => cell_regrown c02 d0 os
      have c03' := fun d0 os => cell_regrown c03 d0 os
      have c10' := fun d0 os => cell_regrown c10 d0 os
      have c11' := fun d0 os => cell_regrown c11 d0 os
      clear c00 c01 c02 c03 c10 c11
      refine wp_region_quiet_below (by kernel_rfl) (by kernel_rfl) ?_
      repeat (
        with_reducible refine wpQuiet_step (fun K hK => ?_)
        go_simp
        refine hK _ ?_; clear hK K)
      with_reducible refine wpQuiet_nil ?_
      intro _ hw'
      obtain ⟨⟨dq, osq⟩, hw''⟩ := hw'
      subst hw''
      have hbl := (below_regrown W0 dq osq)
      clear c00' c01' c02' c03' c10' c11'
      generalize Sort.grow (redrawn W0 dq) osq = W3 at *
      have AN3 := Lib.hid hbl
      clear hbl
      go_wp2_with fail
      go_ret
      exact ⟨rfl, S0.out.1.trans (AN3.out.mono S0.out.1.size)⟩
    · by_cases hc : 0 < c
      · rw [decide_eq_true hc]
        have hd : decide (0 < c) = true := decide_eq_true hc
        rw [decide_eq_true h1, decide_eq_false (show ¬ py < by_ by omega)]
        have h2 : ¬ py < by_ := by omega
        go_enter Try.func93, Try.ntmps93
        go_upto_region 1 with fail
        generalize ((w.alloc (.cells #[.int .i64 ax, .int .i64 ay, .int .i64 bx, .int .i64 by_] 103)).alloc (.cells #[.int .i64 px, .int .i64 py] 31)) = W0 at *
        have c00 : W0.cell? ⟨w.heap.size, 0, none⟩ = some (.int .i64 ax) := S0.out.cell 0
        have c01 : W0.cell? ⟨w.heap.size, 1, none⟩ = some (.int .i64 ay) := S0.out.cell 1
        have c02 : W0.cell? ⟨w.heap.size, 2, none⟩ = some (.int .i64 bx) := S0.out.cell 2
        have c03 : W0.cell? ⟨w.heap.size, 3, none⟩ = some (.int .i64 by_) := S0.out.cell 3
        have c10 : W0.cell? ⟨w.heap.size + 1, 0, none⟩ = some (.int .i64 px) := S1.out.cell 0
        have c11 : W0.cell? ⟨w.heap.size + 1, 1, none⟩ = some (.int .i64 py) := S1.out.cell 1
        have c00' := fun d0 os => cell_regrown c00 d0 os
        have c01' := fun d0 os => cell_regrown c01 d0 os
        have c02' := fun d0 os => cell_regrown c02 d0 os
        have c03' := fun d0 os => cell_regrown c03 d0 os
        have c10' := fun d0 os => cell_regrown c10 d0 os
        have c11' := fun d0 os => cell_regrown c11 d0 os
        clear c00 c01 c02 c03 c10 c11
        refine wp_region_quiet_below (by kernel_rfl) (by kernel_rfl) ?_
        repeat (
          with_reducible refine wpQuiet_step (fun K hK => ?_)
          go_simp
          refine hK _ ?_; clear hK K)
        with_reducible refine wpQuiet_nil ?_
        intro _ hw'
        obtain ⟨⟨dq, osq⟩, hw''⟩ := hw'
        subst hw''
        have hbl := (below_regrown W0 dq osq)
        clear c00' c01' c02' c03' c10' c11'
        generalize Sort.grow (redrawn W0 dq) osq = W3 at *
        have AN3 := Lib.hid hbl
        clear hbl
        have c00 : W3.cell? ⟨w.heap.size, 0, none⟩ = some (.int .i64 ax) := (S0.out.old AN3.out).cell 0
        have c01 : W3.cell? ⟨w.heap.size, 1, none⟩ = some (.int .i64 ay) := (S0.out.old AN3.out).cell 1
        have c02 : W3.cell? ⟨w.heap.size, 2, none⟩ = some (.int .i64 bx) := (S0.out.old AN3.out).cell 2
        have c03 : W3.cell? ⟨w.heap.size, 3, none⟩ = some (.int .i64 by_) := (S0.out.old AN3.out).cell 3
        have c10 : W3.cell? ⟨w.heap.size + 1, 0, none⟩ = some (.int .i64 px) := (S1.out.old AN3.out).cell 0
        have c11 : W3.cell? ⟨w.heap.size + 1, 1, none⟩ = some (.int .i64 py) := (S1.out.old AN3.out).cell 1
        go_wp2_with fail
        refine (T0.out _).mono ?_
        rintro e V ⟨rfl, hb⟩
        have BX := Lib.hid ((S0.out.old AN3.out).old hb).1
        clear hb
        go_wp2_with fail
        go_ret
        exact ⟨rfl, BX.out⟩
      · rw [decide_eq_false hc]
        have hd : decide (0 < c) = false := decide_eq_false hc
        rw [decide_eq_true h1, decide_eq_false (show ¬ py < by_ by omega)]
        have h2 : ¬ py < by_ := by omega
        go_enter Try.func93, Try.ntmps93
        go_upto_region 1 with fail
        generalize ((w.alloc (.cells #[.int .i64 ax, .int .i64 ay, .int .i64 bx, .int .i64 by_] 103)).alloc (.cells #[.int .i64 px, .int .i64 py] 31)) = W0 at *
        have c00 : W0.cell? ⟨w.heap.size, 0, none⟩ = some (.int .i64 ax) := S0.out.cell 0
        have c01 : W0.cell? ⟨w.heap.size, 1, none⟩ = some (.int .i64 ay) := S0.out.cell 1
        have c02 : W0.cell? ⟨w.heap.size, 2, none⟩ = some (.int .i64 bx) := S0.out.cell 2
        have c03 : W0.cell? ⟨w.heap.size, 3, none⟩ = some (.int .i64 by_) := S0.out.cell 3
        have c10 : W0.cell? ⟨w.heap.size + 1, 0, none⟩ = some (.int .i64 px) := S1.out.cell 0
        have c11 : W0.cell? ⟨w.heap.size + 1, 1, none⟩ = some (.int .i64 py) := S1.out.cell 1
        have c00' := fun d0 os => cell_regrown c00 d0 os
        have c01' := fun d0 os => cell_regrown c01 d0 os
        have c02' := fun d0 os => cell_regrown c02 d0 os
        have c03' := fun d0 os => cell_regrown c03 d0 os
        have c10' := fun d0 os => cell_regrown c10 d0 os
        have c11' := fun d0 os => cell_regrown c11 d0 os
        clear c00 c01 c02 c03 c10 c11
        refine wp_region_quiet_below (by kernel_rfl) (by kernel_rfl) ?_
        repeat (
          with_reducible refine wpQuiet_step (fun K hK => ?_)
          go_simp
          refine hK _ ?_; clear hK K)
        with_reducible refine wpQuiet_nil ?_
        intro _ hw'
        obtain ⟨⟨dq, osq⟩, hw''⟩ := hw'
        subst hw''
        have hbl := (below_regrown W0 dq osq)
        clear c00' c01' c02' c03' c10' c11'
        generalize Sort.grow (redrawn W0 dq) osq = W3 at *
        have AN3 := Lib.hid hbl
        clear hbl
        have c00 : W3.cell? ⟨w.heap.size, 0, none⟩ = some (.int .i64 ax) := (S0.out.old AN3.out).cell 0
        have c01 : W3.cell? ⟨w.heap.size, 1, none⟩ = some (.int .i64 ay) := (S0.out.old AN3.out).cell 1
        have c02 : W3.cell? ⟨w.heap.size, 2, none⟩ = some (.int .i64 bx) := (S0.out.old AN3.out).cell 2
        have c03 : W3.cell? ⟨w.heap.size, 3, none⟩ = some (.int .i64 by_) := (S0.out.old AN3.out).cell 3
        have c10 : W3.cell? ⟨w.heap.size + 1, 0, none⟩ = some (.int .i64 px) := (S1.out.old AN3.out).cell 0
        have c11 : W3.cell? ⟨w.heap.size + 1, 1, none⟩ = some (.int .i64 py) := (S1.out.old AN3.out).cell 1
        go_wp2_with fail
        refine (T0.out _).mono ?_
        rintro e V ⟨rfl, hb⟩
        have BX := Lib.hid ((S0.out.old AN3.out).old hb).1
        clear hb
        go_wp2_with fail
        go_ret
        exact ⟨rfl, BX.out⟩
  · by_cases h2 : py < by_
    · by_cases hc : 0 < c
      · rw [decide_eq_true hc]
        have hd : decide (0 < c) = true := decide_eq_true hc
        rw [decide_eq_false (show ¬ py < ay by omega), decide_eq_true h2]
        have h1 : ¬ py < ay := by omega
        go_enter Try.func93, Try.ntmps93
        go_upto_region 1 with fail
        generalize ((w.alloc (.cells #[.int .i64 ax, .int .i64 ay, .int .i64 bx, .int .i64 by_] 103)).alloc (.cells #[.int .i64 px, .int .i64 py] 31)) = W0 at *
        have c00 : W0.cell? ⟨w.heap.size, 0, none⟩ = some (.int .i64 ax) := S0.out.cell 0
        have c01 : W0.cell? ⟨w.heap.size, 1, none⟩ = some (.int .i64 ay) := S0.out.cell 1
        have c02 : W0.cell? ⟨w.heap.size, 2, none⟩ = some (.int .i64 bx) := S0.out.cell 2
        have c03 : W0.cell? ⟨w.heap.size, 3, none⟩ = some (.int .i64 by_) := S0.out.cell 3
        have c10 : W0.cell? ⟨w.heap.size + 1, 0, none⟩ = some (.int .i64 px) := S1.out.cell 0
        have c11 : W0.cell? ⟨w.heap.size + 1, 1, none⟩ = some (.int .i64 py) := S1.out.cell 1
        have c00' := fun d0 os => cell_regrown c00 d0 os
        have c01' := fun d0 os => cell_regrown c01 d0 os
        have c02' := fun d0 os => cell_regrown c02 d0 os
        have c03' := fun d0 os => cell_regrown c03 d0 os
        have c10' := fun d0 os => cell_regrown c10 d0 os
        have c11' := fun d0 os => cell_regrown c11 d0 os
        clear c00 c01 c02 c03 c10 c11
        refine wp_region_quiet_below (by kernel_rfl) (by kernel_rfl) ?_
        repeat (
          with_reducible refine wpQuiet_step (fun K hK => ?_)
          go_simp
          refine hK _ ?_; clear hK K)
        with_reducible refine wpQuiet_nil ?_
        intro _ hw'
        obtain ⟨⟨dq, osq⟩, hw''⟩ := hw'
        subst hw''
        have hbl := (below_regrown W0 dq osq)
        clear c00' c01' c02' c03' c10' c11'
        generalize Sort.grow (redrawn W0 dq) osq = W3 at *
        have AN3 := Lib.hid hbl
        clear hbl
        have c00 : W3.cell? ⟨w.heap.size, 0, none⟩ = some (.int .i64 ax) := (S0.out.old AN3.out).cell 0
        have c01 : W3.cell? ⟨w.heap.size, 1, none⟩ = some (.int .i64 ay) := (S0.out.old AN3.out).cell 1
        have c02 : W3.cell? ⟨w.heap.size, 2, none⟩ = some (.int .i64 bx) := (S0.out.old AN3.out).cell 2
        have c03 : W3.cell? ⟨w.heap.size, 3, none⟩ = some (.int .i64 by_) := (S0.out.old AN3.out).cell 3
        have c10 : W3.cell? ⟨w.heap.size + 1, 0, none⟩ = some (.int .i64 px) := (S1.out.old AN3.out).cell 0
        have c11 : W3.cell? ⟨w.heap.size + 1, 1, none⟩ = some (.int .i64 py) := (S1.out.old AN3.out).cell 1
        go_wp2_with fail
        refine (T0.out _).mono ?_
        rintro e V ⟨rfl, hb⟩
        have BX := Lib.hid ((S0.out.old AN3.out).old hb).1
        clear hb
        go_wp2_with fail
        go_ret
        exact ⟨rfl, BX.out⟩
      · rw [decide_eq_false hc]
        have hd : decide (0 < c) = false := decide_eq_false hc
        rw [decide_eq_false (show ¬ py < ay by omega), decide_eq_true h2]
        have h1 : ¬ py < ay := by omega
        go_enter Try.func93, Try.ntmps93
        go_upto_region 1 with fail
        generalize ((w.alloc (.cells #[.int .i64 ax, .int .i64 ay, .int .i64 bx, .int .i64 by_] 103)).alloc (.cells #[.int .i64 px, .int .i64 py] 31)) = W0 at *
        have c00 : W0.cell? ⟨w.heap.size, 0, none⟩ = some (.int .i64 ax) := S0.out.cell 0
        have c01 : W0.cell? ⟨w.heap.size, 1, none⟩ = some (.int .i64 ay) := S0.out.cell 1
        have c02 : W0.cell? ⟨w.heap.size, 2, none⟩ = some (.int .i64 bx) := S0.out.cell 2
        have c03 : W0.cell? ⟨w.heap.size, 3, none⟩ = some (.int .i64 by_) := S0.out.cell 3
        have c10 : W0.cell? ⟨w.heap.size + 1, 0, none⟩ = some (.int .i64 px) := S1.out.cell 0
        have c11 : W0.cell? ⟨w.heap.size + 1, 1, none⟩ = some (.int .i64 py) := S1.out.cell 1
        have c00' := fun d0 os => cell_regrown c00 d0 os
        have c01' := fun d0 os => cell_regrown c01 d0 os
        have c02' := fun d0 os => cell_regrown c02 d0 os
        have c03' := fun d0 os => cell_regrown c03 d0 os
        have c10' := fun d0 os => cell_regrown c10 d0 os
        have c11' := fun d0 os => cell_regrown c11 d0 os
        clear c00 c01 c02 c03 c10 c11
        refine wp_region_quiet_below (by kernel_rfl) (by kernel_rfl) ?_
        repeat (
          with_reducible refine wpQuiet_step (fun K hK => ?_)
          go_simp
          refine hK _ ?_; clear hK K)
        with_reducible refine wpQuiet_nil ?_
        intro _ hw'
        obtain ⟨⟨dq, osq⟩, hw''⟩ := hw'
        subst hw''
        have hbl := (below_regrown W0 dq osq)
        clear c00' c01' c02' c03' c10' c11'
        generalize Sort.grow (redrawn W0 dq) osq = W3 at *
        have AN3 := Lib.hid hbl
        clear hbl
        have c00 : W3.cell? ⟨w.heap.size, 0, none⟩ = some (.int .i64 ax) := (S0.out.old AN3.out).cell 0
        have c01 : W3.cell? ⟨w.heap.size, 1, none⟩ = some (.int .i64 ay) := (S0.out.old AN3.out).cell 1
        have c02 : W3.cell? ⟨w.heap.size, 2, none⟩ = some (.int .i64 bx) := (S0.out.old AN3.out).cell 2
        have c03 : W3.cell? ⟨w.heap.size, 3, none⟩ = some (.int .i64 by_) := (S0.out.old AN3.out).cell 3
        have c10 : W3.cell? ⟨w.heap.size + 1, 0, none⟩ = some (.int .i64 px) := (S1.out.old AN3.out).cell 0
        have c11 : W3.cell? ⟨w.heap.size + 1, 1, none⟩ = some (.int .i64 py) := (S1.out.old AN3.out).cell 1
        go_wp2_with fail
        refine (T0.out _).mono ?_
        rintro e V ⟨rfl, hb⟩
        have BX := Lib.hid ((S0.out.old AN3.out).old hb).1
        clear hb
        go_wp2_with fail
        go_ret
        exact ⟨rfl, BX.out⟩
    · rw [decide_eq_false (show ¬ py < ay by omega), decide_eq_false (show ¬ py < by_ by omega)]
      have h1 : ¬ py < ay := by omega
      have h2 : ¬ py < by_ := by omega
      go_enter Try.func93, Try.ntmps93
      go_upto_region 1 with fail
      generalize ((w.alloc (.cells #[.int .i64 ax, .int .i64 ay, .int .i64 bx, .int .i64 by_] 103)).alloc (.cells #[.int .i64 px, .int .i64 py] 31)) = W0 at *
      have c00 : W0.cell? ⟨w.heap.size, 0, none⟩ = some (.int .i64 ax) := S0.out.cell 0
      have c01 : W0.cell? ⟨w.heap.size, 1, none⟩ = some (.int .i64 ay) := S0.out.cell 1
      have c02 : W0.cell? ⟨w.heap.size, 2, none⟩ = some (.int .i64 bx) := S0.out.cell 2
      have c03 : W0.cell? ⟨w.heap.size, 3, none⟩ = some (.int .i64 by_) := S0.out.cell 3
      have c10 : W0.cell? ⟨w.heap.size + 1, 0, none⟩ = some (.int .i64 px) := S1.out.cell 0
      have c11 : W0.cell? ⟨w.heap.size + 1, 1, none⟩ = some (.int .i64 py) := S1.out.cell 1
      have c00' := fun d0 os => cell_regrown c00 d0 os
      have c01' := fun d0 os => cell_regrown c01 d0 os
      have c02' := fun d0 os => cell_regrown c02 d0 os
      have c03' := fun d0 os => cell_regrown c03 d0 os
      have c10' := fun d0 os => cell_regrown c10 d0 os
      have c11' := fun d0 os => cell_regrown c11 d0 os
      clear c00 c01 c02 c03 c10 c11
      refine wp_region_quiet_below (by kernel_rfl) (by kernel_rfl) ?_
      repeat (
        with_reducible refine wpQuiet_step (fun K hK => ?_)
        go_simp
        refine hK _ ?_; clear hK K)
      with_reducible refine wpQuiet_nil ?_
      intro _ hw'
      obtain ⟨⟨dq, osq⟩, hw''⟩ := hw'
      subst hw''
      have hbl := (below_regrown W0 dq osq)
      clear c00' c01' c02' c03' c10' c11'
      generalize Sort.grow (redrawn W0 dq) osq = W3 at *
      have AN3 := Lib.hid hbl
      clear hbl
      go_wp2_with fail
      go_ret
      exact ⟨rfl, S0.out.1.trans (AN3.out.mono S0.out.1.size)⟩
end Go.Proofs.Ytkndfklbonkbiaa.scta
