/- spec's lines of chapter 17: l17Cross, l17On, l17Sign, l17Meet. -/
import Derived.Test.YtkndfklbonkbiaaSctB
import Derived.Test.YtkndfklbonkbiaaPosS
namespace Go.Proofs.Ytkndfklbonkbiaa.scts
open Go.RowKit Go.Proofs.Ytkndfklbonkbiaa.ints Go.Proofs.Ytkndfklbonkbiaa.lst Go.Proofs.Ytkndfklbonkbiaa.in_ Go.Proofs.Ytkndfklbonkbiaa.ats Go.Proofs.Ytkndfklbonkbiaa.pos Go.Proofs.Ytkndfklbonkbiaa.sct Go.Proofs.Ytkndfklbonkbiaa.sctt Go.Proofs.Ytkndfklbonkbiaa.sctv Go.Proofs.Ytkndfklbonkbiaa.scti Go.Proofs.Ytkndfklbonkbiaa.sctj Go.Proofs.Ytkndfklbonkbiaa.sctb

theorem to_below {P : Program} {f : FuncId} {args : Array Value} {w : World} {v : Value} (h : Calls P f args w fun e w' => e = .returned v ∧ w = w') : Calls P f args w fun e w' => e = .returned v ∧ Below w.heap.size w w' :=
  h.mono fun _ _ ⟨h1, h2⟩ => ⟨h1, h2 ▸ Below.refl _ _⟩
theorem least (a b : Int) (w : World) : Calls Try.prog 126 #[.int .i64 a, .int .i64 b] w fun e w' => e = .returned (.int .i64 (min a b)) ∧ w = w' := by
  by_cases h : a < b
  · have h1 : min a b = a := by omega
    rw [h1]
    go_enter Try.func126, Try.ntmps126
    go_wp2_with fail
    go_ret
    exact ⟨rfl, rfl⟩
  · have h1 : min a b = b := by omega
    rw [h1]
    go_enter Try.func126, Try.ntmps126
    go_wp2_with fail
    go_ret
    exact ⟨rfl, rfl⟩
theorem most (a b : Int) (w : World) : Calls Try.prog 96 #[.int .i64 a, .int .i64 b] w fun e w' => e = .returned (.int .i64 (max a b)) ∧ w = w' := by
  by_cases h : a > b
  · have h1 : max a b = a := by omega
    rw [h1]
    go_enter Try.func96, Try.ntmps96
    go_wp2_with fail
    go_ret
    exact ⟨rfl, rfl⟩
  · have h1 : max a b = b := by omega
    rw [h1]
    go_enter Try.func96, Try.ntmps96
    go_wp2_with fail
    go_ret
    exact ⟨rfl, rfl⟩
set_option maxRecDepth 100000 in
set_option maxHeartbeats 2000000 in
theorem cross17 (ax ay bx by_ px py : Int) (ha : pB ax ay = true) (hb : pB bx by_ = true) (hp : pB px py = true) (w : World) :
    Calls Try.prog 86 #[.agg #[.int .i64 ax, .int .i64 ay], .agg #[.int .i64 bx, .int .i64 by_], .agg #[.int .i64 px, .int .i64 py]] w fun e w' => e = .returned (.int .i64 (cr ax ay bx by_ px py)) ∧ Below w.heap.size w w' := by
  have S0 := Lib.hid (((newS 31 #[.int .i64 ax, .int .i64 ay] w).alloc (.cells #[.int .i64 bx, .int .i64 by_] 31)).alloc (.cells #[.int .i64 px, .int .i64 py] 31))
  have S1 := Lib.hid (((newS 31 #[.int .i64 ax, .int .i64 ay] w).next 31 #[.int .i64 bx, .int .i64 by_]).alloc (.cells #[.int .i64 px, .int .i64 py] 31))
  rw [World.size_alloc] at S1
  have S2 := Lib.hid (((newS 31 #[.int .i64 ax, .int .i64 ay] w).alloc (.cells #[.int .i64 bx, .int .i64 by_] 31)).next 31 #[.int .i64 px, .int .i64 py])
  rw [World.size_alloc, World.size_alloc] at S2
  obtain ⟨⟨⟨f1, f2⟩, f3, f4⟩, f5, f6⟩ := cr_bd ha hb hp
  obtain ⟨⟨x1, x2⟩, x3, x4⟩ := pB_yes ha
  obtain ⟨⟨y1, y2⟩, y3, y4⟩ := pB_yes hb
  obtain ⟨⟨z1, z2⟩, z3, z4⟩ := pB_yes hp
  have e1 : IntKind.i64.wrap (bx - ax) = bx - ax := IntWalk.i64_in _ (by omega)
  have e2 : IntKind.i64.wrap (py - ay) = py - ay := IntWalk.i64_in _ (by omega)
  have e3 : IntKind.i64.wrap (by_ - ay) = by_ - ay := IntWalk.i64_in _ (by omega)
  have e4 : IntKind.i64.wrap (px - ax) = px - ax := IntWalk.i64_in _ (by omega)
  unfold cr at f5 f6 ⊢
  generalize hA : bx - ax = A at *
  generalize hB : py - ay = B at *
  generalize hC : by_ - ay = C at *
  generalize hD : px - ax = D at *
  generalize hP : A * B = P at *
  generalize hQ : C * D = Q at *
  have e5 : IntKind.i64.wrap P = P := IntWalk.i64_in _ (by omega)
  have e6 : IntKind.i64.wrap Q = Q := IntWalk.i64_in _ (by omega)
  have e7 : IntKind.i64.wrap (P - Q) = P - Q := IntWalk.i64_in _ (by omega)
  have BX := Lib.hid (S0.out.1)
  clear ha hb hp x1 x2 x3 x4 y1 y2 y3 y4 z1 z2 z3 z4
  go_enter Try.func86, Try.ntmps86
  go_wp2_with fail
  go_ret
  exact ⟨rfl, BX.out⟩
theorem on_split (ax ay bx by_ px py : Int) : onB ax ay bx by_ px py = (decide (cr ax ay bx by_ px py = 0) && (isIn px (min ax bx) (max ax bx) && isIn py (min ay by_) (max ay by_))) := by
  unfold onB isIn
  generalize cr ax ay bx by_ px py = c
  rw [Bool.eq_iff_iff, Bool.and_eq_true, Bool.and_eq_true, decide_eq_true_eq, decide_eq_true_eq, decide_eq_true_eq, decide_eq_true_eq]
  omega
set_option maxRecDepth 100000 in
set_option maxHeartbeats 2000000 in
theorem on17 (ax ay bx by_ px py : Int) (ha : pB ax ay = true) (hb : pB bx by_ = true) (hp : pB px py = true) (w : World) :
    Calls Try.prog 97 #[.agg #[.int .i64 ax, .int .i64 ay], .agg #[.int .i64 bx, .int .i64 by_], .agg #[.int .i64 px, .int .i64 py]] w fun e w' => e = .returned (.bool (onB ax ay bx by_ px py)) ∧ Below w.heap.size w w' := by
  rw [on_split]
  have S0 := Lib.hid (((newS 31 #[.int .i64 ax, .int .i64 ay] w).alloc (.cells #[.int .i64 bx, .int .i64 by_] 31)).alloc (.cells #[.int .i64 px, .int .i64 py] 31))
  have S1 := Lib.hid (((newS 31 #[.int .i64 ax, .int .i64 ay] w).next 31 #[.int .i64 bx, .int .i64 by_]).alloc (.cells #[.int .i64 px, .int .i64 py] 31))
  rw [World.size_alloc] at S1
  have S2 := Lib.hid (((newS 31 #[.int .i64 ax, .int .i64 ay] w).alloc (.cells #[.int .i64 bx, .int .i64 by_] 31)).next 31 #[.int .i64 px, .int .i64 py])
  rw [World.size_alloc, World.size_alloc] at S2
  have D0 := Lib.hid (fun W d0 os => Calls.regrown_of (cross17 ax ay bx by_ px py ha hb hp (Sort.grow (redrawn W d0) os)))
  have D1 := Lib.hid (fun W d0 os => Calls.regrown_of (to_below (least ax bx (Sort.grow (redrawn W d0) os))))
  have D2 := Lib.hid (fun W d0 os => Calls.regrown_of (to_below (most ax bx (Sort.grow (redrawn W d0) os))))
  have D3 := Lib.hid (fun W d0 os => Calls.regrown_of (to_below (least ay by_ (Sort.grow (redrawn W d0) os))))
  have D4 := Lib.hid (fun W d0 os => Calls.regrown_of (to_below (most ay by_ (Sort.grow (redrawn W d0) os))))
  have D5 := Lib.hid (fun W d0 os => Calls.regrown_of (to_below (l1In px (min ax bx) (max ax bx) (Sort.grow (redrawn W d0) os))))
  have D6 := Lib.hid (fun W d0 os => Calls.regrown_of (to_below (l1In py (min ay by_) (max ay by_) (Sort.grow (redrawn W d0) os))))
  clear ha hb hp
  generalize cr ax ay bx by_ px py = c0 at *
  generalize isIn px (min ax bx) (max ax bx) = q1 at *
  generalize isIn py (min ay by_) (max ay by_) = q2 at *
  generalize min ax bx = m1 at *
  generalize max ax bx = m2 at *
  generalize min ay by_ = m3 at *
  generalize max ay by_ = m4 at *
  by_cases h0 : c0 = 0
  case neg =>
    have g0 : (c0 == 0) = false := beq_eq_false_iff_ne.mpr h0
    rw [decide_eq_false h0]
    go_enter Try.func97, Try.ntmps97
    go_upto_region 1 with fail
    generalize (((w.alloc (.cells #[.int .i64 ax, .int .i64 ay] 31)).alloc (.cells #[.int .i64 bx, .int .i64 by_] 31)).alloc (.cells #[.int .i64 px, .int .i64 py] 31)) = W0 at *
    have c00 : W0.cell? ⟨w.heap.size, 0, none⟩ = some (.int .i64 ax) := S0.out.cell 0
    have c01 : W0.cell? ⟨w.heap.size, 1, none⟩ = some (.int .i64 ay) := S0.out.cell 1
    have c10 : W0.cell? ⟨w.heap.size + 1, 0, none⟩ = some (.int .i64 bx) := S1.out.cell 0
    have c11 : W0.cell? ⟨w.heap.size + 1, 1, none⟩ = some (.int .i64 by_) := S1.out.cell 1
    have c20 : W0.cell? ⟨w.heap.size + 1 + 1, 0, none⟩ = some (.int .i64 px) := S2.out.cell 0
    have c21 : W0.cell? ⟨w.heap.size + 1 + 1, 1, none⟩ = some (.int .i64 py) := S2.out.cell 1
    have c00' := fun d0 os => cell_regrown c00 d0 os
    have c01' := fun d0 os => cell_regrown c01 d0 os
    have c10' := fun d0 os => cell_regrown c10 d0 os
    have c11' := fun d0 os => cell_regrown c11 d0 os
    have c20' := fun d0 os => cell_regrown c20 d0 os
    have c21' := fun d0 os => cell_regrown c21 d0 os
    clear c00 c01 c10 c11 c20 c21
    refine wp_region_quiet_below (by kernel_rfl) (by kernel_rfl) ?_
    repeat (
      with_reducible refine wpQuiet_step (fun K hK => ?_)
      go_simp
      first
        | (refine hK _ ?_; clear hK K)
        | (apply Exists.intro
           refine ⟨fun _ => ?_, hK _ ?_⟩
           (first
             | (go_at_call 86; with_reducible exact D0.out _ _ _))
           clear hK K))
    with_reducible refine wpQuiet_nil ?_
    intro _ hw'
    obtain ⟨⟨dq, osq⟩, hw''⟩ := hw'
    subst hw''
    have hbl := (below_regrown W0 dq osq)
    clear c00' c01' c10' c11' c20' c21'
    generalize Sort.grow (redrawn W0 dq) osq = W3 at *
    have B3 := Lib.hid (S0.out.1.trans (hbl.mono S0.out.1.size))
    go_wp2_with fail
    go_ret
    exact ⟨rfl, B3.out⟩
  have g0 : (c0 == 0) = true := beq_iff_eq.mpr h0
  rw [decide_eq_true h0]
  cases q1
  · go_enter Try.func97, Try.ntmps97
    go_upto_region 1 with fail
    generalize (((w.alloc (.cells #[.int .i64 ax, .int .i64 ay] 31)).alloc (.cells #[.int .i64 bx, .int .i64 by_] 31)).alloc (.cells #[.int .i64 px, .int .i64 py] 31)) = W0 at *
    have c00 : W0.cell? ⟨w.heap.size, 0, none⟩ = some (.int .i64 ax) := S0.out.cell 0
    have c01 : W0.cell? ⟨w.heap.size, 1, none⟩ = some (.int .i64 ay) := S0.out.cell 1
    have c10 : W0.cell? ⟨w.heap.size + 1, 0, none⟩ = some (.int .i64 bx) := S1.out.cell 0
    have c11 : W0.cell? ⟨w.heap.size + 1, 1, none⟩ = some (.int .i64 by_) := S1.out.cell 1
    have c20 : W0.cell? ⟨w.heap.size + 1 + 1, 0, none⟩ = some (.int .i64 px) := S2.out.cell 0
    have c21 : W0.cell? ⟨w.heap.size + 1 + 1, 1, none⟩ = some (.int .i64 py) := S2.out.cell 1
    have c00' := fun d0 os => cell_regrown c00 d0 os
    have c01' := fun d0 os => cell_regrown c01 d0 os
    have c10' := fun d0 os => cell_regrown c10 d0 os
    have c11' := fun d0 os => cell_regrown c11 d0 os
    have c20' := fun d0 os => cell_regrown c20 d0 os
    have c21' := fun d0 os => cell_regrown c21 d0 os
    clear c00 c01 c10 c11 c20 c21
    refine wp_region_quiet_below (by kernel_rfl) (by kernel_rfl) ?_
    repeat (
      with_reducible refine wpQuiet_step (fun K hK => ?_)
      go_simp
      first
        | (refine hK _ ?_; clear hK K)
        | (apply Exists.intro
           refine ⟨fun _ => ?_, hK _ ?_⟩
           (first
             | (go_at_call 86; with_reducible exact D0.out _ _ _)
             | (go_at_call 126; with_reducible exact D1.out _ _ _)
             | (go_at_call 96; with_reducible exact D2.out _ _ _)
             | (go_at_call 85; with_reducible exact D5.out _ _ _))
           clear hK K))
    with_reducible refine wpQuiet_nil ?_
    intro _ hw'
    obtain ⟨⟨dq, osq⟩, hw''⟩ := hw'
    subst hw''
    have hbl := (below_regrown W0 dq osq)
    clear c00' c01' c10' c11' c20' c21'
    generalize Sort.grow (redrawn W0 dq) osq = W3 at *
    have B3 := Lib.hid (S0.out.1.trans (hbl.mono S0.out.1.size))
    go_wp2_with fail
    go_ret
    exact ⟨rfl, B3.out⟩
  go_enter Try.func97, Try.ntmps97
  go_upto_region 1 with fail
  generalize (((w.alloc (.cells #[.int .i64 ax, .int .i64 ay] 31)).alloc (.cells #[.int .i64 bx, .int .i64 by_] 31)).alloc (.cells #[.int .i64 px, .int .i64 py] 31)) = W0 at *
  have c00 : W0.cell? ⟨w.heap.size, 0, none⟩ = some (.int .i64 ax) := S0.out.cell 0
  have c01 : W0.cell? ⟨w.heap.size, 1, none⟩ = some (.int .i64 ay) := S0.out.cell 1
  have c10 : W0.cell? ⟨w.heap.size + 1, 0, none⟩ = some (.int .i64 bx) := S1.out.cell 0
  have c11 : W0.cell? ⟨w.heap.size + 1, 1, none⟩ = some (.int .i64 by_) := S1.out.cell 1
  have c20 : W0.cell? ⟨w.heap.size + 1 + 1, 0, none⟩ = some (.int .i64 px) := S2.out.cell 0
  have c21 : W0.cell? ⟨w.heap.size + 1 + 1, 1, none⟩ = some (.int .i64 py) := S2.out.cell 1
  have c00' := fun d0 os => cell_regrown c00 d0 os
  have c01' := fun d0 os => cell_regrown c01 d0 os
  have c10' := fun d0 os => cell_regrown c10 d0 os
  have c11' := fun d0 os => cell_regrown c11 d0 os
  have c20' := fun d0 os => cell_regrown c20 d0 os
  have c21' := fun d0 os => cell_regrown c21 d0 os
  clear c00 c01 c10 c11 c20 c21
  refine wp_region_quiet_below (by kernel_rfl) (by kernel_rfl) ?_
  repeat (
    with_reducible refine wpQuiet_step (fun K hK => ?_)
    go_simp
    first
      | (refine hK _ ?_; clear hK K)
      | (apply Exists.intro
         refine ⟨fun _ => ?_, hK _ ?_⟩
         (first
           | (go_at_call 86; with_reducible exact D0.out _ _ _)
           | (go_at_call 126; with_reducible exact D1.out _ _ _)
           | (go_at_call 96; with_reducible exact D2.out _ _ _)
           | (go_at_call 85; with_reducible exact D5.out _ _ _)
           | (go_at_call 126; with_reducible exact D3.out _ _ _)
           | (go_at_call 96; with_reducible exact D4.out _ _ _)
           | (go_at_call 85; with_reducible exact D6.out _ _ _))
         clear hK K))
  with_reducible refine wpQuiet_nil ?_
  intro _ hw'
  obtain ⟨⟨dq, osq⟩, hw''⟩ := hw'
  subst hw''
  have hbl := (below_regrown W0 dq osq)
  clear c00' c01' c10' c11' c20' c21'
  generalize Sort.grow (redrawn W0 dq) osq = W3 at *
  have B3 := Lib.hid (S0.out.1.trans (hbl.mono S0.out.1.size))
  go_wp2_with fail
  go_ret
  exact ⟨rfl, B3.out⟩
theorem sign17 (x : Int) (w : World) : Calls Try.prog 127 #[.int .i64 x] w fun e w' => e = .returned (.int .i64 (sgV x)) ∧ w = w' := by
  unfold sgV
  by_cases h1 : 0 < x
  · rw [if_pos h1]
    go_enter Try.func127, Try.ntmps127
    go_wp2_with fail
    go_ret
    exact ⟨rfl, rfl⟩
  · rw [if_neg h1]
    by_cases h2 : x < 0
    · rw [if_pos h2]
      go_enter Try.func127, Try.ntmps127
      go_wp2_with fail
      go_ret
      exact ⟨rfl, rfl⟩
    · rw [if_neg h2]
      go_enter Try.func127, Try.ntmps127
      go_wp2_with fail
      go_ret
      exact ⟨rfl, rfl⟩
theorem sg_bd (u v : Int) : -1 ≤ sgV u * sgV v ∧ sgV u * sgV v ≤ 1 := by
  unfold sgV
  split <;> split <;> (repeat' split) <;> omega
set_option maxRecDepth 100000 in
set_option maxHeartbeats 2000000 in
theorem meet17 (ax ay bx by_ px py qx qy : Int) (ha : pB ax ay = true) (hb : pB bx by_ = true) (hp : pB px py = true) (hq : pB qx qy = true) (w : World) :
    Calls Try.prog 98 #[.agg #[.int .i64 ax, .int .i64 ay], .agg #[.int .i64 bx, .int .i64 by_], .agg #[.int .i64 px, .int .i64 py], .agg #[.int .i64 qx, .int .i64 qy]] w fun e w' => e = .returned (.bool (meB ax ay bx by_ px py qx qy)) ∧ Below w.heap.size w w' := by
  unfold meB
  rw [← opp_sg, ← opp_sg]
  have S0 := Lib.hid ((((newS 31 #[.int .i64 ax, .int .i64 ay] w).alloc (.cells #[.int .i64 bx, .int .i64 by_] 31)).alloc (.cells #[.int .i64 px, .int .i64 py] 31)).alloc (.cells #[.int .i64 qx, .int .i64 qy] 31))
  have S1 := Lib.hid ((((newS 31 #[.int .i64 ax, .int .i64 ay] w).next 31 #[.int .i64 bx, .int .i64 by_]).alloc (.cells #[.int .i64 px, .int .i64 py] 31)).alloc (.cells #[.int .i64 qx, .int .i64 qy] 31))
  rw [World.size_alloc] at S1
  have S2 := Lib.hid ((((newS 31 #[.int .i64 ax, .int .i64 ay] w).alloc (.cells #[.int .i64 bx, .int .i64 by_] 31)).next 31 #[.int .i64 px, .int .i64 py]).alloc (.cells #[.int .i64 qx, .int .i64 qy] 31))
  rw [World.size_alloc, World.size_alloc] at S2
  have S3 := Lib.hid ((((newS 31 #[.int .i64 ax, .int .i64 ay] w).alloc (.cells #[.int .i64 bx, .int .i64 by_] 31)).alloc (.cells #[.int .i64 px, .int .i64 py] 31)).next 31 #[.int .i64 qx, .int .i64 qy])
  rw [World.size_alloc, World.size_alloc, World.size_alloc] at S3
  have T0 := Lib.hid (fun w => on17 ax ay bx by_ px py ha hb hp w)
  have T1 := Lib.hid (fun w => on17 ax ay bx by_ qx qy ha hb hq w)
  have T2 := Lib.hid (fun w => on17 px py qx qy ax ay hp hq ha w)
  have T3 := Lib.hid (fun w => on17 px py qx qy bx by_ hp hq hb w)
  have D0 := Lib.hid (fun W d0 os => Calls.regrown_of (cross17 ax ay bx by_ px py ha hb hp (Sort.grow (redrawn W d0) os)))
  have D1 := Lib.hid (fun W d0 os => Calls.regrown_of (cross17 ax ay bx by_ qx qy ha hb hq (Sort.grow (redrawn W d0) os)))
  have D2 := Lib.hid (fun W d0 os => Calls.regrown_of (cross17 px py qx qy ax ay hp hq ha (Sort.grow (redrawn W d0) os)))
  have D3 := Lib.hid (fun W d0 os => Calls.regrown_of (cross17 px py qx qy bx by_ hp hq hb (Sort.grow (redrawn W d0) os)))
  clear ha hb hp hq
  generalize onB ax ay bx by_ px py = q0 at *
  generalize onB ax ay bx by_ qx qy = q1 at *
  generalize onB px py qx qy ax ay = q2 at *
  generalize onB px py qx qy bx by_ = q3 at *
  generalize cr ax ay bx by_ px py = c0 at *
  generalize cr ax ay bx by_ qx qy = c1 at *
  generalize cr px py qx qy ax ay = c2 at *
  generalize cr px py qx qy bx by_ = c3 at *
  have G0 := Lib.hid (fun W d0 os => Calls.regrown_of (to_below (sign17 c0 (Sort.grow (redrawn W d0) os))))
  have G1 := Lib.hid (fun W d0 os => Calls.regrown_of (to_below (sign17 c1 (Sort.grow (redrawn W d0) os))))
  have G2 := Lib.hid (fun W d0 os => Calls.regrown_of (to_below (sign17 c2 (Sort.grow (redrawn W d0) os))))
  have G3 := Lib.hid (fun W d0 os => Calls.regrown_of (to_below (sign17 c3 (Sort.grow (redrawn W d0) os))))
  obtain ⟨r1, r2⟩ := sg_bd c0 c1
  obtain ⟨r3, r4⟩ := sg_bd c2 c3
  generalize sgV c0 = s0 at *
  generalize sgV c1 = s1 at *
  generalize sgV c2 = s2 at *
  generalize sgV c3 = s3 at *
  have e1 : IntKind.i64.wrap (s0 * s1) = s0 * s1 := IntWalk.i64_in _ (by omega)
  have e2 : IntKind.i64.wrap (s2 * s3) = s2 * s3 := IntWalk.i64_in _ (by omega)
  cases q0
  case true =>
    go_enter Try.func98, Try.ntmps98
    go_wp2_with fail
    generalize ((((w.alloc (.cells #[.int .i64 ax, .int .i64 ay] 31)).alloc (.cells #[.int .i64 bx, .int .i64 by_] 31)).alloc (.cells #[.int .i64 px, .int .i64 py] 31)).alloc (.cells #[.int .i64 qx, .int .i64 qy] 31)) = W0 at *
    have AN0 := Lib.hid (Below.refl W0.heap.size W0)
    refine (T0.out W0).mono ?_
    rintro e V1 ⟨rfl, hb1⟩
    have AN1 := Lib.hid (AN0.out.trans (hb1.mono AN0.out.size))
    clear hb1
    have BX := Lib.hid (S0.out.1.trans (AN1.out.mono S0.out.1.size))
    go_wp2_with fail
    go_ret
    exact ⟨rfl, BX.out⟩
  cases q1
  case true =>
    go_enter Try.func98, Try.ntmps98
    go_wp2_with fail
    generalize ((((w.alloc (.cells #[.int .i64 ax, .int .i64 ay] 31)).alloc (.cells #[.int .i64 bx, .int .i64 by_] 31)).alloc (.cells #[.int .i64 px, .int .i64 py] 31)).alloc (.cells #[.int .i64 qx, .int .i64 qy] 31)) = W0 at *
    have AN0 := Lib.hid (Below.refl W0.heap.size W0)
    refine (T0.out W0).mono ?_
    rintro e V1 ⟨rfl, hb1⟩
    have AN1 := Lib.hid (AN0.out.trans (hb1.mono AN0.out.size))
    clear hb1
    have c00 : V1.cell? ⟨w.heap.size, 0, none⟩ = some (.int .i64 ax) := (S0.out.old AN1.out).cell 0
    have c01 : V1.cell? ⟨w.heap.size, 1, none⟩ = some (.int .i64 ay) := (S0.out.old AN1.out).cell 1
    have c10 : V1.cell? ⟨w.heap.size + 1, 0, none⟩ = some (.int .i64 bx) := (S1.out.old AN1.out).cell 0
    have c11 : V1.cell? ⟨w.heap.size + 1, 1, none⟩ = some (.int .i64 by_) := (S1.out.old AN1.out).cell 1
    have c20 : V1.cell? ⟨w.heap.size + 1 + 1, 0, none⟩ = some (.int .i64 px) := (S2.out.old AN1.out).cell 0
    have c21 : V1.cell? ⟨w.heap.size + 1 + 1, 1, none⟩ = some (.int .i64 py) := (S2.out.old AN1.out).cell 1
    have c30 : V1.cell? ⟨w.heap.size + 1 + 1 + 1, 0, none⟩ = some (.int .i64 qx) := (S3.out.old AN1.out).cell 0
    have c31 : V1.cell? ⟨w.heap.size + 1 + 1 + 1, 1, none⟩ = some (.int .i64 qy) := (S3.out.old AN1.out).cell 1
    go_wp2_with fail
    clear c00 c01 c10 c11 c20 c21 c30 c31
    refine (T1.out V1).mono ?_
    rintro e V2 ⟨rfl, hb2⟩
    have AN2 := Lib.hid (AN1.out.trans (hb2.mono AN1.out.size))
    clear hb2
    have BX := Lib.hid (S0.out.1.trans (AN2.out.mono S0.out.1.size))
    go_wp2_with fail
    go_ret
    exact ⟨rfl, BX.out⟩
  cases q2
  case true =>
    go_enter Try.func98, Try.ntmps98
    go_wp2_with fail
    generalize ((((w.alloc (.cells #[.int .i64 ax, .int .i64 ay] 31)).alloc (.cells #[.int .i64 bx, .int .i64 by_] 31)).alloc (.cells #[.int .i64 px, .int .i64 py] 31)).alloc (.cells #[.int .i64 qx, .int .i64 qy] 31)) = W0 at *
    have AN0 := Lib.hid (Below.refl W0.heap.size W0)
    refine (T0.out W0).mono ?_
    rintro e V1 ⟨rfl, hb1⟩
    have AN1 := Lib.hid (AN0.out.trans (hb1.mono AN0.out.size))
    clear hb1
    have c00 : V1.cell? ⟨w.heap.size, 0, none⟩ = some (.int .i64 ax) := (S0.out.old AN1.out).cell 0
    have c01 : V1.cell? ⟨w.heap.size, 1, none⟩ = some (.int .i64 ay) := (S0.out.old AN1.out).cell 1
    have c10 : V1.cell? ⟨w.heap.size + 1, 0, none⟩ = some (.int .i64 bx) := (S1.out.old AN1.out).cell 0
    have c11 : V1.cell? ⟨w.heap.size + 1, 1, none⟩ = some (.int .i64 by_) := (S1.out.old AN1.out).cell 1
    have c20 : V1.cell? ⟨w.heap.size + 1 + 1, 0, none⟩ = some (.int .i64 px) := (S2.out.old AN1.out).cell 0
    have c21 : V1.cell? ⟨w.heap.size + 1 + 1, 1, none⟩ = some (.int .i64 py) := (S2.out.old AN1.out).cell 1
    have c30 : V1.cell? ⟨w.heap.size + 1 + 1 + 1, 0, none⟩ = some (.int .i64 qx) := (S3.out.old AN1.out).cell 0
    have c31 : V1.cell? ⟨w.heap.size + 1 + 1 + 1, 1, none⟩ = some (.int .i64 qy) := (S3.out.old AN1.out).cell 1
    go_wp2_with fail
    clear c00 c01 c10 c11 c20 c21 c30 c31
    refine (T1.out V1).mono ?_
    rintro e V2 ⟨rfl, hb2⟩
    have AN2 := Lib.hid (AN1.out.trans (hb2.mono AN1.out.size))
    clear hb2
    have c00 : V2.cell? ⟨w.heap.size, 0, none⟩ = some (.int .i64 ax) := (S0.out.old AN2.out).cell 0
    have c01 : V2.cell? ⟨w.heap.size, 1, none⟩ = some (.int .i64 ay) := (S0.out.old AN2.out).cell 1
    have c10 : V2.cell? ⟨w.heap.size + 1, 0, none⟩ = some (.int .i64 bx) := (S1.out.old AN2.out).cell 0
    have c11 : V2.cell? ⟨w.heap.size + 1, 1, none⟩ = some (.int .i64 by_) := (S1.out.old AN2.out).cell 1
    have c20 : V2.cell? ⟨w.heap.size + 1 + 1, 0, none⟩ = some (.int .i64 px) := (S2.out.old AN2.out).cell 0
    have c21 : V2.cell? ⟨w.heap.size + 1 + 1, 1, none⟩ = some (.int .i64 py) := (S2.out.old AN2.out).cell 1
    have c30 : V2.cell? ⟨w.heap.size + 1 + 1 + 1, 0, none⟩ = some (.int .i64 qx) := (S3.out.old AN2.out).cell 0
    have c31 : V2.cell? ⟨w.heap.size + 1 + 1 + 1, 1, none⟩ = some (.int .i64 qy) := (S3.out.old AN2.out).cell 1
    go_wp2_with fail
    clear c00 c01 c10 c11 c20 c21 c30 c31
    refine (T2.out V2).mono ?_
    rintro e V3 ⟨rfl, hb3⟩
    have AN3 := Lib.hid (AN2.out.trans (hb3.mono AN2.out.size))
    clear hb3
    have BX := Lib.hid (S0.out.1.trans (AN3.out.mono S0.out.1.size))
    go_wp2_with fail
    go_ret
    exact ⟨rfl, BX.out⟩
  cases q3
  case true =>
    go_enter Try.func98, Try.ntmps98
    go_wp2_with fail
    generalize ((((w.alloc (.cells #[.int .i64 ax, .int .i64 ay] 31)).alloc (.cells #[.int .i64 bx, .int .i64 by_] 31)).alloc (.cells #[.int .i64 px, .int .i64 py] 31)).alloc (.cells #[.int .i64 qx, .int .i64 qy] 31)) = W0 at *
    have AN0 := Lib.hid (Below.refl W0.heap.size W0)
    refine (T0.out W0).mono ?_
    rintro e V1 ⟨rfl, hb1⟩
    have AN1 := Lib.hid (AN0.out.trans (hb1.mono AN0.out.size))
    clear hb1
    have c00 : V1.cell? ⟨w.heap.size, 0, none⟩ = some (.int .i64 ax) := (S0.out.old AN1.out).cell 0
    have c01 : V1.cell? ⟨w.heap.size, 1, none⟩ = some (.int .i64 ay) := (S0.out.old AN1.out).cell 1
    have c10 : V1.cell? ⟨w.heap.size + 1, 0, none⟩ = some (.int .i64 bx) := (S1.out.old AN1.out).cell 0
    have c11 : V1.cell? ⟨w.heap.size + 1, 1, none⟩ = some (.int .i64 by_) := (S1.out.old AN1.out).cell 1
    have c20 : V1.cell? ⟨w.heap.size + 1 + 1, 0, none⟩ = some (.int .i64 px) := (S2.out.old AN1.out).cell 0
    have c21 : V1.cell? ⟨w.heap.size + 1 + 1, 1, none⟩ = some (.int .i64 py) := (S2.out.old AN1.out).cell 1
    have c30 : V1.cell? ⟨w.heap.size + 1 + 1 + 1, 0, none⟩ = some (.int .i64 qx) := (S3.out.old AN1.out).cell 0
    have c31 : V1.cell? ⟨w.heap.size + 1 + 1 + 1, 1, none⟩ = some (.int .i64 qy) := (S3.out.old AN1.out).cell 1
    go_wp2_with fail
    clear c00 c01 c10 c11 c20 c21 c30 c31
    refine (T1.out V1).mono ?_
    rintro e V2 ⟨rfl, hb2⟩
    have AN2 := Lib.hid (AN1.out.trans (hb2.mono AN1.out.size))
    clear hb2
    have c00 : V2.cell? ⟨w.heap.size, 0, none⟩ = some (.int .i64 ax) := (S0.out.old AN2.out).cell 0
    have c01 : V2.cell? ⟨w.heap.size, 1, none⟩ = some (.int .i64 ay) := (S0.out.old AN2.out).cell 1
    have c10 : V2.cell? ⟨w.heap.size + 1, 0, none⟩ = some (.int .i64 bx) := (S1.out.old AN2.out).cell 0
    have c11 : V2.cell? ⟨w.heap.size + 1, 1, none⟩ = some (.int .i64 by_) := (S1.out.old AN2.out).cell 1
    have c20 : V2.cell? ⟨w.heap.size + 1 + 1, 0, none⟩ = some (.int .i64 px) := (S2.out.old AN2.out).cell 0
    have c21 : V2.cell? ⟨w.heap.size + 1 + 1, 1, none⟩ = some (.int .i64 py) := (S2.out.old AN2.out).cell 1
    have c30 : V2.cell? ⟨w.heap.size + 1 + 1 + 1, 0, none⟩ = some (.int .i64 qx) := (S3.out.old AN2.out).cell 0
    have c31 : V2.cell? ⟨w.heap.size + 1 + 1 + 1, 1, none⟩ = some (.int .i64 qy) := (S3.out.old AN2.out).cell 1
    go_wp2_with fail
    clear c00 c01 c10 c11 c20 c21 c30 c31
    refine (T2.out V2).mono ?_
    rintro e V3 ⟨rfl, hb3⟩
    have AN3 := Lib.hid (AN2.out.trans (hb3.mono AN2.out.size))
    clear hb3
    have c00 : V3.cell? ⟨w.heap.size, 0, none⟩ = some (.int .i64 ax) := (S0.out.old AN3.out).cell 0
    have c01 : V3.cell? ⟨w.heap.size, 1, none⟩ = some (.int .i64 ay) := (S0.out.old AN3.out).cell 1
    have c10 : V3.cell? ⟨w.heap.size + 1, 0, none⟩ = some (.int .i64 bx) := (S1.out.old AN3.out).cell 0
    have c11 : V3.cell? ⟨w.heap.size + 1, 1, none⟩ = some (.int .i64 by_) := (S1.out.old AN3.out).cell 1
    have c20 : V3.cell? ⟨w.heap.size + 1 + 1, 0, none⟩ = some (.int .i64 px) := (S2.out.old AN3.out).cell 0
    have c21 : V3.cell? ⟨w.heap.size + 1 + 1, 1, none⟩ = some (.int .i64 py) := (S2.out.old AN3.out).cell 1
    have c30 : V3.cell? ⟨w.heap.size + 1 + 1 + 1, 0, none⟩ = some (.int .i64 qx) := (S3.out.old AN3.out).cell 0
    have c31 : V3.cell? ⟨w.heap.size + 1 + 1 + 1, 1, none⟩ = some (.int .i64 qy) := (S3.out.old AN3.out).cell 1
    go_wp2_with fail
    clear c00 c01 c10 c11 c20 c21 c30 c31
    refine (T3.out V3).mono ?_
    rintro e V4 ⟨rfl, hb4⟩
    have AN4 := Lib.hid (AN3.out.trans (hb4.mono AN3.out.size))
    clear hb4
    have BX := Lib.hid (S0.out.1.trans (AN4.out.mono S0.out.1.size))
    go_wp2_with fail
    go_ret
    exact ⟨rfl, BX.out⟩
  by_cases hs : s0 * s1 < 0
  case neg =>
    have g0 : decide (s0 * s1 < 0) = false := decide_eq_false hs
    rw [g0]
    go_enter Try.func98, Try.ntmps98
    go_wp2_with fail
    generalize ((((w.alloc (.cells #[.int .i64 ax, .int .i64 ay] 31)).alloc (.cells #[.int .i64 bx, .int .i64 by_] 31)).alloc (.cells #[.int .i64 px, .int .i64 py] 31)).alloc (.cells #[.int .i64 qx, .int .i64 qy] 31)) = W0 at *
    have AN0 := Lib.hid (Below.refl W0.heap.size W0)
    refine (T0.out W0).mono ?_
    rintro e V1 ⟨rfl, hb1⟩
    have AN1 := Lib.hid (AN0.out.trans (hb1.mono AN0.out.size))
    clear hb1
    have c00 : V1.cell? ⟨w.heap.size, 0, none⟩ = some (.int .i64 ax) := (S0.out.old AN1.out).cell 0
    have c01 : V1.cell? ⟨w.heap.size, 1, none⟩ = some (.int .i64 ay) := (S0.out.old AN1.out).cell 1
    have c10 : V1.cell? ⟨w.heap.size + 1, 0, none⟩ = some (.int .i64 bx) := (S1.out.old AN1.out).cell 0
    have c11 : V1.cell? ⟨w.heap.size + 1, 1, none⟩ = some (.int .i64 by_) := (S1.out.old AN1.out).cell 1
    have c20 : V1.cell? ⟨w.heap.size + 1 + 1, 0, none⟩ = some (.int .i64 px) := (S2.out.old AN1.out).cell 0
    have c21 : V1.cell? ⟨w.heap.size + 1 + 1, 1, none⟩ = some (.int .i64 py) := (S2.out.old AN1.out).cell 1
    have c30 : V1.cell? ⟨w.heap.size + 1 + 1 + 1, 0, none⟩ = some (.int .i64 qx) := (S3.out.old AN1.out).cell 0
    have c31 : V1.cell? ⟨w.heap.size + 1 + 1 + 1, 1, none⟩ = some (.int .i64 qy) := (S3.out.old AN1.out).cell 1
    go_wp2_with fail
    clear c00 c01 c10 c11 c20 c21 c30 c31
    refine (T1.out V1).mono ?_
    rintro e V2 ⟨rfl, hb2⟩
    have AN2 := Lib.hid (AN1.out.trans (hb2.mono AN1.out.size))
    clear hb2
    have c00 : V2.cell? ⟨w.heap.size, 0, none⟩ = some (.int .i64 ax) := (S0.out.old AN2.out).cell 0
    have c01 : V2.cell? ⟨w.heap.size, 1, none⟩ = some (.int .i64 ay) := (S0.out.old AN2.out).cell 1
    have c10 : V2.cell? ⟨w.heap.size + 1, 0, none⟩ = some (.int .i64 bx) := (S1.out.old AN2.out).cell 0
    have c11 : V2.cell? ⟨w.heap.size + 1, 1, none⟩ = some (.int .i64 by_) := (S1.out.old AN2.out).cell 1
    have c20 : V2.cell? ⟨w.heap.size + 1 + 1, 0, none⟩ = some (.int .i64 px) := (S2.out.old AN2.out).cell 0
    have c21 : V2.cell? ⟨w.heap.size + 1 + 1, 1, none⟩ = some (.int .i64 py) := (S2.out.old AN2.out).cell 1
    have c30 : V2.cell? ⟨w.heap.size + 1 + 1 + 1, 0, none⟩ = some (.int .i64 qx) := (S3.out.old AN2.out).cell 0
    have c31 : V2.cell? ⟨w.heap.size + 1 + 1 + 1, 1, none⟩ = some (.int .i64 qy) := (S3.out.old AN2.out).cell 1
    go_wp2_with fail
    clear c00 c01 c10 c11 c20 c21 c30 c31
    refine (T2.out V2).mono ?_
    rintro e V3 ⟨rfl, hb3⟩
    have AN3 := Lib.hid (AN2.out.trans (hb3.mono AN2.out.size))
    clear hb3
    have c00 : V3.cell? ⟨w.heap.size, 0, none⟩ = some (.int .i64 ax) := (S0.out.old AN3.out).cell 0
    have c01 : V3.cell? ⟨w.heap.size, 1, none⟩ = some (.int .i64 ay) := (S0.out.old AN3.out).cell 1
    have c10 : V3.cell? ⟨w.heap.size + 1, 0, none⟩ = some (.int .i64 bx) := (S1.out.old AN3.out).cell 0
    have c11 : V3.cell? ⟨w.heap.size + 1, 1, none⟩ = some (.int .i64 by_) := (S1.out.old AN3.out).cell 1
    have c20 : V3.cell? ⟨w.heap.size + 1 + 1, 0, none⟩ = some (.int .i64 px) := (S2.out.old AN3.out).cell 0
    have c21 : V3.cell? ⟨w.heap.size + 1 + 1, 1, none⟩ = some (.int .i64 py) := (S2.out.old AN3.out).cell 1
    have c30 : V3.cell? ⟨w.heap.size + 1 + 1 + 1, 0, none⟩ = some (.int .i64 qx) := (S3.out.old AN3.out).cell 0
    have c31 : V3.cell? ⟨w.heap.size + 1 + 1 + 1, 1, none⟩ = some (.int .i64 qy) := (S3.out.old AN3.out).cell 1
    go_wp2_with fail
    clear c00 c01 c10 c11 c20 c21 c30 c31
    refine (T3.out V3).mono ?_
    rintro e V4 ⟨rfl, hb4⟩
    have AN4 := Lib.hid (AN3.out.trans (hb4.mono AN3.out.size))
    clear hb4
    go_upto_region 3 with fail
    have c00 : V4.cell? ⟨w.heap.size, 0, none⟩ = some (.int .i64 ax) := (S0.out.old AN4.out).cell 0
    have c01 : V4.cell? ⟨w.heap.size, 1, none⟩ = some (.int .i64 ay) := (S0.out.old AN4.out).cell 1
    have c10 : V4.cell? ⟨w.heap.size + 1, 0, none⟩ = some (.int .i64 bx) := (S1.out.old AN4.out).cell 0
    have c11 : V4.cell? ⟨w.heap.size + 1, 1, none⟩ = some (.int .i64 by_) := (S1.out.old AN4.out).cell 1
    have c20 : V4.cell? ⟨w.heap.size + 1 + 1, 0, none⟩ = some (.int .i64 px) := (S2.out.old AN4.out).cell 0
    have c21 : V4.cell? ⟨w.heap.size + 1 + 1, 1, none⟩ = some (.int .i64 py) := (S2.out.old AN4.out).cell 1
    have c30 : V4.cell? ⟨w.heap.size + 1 + 1 + 1, 0, none⟩ = some (.int .i64 qx) := (S3.out.old AN4.out).cell 0
    have c31 : V4.cell? ⟨w.heap.size + 1 + 1 + 1, 1, none⟩ = some (.int .i64 qy) := (S3.out.old AN4.out).cell 1
    have c00' := fun d0 os => cell_regrown c00 d0 os
    have c01' := fun d0 os => cell_regrown c01 d0 os
    have c10' := fun d0 os => cell_regrown c10 d0 os
    have c11' := fun d0 os => cell_regrown c11 d0 os
    have c20' := fun d0 os => cell_regrown c20 d0 os
    have c21' := fun d0 os => cell_regrown c21 d0 os
    have c30' := fun d0 os => cell_regrown c30 d0 os
    have c31' := fun d0 os => cell_regrown c31 d0 os
    clear c00 c01 c10 c11 c20 c21 c30 c31
    refine wp_region_quiet_below (by kernel_rfl) (by kernel_rfl) ?_
    repeat (
      with_reducible refine wpQuiet_step (fun K hK => ?_)
      go_simp
      first
        | (refine hK _ ?_; clear hK K)
        | (apply Exists.intro
           refine ⟨fun _ => ?_, hK _ ?_⟩
           (first
             | (go_at_call 86; with_reducible exact D0.out _ _ _)
             | (go_at_call 86; with_reducible exact D1.out _ _ _)
             | (go_at_call 127; with_reducible exact G0.out _ _ _)
             | (go_at_call 127; with_reducible exact G1.out _ _ _))
           clear hK K))
    with_reducible refine wpQuiet_nil ?_
    intro _ hw'
    obtain ⟨⟨dq, osq⟩, hw''⟩ := hw'
    subst hw''
    have hbl := (below_regrown V4 dq osq)
    clear c00' c01' c10' c11' c20' c21' c30' c31'
    generalize Sort.grow (redrawn V4 dq) osq = W9 at *
    have BX := Lib.hid (S0.out.1.trans ((AN4.out.trans (hbl.mono AN4.out.size)).mono S0.out.1.size))
    clear hbl
    go_wp2_with fail
    go_ret
    exact ⟨rfl, BX.out⟩
  have g0 : decide (s0 * s1 < 0) = true := decide_eq_true hs
  rw [g0]
  have HW := Lib.hid e2
  go_enter Try.func98, Try.ntmps98
  go_wp2_with fail
  generalize ((((w.alloc (.cells #[.int .i64 ax, .int .i64 ay] 31)).alloc (.cells #[.int .i64 bx, .int .i64 by_] 31)).alloc (.cells #[.int .i64 px, .int .i64 py] 31)).alloc (.cells #[.int .i64 qx, .int .i64 qy] 31)) = W0 at *
  have AN0 := Lib.hid (Below.refl W0.heap.size W0)
  refine (T0.out W0).mono ?_
  rintro e V1 ⟨rfl, hb1⟩
  have AN1 := Lib.hid (AN0.out.trans (hb1.mono AN0.out.size))
  clear hb1
  have c00 : V1.cell? ⟨w.heap.size, 0, none⟩ = some (.int .i64 ax) := (S0.out.old AN1.out).cell 0
  have c01 : V1.cell? ⟨w.heap.size, 1, none⟩ = some (.int .i64 ay) := (S0.out.old AN1.out).cell 1
  have c10 : V1.cell? ⟨w.heap.size + 1, 0, none⟩ = some (.int .i64 bx) := (S1.out.old AN1.out).cell 0
  have c11 : V1.cell? ⟨w.heap.size + 1, 1, none⟩ = some (.int .i64 by_) := (S1.out.old AN1.out).cell 1
  have c20 : V1.cell? ⟨w.heap.size + 1 + 1, 0, none⟩ = some (.int .i64 px) := (S2.out.old AN1.out).cell 0
  have c21 : V1.cell? ⟨w.heap.size + 1 + 1, 1, none⟩ = some (.int .i64 py) := (S2.out.old AN1.out).cell 1
  have c30 : V1.cell? ⟨w.heap.size + 1 + 1 + 1, 0, none⟩ = some (.int .i64 qx) := (S3.out.old AN1.out).cell 0
  have c31 : V1.cell? ⟨w.heap.size + 1 + 1 + 1, 1, none⟩ = some (.int .i64 qy) := (S3.out.old AN1.out).cell 1
  go_wp2_with fail
  clear c00 c01 c10 c11 c20 c21 c30 c31
  refine (T1.out V1).mono ?_
  rintro e V2 ⟨rfl, hb2⟩
  have AN2 := Lib.hid (AN1.out.trans (hb2.mono AN1.out.size))
  clear hb2
  have c00 : V2.cell? ⟨w.heap.size, 0, none⟩ = some (.int .i64 ax) := (S0.out.old AN2.out).cell 0
  have c01 : V2.cell? ⟨w.heap.size, 1, none⟩ = some (.int .i64 ay) := (S0.out.old AN2.out).cell 1
  have c10 : V2.cell? ⟨w.heap.size + 1, 0, none⟩ = some (.int .i64 bx) := (S1.out.old AN2.out).cell 0
  have c11 : V2.cell? ⟨w.heap.size + 1, 1, none⟩ = some (.int .i64 by_) := (S1.out.old AN2.out).cell 1
  have c20 : V2.cell? ⟨w.heap.size + 1 + 1, 0, none⟩ = some (.int .i64 px) := (S2.out.old AN2.out).cell 0
  have c21 : V2.cell? ⟨w.heap.size + 1 + 1, 1, none⟩ = some (.int .i64 py) := (S2.out.old AN2.out).cell 1
  have c30 : V2.cell? ⟨w.heap.size + 1 + 1 + 1, 0, none⟩ = some (.int .i64 qx) := (S3.out.old AN2.out).cell 0
  have c31 : V2.cell? ⟨w.heap.size + 1 + 1 + 1, 1, none⟩ = some (.int .i64 qy) := (S3.out.old AN2.out).cell 1
  go_wp2_with fail
  clear c00 c01 c10 c11 c20 c21 c30 c31
  refine (T2.out V2).mono ?_
  rintro e V3 ⟨rfl, hb3⟩
  have AN3 := Lib.hid (AN2.out.trans (hb3.mono AN2.out.size))
  clear hb3
  have c00 : V3.cell? ⟨w.heap.size, 0, none⟩ = some (.int .i64 ax) := (S0.out.old AN3.out).cell 0
  have c01 : V3.cell? ⟨w.heap.size, 1, none⟩ = some (.int .i64 ay) := (S0.out.old AN3.out).cell 1
  have c10 : V3.cell? ⟨w.heap.size + 1, 0, none⟩ = some (.int .i64 bx) := (S1.out.old AN3.out).cell 0
  have c11 : V3.cell? ⟨w.heap.size + 1, 1, none⟩ = some (.int .i64 by_) := (S1.out.old AN3.out).cell 1
  have c20 : V3.cell? ⟨w.heap.size + 1 + 1, 0, none⟩ = some (.int .i64 px) := (S2.out.old AN3.out).cell 0
  have c21 : V3.cell? ⟨w.heap.size + 1 + 1, 1, none⟩ = some (.int .i64 py) := (S2.out.old AN3.out).cell 1
  have c30 : V3.cell? ⟨w.heap.size + 1 + 1 + 1, 0, none⟩ = some (.int .i64 qx) := (S3.out.old AN3.out).cell 0
  have c31 : V3.cell? ⟨w.heap.size + 1 + 1 + 1, 1, none⟩ = some (.int .i64 qy) := (S3.out.old AN3.out).cell 1
  go_wp2_with fail
  clear c00 c01 c10 c11 c20 c21 c30 c31
  refine (T3.out V3).mono ?_
  rintro e V4 ⟨rfl, hb4⟩
  have AN4 := Lib.hid (AN3.out.trans (hb4.mono AN3.out.size))
  clear hb4
  go_upto_region 3 with fail
  have c00 : V4.cell? ⟨w.heap.size, 0, none⟩ = some (.int .i64 ax) := (S0.out.old AN4.out).cell 0
  have c01 : V4.cell? ⟨w.heap.size, 1, none⟩ = some (.int .i64 ay) := (S0.out.old AN4.out).cell 1
  have c10 : V4.cell? ⟨w.heap.size + 1, 0, none⟩ = some (.int .i64 bx) := (S1.out.old AN4.out).cell 0
  have c11 : V4.cell? ⟨w.heap.size + 1, 1, none⟩ = some (.int .i64 by_) := (S1.out.old AN4.out).cell 1
  have c20 : V4.cell? ⟨w.heap.size + 1 + 1, 0, none⟩ = some (.int .i64 px) := (S2.out.old AN4.out).cell 0
  have c21 : V4.cell? ⟨w.heap.size + 1 + 1, 1, none⟩ = some (.int .i64 py) := (S2.out.old AN4.out).cell 1
  have c30 : V4.cell? ⟨w.heap.size + 1 + 1 + 1, 0, none⟩ = some (.int .i64 qx) := (S3.out.old AN4.out).cell 0
  have c31 : V4.cell? ⟨w.heap.size + 1 + 1 + 1, 1, none⟩ = some (.int .i64 qy) := (S3.out.old AN4.out).cell 1
  have c00' := fun d0 os => cell_regrown c00 d0 os
  have c01' := fun d0 os => cell_regrown c01 d0 os
  have c10' := fun d0 os => cell_regrown c10 d0 os
  have c11' := fun d0 os => cell_regrown c11 d0 os
  have c20' := fun d0 os => cell_regrown c20 d0 os
  have c21' := fun d0 os => cell_regrown c21 d0 os
  have c30' := fun d0 os => cell_regrown c30 d0 os
  have c31' := fun d0 os => cell_regrown c31 d0 os
  clear c00 c01 c10 c11 c20 c21 c30 c31
  refine wp_region_quiet_below (by kernel_rfl) (by kernel_rfl) ?_
  repeat (
    with_reducible refine wpQuiet_step (fun K hK => ?_)
    go_simp
    first
      | (refine hK _ ?_; clear hK K)
      | (apply Exists.intro
         refine ⟨fun _ => ?_, hK _ ?_⟩
         (first
           | (go_at_call 86; with_reducible exact D0.out _ _ _)
           | (go_at_call 86; with_reducible exact D1.out _ _ _)
           | (go_at_call 127; with_reducible exact G0.out _ _ _)
           | (go_at_call 127; with_reducible exact G1.out _ _ _)
           | (go_at_call 86; with_reducible exact D2.out _ _ _)
           | (go_at_call 86; with_reducible exact D3.out _ _ _)
           | (go_at_call 127; with_reducible exact G2.out _ _ _)
           | (go_at_call 127; with_reducible exact G3.out _ _ _))
         clear hK K))
  with_reducible refine wpQuiet_nil ?_
  intro _ hw'
  obtain ⟨⟨dq, osq⟩, hw''⟩ := hw'
  subst hw''
  have hbl := (below_regrown V4 dq osq)
  clear c00' c01' c10' c11' c20' c21' c30' c31'
  generalize Sort.grow (redrawn V4 dq) osq = W9 at *
  have BX := Lib.hid (S0.out.1.trans ((AN4.out.trans (hbl.mono AN4.out.size)).mono S0.out.1.size))
  clear hbl
  go_wp2_with fail
  go_ret
  first
  | exact ⟨rfl, BX.out⟩
  | exact ⟨by show Ending.returned (.bool (decide (IntKind.i64.wrap (s2 * s3) < 0))) = _; rw [HW.out]; rfl, BX.out⟩
end Go.Proofs.Ytkndfklbonkbiaa.scts
