/- impl's small functions of chapter 18: IsFlightLevel, areAll at two levels, isEastboundLevel, goesEast, IsRightLevel, isCleared, comesBefore, doConflict. -/
import Derived.Test.YtglonedhoenkpaaLvl
import Derived.Test.YtglonedhoenkpaaLvlM
import Derived.Test.YtglonedhoenkpaaAtS
import Derived.Test.YtglonedhoenkpaaVelI
import Derived.Laws.Small
import Derived.Deep.QuietTactic
import Derived.BigQuiet
import Derived.Deep.RegionHeld3
import Derived.Deep.CutRange
import Derived.WalkKit
import Derived.IntWalk
namespace Go.Proofs.Ytglonedhoenkpaa.lvla
open Go.RowKit Go.Proofs.Ytglonedhoenkpaa.in_ Go.Proofs.Ytglonedhoenkpaa.ats Go.Proofs.Ytglonedhoenkpaa.vel Go.Proofs.Ytglonedhoenkpaa.lvl Go.Proofs.Ytglonedhoenkpaa.lvlm

theorem isAddress (x : Int) (w : World) : Calls Try.prog 83 #[.int .i64 x] w fun e w' => e = .returned (.bool (isIn x 1 65535)) ∧ w = w' := by
  by_cases h1 : 1 ≤ x
  · have g1 : decide (1 ≤ x) = true := decide_eq_true h1
    by_cases h2 : x ≤ 65535
    · rw [isIn_of h1 h2]
      go_enter Try.func83, Try.ntmps83
      go_wp2_with fail
      go_ret
      exact ⟨rfl, rfl⟩
    · rw [show isIn x 1 65535 = false from decide_eq_false (fun h => h2 h.2)]
      have g2 : decide (x ≤ 65535) = false := decide_eq_false h2
      go_enter Try.func83, Try.ntmps83
      go_wp2_with fail
      go_ret
      exact ⟨rfl, rfl⟩
  · rw [show isIn x 1 65535 = false from decide_eq_false (fun h => h1 h.1)]
    have g1 : decide (1 ≤ x) = false := decide_eq_false h1
    go_enter Try.func83, Try.ntmps83
    go_wp2_with fail
    go_ret
    exact ⟨rfl, rfl⟩

def ov (a b c d : Int) : Bool := decide (max (min a b) (min c d) ≤ min (max a b) (max c d))
theorem doOverlap (a b c d : Int) (w : World) : Calls Try.prog 90 #[.int .i64 a, .int .i64 b, .int .i64 c, .int .i64 d] w fun e w' => e = .returned (.bool (ov a b c d)) ∧ w = w' := by
  go_enter Try.func90, Try.ntmps90
  go_wp2_with fail
  all_goals (
    go_ret
    first
    | exact ⟨by rw [show ov a b c d = true from decide_eq_true (by omega)]; rfl, rfl⟩
    | exact ⟨by rw [show ov a b c d = false from decide_eq_false (by omega)]; rfl, rfl⟩
    | (refine ⟨?_, rfl⟩
       show Ending.returned (.bool (decide _)) = Ending.returned (.bool (decide _))
       exact congrArg (fun p => Ending.returned (Value.bool p)) (decide_eq_decide.2 (by omega)))
    | (exfalso; omega))
theorem isFlightLevel (l : Int) (w : World) :
    Calls Try.prog 32 #[.int .i64 l] w fun e w' => e = .returned (.bool (lvB l)) ∧ w = w' := by
  by_cases h1 : 10 ≤ l
  · have g1 : decide (10 ≤ l) = true := decide_eq_true h1
    by_cases h2 : l ≤ 410
    · have g2 : decide (l ≤ 410) = true := decide_eq_true h2
      have hw : IntKind.i64.wrap l = l := IntWalk.i64_in _ (by omega)
      have ht : Int.tmod l 10 = l % 10 := Int.tmod_eq_emod_of_nonneg (by omega)
      have hr : IntKind.i64.wrap (l % 10) = l % 10 := IntWalk.i64_in _ (by omega)
      have e : lvB l = (l % 10 == 0) := by
        unfold lvB
        rw [isIn_of h1 h2, Bool.true_and]; rfl
      rw [e]
      generalize l % 10 = r at *
      clear e
      go_enter Try.func32, Try.ntmps32
      go_wp2_with fail
      go_ret
      exact ⟨rfl, rfl⟩
    · have g2 : decide (l ≤ 410) = false := decide_eq_false h2
      have e : lvB l = false := by unfold lvB; rw [isIn_no (by omega)]; rfl
      rw [e]
      clear h1 h2 e
      go_enter Try.func32, Try.ntmps32
      go_wp2_with fail
      go_ret
      exact ⟨rfl, rfl⟩
  · have g1 : decide (10 ≤ l) = false := decide_eq_false h1
    have e : lvB l = false := by unfold lvB; rw [isIn_no (by omega)]; rfl
    rw [e]
    clear h1 e
    go_enter Try.func32, Try.ntmps32
    go_wp2_with fail
    go_ret
    exact ⟨rfl, rfl⟩

/-- areAll at two numbers. -/
theorem areAll2 (x y : Int) (b : Nat) (w : World) (c0 : w.cell? ⟨b, 0, none⟩ = some (.int .i64 x)) (c1 : w.cell? ⟨b, 1, none⟩ = some (.int .i64 y)) :
    Calls Try.prog 84 #[.func (.func 32) #[] #[], .slice (some ⟨b, 0, none⟩) 2 2] w fun e w' => e = .returned (.bool (lvB x && lvB y)) ∧ w = w' := by
  have I1 := Lib.hid (fun w => isFlightLevel x w)
  have I2 := Lib.hid (fun w => isFlightLevel y w)
  generalize lvB x = p at *
  generalize lvB y = q at *
  go_enter Try.func84, Try.ntmps84
  go_wp2
  go_loop [9] (fun i => i = .int .i64 0 ∨ (i = .int .i64 1 ∧ p = true) ∨ (i = .int .i64 2 ∧ p = true ∧ q = true)) (fun i => 2 - (intOf i).toNat)
  case atStart => exact Or.inl rfl
  case round =>
    rcases hrel with rfl | ⟨rfl, rfl⟩ | ⟨rfl, rfl, rfl⟩
    · go_wp2_with fail
      refine (I1.out _).mono ?_
      rintro e w' ⟨rfl, rfl⟩
      cases p
      · go_wp2_with fail
        go_ret
        exact ⟨rfl, rfl⟩
      · go_wp2_with fail
        go_round
        case rel => simp
        case measure => simp [intOf]
    · go_wp2_with fail
      refine (I2.out _).mono ?_
      rintro e w' ⟨rfl, rfl⟩
      cases q
      · go_wp2_with fail
        go_ret
        exact ⟨rfl, rfl⟩
      · go_wp2_with fail
        go_round
        case rel => simp
        case measure => simp [intOf]
    · go_wp2_with fail
      go_ret
      exact ⟨rfl, rfl⟩
theorem areAll_new (x y : Int) (W : World) (b : Nat) (hb : W.heap.size = b) :
    Calls Try.prog 84 #[.func (.func 32) #[] #[], .slice (some ⟨b, 0, none⟩) 2 2] (W.alloc (.cells #[.int .i64 x, .int .i64 y] 3)) fun e w' => e = .returned (.bool (lvB x && lvB y)) ∧ W.alloc (.cells #[.int .i64 x, .int .i64 y] 3) = w' := by
  subst hb
  exact areAll2 x y _ _ ((newS 3 #[.int .i64 x, .int .i64 y] W).cell 0) ((newS 3 #[.int .i64 x, .int .i64 y] W).cell 1)
theorem isEastbound (l : Int) (hl : lvB l = true) (w : World) :
    Calls Try.prog 79 #[.int .i64 l] w fun e w' => e = .returned (.bool (evB l)) ∧ w = w' := by
  obtain ⟨h1, h2, -⟩ := lvB_yes hl
  have hq : Int.tdiv l 10 = l / 10 := Int.tdiv_eq_ediv_of_nonneg (by omega)
  obtain ⟨q, hqq⟩ : ∃ q, l / 10 = q := ⟨_, rfl⟩
  have hq0 : 1 ≤ q ∧ q ≤ 41 := by omega
  have hw : IntKind.i64.wrap q = q := IntWalk.i64_in _ (by omega)
  have ht : Int.tmod q 2 = q % 2 := Int.tmod_eq_emod_of_nonneg (by omega)
  have hr : IntKind.i64.wrap (q % 2) = q % 2 := IntWalk.i64_in _ (by omega)
  have HE := Lib.hid (show evB l = (q % 2 == 1) by unfold evB; rw [hqq]; rfl)
  rw [hqq] at hq
  clear hl
  generalize q % 2 = r at *
  go_enter Try.func79, Try.ntmps79
  go_wp2_with fail
  go_ret
  exact ⟨by rw [HE.out]; rfl, rfl⟩
theorem goesEast (x y : Int) (w : World) :
    Calls Try.prog 80 #[.agg #[.int .i64 x, .int .i64 y]] w fun e w' => e = .returned (.bool (goB x y)) ∧ Below w.heap.size w w' := by
  have S0 := Lib.hid (newS 50 #[.int .i64 x, .int .i64 y] w)
  unfold goB
  have e1 : (x == 0) = decide (x = 0) := by rfl
  generalize h0 : decide (0 < x) = q0 at *
  generalize h1 : decide (x = 0) = q1 at *
  generalize h2 : decide (0 < y) = q2 at *
  cases q0
  all_goals (
    cases q1
    all_goals (
      go_enter Try.func80, Try.ntmps80
      go_wp2_with fail
      go_ret
      exact ⟨rfl, S0.out.1⟩))
theorem isRightLevel (x y l : Int) (w : World) :
    Calls Try.prog 37 #[.agg #[.int .i64 x, .int .i64 y], .int .i64 l] w fun e w' => e = .returned (.tuple #[.bool (rtV x y l), .bool (rtO x y l)]) ∧ Below w.heap.size w w' := by
  have S0 := Lib.hid (newS 50 #[.int .i64 x, .int .i64 y] w)
  have T0 := Lib.hid (fun w => veli.isMoving x y w)
  have T1 := Lib.hid (fun w => isFlightLevel l w)
  have T2 := Lib.hid (fun h w => isEastbound l h w)
  have T3 := Lib.hid (fun w => goesEast x y w)
  have HV := Lib.hid (show rtV x y l = (rtO x y l && (evB l == goB x y)) by unfold rtV rtB; rw [Bool.beq_comm])
  unfold rtO at HV ⊢
  generalize mB x y = p at *
  generalize rtV x y l = r at *
  generalize goB x y = g at *
  generalize evB l = ev at *
  generalize lvB l = q at *
  cases p
  · go_enter Try.func37, Try.ntmps37
    go_wp2_with fail
    generalize w.alloc (.cells #[.int .i64 x, .int .i64 y] 50) = W0 at *
    refine (T0.out W0).mono ?_
    rintro e w1 ⟨rfl, hb1⟩
    have B1 := Lib.hid (S0.out.1.trans (hb1.mono S0.out.1.size))
    clear hb1
    go_wp2_with fail
    go_ret2
    exact ⟨by rw [HV.out]; rfl, B1.out⟩
  · cases q
    · go_enter Try.func37, Try.ntmps37
      go_wp2_with fail
      generalize w.alloc (.cells #[.int .i64 x, .int .i64 y] 50) = W0 at *
      refine (T0.out W0).mono ?_
      rintro e w1 ⟨rfl, hb1⟩
      have B1 := Lib.hid (S0.out.1.trans (hb1.mono S0.out.1.size))
      clear hb1
      go_wp2_with fail
      refine (T1.out w1).mono ?_
      rintro e w' ⟨rfl, rfl⟩
      go_wp2_with fail
      go_ret2
      exact ⟨by rw [HV.out]; rfl, B1.out⟩
    · have D2 := Lib.hid (fun W d0 os => Calls.regrown_of (show Calls Try.prog 79 #[.int .i64 l] (Sort.grow (redrawn W d0) os) (fun e w' => e = .returned (.bool ev) ∧ Below (Sort.grow (redrawn W d0) os).heap.size (Sort.grow (redrawn W d0) os) w') from (T2.out rfl _).mono (fun e w' h => ⟨h.1, by rw [← h.2]; exact Below.refl _ _⟩)))
      have D3 := Lib.hid (fun W d0 os => Calls.regrown_of (T3.out (Sort.grow (redrawn W d0) os)))
      go_enter Try.func37, Try.ntmps37
      go_wp2_with fail
      generalize w.alloc (.cells #[.int .i64 x, .int .i64 y] 50) = W0 at *
      refine (T0.out W0).mono ?_
      rintro e w1 ⟨rfl, hb1⟩
      have S1 := Lib.hid (S0.out.old hb1)
      clear hb1
      go_wp2_with fail
      refine (T1.out w1).mono ?_
      rintro e w' ⟨rfl, rfl⟩
      have c00 : w1.cell? ⟨w.heap.size, 0, none⟩ = some (.int .i64 x) := S1.out.cell 0
      have c01 : w1.cell? ⟨w.heap.size, 1, none⟩ = some (.int .i64 y) := S1.out.cell 1
      have HS := Lib.hid (S1.out.1.size)
      go_upto_region 3 with fail
      have c00' := fun d0 os => cell_regrown c00 d0 os
      have c01' := fun d0 os => cell_regrown c01 d0 os
      clear c00 c01
      refine wp_region_quiet_below (by kernel_rfl) (by kernel_rfl) ?_
      repeat (
        with_reducible refine wpQuiet_step (fun K hK => ?_)
        go_simp
        first
          | (refine hK _ ?_; clear hK K)
          | (apply Exists.intro
             refine ⟨fun _ => ?_, hK _ ?_⟩
             (first
               | (go_at_call 79; with_reducible exact D2.out _ _ _)
               | (go_at_call 80; with_reducible exact D3.out _ _ _))
             clear hK K))
      with_reducible refine wpQuiet_nil ?_
      intro _ hw'
      obtain ⟨⟨dq, osq⟩, hw''⟩ := hw'
      subst hw''
      have hbl := (below_regrown w1 dq osq)
      clear c00' c01'
      generalize Sort.grow (redrawn w1 dq) osq = w3 at *
      have BX := Lib.hid (S1.out.1.trans (hbl.mono HS.out))
      clear hbl
      go_wp2_with fail
      go_ret2
      exact ⟨by rw [HV.out]; rfl, BX.out⟩
set_option maxRecDepth 100000 in
set_option maxHeartbeats 2000000 in
theorem isCleared (a l u f t : Int) (w : World) :
    Calls Try.prog 57 #[.agg #[.int .i64 a, .int .i64 l, .int .i64 u, .int .i64 f, .int .i64 t]] w fun e w' => e = .returned (.bool (clB a l u f t)) ∧ Below w.heap.size w w' := by
  have S0 := Lib.hid (newS 26 #[.int .i64 a, .int .i64 l, .int .i64 u, .int .i64 f, .int .i64 t] w)
  have T0 := Lib.hid (fun w => isAddress a w)
  have T1 := Lib.hid (fun (W : World) (b : Nat) (hb : W.heap.size = b) => areAll_new l u W b hb)
  have HV := Lib.hid (show clB a l u f t = (isIn a 1 65535 && ((lvB l && lvB u) && (decide (l ≤ u) && (decide (0 ≤ f) && (decide (f < t) && decide (t ≤ 1440)))))) by unfold clB mnB; cases lvB l <;> rfl)
  generalize clB a l u f t = r at *
  generalize isIn a 1 65535 = p at *
  generalize (lvB l && lvB u) = q at *
  generalize h0 : decide (l ≤ u) = q0 at *
  generalize h1 : decide (0 ≤ f) = q1 at *
  generalize h2 : decide (f < t) = q2 at *
  generalize h3 : decide (t ≤ 1440) = q3 at *
  cases p
  · go_enter Try.func57, Try.ntmps57
    go_wp2_with fail
    generalize w.alloc (.cells #[.int .i64 a, .int .i64 l, .int .i64 u, .int .i64 f, .int .i64 t] 26) = W0 at *
    refine (T0.out W0).mono ?_
    rintro e w1 ⟨rfl, rfl⟩
    go_wp2_with fail
    go_ret
    exact ⟨by rw [HV.out]; rfl, S0.out.1⟩
  cases q
  · go_enter Try.func57, Try.ntmps57
    go_wp2_with fail
    generalize w.alloc (.cells #[.int .i64 a, .int .i64 l, .int .i64 u, .int .i64 f, .int .i64 t] 26) = W0 at *
    refine (T0.out W0).mono ?_
    rintro e w1 ⟨rfl, rfl⟩
    have c00 : W0.cell? ⟨w.heap.size, 0, none⟩ = some (.int .i64 a) := S0.out.cell 0
    have c01 : W0.cell? ⟨w.heap.size, 1, none⟩ = some (.int .i64 l) := S0.out.cell 1
    have c02 : W0.cell? ⟨w.heap.size, 2, none⟩ = some (.int .i64 u) := S0.out.cell 2
    have c03 : W0.cell? ⟨w.heap.size, 3, none⟩ = some (.int .i64 f) := S0.out.cell 3
    have c04 : W0.cell? ⟨w.heap.size, 4, none⟩ = some (.int .i64 t) := S0.out.cell 4
    go_wp2_with fail
    refine (T1.out W0 W0.heap.size rfl).mono ?_
    rintro e w1 ⟨rfl, rfl⟩
    have S1 := Lib.hid (S0.out.alloc (.cells #[.int .i64 l, .int .i64 u] 3))
    clear c00 c01 c02 c03 c04
    generalize W0.alloc (.cells #[.int .i64 l, .int .i64 u] 3) = W1 at *
    have c00 : W1.cell? ⟨w.heap.size, 0, none⟩ = some (.int .i64 a) := S1.out.cell 0
    have c01 : W1.cell? ⟨w.heap.size, 1, none⟩ = some (.int .i64 l) := S1.out.cell 1
    have c02 : W1.cell? ⟨w.heap.size, 2, none⟩ = some (.int .i64 u) := S1.out.cell 2
    have c03 : W1.cell? ⟨w.heap.size, 3, none⟩ = some (.int .i64 f) := S1.out.cell 3
    have c04 : W1.cell? ⟨w.heap.size, 4, none⟩ = some (.int .i64 t) := S1.out.cell 4
    go_wp2_with fail
    go_ret
    exact ⟨by rw [HV.out]; rfl, S1.out.1⟩
  cases q0
  · go_enter Try.func57, Try.ntmps57
    go_wp2_with fail
    generalize w.alloc (.cells #[.int .i64 a, .int .i64 l, .int .i64 u, .int .i64 f, .int .i64 t] 26) = W0 at *
    refine (T0.out W0).mono ?_
    rintro e w1 ⟨rfl, rfl⟩
    have c00 : W0.cell? ⟨w.heap.size, 0, none⟩ = some (.int .i64 a) := S0.out.cell 0
    have c01 : W0.cell? ⟨w.heap.size, 1, none⟩ = some (.int .i64 l) := S0.out.cell 1
    have c02 : W0.cell? ⟨w.heap.size, 2, none⟩ = some (.int .i64 u) := S0.out.cell 2
    have c03 : W0.cell? ⟨w.heap.size, 3, none⟩ = some (.int .i64 f) := S0.out.cell 3
    have c04 : W0.cell? ⟨w.heap.size, 4, none⟩ = some (.int .i64 t) := S0.out.cell 4
    go_wp2_with fail
    refine (T1.out W0 W0.heap.size rfl).mono ?_
    rintro e w1 ⟨rfl, rfl⟩
    have S1 := Lib.hid (S0.out.alloc (.cells #[.int .i64 l, .int .i64 u] 3))
    clear c00 c01 c02 c03 c04
    generalize W0.alloc (.cells #[.int .i64 l, .int .i64 u] 3) = W1 at *
    have c00 : W1.cell? ⟨w.heap.size, 0, none⟩ = some (.int .i64 a) := S1.out.cell 0
    have c01 : W1.cell? ⟨w.heap.size, 1, none⟩ = some (.int .i64 l) := S1.out.cell 1
    have c02 : W1.cell? ⟨w.heap.size, 2, none⟩ = some (.int .i64 u) := S1.out.cell 2
    have c03 : W1.cell? ⟨w.heap.size, 3, none⟩ = some (.int .i64 f) := S1.out.cell 3
    have c04 : W1.cell? ⟨w.heap.size, 4, none⟩ = some (.int .i64 t) := S1.out.cell 4
    go_wp2_with fail
    go_ret
    exact ⟨by rw [HV.out]; rfl, S1.out.1⟩
  cases q1
  · go_enter Try.func57, Try.ntmps57
    go_wp2_with fail
    generalize w.alloc (.cells #[.int .i64 a, .int .i64 l, .int .i64 u, .int .i64 f, .int .i64 t] 26) = W0 at *
    refine (T0.out W0).mono ?_
    rintro e w1 ⟨rfl, rfl⟩
    have c00 : W0.cell? ⟨w.heap.size, 0, none⟩ = some (.int .i64 a) := S0.out.cell 0
    have c01 : W0.cell? ⟨w.heap.size, 1, none⟩ = some (.int .i64 l) := S0.out.cell 1
    have c02 : W0.cell? ⟨w.heap.size, 2, none⟩ = some (.int .i64 u) := S0.out.cell 2
    have c03 : W0.cell? ⟨w.heap.size, 3, none⟩ = some (.int .i64 f) := S0.out.cell 3
    have c04 : W0.cell? ⟨w.heap.size, 4, none⟩ = some (.int .i64 t) := S0.out.cell 4
    go_wp2_with fail
    refine (T1.out W0 W0.heap.size rfl).mono ?_
    rintro e w1 ⟨rfl, rfl⟩
    have S1 := Lib.hid (S0.out.alloc (.cells #[.int .i64 l, .int .i64 u] 3))
    clear c00 c01 c02 c03 c04
    generalize W0.alloc (.cells #[.int .i64 l, .int .i64 u] 3) = W1 at *
    have c00 : W1.cell? ⟨w.heap.size, 0, none⟩ = some (.int .i64 a) := S1.out.cell 0
    have c01 : W1.cell? ⟨w.heap.size, 1, none⟩ = some (.int .i64 l) := S1.out.cell 1
    have c02 : W1.cell? ⟨w.heap.size, 2, none⟩ = some (.int .i64 u) := S1.out.cell 2
    have c03 : W1.cell? ⟨w.heap.size, 3, none⟩ = some (.int .i64 f) := S1.out.cell 3
    have c04 : W1.cell? ⟨w.heap.size, 4, none⟩ = some (.int .i64 t) := S1.out.cell 4
    go_wp2_with fail
    go_ret
    exact ⟨by rw [HV.out]; rfl, S1.out.1⟩
  cases q2
  · go_enter Try.func57, Try.ntmps57
    go_wp2_with fail
    generalize w.alloc (.cells #[.int .i64 a, .int .i64 l, .int .i64 u, .int .i64 f, .int .i64 t] 26) = W0 at *
    refine (T0.out W0).mono ?_
    rintro e w1 ⟨rfl, rfl⟩
    have c00 : W0.cell? ⟨w.heap.size, 0, none⟩ = some (.int .i64 a) := S0.out.cell 0
    have c01 : W0.cell? ⟨w.heap.size, 1, none⟩ = some (.int .i64 l) := S0.out.cell 1
    have c02 : W0.cell? ⟨w.heap.size, 2, none⟩ = some (.int .i64 u) := S0.out.cell 2
    have c03 : W0.cell? ⟨w.heap.size, 3, none⟩ = some (.int .i64 f) := S0.out.cell 3
    have c04 : W0.cell? ⟨w.heap.size, 4, none⟩ = some (.int .i64 t) := S0.out.cell 4
    go_wp2_with fail
    refine (T1.out W0 W0.heap.size rfl).mono ?_
    rintro e w1 ⟨rfl, rfl⟩
    have S1 := Lib.hid (S0.out.alloc (.cells #[.int .i64 l, .int .i64 u] 3))
    clear c00 c01 c02 c03 c04
    generalize W0.alloc (.cells #[.int .i64 l, .int .i64 u] 3) = W1 at *
    have c00 : W1.cell? ⟨w.heap.size, 0, none⟩ = some (.int .i64 a) := S1.out.cell 0
    have c01 : W1.cell? ⟨w.heap.size, 1, none⟩ = some (.int .i64 l) := S1.out.cell 1
    have c02 : W1.cell? ⟨w.heap.size, 2, none⟩ = some (.int .i64 u) := S1.out.cell 2
    have c03 : W1.cell? ⟨w.heap.size, 3, none⟩ = some (.int .i64 f) := S1.out.cell 3
    have c04 : W1.cell? ⟨w.heap.size, 4, none⟩ = some (.int .i64 t) := S1.out.cell 4
    go_wp2_with fail
    go_ret
    exact ⟨by rw [HV.out]; rfl, S1.out.1⟩
  cases q3
  · go_enter Try.func57, Try.ntmps57
    go_wp2_with fail
    generalize w.alloc (.cells #[.int .i64 a, .int .i64 l, .int .i64 u, .int .i64 f, .int .i64 t] 26) = W0 at *
    refine (T0.out W0).mono ?_
    rintro e w1 ⟨rfl, rfl⟩
    have c00 : W0.cell? ⟨w.heap.size, 0, none⟩ = some (.int .i64 a) := S0.out.cell 0
    have c01 : W0.cell? ⟨w.heap.size, 1, none⟩ = some (.int .i64 l) := S0.out.cell 1
    have c02 : W0.cell? ⟨w.heap.size, 2, none⟩ = some (.int .i64 u) := S0.out.cell 2
    have c03 : W0.cell? ⟨w.heap.size, 3, none⟩ = some (.int .i64 f) := S0.out.cell 3
    have c04 : W0.cell? ⟨w.heap.size, 4, none⟩ = some (.int .i64 t) := S0.out.cell 4
    go_wp2_with fail
    refine (T1.out W0 W0.heap.size rfl).mono ?_
    rintro e w1 ⟨rfl, rfl⟩
    have S1 := Lib.hid (S0.out.alloc (.cells #[.int .i64 l, .int .i64 u] 3))
    clear c00 c01 c02 c03 c04
    generalize W0.alloc (.cells #[.int .i64 l, .int .i64 u] 3) = W1 at *
    have c00 : W1.cell? ⟨w.heap.size, 0, none⟩ = some (.int .i64 a) := S1.out.cell 0
    have c01 : W1.cell? ⟨w.heap.size, 1, none⟩ = some (.int .i64 l) := S1.out.cell 1
    have c02 : W1.cell? ⟨w.heap.size, 2, none⟩ = some (.int .i64 u) := S1.out.cell 2
    have c03 : W1.cell? ⟨w.heap.size, 3, none⟩ = some (.int .i64 f) := S1.out.cell 3
    have c04 : W1.cell? ⟨w.heap.size, 4, none⟩ = some (.int .i64 t) := S1.out.cell 4
    go_wp2_with fail
    go_ret
    exact ⟨by rw [HV.out]; rfl, S1.out.1⟩
  go_enter Try.func57, Try.ntmps57
  go_wp2_with fail
  generalize w.alloc (.cells #[.int .i64 a, .int .i64 l, .int .i64 u, .int .i64 f, .int .i64 t] 26) = W0 at *
  refine (T0.out W0).mono ?_
  rintro e w1 ⟨rfl, rfl⟩
  have c00 : W0.cell? ⟨w.heap.size, 0, none⟩ = some (.int .i64 a) := S0.out.cell 0
  have c01 : W0.cell? ⟨w.heap.size, 1, none⟩ = some (.int .i64 l) := S0.out.cell 1
  have c02 : W0.cell? ⟨w.heap.size, 2, none⟩ = some (.int .i64 u) := S0.out.cell 2
  have c03 : W0.cell? ⟨w.heap.size, 3, none⟩ = some (.int .i64 f) := S0.out.cell 3
  have c04 : W0.cell? ⟨w.heap.size, 4, none⟩ = some (.int .i64 t) := S0.out.cell 4
  go_wp2_with fail
  refine (T1.out W0 W0.heap.size rfl).mono ?_
  rintro e w1 ⟨rfl, rfl⟩
  have S1 := Lib.hid (S0.out.alloc (.cells #[.int .i64 l, .int .i64 u] 3))
  clear c00 c01 c02 c03 c04
  generalize W0.alloc (.cells #[.int .i64 l, .int .i64 u] 3) = W1 at *
  have c00 : W1.cell? ⟨w.heap.size, 0, none⟩ = some (.int .i64 a) := S1.out.cell 0
  have c01 : W1.cell? ⟨w.heap.size, 1, none⟩ = some (.int .i64 l) := S1.out.cell 1
  have c02 : W1.cell? ⟨w.heap.size, 2, none⟩ = some (.int .i64 u) := S1.out.cell 2
  have c03 : W1.cell? ⟨w.heap.size, 3, none⟩ = some (.int .i64 f) := S1.out.cell 3
  have c04 : W1.cell? ⟨w.heap.size, 4, none⟩ = some (.int .i64 t) := S1.out.cell 4
  go_wp2_with fail
  go_ret
  exact ⟨by rw [HV.out]; rfl, S1.out.1⟩

set_option maxRecDepth 100000 in
set_option maxHeartbeats 2000000 in
theorem comesBefore (a l u f t b m v g s : Int) (w : World) :
    Calls Try.prog 55 #[.agg #[.int .i64 a, .int .i64 l, .int .i64 u, .int .i64 f, .int .i64 t], .agg #[.int .i64 b, .int .i64 m, .int .i64 v, .int .i64 g, .int .i64 s]] w fun e w' => e = .returned (.bool (befB a t b g)) ∧ Below w.heap.size w w' := by
  have S0 := Lib.hid ((newS 26 #[.int .i64 a, .int .i64 l, .int .i64 u, .int .i64 f, .int .i64 t] w).alloc (.cells #[.int .i64 b, .int .i64 m, .int .i64 v, .int .i64 g, .int .i64 s] 26))
  have S1 := Lib.hid ((newS 26 #[.int .i64 a, .int .i64 l, .int .i64 u, .int .i64 f, .int .i64 t] w).next 26 #[.int .i64 b, .int .i64 m, .int .i64 v, .int .i64 g, .int .i64 s])
  rw [World.size_alloc] at S1
  unfold befB
  have e1 : (a == b) = decide (a = b) := by rfl
  generalize h0 : decide (a < b) = q0 at *
  generalize h1 : decide (a = b) = q1 at *
  generalize h2 : decide (t ≤ g) = q2 at *
  cases q0
  all_goals (
    cases q1
    all_goals (
      go_enter Try.func55, Try.ntmps55
      go_wp2_with fail
      go_ret
      exact ⟨rfl, S0.out.1⟩))

theorem ov_minutes {f t g s : Int} (h1 : f < t) (h2 : g < s) : ov f (t - 1) g (s - 1) = (decide (f < s) && decide (g < t)) := by
  unfold ov
  rw [Bool.eq_iff_iff]
  simp only [Bool.and_eq_true, decide_eq_true_eq]
  omega
theorem ov_levels {l u m v : Int} (h1 : l ≤ u) (h2 : m ≤ v) : ov l u m v = (decide (l ≤ v) && decide (m ≤ u)) := by
  unfold ov
  rw [Bool.eq_iff_iff]
  simp only [Bool.and_eq_true, decide_eq_true_eq]
  omega
set_option maxRecDepth 100000 in
set_option maxHeartbeats 2000000 in
theorem doConflict (a l u f t b m v g s : Int) (hx : clB a l u f t = true) (hy : clB b m v g s = true) (w : World) :
    Calls Try.prog 85 #[.agg #[.int .i64 a, .int .i64 l, .int .i64 u, .int .i64 f, .int .i64 t], .agg #[.int .i64 b, .int .i64 m, .int .i64 v, .int .i64 g, .int .i64 s]] w fun e w' => e = .returned (.bool (cfB a l u f t b m v g s)) ∧ Below w.heap.size w w' := by
  obtain ⟨-, -, -, x4, x5⟩ := clB_yes hx
  obtain ⟨-, -, -, y4, y5⟩ := clB_yes hy
  have x6 := mnB_yes x5
  have y6 := mnB_yes y5
  have e1 : IntKind.i64.wrap (t - 1) = t - 1 := IntWalk.i64_in _ (by omega)
  have e2 : IntKind.i64.wrap (s - 1) = s - 1 := IntWalk.i64_in _ (by omega)
  have T0 := Lib.hid (fun w => doOverlap f (t - 1) g (s - 1) w)
  have T1 := Lib.hid (fun w => doOverlap l u m v w)
  rw [ov_minutes x6.2.1 y6.2.1] at T0
  rw [ov_levels x4 y4] at T1
  have HV := Lib.hid (show cfB a l u f t b m v g s = (!decide (a = b) && ((decide (f < s) && decide (g < t)) && (decide (l ≤ v) && decide (m ≤ u)))) by unfold cfB; cases decide (f < s) <;> rfl)
  have e3 : (a != b) = !decide (a = b) := by rfl
  generalize hT : t - 1 = T at *
  generalize hS : s - 1 = S at *
  generalize cfB a l u f t b m v g s = r at *
  generalize (decide (f < s) && decide (g < t)) = p at *
  generalize (decide (l ≤ v) && decide (m ≤ u)) = q at *
  generalize decide (a = b) = n at *
  clear hx hy x4 x5 y4 y5 x6 y6
  have S0 := Lib.hid ((newS 26 #[.int .i64 a, .int .i64 l, .int .i64 u, .int .i64 f, .int .i64 t] w).alloc (.cells #[.int .i64 b, .int .i64 m, .int .i64 v, .int .i64 g, .int .i64 s] 26))
  have S1 := Lib.hid ((newS 26 #[.int .i64 a, .int .i64 l, .int .i64 u, .int .i64 f, .int .i64 t] w).next 26 #[.int .i64 b, .int .i64 m, .int .i64 v, .int .i64 g, .int .i64 s])
  rw [World.size_alloc] at S1
  cases n
  · cases p
    · go_enter Try.func85, Try.ntmps85
      go_wp2_with fail
      generalize ((w.alloc (.cells #[.int .i64 a, .int .i64 l, .int .i64 u, .int .i64 f, .int .i64 t] 26)).alloc (.cells #[.int .i64 b, .int .i64 m, .int .i64 v, .int .i64 g, .int .i64 s] 26)) = W0 at *
      refine (T0.out W0).mono ?_
      rintro e w' ⟨rfl, rfl⟩
      have c00 : W0.cell? ⟨w.heap.size, 0, none⟩ = some (.int .i64 a) := S0.out.cell 0
      have c01 : W0.cell? ⟨w.heap.size, 1, none⟩ = some (.int .i64 l) := S0.out.cell 1
      have c02 : W0.cell? ⟨w.heap.size, 2, none⟩ = some (.int .i64 u) := S0.out.cell 2
      have c03 : W0.cell? ⟨w.heap.size, 3, none⟩ = some (.int .i64 f) := S0.out.cell 3
      have c04 : W0.cell? ⟨w.heap.size, 4, none⟩ = some (.int .i64 t) := S0.out.cell 4
      have c10 : W0.cell? ⟨w.heap.size + 1, 0, none⟩ = some (.int .i64 b) := S1.out.cell 0
      have c11 : W0.cell? ⟨w.heap.size + 1, 1, none⟩ = some (.int .i64 m) := S1.out.cell 1
      have c12 : W0.cell? ⟨w.heap.size + 1, 2, none⟩ = some (.int .i64 v) := S1.out.cell 2
      have c13 : W0.cell? ⟨w.heap.size + 1, 3, none⟩ = some (.int .i64 g) := S1.out.cell 3
      have c14 : W0.cell? ⟨w.heap.size + 1, 4, none⟩ = some (.int .i64 s) := S1.out.cell 4
      go_wp2_with fail
      go_ret
      exact ⟨by rw [HV.out]; rfl, S0.out.1⟩
    · go_enter Try.func85, Try.ntmps85
      go_wp2_with fail
      generalize ((w.alloc (.cells #[.int .i64 a, .int .i64 l, .int .i64 u, .int .i64 f, .int .i64 t] 26)).alloc (.cells #[.int .i64 b, .int .i64 m, .int .i64 v, .int .i64 g, .int .i64 s] 26)) = W0 at *
      refine (T0.out W0).mono ?_
      rintro e w' ⟨rfl, rfl⟩
      have c00 : W0.cell? ⟨w.heap.size, 0, none⟩ = some (.int .i64 a) := S0.out.cell 0
      have c01 : W0.cell? ⟨w.heap.size, 1, none⟩ = some (.int .i64 l) := S0.out.cell 1
      have c02 : W0.cell? ⟨w.heap.size, 2, none⟩ = some (.int .i64 u) := S0.out.cell 2
      have c03 : W0.cell? ⟨w.heap.size, 3, none⟩ = some (.int .i64 f) := S0.out.cell 3
      have c04 : W0.cell? ⟨w.heap.size, 4, none⟩ = some (.int .i64 t) := S0.out.cell 4
      have c10 : W0.cell? ⟨w.heap.size + 1, 0, none⟩ = some (.int .i64 b) := S1.out.cell 0
      have c11 : W0.cell? ⟨w.heap.size + 1, 1, none⟩ = some (.int .i64 m) := S1.out.cell 1
      have c12 : W0.cell? ⟨w.heap.size + 1, 2, none⟩ = some (.int .i64 v) := S1.out.cell 2
      have c13 : W0.cell? ⟨w.heap.size + 1, 3, none⟩ = some (.int .i64 g) := S1.out.cell 3
      have c14 : W0.cell? ⟨w.heap.size + 1, 4, none⟩ = some (.int .i64 s) := S1.out.cell 4
      go_wp2_with fail
      refine (T1.out W0).mono ?_
      rintro e w' ⟨rfl, rfl⟩
      go_wp2_with fail
      go_ret
      exact ⟨by rw [HV.out]; rfl, S0.out.1⟩
  · go_enter Try.func85, Try.ntmps85
    go_wp2_with fail
    go_ret
    exact ⟨by rw [HV.out]; rfl, S0.out.1⟩
end Go.Proofs.Ytglonedhoenkpaa.lvla
