/- spec's small functions of chapter 18: l18Level, IsFlightLevel, l18Right, IsRightLevel, l18Minutes, l18Cleared, l18Meet, l18Conflict. -/
import Derived.Test.YtglonedhoenkpaaLvl
import Derived.Test.YtglonedhoenkpaaAtS
import Derived.Test.YtglonedhoenkpaaVelS
import Derived.Laws.Small
import Derived.Deep.QuietTactic
import Derived.BigQuiet
import Derived.Deep.RegionHeld3
import Derived.Deep.CutRange
import Derived.Deep.CutBlock
import Derived.WalkKit
import Derived.IntWalk
namespace Go.Proofs.Ytglonedhoenkpaa.lvls
open Go.RowKit Go.Proofs.Ytglonedhoenkpaa.in_ Go.Proofs.Ytglonedhoenkpaa.ats Go.Proofs.Ytglonedhoenkpaa.vel Go.Proofs.Ytglonedhoenkpaa.lvl

theorem address13 (x : Int) (w : World) :
    Calls Try.prog 69 #[.int .i64 x] w fun e w' => e = .returned (.bool (isIn x 1 65535)) ∧ w = w' := by
  have H := Lib.hid (fun w => l1In x 1 65535 w)
  generalize isIn x 1 65535 = b at *
  go_enter Try.func69, Try.ntmps69
  go_wp2_with fail
  refine (H.out _).mono ?_
  rintro e w1 ⟨rfl, rfl⟩
  go_wp2_with fail
  go_ret
  exact ⟨rfl, rfl⟩
theorem level18 (l : Int) (w : World) :
    Calls Try.prog 75 #[.int .i64 l] w fun e w' => e = .returned (.bool (lvB l)) ∧ w = w' := by
  have H := Lib.hid (fun w => l1In l 10 410 w)
  cases hi : isIn l 10 410
  · have HE := Lib.hid (show lvB l = false by unfold lvB; rw [hi]; rfl)
    rw [hi] at H
    clear hi
    go_enter Try.func75, Try.ntmps75
    go_wp2_with fail
    refine (H.out _).mono ?_
    rintro e w' ⟨rfl, rfl⟩
    go_wp2_with fail
    go_ret
    exact ⟨by rw [HE.out]; rfl, rfl⟩
  · have h1 := isIn_yes hi
    have ht : Int.tmod l 10 = l % 10 := Int.tmod_eq_emod_of_nonneg (by omega)
    have hr : IntKind.i64.wrap (l % 10) = l % 10 := IntWalk.i64_in _ (by omega)
    have HE := Lib.hid (show lvB l = (l % 10 == 0) by unfold lvB; rw [hi, Bool.true_and]; rfl)
    rw [hi] at H
    clear hi h1
    generalize l % 10 = r at *
    go_enter Try.func75, Try.ntmps75
    go_wp2_with fail
    refine (H.out _).mono ?_
    rintro e w' ⟨rfl, rfl⟩
    go_wp2_with fail
    go_ret
    exact ⟨by rw [HE.out]; rfl, rfl⟩
theorem isFlightLevel (l : Int) (w : World) :
    Calls Try.prog 41 #[.int .i64 l] w fun e w' => e = .returned (.bool (lvB l)) ∧ w = w' := by
  have H := Lib.hid (fun w => level18 l w)
  generalize lvB l = b at *
  go_enter Try.func41, Try.ntmps41
  go_wp2_with fail
  refine (H.out _).mono ?_
  rintro e w' ⟨rfl, rfl⟩
  go_wp2_with fail
  go_ret
  exact ⟨rfl, rfl⟩
theorem minutes18 (f t : Int) (w : World) :
    Calls Try.prog 70 #[.int .i64 f, .int .i64 t] w fun e w' => e = .returned (.bool (mnB f t)) ∧ w = w' := by
  unfold mnB
  generalize h1 : decide (0 ≤ f) = q1 at *
  generalize h2 : decide (f < t) = q2 at *
  generalize h3 : decide (t ≤ 1440) = q3 at *
  cases q1
  all_goals (
    cases q2
    all_goals (
      go_enter Try.func70, Try.ntmps70
      go_wp2_with fail
      go_ret
      exact ⟨rfl, rfl⟩))
theorem right18 (x y l : Int) (hl : lvB l = true) (w : World) :
    Calls Try.prog 76 #[.agg #[.int .i64 x, .int .i64 y], .int .i64 l] w fun e w' => e = .returned (.bool (rtB x y l)) ∧ Below w.heap.size w w' := by
  have S0 := Lib.hid (newS 50 #[.int .i64 x, .int .i64 y] w)
  obtain ⟨h1, h2, -⟩ := lvB_yes hl
  have hq : Int.tdiv l 10 = l / 10 := Int.tdiv_eq_ediv_of_nonneg (by omega)
  obtain ⟨q, hqq⟩ : ∃ q, l / 10 = q := ⟨_, rfl⟩
  have hq0 : 1 ≤ q ∧ q ≤ 41 := by omega
  have hw : IntKind.i64.wrap q = q := IntWalk.i64_in _ (by omega)
  have ht : Int.tmod q 2 = q % 2 := Int.tmod_eq_emod_of_nonneg (by omega)
  have hr : IntKind.i64.wrap (q % 2) = q % 2 := IntWalk.i64_in _ (by omega)
  have HV := Lib.hid (show rtB x y l = ((decide (0 < x) || (decide (x = 0) && decide (0 < y))) == (q % 2 == 1)) by unfold rtB goB evB; rw [hqq]; rfl)
  rw [hqq] at hq
  clear hl
  have e1 : (x == 0) = decide (x = 0) := by rfl
  generalize q % 2 = r at *
  generalize he : (r == 1) = ev at *
  generalize h0' : decide (0 < x) = q0 at *
  generalize h1' : decide (x = 0) = q1 at *
  generalize h2' : decide (0 < y) = q2 at *
  cases q0
  all_goals (
    cases q1
    all_goals (
      go_enter Try.func76, Try.ntmps76
      go_wp2_with fail
      go_ret
      exact ⟨by rw [HV.out]; cases ev <;> cases q2 <;> rfl, S0.out.1⟩))
set_option maxRecDepth 100000 in
set_option maxHeartbeats 2000000 in
theorem cleared18 (a l u f t : Int) (w : World) :
    Calls Try.prog 60 #[.agg #[.int .i64 a, .int .i64 l, .int .i64 u, .int .i64 f, .int .i64 t]] w fun e w' => e = .returned (.bool (clB a l u f t)) ∧ Below w.heap.size w w' := by
  have S0 := Lib.hid (newS 26 #[.int .i64 a, .int .i64 l, .int .i64 u, .int .i64 f, .int .i64 t] w)
  have T0 := Lib.hid (fun w => address13 a w)
  have T1 := Lib.hid (fun w => level18 l w)
  have T2 := Lib.hid (fun w => level18 u w)
  have T3 := Lib.hid (fun w => minutes18 f t w)
  have HV := Lib.hid (show clB a l u f t = (isIn a 1 65535 && (lvB l && (lvB u && (decide (l ≤ u) && mnB f t)))) from rfl)
  generalize clB a l u f t = r at *
  generalize isIn a 1 65535 = p0 at *
  generalize lvB l = p1 at *
  generalize lvB u = p2 at *
  generalize mnB f t = p3 at *
  generalize h0 : decide (l ≤ u) = q0 at *
  cases p0
  · go_enter Try.func60, Try.ntmps60
    go_wp2_with fail
    generalize w.alloc (.cells #[.int .i64 a, .int .i64 l, .int .i64 u, .int .i64 f, .int .i64 t] 26) = W0 at *
    refine (T0.out W0).mono ?_
    rintro e w1 ⟨rfl, rfl⟩
    have c00 : W0.cell? ⟨w.heap.size, 0, none⟩ = some (.int .i64 a) := S0.out.cell 0
    have c01 : W0.cell? ⟨w.heap.size, 1, none⟩ = some (.int .i64 l) := S0.out.cell 1
    have c02 : W0.cell? ⟨w.heap.size, 2, none⟩ = some (.int .i64 u) := S0.out.cell 2
    have c03 : W0.cell? ⟨w.heap.size, 3, none⟩ = some (.int .i64 f) := S0.out.cell 3
    have c04 : W0.cell? ⟨w.heap.size, 4, none⟩ = some (.int .i64 t) := S0.out.cell 4
    go_wp2_with fail
    go_ret
    exact ⟨by rw [HV.out]; rfl, S0.out.1⟩
  cases p1
  · go_enter Try.func60, Try.ntmps60
    go_wp2_with fail
    generalize w.alloc (.cells #[.int .i64 a, .int .i64 l, .int .i64 u, .int .i64 f, .int .i64 t] 26) = W0 at *
    refine (T0.out W0).mono ?_
    rintro e w1 ⟨rfl, rfl⟩
    have c00 : W0.cell? ⟨w.heap.size, 0, none⟩ = some (.int .i64 a) := S0.out.cell 0
    have c01 : W0.cell? ⟨w.heap.size, 1, none⟩ = some (.int .i64 l) := S0.out.cell 1
    have c02 : W0.cell? ⟨w.heap.size, 2, none⟩ = some (.int .i64 u) := S0.out.cell 2
    have c03 : W0.cell? ⟨w.heap.size, 3, none⟩ = some (.int .i64 f) := S0.out.cell 3
    have c04 : W0.cell? ⟨w.heap.size, 4, none⟩ = some (.int .i64 t) := S0.out.cell 4
    go_wp2_with fail
    refine (T1.out W0).mono ?_
    rintro e w1 ⟨rfl, rfl⟩
    go_wp2_with fail
    go_ret
    exact ⟨by rw [HV.out]; rfl, S0.out.1⟩
  cases p2
  · go_enter Try.func60, Try.ntmps60
    go_wp2_with fail
    generalize w.alloc (.cells #[.int .i64 a, .int .i64 l, .int .i64 u, .int .i64 f, .int .i64 t] 26) = W0 at *
    refine (T0.out W0).mono ?_
    rintro e w1 ⟨rfl, rfl⟩
    have c00 : W0.cell? ⟨w.heap.size, 0, none⟩ = some (.int .i64 a) := S0.out.cell 0
    have c01 : W0.cell? ⟨w.heap.size, 1, none⟩ = some (.int .i64 l) := S0.out.cell 1
    have c02 : W0.cell? ⟨w.heap.size, 2, none⟩ = some (.int .i64 u) := S0.out.cell 2
    have c03 : W0.cell? ⟨w.heap.size, 3, none⟩ = some (.int .i64 f) := S0.out.cell 3
    have c04 : W0.cell? ⟨w.heap.size, 4, none⟩ = some (.int .i64 t) := S0.out.cell 4
    go_wp2_with fail
    refine (T1.out W0).mono ?_
    rintro e w1 ⟨rfl, rfl⟩
    go_wp2_with fail
    refine (T2.out W0).mono ?_
    rintro e w1 ⟨rfl, rfl⟩
    go_wp2_with fail
    go_ret
    exact ⟨by rw [HV.out]; rfl, S0.out.1⟩
  cases q0
  · go_enter Try.func60, Try.ntmps60
    go_wp2_with fail
    generalize w.alloc (.cells #[.int .i64 a, .int .i64 l, .int .i64 u, .int .i64 f, .int .i64 t] 26) = W0 at *
    refine (T0.out W0).mono ?_
    rintro e w1 ⟨rfl, rfl⟩
    have c00 : W0.cell? ⟨w.heap.size, 0, none⟩ = some (.int .i64 a) := S0.out.cell 0
    have c01 : W0.cell? ⟨w.heap.size, 1, none⟩ = some (.int .i64 l) := S0.out.cell 1
    have c02 : W0.cell? ⟨w.heap.size, 2, none⟩ = some (.int .i64 u) := S0.out.cell 2
    have c03 : W0.cell? ⟨w.heap.size, 3, none⟩ = some (.int .i64 f) := S0.out.cell 3
    have c04 : W0.cell? ⟨w.heap.size, 4, none⟩ = some (.int .i64 t) := S0.out.cell 4
    go_wp2_with fail
    refine (T1.out W0).mono ?_
    rintro e w1 ⟨rfl, rfl⟩
    go_wp2_with fail
    refine (T2.out W0).mono ?_
    rintro e w1 ⟨rfl, rfl⟩
    go_wp2_with fail
    go_ret
    exact ⟨by rw [HV.out]; rfl, S0.out.1⟩
  go_enter Try.func60, Try.ntmps60
  go_wp2_with fail
  generalize w.alloc (.cells #[.int .i64 a, .int .i64 l, .int .i64 u, .int .i64 f, .int .i64 t] 26) = W0 at *
  refine (T0.out W0).mono ?_
  rintro e w1 ⟨rfl, rfl⟩
  have c00 : W0.cell? ⟨w.heap.size, 0, none⟩ = some (.int .i64 a) := S0.out.cell 0
  have c01 : W0.cell? ⟨w.heap.size, 1, none⟩ = some (.int .i64 l) := S0.out.cell 1
  have c02 : W0.cell? ⟨w.heap.size, 2, none⟩ = some (.int .i64 u) := S0.out.cell 2
  have c03 : W0.cell? ⟨w.heap.size, 3, none⟩ = some (.int .i64 f) := S0.out.cell 3
  have c04 : W0.cell? ⟨w.heap.size, 4, none⟩ = some (.int .i64 t) := S0.out.cell 4
  go_wp2_with fail
  refine (T1.out W0).mono ?_
  rintro e w1 ⟨rfl, rfl⟩
  go_wp2_with fail
  refine (T2.out W0).mono ?_
  rintro e w1 ⟨rfl, rfl⟩
  go_wp2_with fail
  refine (T3.out W0).mono ?_
  rintro e w1 ⟨rfl, rfl⟩
  go_wp2_with fail
  go_ret
  exact ⟨by rw [HV.out]; rfl, S0.out.1⟩
set_option maxRecDepth 100000 in
set_option maxHeartbeats 2000000 in
theorem meet18 (a l u f t b m v g s : Int) (w : World) :
    Calls Try.prog 86 #[.agg #[.int .i64 a, .int .i64 l, .int .i64 u, .int .i64 f, .int .i64 t], .agg #[.int .i64 b, .int .i64 m, .int .i64 v, .int .i64 g, .int .i64 s]] w fun e w' => e = .returned (.bool (decide (f < s) && decide (g < t))) ∧ Below w.heap.size w w' := by
  have S0 := Lib.hid ((newS 26 #[.int .i64 a, .int .i64 l, .int .i64 u, .int .i64 f, .int .i64 t] w).alloc (.cells #[.int .i64 b, .int .i64 m, .int .i64 v, .int .i64 g, .int .i64 s] 26))
  have S1 := Lib.hid ((newS 26 #[.int .i64 a, .int .i64 l, .int .i64 u, .int .i64 f, .int .i64 t] w).next 26 #[.int .i64 b, .int .i64 m, .int .i64 v, .int .i64 g, .int .i64 s])
  rw [World.size_alloc] at S1
  generalize h0 : decide (f < s) = q0 at *
  generalize h1 : decide (g < t) = q1 at *
  cases q0
  all_goals (
    go_enter Try.func86, Try.ntmps86
    go_wp2_with fail
    go_ret
    exact ⟨rfl, S0.out.1⟩)
set_option maxRecDepth 100000 in
set_option maxHeartbeats 2000000 in
theorem conflict18 (a l u f t b m v g s : Int) (w : World) :
    Calls Try.prog 61 #[.agg #[.int .i64 a, .int .i64 l, .int .i64 u, .int .i64 f, .int .i64 t], .agg #[.int .i64 b, .int .i64 m, .int .i64 v, .int .i64 g, .int .i64 s]] w fun e w' => e = .returned (.bool (cfB a l u f t b m v g s)) ∧ Below w.heap.size w w' := by
  have S0 := Lib.hid ((newS 26 #[.int .i64 a, .int .i64 l, .int .i64 u, .int .i64 f, .int .i64 t] w).alloc (.cells #[.int .i64 b, .int .i64 m, .int .i64 v, .int .i64 g, .int .i64 s] 26))
  have S1 := Lib.hid ((newS 26 #[.int .i64 a, .int .i64 l, .int .i64 u, .int .i64 f, .int .i64 t] w).next 26 #[.int .i64 b, .int .i64 m, .int .i64 v, .int .i64 g, .int .i64 s])
  rw [World.size_alloc] at S1
  have T0 := Lib.hid (fun w => meet18 a l u f t b m v g s w)
  have HV := Lib.hid (show cfB a l u f t b m v g s = (!decide (a = b) && ((decide (f < s) && decide (g < t)) && (decide (l ≤ v) && decide (m ≤ u)))) by unfold cfB; cases decide (f < s) <;> rfl)
  have e3 : (a != b) = !decide (a = b) := by rfl
  generalize cfB a l u f t b m v g s = r at *
  generalize (decide (f < s) && decide (g < t)) = p at *
  generalize hn : decide (a = b) = n at *
  generalize h0 : decide (l ≤ v) = q0 at *
  generalize h1 : decide (m ≤ u) = q1 at *
  cases n
  · cases p
    all_goals (
      cases q0
      all_goals (
        go_enter Try.func61, Try.ntmps61
        go_wp2_with fail
        generalize ((w.alloc (.cells #[.int .i64 a, .int .i64 l, .int .i64 u, .int .i64 f, .int .i64 t] 26)).alloc (.cells #[.int .i64 b, .int .i64 m, .int .i64 v, .int .i64 g, .int .i64 s] 26)) = W0 at *
        refine (T0.out W0).mono ?_
        rintro e w1 ⟨rfl, hb⟩
        have A1 := Lib.hid (S0.out.old hb)
        have A2 := Lib.hid (S1.out.old hb)
        clear hb
        have c00 : w1.cell? ⟨w.heap.size, 0, none⟩ = some (.int .i64 a) := A1.out.cell 0
        have c01 : w1.cell? ⟨w.heap.size, 1, none⟩ = some (.int .i64 l) := A1.out.cell 1
        have c02 : w1.cell? ⟨w.heap.size, 2, none⟩ = some (.int .i64 u) := A1.out.cell 2
        have c03 : w1.cell? ⟨w.heap.size, 3, none⟩ = some (.int .i64 f) := A1.out.cell 3
        have c04 : w1.cell? ⟨w.heap.size, 4, none⟩ = some (.int .i64 t) := A1.out.cell 4
        have c10 : w1.cell? ⟨w.heap.size + 1, 0, none⟩ = some (.int .i64 b) := A2.out.cell 0
        have c11 : w1.cell? ⟨w.heap.size + 1, 1, none⟩ = some (.int .i64 m) := A2.out.cell 1
        have c12 : w1.cell? ⟨w.heap.size + 1, 2, none⟩ = some (.int .i64 v) := A2.out.cell 2
        have c13 : w1.cell? ⟨w.heap.size + 1, 3, none⟩ = some (.int .i64 g) := A2.out.cell 3
        have c14 : w1.cell? ⟨w.heap.size + 1, 4, none⟩ = some (.int .i64 s) := A2.out.cell 4
        go_wp2_with fail
        go_ret
        exact ⟨by rw [HV.out]; rfl, A1.out.1⟩))
  · go_enter Try.func61, Try.ntmps61
    go_wp2_with fail
    go_ret
    exact ⟨by rw [HV.out]; rfl, S0.out.1⟩
set_option maxRecDepth 100000 in
set_option maxHeartbeats 2000000 in
theorem isRightLevel (x y l : Int) (w : World) :
    Calls Try.prog 40 #[.agg #[.int .i64 x, .int .i64 y], .int .i64 l] w fun e w' => e = .returned (.tuple #[.bool (rtV x y l), .bool (rtO x y l)]) ∧ Below w.heap.size w w' := by
  have S0 := Lib.hid (newS 50 #[.int .i64 x, .int .i64 y] w)
  have T0 := Lib.hid (fun w => vels.good8 x y w)
  have T1 := Lib.hid (fun h w => vels.square8 x y h w)
  have T2 := Lib.hid (fun w => level18 l w)
  have T3 := Lib.hid (fun h w => right18 x y l h w)
  have HV := Lib.hid (show rtV x y l = (rtO x y l && rtB x y l) from rfl)
  have HO := Lib.hid (show rtO x y l = ((vB x y && !decide (sq x y = 0)) && lvB l) by unfold rtO; rw [mB_sq])
  have e1 : (sq x y == 0) = decide (sq x y = 0) := by rfl
  generalize rtV x y l = rv at *
  generalize rtO x y l = ro at *
  generalize rtB x y l = rb at *
  generalize hvv : vB x y = p at *
  generalize sq x y = s at *
  generalize hs : decide (s = 0) = q at *
  generalize hl : lvB l = r at *
  cases p
  · go_enter Try.func40, Try.ntmps40
    go_wp2_with fail
    generalize w.alloc (.cells #[.int .i64 x, .int .i64 y] 50) = W0 at *
    refine (T0.out W0).mono ?_
    rintro e w1 ⟨rfl, hb⟩
    have A1 := Lib.hid (S0.out.old hb)
    clear hb
    have c00 : w1.cell? ⟨w.heap.size, 0, none⟩ = some (.int .i64 x) := A1.out.cell 0
    have c01 : w1.cell? ⟨w.heap.size, 1, none⟩ = some (.int .i64 y) := A1.out.cell 1
    go_wp2_with fail
    go_ret2
    exact ⟨by rw [HV.out, HO.out]; rfl, A1.out.1⟩
  have T1' := Lib.hid (fun w => T1.out rfl w)
  cases q
  · cases r
    · go_enter Try.func40, Try.ntmps40
      go_wp2_with fail
      generalize w.alloc (.cells #[.int .i64 x, .int .i64 y] 50) = W0 at *
      refine (T0.out W0).mono ?_
      rintro e w1 ⟨rfl, hb⟩
      have A1 := Lib.hid (S0.out.old hb)
      clear hb
      have c00 : w1.cell? ⟨w.heap.size, 0, none⟩ = some (.int .i64 x) := A1.out.cell 0
      have c01 : w1.cell? ⟨w.heap.size, 1, none⟩ = some (.int .i64 y) := A1.out.cell 1
      go_wp2_with fail
      refine (T1'.out w1).mono ?_
      rintro e w2 ⟨rfl, hb⟩
      have A2 := Lib.hid (A1.out.old hb)
      clear hb c00 c01
      have c00 : w2.cell? ⟨w.heap.size, 0, none⟩ = some (.int .i64 x) := A2.out.cell 0
      have c01 : w2.cell? ⟨w.heap.size, 1, none⟩ = some (.int .i64 y) := A2.out.cell 1
      go_wp2_with fail
      refine (T2.out w2).mono ?_
      rintro e w' ⟨rfl, rfl⟩
      go_wp2_with fail
      go_ret2
      exact ⟨by rw [HV.out, HO.out]; rfl, A2.out.1⟩
    · have T3' := Lib.hid (fun w => T3.out rfl w)
      go_enter Try.func40, Try.ntmps40
      go_wp2_with fail
      generalize w.alloc (.cells #[.int .i64 x, .int .i64 y] 50) = W0 at *
      refine (T0.out W0).mono ?_
      rintro e w1 ⟨rfl, hb⟩
      have A1 := Lib.hid (S0.out.old hb)
      clear hb
      have c00 : w1.cell? ⟨w.heap.size, 0, none⟩ = some (.int .i64 x) := A1.out.cell 0
      have c01 : w1.cell? ⟨w.heap.size, 1, none⟩ = some (.int .i64 y) := A1.out.cell 1
      go_wp2_with fail
      refine (T1'.out w1).mono ?_
      rintro e w2 ⟨rfl, hb⟩
      have A2 := Lib.hid (A1.out.old hb)
      clear hb c00 c01
      have c00 : w2.cell? ⟨w.heap.size, 0, none⟩ = some (.int .i64 x) := A2.out.cell 0
      have c01 : w2.cell? ⟨w.heap.size, 1, none⟩ = some (.int .i64 y) := A2.out.cell 1
      go_wp2_with fail
      refine (T2.out w2).mono ?_
      rintro e w' ⟨rfl, rfl⟩
      go_wp2_with fail
      refine (T3'.out w2).mono ?_
      rintro e w3 ⟨rfl, hb⟩
      have A3 := Lib.hid (A2.out.old hb)
      clear hb c00 c01
      go_wp2_with fail
      go_ret2
      exact ⟨by rw [HV.out, HO.out]; rfl, A3.out.1⟩
  · go_enter Try.func40, Try.ntmps40
    go_wp2_with fail
    generalize w.alloc (.cells #[.int .i64 x, .int .i64 y] 50) = W0 at *
    refine (T0.out W0).mono ?_
    rintro e w1 ⟨rfl, hb⟩
    have A1 := Lib.hid (S0.out.old hb)
    clear hb
    have c00 : w1.cell? ⟨w.heap.size, 0, none⟩ = some (.int .i64 x) := A1.out.cell 0
    have c01 : w1.cell? ⟨w.heap.size, 1, none⟩ = some (.int .i64 y) := A1.out.cell 1
    go_wp2_with fail
    refine (T1'.out w1).mono ?_
    rintro e w2 ⟨rfl, hb⟩
    have A2 := Lib.hid (A1.out.old hb)
    clear hb c00 c01
    have c00 : w2.cell? ⟨w.heap.size, 0, none⟩ = some (.int .i64 x) := A2.out.cell 0
    have c01 : w2.cell? ⟨w.heap.size, 1, none⟩ = some (.int .i64 y) := A2.out.cell 1
    go_wp2_with fail
    go_ret2
    exact ⟨by rw [HV.out, HO.out]; rfl, A2.out.1⟩
end Go.Proofs.Ytglonedhoenkpaa.lvls
