/- impl's AddVelocities and WholeSpeed. -/
import Derived.Test.YtdeghpihcddlgaaDoorVelK
namespace Go.Proofs.YtdeghpihcddlgaaDoor.vell
open Go.RowKit Go.Proofs.YtdeghpihcddlgaaDoor.vel Go.Proofs.YtdeghpihcddlgaaDoor.in_ Go.Proofs.YtdeghpihcddlgaaDoor.ats Go.Proofs.YtdeghpihcddlgaaDoor.veli Go.Proofs.YtdeghpihcddlgaaDoor.velj Go.Proofs.YtdeghpihcddlgaaDoor.velk

theorem w64 {x : Int} (h : -9223372036854775808 ≤ x ∧ x ≤ 9223372036854775807) : wrap64 x = x := IntWalk.wrap64_in x h
theorem ad_no {a b c d : Int} (h : adB a b c d = false) : (Value.tuple #[.agg #[.int .i64 0, .int .i64 0], .bool false]) = .tuple #[.agg #[.int .i64 (adX a b c d), .int .i64 (adY a b c d)], .bool (adB a b c d)] := by unfold adX adY; rw [h]; rfl
theorem ad_yes {a b c d : Int} (h : adB a b c d = true) : (Value.tuple #[.agg #[.int .i64 (a + c), .int .i64 (b + d)], .bool true]) = .tuple #[.agg #[.int .i64 (adX a b c d), .int .i64 (adY a b c d)], .bool (adB a b c d)] := by unfold adX adY; rw [h]; rfl
/-- Whatever the machine's sums are when a or c is not valid. -/
theorem ad_is (a b c d : Int) : adB a b c d = (vB a b && vB c d && vB (wrap64 (a + c)) (wrap64 (b + d))) := by
  unfold adB
  cases h1 : vB a b
  · rfl
  · cases h2 : vB c d
    · rfl
    · obtain ⟨x1, y1⟩ := vB_yes h1
      obtain ⟨x2, y2⟩ := vB_yes h2
      rw [w64 (x := a + c) (by omega), w64 (x := b + d) (by omega)]
theorem ad_sum {a b c d : Int} (h : adB a b c d = true) : wrap64 (a + c) = a + c ∧ wrap64 (b + d) = b + d := by
  unfold adB at h
  rw [Bool.and_eq_true, Bool.and_eq_true] at h
  obtain ⟨x1, y1⟩ := vB_yes h.1.1
  obtain ⟨x2, y2⟩ := vB_yes h.1.2
  exact ⟨w64 (by omega), w64 (by omega)⟩

theorem ws_no {x y : Int} (h : vB x y = false) : (Value.tuple #[.int .i64 0, .bool false]) = .tuple #[.int .i64 (wsV x y), .bool (vB x y)] := by unfold wsV; rw [h]; rfl
theorem ws_yes {x y : Int} {r : Nat} (h : vB x y = true) (hr : r = rt (sq x y)) : (Value.tuple #[.int .i64 (r : Nat), .bool true]) = .tuple #[.int .i64 (wsV x y), .bool (vB x y)] := by unfold wsV; rw [h, if_pos rfl, hr]
theorem next_le {n : Nat} (h : n ≤ 300) : 0 ≤ ((n : Int) + 1) * ((n : Int) + 1) ∧ ((n : Int) + 1) * ((n : Int) + 1) ≤ 160000 := self_le4 (s := (n : Int) + 1) ⟨by omega, by omega⟩
theorem rt_zero {s : Int} {n : Nat} (hs : s ≤ 80000) (h : 300 ≤ n) : ¬ ((n : Int) + 1) * ((n : Int) + 1) ≤ s := by
  intro h2
  have h3 : (301 : Int) * 301 ≤ ((n : Int) + 1) * ((n : Int) + 1) := Int.mul_le_mul (by omega) (by omega) (by omega) (by omega)
  omega

set_option maxRecDepth 100000 in
set_option maxHeartbeats 4000000 in
theorem wholeSpeed (x y : Int) (w : World) :
    Calls Tryd.prog 13 #[.agg #[.int .i64 x, .int .i64 y]] w
      fun e w' => e = .returned (.tuple #[.int .i64 (wsV x y), .bool (vB x y)]) ∧ Below w.heap.size w w' := by
  have hv := fun w => isValidVelocity x y w
  have B0 := Lib.hid (newS 25 #[.int .i64 x, .int .i64 y] w)
  cases hb : vB x y
  · have HN := Lib.hid (ws_no hb)
    rw [hb] at hv HN
    have HV := Lib.hid hv
    clear hv hb
    go_enter Tryd.func13, Tryd.ntmps13
    go_wp2_with fail
    generalize w.alloc (.cells #[.int .i64 x, .int .i64 y] 25) = W at *
    refine (HV.out _).mono ?_
    rintro e w1 ⟨rfl, hb1⟩
    have B1 := Lib.hid (B0.out.old hb1)
    clear hb1
    go_wp2_with fail
    go_ret2
    exact ⟨congrArg Ending.returned HN.out, B1.out.1⟩
  · have HN := Lib.hid (fun (r : Nat) h => ws_yes (r := r) hb h)
    have Q1 := Lib.hid (fun w => squaredSpeed x y hb w)
    have hs := sq_le hb
    rw [hb] at hv HN
    have HV := Lib.hid hv
    clear hv hb
    generalize sq x y = s at *
    obtain ⟨s0, s1⟩ := hs
    have HS := Lib.hid s1
    go_enter Tryd.func13, Tryd.ntmps13
    go_wp2_with fail
    generalize w.alloc (.cells #[.int .i64 x, .int .i64 y] 25) = W at *
    refine (HV.out _).mono ?_
    rintro e w1 ⟨rfl, hb1⟩
    have B1 := Lib.hid (B0.out.old hb1)
    have c0 : w1.cell? ⟨w.heap.size, 0, none⟩ = some (.int .i64 x) := B1.out.cell 0
    have c1 : w1.cell? ⟨w.heap.size, 1, none⟩ = some (.int .i64 y) := B1.out.cell 1
    clear hb1 B0
    go_wp2_with fail
    refine (Q1.out _).mono ?_
    rintro e w2 ⟨rfl, hb2⟩
    have B2 := Lib.hid (B1.out.old hb2)
    clear hb2 B1 c0 c1
    go_wp2_with fail
    go_loop [5] (fun i => ∃ n f : Nat, i = .int .i64 n ∧ n + f = 300 ∧ rtA s f n = rt s) (fun i => 300 - (intOf i).toNat)
    case atStart => exact ⟨0, 300, rfl, rfl, rfl⟩
    case round =>
      obtain ⟨n, f, rfl, hnf, hr⟩ := hrel
      have hn : n ≤ 300 := by omega
      obtain ⟨p0, p1⟩ := next_le hn
      by_cases h : ((n : Int) + 1) * ((n : Int) + 1) ≤ s
      · have hf : f ≠ 0 := fun e => rt_zero (n := n) HS.out (by omega) h
        obtain ⟨f, rfl⟩ : ∃ g, f = g + 1 := ⟨f - 1, by omega⟩
        have HR := Lib.hid (show rtA s f (n + 1) = rt s by rw [← rtA_step h]; exact hr)
        clear hr
        generalize hp : ((n : Int) + 1) * ((n : Int) + 1) = p at *
        go_wp2
        go_round
        case rel => exact ⟨n + 1, f, by go_num, by omega, HR.out⟩
        case measure => simp [intOf]; omega
      · have g : decide (((n : Int) + 1) * ((n : Int) + 1) ≤ s) = false := decide_eq_false h
        have hR : n = rt s := by
          cases f with
          | zero => exact hr
          | succ f => rw [← hr, rtA_end h]
        have HR := Lib.hid (HN.out n hR)
        clear hr hR h
        generalize hp : ((n : Int) + 1) * ((n : Int) + 1) = p at *
        go_wp2
        go_ret2
        exact ⟨congrArg Ending.returned HR.out, B2.out.1⟩
end Go.Proofs.YtdeghpihcddlgaaDoor.vell
