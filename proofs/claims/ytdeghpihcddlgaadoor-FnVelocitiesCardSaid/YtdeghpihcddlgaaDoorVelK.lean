/- impl's areAll at velocities (with whatever predicate), DirectionOf, FasterThan, TurnOf, AddVelocities, WholeSpeed. -/
import Derived.Test.YtdeghpihcddlgaaDoorVelJ
import Derived.Test.YtdeghpihcddlgaaDoorPosX
import Derived.Deep.RegionHeld3
import Derived.Deep.CutRange
namespace Go.Proofs.YtdeghpihcddlgaaDoor.velk
open Go.RowKit Go.Proofs.YtdeghpihcddlgaaDoor.vel Go.Proofs.YtdeghpihcddlgaaDoor.in_ Go.Proofs.YtdeghpihcddlgaaDoor.ats Go.Proofs.YtdeghpihcddlgaaDoor.veli Go.Proofs.YtdeghpihcddlgaaDoor.velj

theorem dir_no {x y : Int} (h : mB x y = false) : (Value.tuple #[.int .i64 0, .bool false]) = .tuple #[.int .i64 (dirV x y), .bool (mB x y)] := by unfold dirV; rw [h]; rfl
theorem dir_yes {x y v : Int} (h : mB x y = true) (hv : dV (near y x) (near x y) x y = v) : (Value.tuple #[.int .i64 v, .bool true]) = .tuple #[.int .i64 (dirV x y), .bool (mB x y)] := by unfold dirV; rw [h, if_pos rfl, hv]
theorem sg_in (x : Int) : sg x = -1 ∨ sg x = 0 ∨ sg x = 1 := by unfold sg; split; omega; split <;> omega

set_option maxRecDepth 100000 in
set_option maxHeartbeats 4000000 in
theorem directionOf (x y : Int) (w : World) :
    Calls Tryd.prog 11 #[.agg #[.int .i64 x, .int .i64 y]] w
      fun e w' => e = .returned (.tuple #[.int .i64 (dirV x y), .bool (mB x y)]) ∧ Below w.heap.size w w' := by
  have hm := fun w => isMoving x y w
  have B0 := Lib.hid (newS 25 #[.int .i64 x, .int .i64 y] w)
  cases hb : mB x y
  · have HN := Lib.hid (dir_no hb)
    rw [hb] at hm HN
    have HM := Lib.hid hm
    clear hm hb
    go_enter Tryd.func11, Tryd.ntmps11
    go_wp2_with fail
    generalize w.alloc (.cells #[.int .i64 x, .int .i64 y] 25) = W at *
    refine (HM.out _).mono ?_
    rintro e w1 ⟨rfl, hb1⟩
    have B1 := Lib.hid (B0.out.old hb1)
    clear hb1
    go_wp2_with fail
    go_ret2
    exact ⟨congrArg Ending.returned HN.out, B1.out.1⟩
  · obtain ⟨hvb, hne⟩ := mB_yes hb
    obtain ⟨hx, hy⟩ := vB_yes hvb
    have HD := dV_dt hne
    have HY := fun v h => dir_yes (v := v) hb h
    have n1 := fun w => isAlong y x hy hx w
    have n2 := fun w => isAlong x y hx hy w
    have C1 := Lib.hid (fun w d => aid.quiet_left (compare0 x (World.drewN w d)))
    have C2 := Lib.hid (fun w d => aid.quiet_left (compare0 y (World.drewN w d)))
    have D1 := Lib.hid (fun w => directionTo 0 (sg y) (Or.inr (Or.inl rfl)) (sg_in y) w)
    have D2 := Lib.hid (fun w => directionTo (sg x) 0 (sg_in x) (Or.inr (Or.inl rfl)) w)
    have D3 := Lib.hid (fun w => directionTo (sg x) (sg y) (sg_in x) (sg_in y) w)
    rw [hb] at hm
    rw [hb] at HY
    have HM := Lib.hid hm
    clear hm hb hvb hne hx hy
    generalize near y x = m1 at *
    generalize near x y = m2 at *
    cases m1
    · rw [if_neg (by simp)] at HD
      cases m2
      · rw [if_neg (by simp)] at HD
        have HR := Lib.hid (HY _ HD)
        have N1 := Lib.hid n1
        have N2 := Lib.hid n2
        clear HD HY n1 n2 D1 D2
        generalize sg x = s at *
        generalize sg y = t at *
        generalize dt s t = r at *
        go_enter Tryd.func11, Tryd.ntmps11
        go_wp2_with fail
        generalize w.alloc (.cells #[.int .i64 x, .int .i64 y] 25) = W at *
        refine (HM.out _).mono ?_
        rintro e w1 ⟨rfl, hb1⟩
        have B1 := Lib.hid (B0.out.old hb1)
        have c0 : w1.cell? ⟨w.heap.size, 0, none⟩ = some (.int .i64 x) := B1.out.cell 0
        have c1 : w1.cell? ⟨w.heap.size, 1, none⟩ = some (.int .i64 y) := B1.out.cell 1
        clear hb1 B0
        go_wp2_with fail
        go_quiet (first
          | (go_at_call 31; first | (with_reducible exact C1.out _ _) | (with_reducible exact C2.out _ _)))
        go_wp2_with fail
        refine (N1.out _).mono ?_
        rintro e w' ⟨rfl, rfl⟩
        go_wp2_with fail
        refine (N2.out _).mono ?_
        rintro e w' ⟨rfl, rfl⟩
        go_wp2_with fail
        refine (D3.out _).mono ?_
        rintro e w' ⟨rfl, rfl⟩
        go_wp2_with fail
        go_ret2
        exact ⟨congrArg Ending.returned HR.out, aid.below_drewN B1.out.1 _⟩
      · rw [if_pos rfl] at HD
        have HR := Lib.hid (HY _ HD)
        have N1 := Lib.hid n1
        have N2 := Lib.hid n2
        clear HD HY n1 n2 D1 D3
        generalize sg x = s at *
        generalize sg y = t at *
        generalize dt s 0 = r at *
        go_enter Tryd.func11, Tryd.ntmps11
        go_wp2_with fail
        generalize w.alloc (.cells #[.int .i64 x, .int .i64 y] 25) = W at *
        refine (HM.out _).mono ?_
        rintro e w1 ⟨rfl, hb1⟩
        have B1 := Lib.hid (B0.out.old hb1)
        have c0 : w1.cell? ⟨w.heap.size, 0, none⟩ = some (.int .i64 x) := B1.out.cell 0
        have c1 : w1.cell? ⟨w.heap.size, 1, none⟩ = some (.int .i64 y) := B1.out.cell 1
        clear hb1 B0
        go_wp2_with fail
        go_quiet (first
          | (go_at_call 31; first | (with_reducible exact C1.out _ _) | (with_reducible exact C2.out _ _)))
        go_wp2_with fail
        refine (N1.out _).mono ?_
        rintro e w' ⟨rfl, rfl⟩
        go_wp2_with fail
        refine (N2.out _).mono ?_
        rintro e w' ⟨rfl, rfl⟩
        go_wp2_with fail
        refine (D2.out _).mono ?_
        rintro e w' ⟨rfl, rfl⟩
        go_wp2_with fail
        go_ret2
        exact ⟨congrArg Ending.returned HR.out, aid.below_drewN B1.out.1 _⟩
    · rw [if_pos rfl] at HD
      have HR := Lib.hid (HY _ HD)
      have N1 := Lib.hid n1
      clear HD HY n1 n2 D2 D3
      generalize sg x = s at *
      generalize sg y = t at *
      generalize dt 0 t = r at *
      go_enter Tryd.func11, Tryd.ntmps11
      go_wp2_with fail
      generalize w.alloc (.cells #[.int .i64 x, .int .i64 y] 25) = W at *
      refine (HM.out _).mono ?_
      rintro e w1 ⟨rfl, hb1⟩
      have B1 := Lib.hid (B0.out.old hb1)
      have c0 : w1.cell? ⟨w.heap.size, 0, none⟩ = some (.int .i64 x) := B1.out.cell 0
      have c1 : w1.cell? ⟨w.heap.size, 1, none⟩ = some (.int .i64 y) := B1.out.cell 1
      clear hb1 B0
      go_wp2_with fail
      go_quiet (first
        | (go_at_call 31; first | (with_reducible exact C1.out _ _) | (with_reducible exact C2.out _ _)))
      go_wp2_with fail
      refine (N1.out _).mono ?_
      rintro e w' ⟨rfl, rfl⟩
      go_wp2_with fail
      refine (D1.out _).mono ?_
      rintro e w' ⟨rfl, rfl⟩
      go_wp2_with fail
      go_ret2
      exact ⟨congrArg Ending.returned HR.out, aid.below_drewN B1.out.1 _⟩


theorem ft_no {a b c d : Int} (h : ftB a b c d = false) : (Value.tuple #[.int .i64 0, .bool false]) = .tuple #[.int .i64 (ftV a b c d), .bool (ftB a b c d)] := by unfold ftV; rw [h]; rfl
theorem ft_yes {a b c d v : Int} (h : ftB a b c d = true) (hv : (if sq c d < sq a b then 1 else if sq a b < sq c d then 2 else 0) = v) : (Value.tuple #[.int .i64 v, .bool true]) = .tuple #[.int .i64 (ftV a b c d), .bool (ftB a b c d)] := by unfold ftV; rw [h, if_pos rfl, hv]
theorem tu_no {a b c d : Int} (h : tuB a b c d = false) : (Value.tuple #[.int .i64 0, .bool false]) = .tuple #[.int .i64 (tuV a b c d), .bool (tuB a b c d)] := by unfold tuV; rw [h]; rfl
theorem tu_yes {a b c d v : Int} (h : tuB a b c d = true) (hv : (if cr a b c d < 0 then 1 else if 0 < cr a b c d then 2 else if dot a b c d < 0 then 3 else 0) = v) : (Value.tuple #[.int .i64 v, .bool true]) = .tuple #[.int .i64 (tuV a b c d), .bool (tuB a b c d)] := by unfold tuV; rw [h, if_pos rfl, hv]
end Go.Proofs.YtdeghpihcddlgaaDoor.velk
