/- impl's areAll at velocities (with whatever predicate), DirectionOf, FasterThan, TurnOf, AddVelocities, WholeSpeed. -/
import Derived.Test.YtchhjjiidfacbaaVelJ
import Derived.Test.YtchhjjiidfacbaaPosX
import Derived.Deep.RegionHeld3
import Derived.Deep.CutRange
namespace Go.Proofs.Ytchhjjiidfacbaa.velk
open Go.RowKit Go.Proofs.Ytchhjjiidfacbaa.vel Go.Proofs.Ytchhjjiidfacbaa.in_ Go.Proofs.Ytchhjjiidfacbaa.ats Go.Proofs.Ytchhjjiidfacbaa.veli Go.Proofs.Ytchhjjiidfacbaa.velj

theorem all2 (x1 y1 : Int) (x2 y2 : Int) (p1 p2 : Bool)
    (I1 : Hid (∀ w, Calls Try.prog 39 #[.agg #[.int .i64 x1, .int .i64 y1]] w fun e w' => e = .returned (.bool p1) ∧ Below w.heap.size w w')) (I2 : Hid (∀ w, Calls Try.prog 39 #[.agg #[.int .i64 x2, .int .i64 y2]] w fun e w' => e = .returned (.bool p2) ∧ Below w.heap.size w w'))
    (g : Nat) (w : World) (hg : g < w.heap.size) (c0 : w.cell? ⟨g, 0, none⟩ = some (.int .i64 x1)) (c1 : w.cell? ⟨g, 1, none⟩ = some (.int .i64 y1)) (c2 : w.cell? ⟨g, 2, none⟩ = some (.int .i64 x2)) (c3 : w.cell? ⟨g, 3, none⟩ = some (.int .i64 y2)) :
    Calls Try.prog 75 #[.func (.func 39) #[] #[], .slice (some ⟨g, 0, none⟩) 2 2] w fun e w' => e = .returned (.bool (p1 && p2)) ∧ Below w.heap.size w w' := by
  go_enter Try.func75, Try.ntmps75
  go_wp2
  go_loopw [9] (fun i wr => Below w.heap.size w wr ∧ ((i = .int .i64 0) ∨ (i = .int .i64 1 ∧ p1 = true) ∨ (i = .int .i64 2 ∧ p1 = true ∧ p2 = true))) (fun i _ => 2 - (intOf i).toNat)
  case atStart => exact ⟨Below.refl _ _, Or.inl rfl⟩
  case round =>
    obtain ⟨hb, hrel⟩ := hrel
    have d0 := (hb.cell (p := ⟨g, 0, none⟩) hg).trans c0
    have d1 := (hb.cell (p := ⟨g, 1, none⟩) hg).trans c1
    have d2 := (hb.cell (p := ⟨g, 2, none⟩) hg).trans c2
    have d3 := (hb.cell (p := ⟨g, 3, none⟩) hg).trans c3
    have HB := Lib.hid hb
    clear hb c0 c1 c2 c3
    rcases hrel with rfl | ⟨rfl, rfl⟩ | ⟨rfl, rfl, rfl⟩
    · have B1 := Lib.hid (HB.out.alloc HB.out.size (.cells #[.int .i64 x1, .int .i64 y1] 44))
      go_wp2_with fail
      refine (I1.out _).mono ?_
      rintro e w2 ⟨rfl, hb2⟩
      have B2 := Lib.hid (B1.out.trans (hb2.mono B1.out.size))
      clear hb2 HB B1
      cases p1
      · go_wp2_with fail
        go_ret
        exact ⟨rfl, B2.out⟩
      · go_wp2_with fail
        go_roundw
        case rel => exact ⟨B2.out, by simp⟩
        case measure => simp [intOf]
    · have B1 := Lib.hid (HB.out.alloc HB.out.size (.cells #[.int .i64 x2, .int .i64 y2] 44))
      go_wp2_with fail
      refine (I2.out _).mono ?_
      rintro e w2 ⟨rfl, hb2⟩
      have B2 := Lib.hid (B1.out.trans (hb2.mono B1.out.size))
      clear hb2 HB B1
      cases p2
      · go_wp2_with fail
        go_ret
        exact ⟨rfl, B2.out⟩
      · go_wp2_with fail
        go_roundw
        case rel => exact ⟨B2.out, by simp⟩
        case measure => simp [intOf]
    · go_wp2_with fail
      go_ret
      exact ⟨rfl, HB.out⟩
theorem all2_new (x1 y1 : Int) (x2 y2 : Int) (p1 p2 : Bool)
    (I1 : ∀ w, Calls Try.prog 39 #[.agg #[.int .i64 x1, .int .i64 y1]] w fun e w' => e = .returned (.bool p1) ∧ Below w.heap.size w w') (I2 : ∀ w, Calls Try.prog 39 #[.agg #[.int .i64 x2, .int .i64 y2]] w fun e w' => e = .returned (.bool p2) ∧ Below w.heap.size w w')
    (W : World) (b : Nat) (hb : W.heap.size = b) :
    Calls Try.prog 75 #[.func (.func 39) #[] #[], .slice (some ⟨b, 0, none⟩) 2 2] (W.alloc (.cells #[.int .i64 x1, .int .i64 y1, .int .i64 x2, .int .i64 y2] 44)) fun e w' => e = .returned (.bool (p1 && p2)) ∧ Below W.heap.size W w' := by
  subst hb
  have A := newS 44 #[.int .i64 x1, .int .i64 y1, .int .i64 x2, .int .i64 y2] W
  exact (all2 x1 y1 x2 y2 p1 p2 (Lib.hid I1) (Lib.hid I2) _ _ A.2.2.1 (A.cell 0) (A.cell 1) (A.cell 2) (A.cell 3)).mono fun _ _ ⟨h, hb⟩ => ⟨h, A.1.trans (hb.mono A.1.size)⟩

theorem mov2 (x1 y1 : Int) (x2 y2 : Int) (p1 p2 : Bool)
    (I1 : Hid (∀ w, Calls Try.prog 76 #[.agg #[.int .i64 x1, .int .i64 y1]] w fun e w' => e = .returned (.bool p1) ∧ Below w.heap.size w w')) (I2 : Hid (∀ w, Calls Try.prog 76 #[.agg #[.int .i64 x2, .int .i64 y2]] w fun e w' => e = .returned (.bool p2) ∧ Below w.heap.size w w'))
    (g : Nat) (w : World) (hg : g < w.heap.size) (c0 : w.cell? ⟨g, 0, none⟩ = some (.int .i64 x1)) (c1 : w.cell? ⟨g, 1, none⟩ = some (.int .i64 y1)) (c2 : w.cell? ⟨g, 2, none⟩ = some (.int .i64 x2)) (c3 : w.cell? ⟨g, 3, none⟩ = some (.int .i64 y2)) :
    Calls Try.prog 75 #[.func (.func 76) #[] #[], .slice (some ⟨g, 0, none⟩) 2 2] w fun e w' => e = .returned (.bool (p1 && p2)) ∧ Below w.heap.size w w' := by
  go_enter Try.func75, Try.ntmps75
  go_wp2
  go_loopw [9] (fun i wr => Below w.heap.size w wr ∧ ((i = .int .i64 0) ∨ (i = .int .i64 1 ∧ p1 = true) ∨ (i = .int .i64 2 ∧ p1 = true ∧ p2 = true))) (fun i _ => 2 - (intOf i).toNat)
  case atStart => exact ⟨Below.refl _ _, Or.inl rfl⟩
  case round =>
    obtain ⟨hb, hrel⟩ := hrel
    have d0 := (hb.cell (p := ⟨g, 0, none⟩) hg).trans c0
    have d1 := (hb.cell (p := ⟨g, 1, none⟩) hg).trans c1
    have d2 := (hb.cell (p := ⟨g, 2, none⟩) hg).trans c2
    have d3 := (hb.cell (p := ⟨g, 3, none⟩) hg).trans c3
    have HB := Lib.hid hb
    clear hb c0 c1 c2 c3
    rcases hrel with rfl | ⟨rfl, rfl⟩ | ⟨rfl, rfl, rfl⟩
    · have B1 := Lib.hid (HB.out.alloc HB.out.size (.cells #[.int .i64 x1, .int .i64 y1] 44))
      go_wp2_with fail
      refine (I1.out _).mono ?_
      rintro e w2 ⟨rfl, hb2⟩
      have B2 := Lib.hid (B1.out.trans (hb2.mono B1.out.size))
      clear hb2 HB B1
      cases p1
      · go_wp2_with fail
        go_ret
        exact ⟨rfl, B2.out⟩
      · go_wp2_with fail
        go_roundw
        case rel => exact ⟨B2.out, by simp⟩
        case measure => simp [intOf]
    · have B1 := Lib.hid (HB.out.alloc HB.out.size (.cells #[.int .i64 x2, .int .i64 y2] 44))
      go_wp2_with fail
      refine (I2.out _).mono ?_
      rintro e w2 ⟨rfl, hb2⟩
      have B2 := Lib.hid (B1.out.trans (hb2.mono B1.out.size))
      clear hb2 HB B1
      cases p2
      · go_wp2_with fail
        go_ret
        exact ⟨rfl, B2.out⟩
      · go_wp2_with fail
        go_roundw
        case rel => exact ⟨B2.out, by simp⟩
        case measure => simp [intOf]
    · go_wp2_with fail
      go_ret
      exact ⟨rfl, HB.out⟩
theorem mov2_new (x1 y1 : Int) (x2 y2 : Int) (p1 p2 : Bool)
    (I1 : ∀ w, Calls Try.prog 76 #[.agg #[.int .i64 x1, .int .i64 y1]] w fun e w' => e = .returned (.bool p1) ∧ Below w.heap.size w w') (I2 : ∀ w, Calls Try.prog 76 #[.agg #[.int .i64 x2, .int .i64 y2]] w fun e w' => e = .returned (.bool p2) ∧ Below w.heap.size w w')
    (W : World) (b : Nat) (hb : W.heap.size = b) :
    Calls Try.prog 75 #[.func (.func 76) #[] #[], .slice (some ⟨b, 0, none⟩) 2 2] (W.alloc (.cells #[.int .i64 x1, .int .i64 y1, .int .i64 x2, .int .i64 y2] 44)) fun e w' => e = .returned (.bool (p1 && p2)) ∧ Below W.heap.size W w' := by
  subst hb
  have A := newS 44 #[.int .i64 x1, .int .i64 y1, .int .i64 x2, .int .i64 y2] W
  exact (mov2 x1 y1 x2 y2 p1 p2 (Lib.hid I1) (Lib.hid I2) _ _ A.2.2.1 (A.cell 0) (A.cell 1) (A.cell 2) (A.cell 3)).mono fun _ _ ⟨h, hb⟩ => ⟨h, A.1.trans (hb.mono A.1.size)⟩

theorem all3 (x1 y1 : Int) (x2 y2 : Int) (x3 y3 : Int) (p1 p2 p3 : Bool)
    (I1 : Hid (∀ w, Calls Try.prog 39 #[.agg #[.int .i64 x1, .int .i64 y1]] w fun e w' => e = .returned (.bool p1) ∧ Below w.heap.size w w')) (I2 : Hid (∀ w, Calls Try.prog 39 #[.agg #[.int .i64 x2, .int .i64 y2]] w fun e w' => e = .returned (.bool p2) ∧ Below w.heap.size w w')) (I3 : Hid (∀ w, Calls Try.prog 39 #[.agg #[.int .i64 x3, .int .i64 y3]] w fun e w' => e = .returned (.bool p3) ∧ Below w.heap.size w w'))
    (g : Nat) (w : World) (hg : g < w.heap.size) (c0 : w.cell? ⟨g, 0, none⟩ = some (.int .i64 x1)) (c1 : w.cell? ⟨g, 1, none⟩ = some (.int .i64 y1)) (c2 : w.cell? ⟨g, 2, none⟩ = some (.int .i64 x2)) (c3 : w.cell? ⟨g, 3, none⟩ = some (.int .i64 y2)) (c4 : w.cell? ⟨g, 4, none⟩ = some (.int .i64 x3)) (c5 : w.cell? ⟨g, 5, none⟩ = some (.int .i64 y3)) :
    Calls Try.prog 75 #[.func (.func 39) #[] #[], .slice (some ⟨g, 0, none⟩) 3 3] w fun e w' => e = .returned (.bool (p1 && p2 && p3)) ∧ Below w.heap.size w w' := by
  go_enter Try.func75, Try.ntmps75
  go_wp2
  go_loopw [9] (fun i wr => Below w.heap.size w wr ∧ ((i = .int .i64 0) ∨ (i = .int .i64 1 ∧ p1 = true) ∨ (i = .int .i64 2 ∧ p1 = true ∧ p2 = true) ∨ (i = .int .i64 3 ∧ p1 = true ∧ p2 = true ∧ p3 = true))) (fun i _ => 3 - (intOf i).toNat)
  case atStart => exact ⟨Below.refl _ _, Or.inl rfl⟩
  case round =>
    obtain ⟨hb, hrel⟩ := hrel
    have d0 := (hb.cell (p := ⟨g, 0, none⟩) hg).trans c0
    have d1 := (hb.cell (p := ⟨g, 1, none⟩) hg).trans c1
    have d2 := (hb.cell (p := ⟨g, 2, none⟩) hg).trans c2
    have d3 := (hb.cell (p := ⟨g, 3, none⟩) hg).trans c3
    have d4 := (hb.cell (p := ⟨g, 4, none⟩) hg).trans c4
    have d5 := (hb.cell (p := ⟨g, 5, none⟩) hg).trans c5
    have HB := Lib.hid hb
    clear hb c0 c1 c2 c3 c4 c5
    rcases hrel with rfl | ⟨rfl, rfl⟩ | ⟨rfl, rfl, rfl⟩ | ⟨rfl, rfl, rfl, rfl⟩
    · have B1 := Lib.hid (HB.out.alloc HB.out.size (.cells #[.int .i64 x1, .int .i64 y1] 44))
      go_wp2_with fail
      refine (I1.out _).mono ?_
      rintro e w2 ⟨rfl, hb2⟩
      have B2 := Lib.hid (B1.out.trans (hb2.mono B1.out.size))
      clear hb2 HB B1
      cases p1
      · go_wp2_with fail
        go_ret
        exact ⟨rfl, B2.out⟩
      · go_wp2_with fail
        go_roundw
        case rel => exact ⟨B2.out, by simp⟩
        case measure => simp [intOf]
    · have B1 := Lib.hid (HB.out.alloc HB.out.size (.cells #[.int .i64 x2, .int .i64 y2] 44))
      go_wp2_with fail
      refine (I2.out _).mono ?_
      rintro e w2 ⟨rfl, hb2⟩
      have B2 := Lib.hid (B1.out.trans (hb2.mono B1.out.size))
      clear hb2 HB B1
      cases p2
      · go_wp2_with fail
        go_ret
        exact ⟨rfl, B2.out⟩
      · go_wp2_with fail
        go_roundw
        case rel => exact ⟨B2.out, by simp⟩
        case measure => simp [intOf]
    · have B1 := Lib.hid (HB.out.alloc HB.out.size (.cells #[.int .i64 x3, .int .i64 y3] 44))
      go_wp2_with fail
      refine (I3.out _).mono ?_
      rintro e w2 ⟨rfl, hb2⟩
      have B2 := Lib.hid (B1.out.trans (hb2.mono B1.out.size))
      clear hb2 HB B1
      cases p3
      · go_wp2_with fail
        go_ret
        exact ⟨rfl, B2.out⟩
      · go_wp2_with fail
        go_roundw
        case rel => exact ⟨B2.out, by simp⟩
        case measure => simp [intOf]
    · go_wp2_with fail
      go_ret
      exact ⟨rfl, HB.out⟩
theorem all3_new (x1 y1 : Int) (x2 y2 : Int) (x3 y3 : Int) (p1 p2 p3 : Bool)
    (I1 : ∀ w, Calls Try.prog 39 #[.agg #[.int .i64 x1, .int .i64 y1]] w fun e w' => e = .returned (.bool p1) ∧ Below w.heap.size w w') (I2 : ∀ w, Calls Try.prog 39 #[.agg #[.int .i64 x2, .int .i64 y2]] w fun e w' => e = .returned (.bool p2) ∧ Below w.heap.size w w') (I3 : ∀ w, Calls Try.prog 39 #[.agg #[.int .i64 x3, .int .i64 y3]] w fun e w' => e = .returned (.bool p3) ∧ Below w.heap.size w w')
    (W : World) (b : Nat) (hb : W.heap.size = b) :
    Calls Try.prog 75 #[.func (.func 39) #[] #[], .slice (some ⟨b, 0, none⟩) 3 3] (W.alloc (.cells #[.int .i64 x1, .int .i64 y1, .int .i64 x2, .int .i64 y2, .int .i64 x3, .int .i64 y3] 44)) fun e w' => e = .returned (.bool (p1 && p2 && p3)) ∧ Below W.heap.size W w' := by
  subst hb
  have A := newS 44 #[.int .i64 x1, .int .i64 y1, .int .i64 x2, .int .i64 y2, .int .i64 x3, .int .i64 y3] W
  exact (all3 x1 y1 x2 y2 x3 y3 p1 p2 p3 (Lib.hid I1) (Lib.hid I2) (Lib.hid I3) _ _ A.2.2.1 (A.cell 0) (A.cell 1) (A.cell 2) (A.cell 3) (A.cell 4) (A.cell 5)).mono fun _ _ ⟨h, hb⟩ => ⟨h, A.1.trans (hb.mono A.1.size)⟩

theorem dir_no {x y : Int} (h : mB x y = false) : (Value.tuple #[.int .i64 0, .bool false]) = .tuple #[.int .i64 (dirV x y), .bool (mB x y)] := by unfold dirV; rw [h]; rfl
theorem dir_yes {x y v : Int} (h : mB x y = true) (hv : dV (near y x) (near x y) x y = v) : (Value.tuple #[.int .i64 v, .bool true]) = .tuple #[.int .i64 (dirV x y), .bool (mB x y)] := by unfold dirV; rw [h, if_pos rfl, hv]
theorem sg_in (x : Int) : sg x = -1 ∨ sg x = 0 ∨ sg x = 1 := by unfold sg; split; omega; split <;> omega

set_option maxRecDepth 100000 in
set_option maxHeartbeats 4000000 in
theorem directionOf (x y : Int) (w : World) :
    Calls Try.prog 46 #[.agg #[.int .i64 x, .int .i64 y]] w
      fun e w' => e = .returned (.tuple #[.int .i64 (dirV x y), .bool (mB x y)]) ∧ Below w.heap.size w w' := by
  have hm := fun w => isMoving x y w
  have B0 := Lib.hid (newS 44 #[.int .i64 x, .int .i64 y] w)
  cases hb : mB x y
  · have HN := Lib.hid (dir_no hb)
    rw [hb] at hm HN
    have HM := Lib.hid hm
    clear hm hb
    go_enter Try.func46, Try.ntmps46
    go_wp2_with fail
    generalize w.alloc (.cells #[.int .i64 x, .int .i64 y] 44) = W at *
    refine (HM.out _).mono ?_
    rintro e w1 ⟨rfl, hb1⟩
    have B1 := Lib.hid (B0.out.old hb1)
    clear hb1
    go_wp2_with fail
    go_ret2
    exact ⟨congrArg Ending.returned HN.out, B1.out.1⟩
  · obtain ⟨hvb, hne⟩ := mB_yes hb
    obtain ⟨hx, hy⟩ := vB_yes hvb
    have HD := dV_dt hne
    have HY := fun v h => dir_yes (v := v) hb h
    have n1 := fun w => isAlong y x hy hx w
    have n2 := fun w => isAlong x y hx hy w
    have C1 := Lib.hid (fun w d => aid.quiet_left (compare0 x (World.drewN w d)))
    have C2 := Lib.hid (fun w d => aid.quiet_left (compare0 y (World.drewN w d)))
    have D1 := Lib.hid (fun w => directionTo 0 (sg y) (Or.inr (Or.inl rfl)) (sg_in y) w)
    have D2 := Lib.hid (fun w => directionTo (sg x) 0 (sg_in x) (Or.inr (Or.inl rfl)) w)
    have D3 := Lib.hid (fun w => directionTo (sg x) (sg y) (sg_in x) (sg_in y) w)
    rw [hb] at hm
    rw [hb] at HY
    have HM := Lib.hid hm
    clear hm hb hvb hne hx hy
    generalize near y x = m1 at *
    generalize near x y = m2 at *
    cases m1
    · rw [if_neg (by simp)] at HD
      cases m2
      · rw [if_neg (by simp)] at HD
        have HR := Lib.hid (HY _ HD)
        have N1 := Lib.hid n1
        have N2 := Lib.hid n2
        clear HD HY n1 n2 D1 D2
        generalize sg x = s at *
        generalize sg y = t at *
        generalize dt s t = r at *
        go_enter Try.func46, Try.ntmps46
        go_wp2_with fail
        generalize w.alloc (.cells #[.int .i64 x, .int .i64 y] 44) = W at *
        refine (HM.out _).mono ?_
        rintro e w1 ⟨rfl, hb1⟩
        have B1 := Lib.hid (B0.out.old hb1)
        have c0 : w1.cell? ⟨w.heap.size, 0, none⟩ = some (.int .i64 x) := B1.out.cell 0
        have c1 : w1.cell? ⟨w.heap.size, 1, none⟩ = some (.int .i64 y) := B1.out.cell 1
        clear hb1 B0
        go_wp2_with fail
        go_quiet (first
          | (go_at_call 88; first | (with_reducible exact C1.out _ _) | (with_reducible exact C2.out _ _)))
        go_wp2_with fail
        refine (N1.out _).mono ?_
        rintro e w' ⟨rfl, rfl⟩
        go_wp2_with fail
        refine (N2.out _).mono ?_
        rintro e w' ⟨rfl, rfl⟩
        go_wp2_with fail
        refine (D3.out _).mono ?_
        rintro e w' ⟨rfl, rfl⟩
        go_wp2_with fail
        go_ret2
        exact ⟨congrArg Ending.returned HR.out, aid.below_drewN B1.out.1 _⟩
      · rw [if_pos rfl] at HD
        have HR := Lib.hid (HY _ HD)
        have N1 := Lib.hid n1
        have N2 := Lib.hid n2
        clear HD HY n1 n2 D1 D3
        generalize sg x = s at *
        generalize sg y = t at *
        generalize dt s 0 = r at *
        go_enter Try.func46, Try.ntmps46
        go_wp2_with fail
        generalize w.alloc (.cells #[.int .i64 x, .int .i64 y] 44) = W at *
        refine (HM.out _).mono ?_
        rintro e w1 ⟨rfl, hb1⟩
        have B1 := Lib.hid (B0.out.old hb1)
        have c0 : w1.cell? ⟨w.heap.size, 0, none⟩ = some (.int .i64 x) := B1.out.cell 0
        have c1 : w1.cell? ⟨w.heap.size, 1, none⟩ = some (.int .i64 y) := B1.out.cell 1
        clear hb1 B0
        go_wp2_with fail
        go_quiet (first
          | (go_at_call 88; first | (with_reducible exact C1.out _ _) | (with_reducible exact C2.out _ _)))
        go_wp2_with fail
        refine (N1.out _).mono ?_
        rintro e w' ⟨rfl, rfl⟩
        go_wp2_with fail
        refine (N2.out _).mono ?_
        rintro e w' ⟨rfl, rfl⟩
        go_wp2_with fail
        refine (D2.out _).mono ?_
        rintro e w' ⟨rfl, rfl⟩
        go_wp2_with fail
        go_ret2
        exact ⟨congrArg Ending.returned HR.out, aid.below_drewN B1.out.1 _⟩
    · rw [if_pos rfl] at HD
      have HR := Lib.hid (HY _ HD)
      have N1 := Lib.hid n1
      clear HD HY n1 n2 D2 D3
      generalize sg x = s at *
      generalize sg y = t at *
      generalize dt 0 t = r at *
      go_enter Try.func46, Try.ntmps46
      go_wp2_with fail
      generalize w.alloc (.cells #[.int .i64 x, .int .i64 y] 44) = W at *
      refine (HM.out _).mono ?_
      rintro e w1 ⟨rfl, hb1⟩
      have B1 := Lib.hid (B0.out.old hb1)
      have c0 : w1.cell? ⟨w.heap.size, 0, none⟩ = some (.int .i64 x) := B1.out.cell 0
      have c1 : w1.cell? ⟨w.heap.size, 1, none⟩ = some (.int .i64 y) := B1.out.cell 1
      clear hb1 B0
      go_wp2_with fail
      go_quiet (first
        | (go_at_call 88; first | (with_reducible exact C1.out _ _) | (with_reducible exact C2.out _ _)))
      go_wp2_with fail
      refine (N1.out _).mono ?_
      rintro e w' ⟨rfl, rfl⟩
      go_wp2_with fail
      refine (D1.out _).mono ?_
      rintro e w' ⟨rfl, rfl⟩
      go_wp2_with fail
      go_ret2
      exact ⟨congrArg Ending.returned HR.out, aid.below_drewN B1.out.1 _⟩


theorem ft_no {a b c d : Int} (h : ftB a b c d = false) : (Value.tuple #[.int .i64 0, .bool false]) = .tuple #[.int .i64 (ftV a b c d), .bool (ftB a b c d)] := by unfold ftV; rw [h]; rfl
theorem ft_yes {a b c d v : Int} (h : ftB a b c d = true) (hv : (if sq c d < sq a b then 1 else if sq a b < sq c d then 2 else 0) = v) : (Value.tuple #[.int .i64 v, .bool true]) = .tuple #[.int .i64 (ftV a b c d), .bool (ftB a b c d)] := by unfold ftV; rw [h, if_pos rfl, hv]
set_option maxRecDepth 100000 in
set_option maxHeartbeats 4000000 in
theorem fasterThan (a b c d : Int) (w : World) :
    Calls Try.prog 32 #[.agg #[.int .i64 a, .int .i64 b], .agg #[.int .i64 c, .int .i64 d]] w
      fun e w' => e = .returned (.tuple #[.int .i64 (ftV a b c d), .bool (ftB a b c d)]) ∧ Below w.heap.size w w' := by
  have hv := fun (W : World) (g : Nat) (hg : W.heap.size = g) => all2_new a b c d (vB a b) (vB c d) (isValidVelocity a b) (isValidVelocity c d) W g hg
  have A0 := Lib.hid ((newS 44 #[.int .i64 a, .int .i64 b] w).alloc (.cells #[.int .i64 c, .int .i64 d] 44))
  have C0 := Lib.hid ((newS 44 #[.int .i64 a, .int .i64 b] w).next 44 #[.int .i64 c, .int .i64 d])
  rw [World.size_alloc] at C0
  have HZ := Lib.hid (show ((w.alloc (.cells #[.int .i64 a, .int .i64 b] 44)).alloc (.cells #[.int .i64 c, .int .i64 d] 44)).heap.size = w.heap.size + 1 + 1 by rw [World.size_alloc, World.size_alloc])
  have hB : ftB a b c d = (vB a b && vB c d) := rfl
  rw [← hB] at hv
  cases hb : ftB a b c d
  · have HN := Lib.hid (ft_no hb)
    rw [hb] at hv HN
    have HV := Lib.hid hv
    clear hv hb hB
    go_enter Try.func32, Try.ntmps32
    go_wp2_with fail
    generalize (w.alloc (.cells #[.int .i64 a, .int .i64 b] 44)).alloc (.cells #[.int .i64 c, .int .i64 d] 44) = W at *
    refine (HV.out W _ HZ.out).mono ?_
    rintro e w1 ⟨rfl, hb1⟩
    have A1 := Lib.hid (A0.out.old hb1)
    have C1 := Lib.hid (C0.out.old hb1)
    clear hb1 A0 C0
    go_wp2_with fail
    go_ret2
    exact ⟨congrArg Ending.returned HN.out, A1.out.1⟩
  · have HY := fun v h => ft_yes (v := v) hb h
    have hq := hb
    rw [hB, Bool.and_eq_true] at hq
    have Q1 := Lib.hid (fun w => squaredSpeed a b hq.1 w)
    have Q2 := Lib.hid (fun w => squaredSpeed c d hq.2 w)
    rw [hb] at hv HY
    have HV := Lib.hid hv
    clear hv hb hB hq
    generalize sq a b = s at *
    generalize sq c d = t at *
    have HR := Lib.hid (HY _ rfl)
    clear HY
    go_enter Try.func32, Try.ntmps32
    go_wp2_with fail
    generalize (w.alloc (.cells #[.int .i64 a, .int .i64 b] 44)).alloc (.cells #[.int .i64 c, .int .i64 d] 44) = W at *
    refine (HV.out W _ HZ.out).mono ?_
    rintro e w1 ⟨rfl, hb1⟩
    have A1 := Lib.hid (A0.out.old hb1)
    have C1 := Lib.hid (C0.out.old hb1)
    clear hb1 A0 C0
    go_upto_region 3 with fail
    have CS := Lib.hid (show ∀ WZ : World, Below w1.heap.size w1 WZ → WZ.cell? ⟨w.heap.size, 0, none⟩ = some (.int .i64 a) ∧ WZ.cell? ⟨w.heap.size, 1, none⟩ = some (.int .i64 b) ∧ WZ.cell? ⟨w.heap.size + 1, 0, none⟩ = some (.int .i64 c) ∧ WZ.cell? ⟨w.heap.size + 1, 1, none⟩ = some (.int .i64 d) from fun WZ hz => ⟨posx.at_cell (A1.out.old hz) 0 _ rfl, posx.at_cell (A1.out.old hz) 1 _ rfl, posx.at_cell (C1.out.old hz) 0 _ rfl, posx.at_cell (C1.out.old hz) 1 _ rfl⟩)
    go_cut [6, 7] from 13 to 17 (fun u v wz => u = .int .i64 s ∧ v = .int .i64 t ∧ Below w1.heap.size w1 wz)
    case first =>
      go_region_held3 (fun w' => w'.cell? ⟨w.heap.size, 0, none⟩ = some (.int .i64 a) ∧ w'.cell? ⟨w.heap.size, 1, none⟩ = some (.int .i64 b) ∧ w'.cell? ⟨w.heap.size + 1, 0, none⟩ = some (.int .i64 c) ∧ w'.cell? ⟨w.heap.size + 1, 1, none⟩ = some (.int .i64 d)) (first
        | exact CS.out _ (Below.refl w1.heap.size w1).drew
        | exact CS.out _ (by assumption)
        | go_keep) (first
        | (go_at_call 79; (with_reducible refine (Q1.out _).mono ?_); rintro e w' ⟨rfl, hb⟩
           have hbl := posx.bl_next (V := w1) (by first | exact (Below.refl w1.heap.size w1).drew | assumption) hb
           clear hb)
        | (go_at_call 79; (with_reducible refine (Q2.out _).mono ?_); rintro e w' ⟨rfl, hb⟩
           have hbl := posx.bl_next (V := w1) (by first | exact (Below.refl w1.heap.size w1).drew | assumption) hb
           clear hb))
      all_goals (go_wp2_with fail; go_meet; exact ⟨rfl, rfl, by assumption⟩)
    case rest =>
      obtain ⟨rfl, rfl, hw⟩ := hcut
      have HE := Lib.hid (A1.out.old hw)
      clear hw CS A1 C1
      generalize wc = w2 at *
      by_cases h1 : t < s
      · rw [if_pos h1] at HR
        go_wp2_with fail
        go_ret2
        exact ⟨congrArg Ending.returned HR.out, HE.out.1⟩
      · have g1 : decide (t < s) = false := decide_eq_false h1
        rw [if_neg h1] at HR
        by_cases h2 : s < t
        · rw [if_pos h2] at HR
          clear h1
          go_wp2_with fail
          go_ret2
          exact ⟨congrArg Ending.returned HR.out, HE.out.1⟩
        · have g2 : decide (s < t) = false := decide_eq_false h2
          rw [if_neg h2] at HR
          clear h1 h2
          go_wp2_with fail
          go_ret2
          exact ⟨congrArg Ending.returned HR.out, HE.out.1⟩

theorem tu_no {a b c d : Int} (h : tuB a b c d = false) : (Value.tuple #[.int .i64 0, .bool false]) = .tuple #[.int .i64 (tuV a b c d), .bool (tuB a b c d)] := by unfold tuV; rw [h]; rfl
theorem tu_yes {a b c d v : Int} (h : tuB a b c d = true) (hv : (if cr a b c d < 0 then 1 else if 0 < cr a b c d then 2 else if dot a b c d < 0 then 3 else 0) = v) : (Value.tuple #[.int .i64 v, .bool true]) = .tuple #[.int .i64 (tuV a b c d), .bool (tuB a b c d)] := by unfold tuV; rw [h, if_pos rfl, hv]
set_option maxRecDepth 100000 in
set_option maxHeartbeats 4000000 in
theorem turnOf (a b c d : Int) (w : World) :
    Calls Try.prog 29 #[.agg #[.int .i64 a, .int .i64 b], .agg #[.int .i64 c, .int .i64 d]] w
      fun e w' => e = .returned (.tuple #[.int .i64 (tuV a b c d), .bool (tuB a b c d)]) ∧ Below w.heap.size w w' := by
  have hv := fun (W : World) (g : Nat) (hg : W.heap.size = g) => mov2_new a b c d (mB a b) (mB c d) (isMoving a b) (isMoving c d) W g hg
  have A0 := Lib.hid ((newS 44 #[.int .i64 a, .int .i64 b] w).alloc (.cells #[.int .i64 c, .int .i64 d] 44))
  have C0 := Lib.hid ((newS 44 #[.int .i64 a, .int .i64 b] w).next 44 #[.int .i64 c, .int .i64 d])
  rw [World.size_alloc] at C0
  have HZ := Lib.hid (show ((w.alloc (.cells #[.int .i64 a, .int .i64 b] 44)).alloc (.cells #[.int .i64 c, .int .i64 d] 44)).heap.size = w.heap.size + 1 + 1 by rw [World.size_alloc, World.size_alloc])
  have hB : tuB a b c d = (mB a b && mB c d) := rfl
  rw [← hB] at hv
  cases hb : tuB a b c d
  · have HN := Lib.hid (tu_no hb)
    rw [hb] at hv HN
    have HV := Lib.hid hv
    clear hv hb hB
    go_enter Try.func29, Try.ntmps29
    go_wp2_with fail
    generalize (w.alloc (.cells #[.int .i64 a, .int .i64 b] 44)).alloc (.cells #[.int .i64 c, .int .i64 d] 44) = W at *
    refine (HV.out W _ HZ.out).mono ?_
    rintro e w1 ⟨rfl, hb1⟩
    have A1 := Lib.hid (A0.out.old hb1)
    have C1 := Lib.hid (C0.out.old hb1)
    clear hb1 A0 C0
    go_wp2_with fail
    go_ret2
    exact ⟨congrArg Ending.returned HN.out, A1.out.1⟩
  · have HY := fun v h => tu_yes (v := v) hb h
    have hq := hb
    rw [hB, Bool.and_eq_true] at hq
    obtain ⟨v1, m1⟩ := mB_yes hq.1
    obtain ⟨v2, m2⟩ := mB_yes hq.2
    have hcd := cr_dot m1 m2
    obtain ⟨ha, hbb⟩ := vB_yes v1
    obtain ⟨hc, hd⟩ := vB_yes v2
    obtain ⟨p0, p1⟩ := prod_le ha hc
    obtain ⟨q0, q1⟩ := prod_le hbb hd
    obtain ⟨r0, r1⟩ := prod_le hbb hc
    obtain ⟨t0, t1⟩ := prod_le ha hd
    rw [hb] at hv HY
    have HV := Lib.hid hv
    clear hv hb hB hq v1 v2 m1 m2 ha hbb hc hd
    unfold cr dot at HY hcd
    generalize hp : a * c = p at *
    generalize hq : b * d = q at *
    generalize hr : b * c = r at *
    generalize ht : a * d = t at *
    have e_1 : IntKind.i64.wrap p = p := IntWalk.i64_in _ (by omega)
    have e_2 : IntKind.i64.wrap q = q := IntWalk.i64_in _ (by omega)
    have e_3 : IntKind.i64.wrap r = r := IntWalk.i64_in _ (by omega)
    have e_4 : IntKind.i64.wrap t = t := IntWalk.i64_in _ (by omega)
    have e_5 : IntKind.i64.wrap (p + q) = p + q := IntWalk.i64_in _ (by omega)
    have e_6 : IntKind.i64.wrap (r - t) = r - t := IntWalk.i64_in _ (by omega)
    have hs : t - r = -(r - t) := by omega
    rw [hs] at hcd HY
    clear hs
    generalize hu : r - t = u at *
    generalize hv : p + q = v at *
    have HR := HY _ rfl
    clear HY
    by_cases h1 : 0 < u
    · rw [if_pos (by omega)] at HR
      have HR := Lib.hid HR
      clear hcd
      go_enter Try.func29, Try.ntmps29
      go_wp2_with fail
      generalize (w.alloc (.cells #[.int .i64 a, .int .i64 b] 44)).alloc (.cells #[.int .i64 c, .int .i64 d] 44) = W at *
      refine (HV.out W _ HZ.out).mono ?_
      rintro e w1 ⟨rfl, hb1⟩
      have A1 := Lib.hid (A0.out.old hb1)
      have C1 := Lib.hid (C0.out.old hb1)
      have a_0 : w1.cell? ⟨w.heap.size, 0, none⟩ = some (.int .i64 a) := A1.out.cell 0
      have a_1 : w1.cell? ⟨w.heap.size, 1, none⟩ = some (.int .i64 b) := A1.out.cell 1
      have c_0 : w1.cell? ⟨w.heap.size + 1, 0, none⟩ = some (.int .i64 c) := C1.out.cell 0
      have c_1 : w1.cell? ⟨w.heap.size + 1, 1, none⟩ = some (.int .i64 d) := C1.out.cell 1
      clear hb1 A0 C0
      go_wp2_with fail
      go_quiet (fail)
      go_wp2_with fail
      go_ret2
      exact ⟨congrArg Ending.returned HR.out, aid.below_drewN A1.out.1 _⟩
    · have g1 : decide (0 < u) = false := decide_eq_false h1
      rw [if_neg (by omega)] at HR
      by_cases h2 : u < 0
      · rw [if_pos (by omega)] at HR
        have HR := Lib.hid HR
        clear hcd h1
        go_enter Try.func29, Try.ntmps29
        go_wp2_with fail
        generalize (w.alloc (.cells #[.int .i64 a, .int .i64 b] 44)).alloc (.cells #[.int .i64 c, .int .i64 d] 44) = W at *
        refine (HV.out W _ HZ.out).mono ?_
        rintro e w1 ⟨rfl, hb1⟩
        have A1 := Lib.hid (A0.out.old hb1)
        have C1 := Lib.hid (C0.out.old hb1)
        have a_0 : w1.cell? ⟨w.heap.size, 0, none⟩ = some (.int .i64 a) := A1.out.cell 0
        have a_1 : w1.cell? ⟨w.heap.size, 1, none⟩ = some (.int .i64 b) := A1.out.cell 1
        have c_0 : w1.cell? ⟨w.heap.size + 1, 0, none⟩ = some (.int .i64 c) := C1.out.cell 0
        have c_1 : w1.cell? ⟨w.heap.size + 1, 1, none⟩ = some (.int .i64 d) := C1.out.cell 1
        clear hb1 A0 C0
        go_wp2_with fail
        go_quiet (fail)
        go_wp2_with fail
        go_ret2
        exact ⟨congrArg Ending.returned HR.out, aid.below_drewN A1.out.1 _⟩
      · have g2 : decide (u < 0) = false := decide_eq_false h2
        have h0 := hcd (by omega)
        rw [if_neg (by omega)] at HR
        by_cases h3 : 0 < v
        · rw [if_neg (by omega)] at HR
          have HR := Lib.hid HR
          clear hcd h1 h2 h0
          go_enter Try.func29, Try.ntmps29
          go_wp2_with fail
          generalize (w.alloc (.cells #[.int .i64 a, .int .i64 b] 44)).alloc (.cells #[.int .i64 c, .int .i64 d] 44) = W at *
          refine (HV.out W _ HZ.out).mono ?_
          rintro e w1 ⟨rfl, hb1⟩
          have A1 := Lib.hid (A0.out.old hb1)
          have C1 := Lib.hid (C0.out.old hb1)
          have a_0 : w1.cell? ⟨w.heap.size, 0, none⟩ = some (.int .i64 a) := A1.out.cell 0
          have a_1 : w1.cell? ⟨w.heap.size, 1, none⟩ = some (.int .i64 b) := A1.out.cell 1
          have c_0 : w1.cell? ⟨w.heap.size + 1, 0, none⟩ = some (.int .i64 c) := C1.out.cell 0
          have c_1 : w1.cell? ⟨w.heap.size + 1, 1, none⟩ = some (.int .i64 d) := C1.out.cell 1
          clear hb1 A0 C0
          go_wp2_with fail
          go_quiet (fail)
          go_wp2_with fail
          go_ret2
          exact ⟨congrArg Ending.returned HR.out, aid.below_drewN A1.out.1 _⟩
        · have g3 : decide (0 < v) = false := decide_eq_false h3
          rw [if_pos (by omega)] at HR
          have HR := Lib.hid HR
          clear hcd h1 h2 h0 h3
          go_enter Try.func29, Try.ntmps29
          go_wp2_with fail
          generalize (w.alloc (.cells #[.int .i64 a, .int .i64 b] 44)).alloc (.cells #[.int .i64 c, .int .i64 d] 44) = W at *
          refine (HV.out W _ HZ.out).mono ?_
          rintro e w1 ⟨rfl, hb1⟩
          have A1 := Lib.hid (A0.out.old hb1)
          have C1 := Lib.hid (C0.out.old hb1)
          have a_0 : w1.cell? ⟨w.heap.size, 0, none⟩ = some (.int .i64 a) := A1.out.cell 0
          have a_1 : w1.cell? ⟨w.heap.size, 1, none⟩ = some (.int .i64 b) := A1.out.cell 1
          have c_0 : w1.cell? ⟨w.heap.size + 1, 0, none⟩ = some (.int .i64 c) := C1.out.cell 0
          have c_1 : w1.cell? ⟨w.heap.size + 1, 1, none⟩ = some (.int .i64 d) := C1.out.cell 1
          clear hb1 A0 C0
          go_wp2_with fail
          go_quiet (fail)
          go_wp2_with fail
          go_ret2
          exact ⟨congrArg Ending.returned HR.out, aid.below_drewN A1.out.1 _⟩

end Go.Proofs.Ytchhjjiidfacbaa.velk
