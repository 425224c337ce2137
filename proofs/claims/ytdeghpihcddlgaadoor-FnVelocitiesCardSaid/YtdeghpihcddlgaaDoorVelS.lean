/- spec's functions of chapter 8 that hold no text: l8Good, IsValidVelocity, l8Size, l8Near, DirectionOf, l8Square, FasterThan, TurnOf, AddVelocities, WholeSpeed. -/
import Derived.Test.YtdeghpihcddlgaaDoorVelL
import Derived.Test.YtdeghpihcddlgaaDoorIn
import Derived.BigQuiet
import Derived.Deep.QuietTactic
namespace Go.Proofs.YtdeghpihcddlgaaDoor.vels
open Go.RowKit Go.Proofs.YtdeghpihcddlgaaDoor.vel Go.Proofs.YtdeghpihcddlgaaDoor.in_ Go.Proofs.YtdeghpihcddlgaaDoor.ats Go.Proofs.YtdeghpihcddlgaaDoor.veli Go.Proofs.YtdeghpihcddlgaaDoor.velj Go.Proofs.YtdeghpihcddlgaaDoor.velk Go.Proofs.YtdeghpihcddlgaaDoor.vell

theorem good8 (x y : Int) (w : World) : Calls Tryd.prog 24 #[.agg #[.int .i64 x, .int .i64 y]] w fun e w' => e = .returned (.bool (vB x y)) ∧ Below w.heap.size w w' := by
  have H1 := Lib.hid (fun w => l1In x (-200) 200 w)
  have H2 := Lib.hid (fun w => l1In y (-200) 200 w)
  unfold vB
  generalize isIn x (-200) 200 = p at *
  generalize isIn y (-200) 200 = q at *
  cases p
  · go_enter Tryd.func24, Tryd.ntmps24
    go_wp2_with fail
    refine (H1.out _).mono ?_
    rintro e w1 ⟨rfl, rfl⟩
    go_wp2_with fail
    go_ret
    exact ⟨rfl, (Below.refl _ _).alloc (Nat.le_refl _) _⟩
  · go_enter Tryd.func24, Tryd.ntmps24
    go_wp2_with fail
    refine (H1.out _).mono ?_
    rintro e w1 ⟨rfl, rfl⟩
    go_wp2_with fail
    refine (H2.out _).mono ?_
    rintro e w1 ⟨rfl, rfl⟩
    go_wp2_with fail
    go_ret
    exact ⟨rfl, (Below.refl _ _).alloc (Nat.le_refl _) _⟩

theorem square8 (x y : Int) (hv : vB x y = true) (w : World) :
    Calls Tryd.prog 37 #[.agg #[.int .i64 x, .int .i64 y]] w fun e w' => e = .returned (.int .i64 (sq x y)) ∧ Below w.heap.size w w' := by
  obtain ⟨hx, hy⟩ := vB_yes hv
  obtain ⟨x0, x1⟩ := self_le hx
  obtain ⟨y0, y1⟩ := self_le hy
  unfold sq
  generalize hp : x * x = p at *
  generalize hq : y * y = q at *
  clear hx hy hv
  go_enter Tryd.func37, Tryd.ntmps37
  go_wp2
  go_ret
  exact ⟨rfl, (Below.refl _ _).alloc (Nat.le_refl _) _⟩

theorem most8 (x : Int) (hx : -200 ≤ x ∧ x ≤ 200) (w : World) :
    Calls Tryd.prog 53 #[.int .i64 x, .int .i64 (-x)] w fun e w' => e = .returned (.int .i64 (ab x)) ∧ w = w' := by
  by_cases h : 0 < x
  · rw [show ab x = x by unfold ab; rw [if_neg (by omega)]]
    have g : decide (-x < x) = true := decide_eq_true (by omega)
    go_enter Tryd.func53, Tryd.ntmps53
    go_wp2_with fail
    go_ret
    exact ⟨rfl, rfl⟩
  · rw [show ab x = -x by unfold ab; split <;> omega]
    have g : decide (-x < x) = false := decide_eq_false (by omega)
    go_enter Tryd.func53, Tryd.ntmps53
    go_wp2_with fail
    go_ret
    exact ⟨rfl, rfl⟩
theorem size8 (x : Int) (hx : -200 ≤ x ∧ x ≤ 200) (w : World) :
    Calls Tryd.prog 34 #[.int .i64 x] w fun e w' => e = .returned (.int .i64 (ab x)) ∧ w = w' := by
  have H1 := Lib.hid (fun w => most8 x hx w)
  obtain ⟨x0, x1⟩ := hx
  generalize ab x = v at *
  go_enter Tryd.func34, Tryd.ntmps34
  go_wp2_with fail
  refine (H1.out _).mono ?_
  rintro e w1 ⟨rfl, rfl⟩
  go_wp2_with fail
  go_ret
  exact ⟨rfl, rfl⟩
theorem ab_in (x : Int) : ab (ab x) = ab x := by
  have h : ¬ ab x < 0 := by unfold ab; split <;> omega
  show (if ab x < 0 then -ab x else ab x) = ab x
  rw [if_neg h]
theorem near8 (a b : Int) (ha : 0 ≤ a ∧ a ≤ 200) (hb : 0 ≤ b ∧ b ≤ 200) (w : World) :
    Calls Tryd.prog 35 #[.int .i64 a, .int .i64 b] w fun e w' => e = .returned (.bool (decide ((a + b) * (a + b) < 2 * (a * a)))) ∧ w = w' := by
  obtain ⟨q0, q1⟩ := self_le (x := a) (by omega)
  have s0 : 0 ≤ a + b := by omega
  have s1 : a + b ≤ 400 := by omega
  obtain ⟨p0, p1⟩ := self_le4 ⟨s0, s1⟩
  have e1 : 2 * a * a = 2 * (a * a) := Int.mul_assoc 2 a a
  generalize hs : a + b = s at *
  generalize hp : s * s = p at *
  generalize a * a = q at *
  generalize hd : decide (p < 2 * q) = d
  obtain ⟨a0, a1⟩ := ha
  clear hb
  go_enter Tryd.func35, Tryd.ntmps35
  go_wp2_with fail
  go_ret
  exact ⟨rfl, rfl⟩
theorem near_abs (a b : Int) : decide ((ab a + ab b) * (ab a + ab b) < 2 * (ab a * ab a)) = near a b := by
  unfold near
  rw [ab_sq a, Int.mul_assoc 2 a a]


set_option maxRecDepth 100000 in
set_option maxHeartbeats 8000000 in
theorem directionOf (x y : Int) (w : World) :
    Calls Tryd.prog 12 #[.agg #[.int .i64 x, .int .i64 y]] w
      fun e w' => e = .returned (.tuple #[.int .i64 (dirV x y), .bool (mB x y)]) ∧ Below w.heap.size w w' := by
  have hm := fun w => good8 x y w
  have B0 := Lib.hid (newS 25 #[.int .i64 x, .int .i64 y] w)
  cases hvb : vB x y
  · have HN := Lib.hid (dir_no (x := x) (y := y) (by unfold mB; rw [hvb]; rfl))
    rw [show mB x y = false by unfold mB; rw [hvb]; rfl] at HN ⊢
    rw [hvb] at hm
    have HM := Lib.hid hm
    clear hm hvb
    go_enter Tryd.func12, Tryd.ntmps12
    go_wp2_with fail
    generalize w.alloc (.cells #[.int .i64 x, .int .i64 y] 25) = W at *
    refine (HM.out _).mono ?_
    rintro e w1 ⟨rfl, hb1⟩
    have B1 := Lib.hid (B0.out.old hb1)
    clear hb1
    go_wp2_with fail
    go_ret2
    exact ⟨congrArg Ending.returned HN.out, B1.out.1⟩
  · rw [hvb] at hm
    have HV := Lib.hid hm
    clear hm
    by_cases hz : x = 0 ∧ y = 0
    · have HN := Lib.hid (dir_no (x := x) (y := y) (by unfold mB; rw [hz.1, hz.2]; simp))
      rw [show mB x y = false by unfold mB; rw [hz.1, hz.2]; simp] at HN ⊢
      obtain ⟨rfl, rfl⟩ := hz
      clear hvb
      go_enter Tryd.func12, Tryd.ntmps12
      go_wp2_with fail
      generalize w.alloc (.cells #[.int .i64 0, .int .i64 0] 25) = W at *
      refine (HV.out _).mono ?_
      rintro e w1 ⟨rfl, hb1⟩
      have B1 := Lib.hid (B0.out.old hb1)
      have c0 : w1.cell? ⟨w.heap.size, 0, none⟩ = some (.int .i64 0) := B1.out.cell 0
      have c1 : w1.cell? ⟨w.heap.size, 1, none⟩ = some (.int .i64 0) := B1.out.cell 1
      clear hb1
      go_wp2_with fail
      go_ret2
      exact ⟨congrArg Ending.returned HN.out, B1.out.1⟩
    · have hne : x ≠ 0 ∨ y ≠ 0 := by omega
      have hb := mB_of hvb hne
      obtain ⟨hx, hy⟩ := vB_yes hvb
      obtain ⟨ny, nx, nb⟩ := near_both hne
      have HY := fun v h => dir_yes (v := v) hb h
      have n1 := fun w => near8 (ab y) (ab x) (ab_le hy) (ab_le hx) w
      have n2 := fun w => near8 (ab x) (ab y) (ab_le hx) (ab_le hy) w
      rw [near_abs] at n1 n2
      have S1 := Lib.hid (fun w d => aid.quiet_left (size8 x hx (World.drewN w d)))
      have S2 := Lib.hid (fun w d => aid.quiet_left (size8 y hy (World.drewN w d)))
      have hcase : ((x == 0) && (y == 0)) = false := by
        rw [Bool.and_eq_false_iff]
        rcases hne with h | h
        · exact Or.inl (by simpa using h)
        · exact Or.inr (by simpa using h)
      rw [hb] at HY ⊢
      clear hb hvb hx hy hz
      generalize ab x = u at *
      generalize ab y = v at *
      generalize near y x = m1 at *
      generalize near x y = m2 at *
      cases m1
      · cases m2
        · obtain ⟨hx0, hy1⟩ := nb rfl rfl
          by_cases sx : 0 < x
          · by_cases sy : 0 < y
            · have hval : dV false false x y = 1 := by rw [dV_no, if_pos sx, if_pos sy]
              have HR := Lib.hid (HY _ hval)
              have N1 := Lib.hid n1
              have N2 := Lib.hid n2
              clear HY n1 n2 hval
              have gx : decide (0 < x) = true := decide_eq_true sx
              have qx : decide (x < 0) = false := decide_eq_false (by omega)
              have gy : decide (0 < y) = true := decide_eq_true sy
              have qy : decide (y < 0) = false := decide_eq_false (by omega)
              clear hy1 ny nx nb sx sy
              have z0 : (x == 0) = false := by simpa using hx0
              clear hx0 hne hcase
              go_enter Tryd.func12, Tryd.ntmps12
              go_wp2_with fail
              generalize w.alloc (.cells #[.int .i64 x, .int .i64 y] 25) = W at *
              refine (HV.out _).mono ?_
              rintro e w1 ⟨rfl, hb1⟩
              have B1 := Lib.hid (B0.out.old hb1)
              have c0 : w1.cell? ⟨w.heap.size, 0, none⟩ = some (.int .i64 x) := B1.out.cell 0
              have c1 : w1.cell? ⟨w.heap.size, 1, none⟩ = some (.int .i64 y) := B1.out.cell 1
              clear hb1 B0
              go_wp2_with fail
              go_quiet (first
                | (go_at_call 34; first | (with_reducible exact S1.out _ _) | (with_reducible exact S2.out _ _)))
              go_wp2_with fail
              refine (N1.out _).mono ?_
              rintro e w' ⟨rfl, rfl⟩
              go_wp2_with fail
              refine (N1.out _).mono ?_
              rintro e w' ⟨rfl, rfl⟩
              go_wp2_with fail
              refine (N2.out _).mono ?_
              rintro e w' ⟨rfl, rfl⟩
              go_wp2_with fail
              refine (N2.out _).mono ?_
              rintro e w' ⟨rfl, rfl⟩
              go_wp2_with fail
              go_ret2
              exact ⟨congrArg Ending.returned HR.out, aid.below_drewN B1.out.1 _⟩
            · have hval : dV false false x y = 3 := by rw [dV_no, if_pos sx, if_neg sy]
              have HR := Lib.hid (HY _ hval)
              have N1 := Lib.hid n1
              have N2 := Lib.hid n2
              clear HY n1 n2 hval
              have gx : decide (0 < x) = true := decide_eq_true sx
              have qx : decide (x < 0) = false := decide_eq_false (by omega)
              have gy : decide (0 < y) = false := decide_eq_false sy
              have qy : decide (y < 0) = true := decide_eq_true (by omega)
              clear hy1 ny nx nb sx sy
              have z0 : (x == 0) = false := by simpa using hx0
              clear hx0 hne hcase
              go_enter Tryd.func12, Tryd.ntmps12
              go_wp2_with fail
              generalize w.alloc (.cells #[.int .i64 x, .int .i64 y] 25) = W at *
              refine (HV.out _).mono ?_
              rintro e w1 ⟨rfl, hb1⟩
              have B1 := Lib.hid (B0.out.old hb1)
              have c0 : w1.cell? ⟨w.heap.size, 0, none⟩ = some (.int .i64 x) := B1.out.cell 0
              have c1 : w1.cell? ⟨w.heap.size, 1, none⟩ = some (.int .i64 y) := B1.out.cell 1
              clear hb1 B0
              go_wp2_with fail
              go_quiet (first
                | (go_at_call 34; first | (with_reducible exact S1.out _ _) | (with_reducible exact S2.out _ _)))
              go_wp2_with fail
              refine (N1.out _).mono ?_
              rintro e w' ⟨rfl, rfl⟩
              go_wp2_with fail
              refine (N1.out _).mono ?_
              rintro e w' ⟨rfl, rfl⟩
              go_wp2_with fail
              refine (N2.out _).mono ?_
              rintro e w' ⟨rfl, rfl⟩
              go_wp2_with fail
              refine (N2.out _).mono ?_
              rintro e w' ⟨rfl, rfl⟩
              go_wp2_with fail
              go_ret2
              exact ⟨congrArg Ending.returned HR.out, aid.below_drewN B1.out.1 _⟩
          · by_cases sy : 0 < y
            · have hval : dV false false x y = 7 := by rw [dV_no, if_neg sx, if_neg (by omega)]
              have HR := Lib.hid (HY _ hval)
              have N1 := Lib.hid n1
              have N2 := Lib.hid n2
              clear HY n1 n2 hval
              have gx : decide (0 < x) = false := decide_eq_false sx
              have qx : decide (x < 0) = true := decide_eq_true (by omega)
              have gy : decide (0 < y) = true := decide_eq_true sy
              have qy : decide (y < 0) = false := decide_eq_false (by omega)
              clear hy1 ny nx nb sx sy
              have z0 : (x == 0) = false := by simpa using hx0
              clear hx0 hne hcase
              go_enter Tryd.func12, Tryd.ntmps12
              go_wp2_with fail
              generalize w.alloc (.cells #[.int .i64 x, .int .i64 y] 25) = W at *
              refine (HV.out _).mono ?_
              rintro e w1 ⟨rfl, hb1⟩
              have B1 := Lib.hid (B0.out.old hb1)
              have c0 : w1.cell? ⟨w.heap.size, 0, none⟩ = some (.int .i64 x) := B1.out.cell 0
              have c1 : w1.cell? ⟨w.heap.size, 1, none⟩ = some (.int .i64 y) := B1.out.cell 1
              clear hb1 B0
              go_wp2_with fail
              go_quiet (first
                | (go_at_call 34; first | (with_reducible exact S1.out _ _) | (with_reducible exact S2.out _ _)))
              go_wp2_with fail
              refine (N1.out _).mono ?_
              rintro e w' ⟨rfl, rfl⟩
              go_wp2_with fail
              refine (N1.out _).mono ?_
              rintro e w' ⟨rfl, rfl⟩
              go_wp2_with fail
              refine (N2.out _).mono ?_
              rintro e w' ⟨rfl, rfl⟩
              go_wp2_with fail
              refine (N2.out _).mono ?_
              rintro e w' ⟨rfl, rfl⟩
              go_wp2_with fail
              go_ret2
              exact ⟨congrArg Ending.returned HR.out, aid.below_drewN B1.out.1 _⟩
            · have hval : dV false false x y = 5 := by rw [dV_no, if_neg sx, if_pos (by omega)]
              have HR := Lib.hid (HY _ hval)
              have N1 := Lib.hid n1
              have N2 := Lib.hid n2
              clear HY n1 n2 hval
              have gx : decide (0 < x) = false := decide_eq_false sx
              have qx : decide (x < 0) = true := decide_eq_true (by omega)
              have gy : decide (0 < y) = false := decide_eq_false sy
              have qy : decide (y < 0) = true := decide_eq_true (by omega)
              clear hy1 ny nx nb sx sy
              have z0 : (x == 0) = false := by simpa using hx0
              clear hx0 hne hcase
              go_enter Tryd.func12, Tryd.ntmps12
              go_wp2_with fail
              generalize w.alloc (.cells #[.int .i64 x, .int .i64 y] 25) = W at *
              refine (HV.out _).mono ?_
              rintro e w1 ⟨rfl, hb1⟩
              have B1 := Lib.hid (B0.out.old hb1)
              have c0 : w1.cell? ⟨w.heap.size, 0, none⟩ = some (.int .i64 x) := B1.out.cell 0
              have c1 : w1.cell? ⟨w.heap.size, 1, none⟩ = some (.int .i64 y) := B1.out.cell 1
              clear hb1 B0
              go_wp2_with fail
              go_quiet (first
                | (go_at_call 34; first | (with_reducible exact S1.out _ _) | (with_reducible exact S2.out _ _)))
              go_wp2_with fail
              refine (N1.out _).mono ?_
              rintro e w' ⟨rfl, rfl⟩
              go_wp2_with fail
              refine (N1.out _).mono ?_
              rintro e w' ⟨rfl, rfl⟩
              go_wp2_with fail
              refine (N2.out _).mono ?_
              rintro e w' ⟨rfl, rfl⟩
              go_wp2_with fail
              refine (N2.out _).mono ?_
              rintro e w' ⟨rfl, rfl⟩
              go_wp2_with fail
              go_ret2
              exact ⟨congrArg Ending.returned HR.out, aid.below_drewN B1.out.1 _⟩
        · have hx0 := nx rfl
          by_cases sx : 0 < x
          · have hval : dV false true x y = 2 := by rw [dV_mid]; rw [if_pos sx]
            have HR := Lib.hid (HY _ hval)
            have N1 := Lib.hid n1
            have N2 := Lib.hid n2
            clear HY n1 n2 hval
            have gx : decide (0 < x) = true := decide_eq_true sx
            have qx : decide (x < 0) = false := decide_eq_false (by omega)
            clear ny nx nb sx
            have z0 : (x == 0) = false := by simpa using hx0
            clear hx0 hne hcase
            go_enter Tryd.func12, Tryd.ntmps12
            go_wp2_with fail
            generalize w.alloc (.cells #[.int .i64 x, .int .i64 y] 25) = W at *
            refine (HV.out _).mono ?_
            rintro e w1 ⟨rfl, hb1⟩
            have B1 := Lib.hid (B0.out.old hb1)
            have c0 : w1.cell? ⟨w.heap.size, 0, none⟩ = some (.int .i64 x) := B1.out.cell 0
            have c1 : w1.cell? ⟨w.heap.size, 1, none⟩ = some (.int .i64 y) := B1.out.cell 1
            clear hb1 B0
            go_wp2_with fail
            go_quiet (first
              | (go_at_call 34; first | (with_reducible exact S1.out _ _) | (with_reducible exact S2.out _ _)))
            go_wp2_with fail
            refine (N1.out _).mono ?_
            rintro e w' ⟨rfl, rfl⟩
            go_wp2_with fail
            refine (N1.out _).mono ?_
            rintro e w' ⟨rfl, rfl⟩
            go_wp2_with fail
            refine (N2.out _).mono ?_
            rintro e w' ⟨rfl, rfl⟩
            go_wp2_with fail
            go_ret2
            exact ⟨congrArg Ending.returned HR.out, aid.below_drewN B1.out.1 _⟩
          · have hval : dV false true x y = 6 := by rw [dV_mid]; rw [if_neg sx]
            have HR := Lib.hid (HY _ hval)
            have N1 := Lib.hid n1
            have N2 := Lib.hid n2
            clear HY n1 n2 hval
            have gx : decide (0 < x) = false := decide_eq_false sx
            clear ny nx nb sx
            have z0 : (x == 0) = false := by simpa using hx0
            clear hx0 hne hcase
            go_enter Tryd.func12, Tryd.ntmps12
            go_wp2_with fail
            generalize w.alloc (.cells #[.int .i64 x, .int .i64 y] 25) = W at *
            refine (HV.out _).mono ?_
            rintro e w1 ⟨rfl, hb1⟩
            have B1 := Lib.hid (B0.out.old hb1)
            have c0 : w1.cell? ⟨w.heap.size, 0, none⟩ = some (.int .i64 x) := B1.out.cell 0
            have c1 : w1.cell? ⟨w.heap.size, 1, none⟩ = some (.int .i64 y) := B1.out.cell 1
            clear hb1 B0
            go_wp2_with fail
            go_quiet (first
              | (go_at_call 34; first | (with_reducible exact S1.out _ _) | (with_reducible exact S2.out _ _)))
            go_wp2_with fail
            refine (N1.out _).mono ?_
            rintro e w' ⟨rfl, rfl⟩
            go_wp2_with fail
            refine (N1.out _).mono ?_
            rintro e w' ⟨rfl, rfl⟩
            go_wp2_with fail
            refine (N2.out _).mono ?_
            rintro e w' ⟨rfl, rfl⟩
            go_wp2_with fail
            refine (N2.out _).mono ?_
            rintro e w' ⟨rfl, rfl⟩
            go_wp2_with fail
            go_ret2
            exact ⟨congrArg Ending.returned HR.out, aid.below_drewN B1.out.1 _⟩
      · have hy0 := ny rfl
        by_cases sy : 0 < y
        · have hval : dV true m2 x y = 0 := by rw [dV_yes]; rw [if_pos sy]
          have HR := Lib.hid (HY _ hval)
          have N1 := Lib.hid n1
          have N2 := Lib.hid n2
          clear HY n1 n2 hval
          have gy : decide (0 < y) = true := decide_eq_true sy
          have qy : decide (y < 0) = false := decide_eq_false (by omega)
          clear ny nx nb sy
          have z1 : (y == 0) = false := by simpa using hy0
          clear hy0 hne
          cases hz0 : (x == 0)
          · clear hcase
            go_enter Tryd.func12, Tryd.ntmps12
            go_wp2_with fail
            generalize w.alloc (.cells #[.int .i64 x, .int .i64 y] 25) = W at *
            refine (HV.out _).mono ?_
            rintro e w1 ⟨rfl, hb1⟩
            have B1 := Lib.hid (B0.out.old hb1)
            have c0 : w1.cell? ⟨w.heap.size, 0, none⟩ = some (.int .i64 x) := B1.out.cell 0
            have c1 : w1.cell? ⟨w.heap.size, 1, none⟩ = some (.int .i64 y) := B1.out.cell 1
            clear hb1 B0
            go_wp2_with fail
            go_quiet (first
              | (go_at_call 34; first | (with_reducible exact S1.out _ _) | (with_reducible exact S2.out _ _)))
            go_wp2_with fail
            refine (N1.out _).mono ?_
            rintro e w' ⟨rfl, rfl⟩
            go_wp2_with fail
            go_ret2
            exact ⟨congrArg Ending.returned HR.out, aid.below_drewN B1.out.1 _⟩
          · clear hcase
            go_enter Tryd.func12, Tryd.ntmps12
            go_wp2_with fail
            generalize w.alloc (.cells #[.int .i64 x, .int .i64 y] 25) = W at *
            refine (HV.out _).mono ?_
            rintro e w1 ⟨rfl, hb1⟩
            have B1 := Lib.hid (B0.out.old hb1)
            have c0 : w1.cell? ⟨w.heap.size, 0, none⟩ = some (.int .i64 x) := B1.out.cell 0
            have c1 : w1.cell? ⟨w.heap.size, 1, none⟩ = some (.int .i64 y) := B1.out.cell 1
            clear hb1 B0
            go_wp2_with fail
            go_quiet (first
              | (go_at_call 34; first | (with_reducible exact S1.out _ _) | (with_reducible exact S2.out _ _)))
            go_wp2_with fail
            refine (N1.out _).mono ?_
            rintro e w' ⟨rfl, rfl⟩
            go_wp2_with fail
            go_ret2
            exact ⟨congrArg Ending.returned HR.out, aid.below_drewN B1.out.1 _⟩
        · have hval : dV true m2 x y = 4 := by rw [dV_yes]; rw [if_neg sy]
          have HR := Lib.hid (HY _ hval)
          have N1 := Lib.hid n1
          have N2 := Lib.hid n2
          clear HY n1 n2 hval
          have gy : decide (0 < y) = false := decide_eq_false sy
          clear ny nx nb sy
          have z1 : (y == 0) = false := by simpa using hy0
          clear hy0 hne
          cases hz0 : (x == 0)
          · clear hcase
            go_enter Tryd.func12, Tryd.ntmps12
            go_wp2_with fail
            generalize w.alloc (.cells #[.int .i64 x, .int .i64 y] 25) = W at *
            refine (HV.out _).mono ?_
            rintro e w1 ⟨rfl, hb1⟩
            have B1 := Lib.hid (B0.out.old hb1)
            have c0 : w1.cell? ⟨w.heap.size, 0, none⟩ = some (.int .i64 x) := B1.out.cell 0
            have c1 : w1.cell? ⟨w.heap.size, 1, none⟩ = some (.int .i64 y) := B1.out.cell 1
            clear hb1 B0
            go_wp2_with fail
            go_quiet (first
              | (go_at_call 34; first | (with_reducible exact S1.out _ _) | (with_reducible exact S2.out _ _)))
            go_wp2_with fail
            refine (N1.out _).mono ?_
            rintro e w' ⟨rfl, rfl⟩
            go_wp2_with fail
            refine (N1.out _).mono ?_
            rintro e w' ⟨rfl, rfl⟩
            go_wp2_with fail
            go_ret2
            exact ⟨congrArg Ending.returned HR.out, aid.below_drewN B1.out.1 _⟩
          · clear hcase
            go_enter Tryd.func12, Tryd.ntmps12
            go_wp2_with fail
            generalize w.alloc (.cells #[.int .i64 x, .int .i64 y] 25) = W at *
            refine (HV.out _).mono ?_
            rintro e w1 ⟨rfl, hb1⟩
            have B1 := Lib.hid (B0.out.old hb1)
            have c0 : w1.cell? ⟨w.heap.size, 0, none⟩ = some (.int .i64 x) := B1.out.cell 0
            have c1 : w1.cell? ⟨w.heap.size, 1, none⟩ = some (.int .i64 y) := B1.out.cell 1
            clear hb1 B0
            go_wp2_with fail
            go_quiet (first
              | (go_at_call 34; first | (with_reducible exact S1.out _ _) | (with_reducible exact S2.out _ _)))
            go_wp2_with fail
            refine (N1.out _).mono ?_
            rintro e w' ⟨rfl, rfl⟩
            go_wp2_with fail
            refine (N1.out _).mono ?_
            rintro e w' ⟨rfl, rfl⟩
            go_wp2_with fail
            go_ret2
            exact ⟨congrArg Ending.returned HR.out, aid.below_drewN B1.out.1 _⟩


end Go.Proofs.YtdeghpihcddlgaaDoor.vels
