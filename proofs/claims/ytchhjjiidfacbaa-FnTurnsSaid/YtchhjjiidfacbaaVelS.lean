/- spec's functions of chapter 8 that hold no text: l8Good, IsValidVelocity, l8Size, l8Near, DirectionOf, l8Square, FasterThan, TurnOf, AddVelocities, WholeSpeed. -/
import Derived.Test.YtchhjjiidfacbaaVelL
import Derived.Test.YtchhjjiidfacbaaIn
import Derived.BigQuiet
import Derived.Deep.QuietTactic
namespace Go.Proofs.Ytchhjjiidfacbaa.vels
open Go.RowKit Go.Proofs.Ytchhjjiidfacbaa.vel Go.Proofs.Ytchhjjiidfacbaa.in_ Go.Proofs.Ytchhjjiidfacbaa.ats Go.Proofs.Ytchhjjiidfacbaa.veli Go.Proofs.Ytchhjjiidfacbaa.velj Go.Proofs.Ytchhjjiidfacbaa.velk Go.Proofs.Ytchhjjiidfacbaa.vell

theorem good8 (x y : Int) (w : World) : Calls Try.prog 77 #[.agg #[.int .i64 x, .int .i64 y]] w fun e w' => e = .returned (.bool (vB x y)) ∧ Below w.heap.size w w' := by
  have H1 := Lib.hid (fun w => l1In x (-200) 200 w)
  have H2 := Lib.hid (fun w => l1In y (-200) 200 w)
  unfold vB
  generalize isIn x (-200) 200 = p at *
  generalize isIn y (-200) 200 = q at *
  cases p
  · go_enter Try.func77, Try.ntmps77
    go_wp2_with fail
    refine (H1.out _).mono ?_
    rintro e w1 ⟨rfl, rfl⟩
    go_wp2_with fail
    go_ret
    exact ⟨rfl, (Below.refl _ _).alloc (Nat.le_refl _) _⟩
  · go_enter Try.func77, Try.ntmps77
    go_wp2_with fail
    refine (H1.out _).mono ?_
    rintro e w1 ⟨rfl, rfl⟩
    go_wp2_with fail
    refine (H2.out _).mono ?_
    rintro e w1 ⟨rfl, rfl⟩
    go_wp2_with fail
    go_ret
    exact ⟨rfl, (Below.refl _ _).alloc (Nat.le_refl _) _⟩

theorem isValidVelocity (x y : Int) (w : World) : Calls Try.prog 37 #[.agg #[.int .i64 x, .int .i64 y]] w fun e w' => e = .returned (.bool (vB x y)) ∧ Below w.heap.size w w' := by
  have H1 := Lib.hid (fun w => good8 x y w)
  have B0 := Lib.hid (newS 44 #[.int .i64 x, .int .i64 y] w)
  generalize vB x y = p at *
  go_enter Try.func37, Try.ntmps37
  go_wp2_with fail
  generalize w.alloc (.cells #[.int .i64 x, .int .i64 y] 44) = W at *
  refine (H1.out _).mono ?_
  rintro e w1 ⟨rfl, hb⟩
  have B1 := Lib.hid (B0.out.old hb)
  clear hb
  go_wp2_with fail
  go_ret
  exact ⟨rfl, B1.out.1⟩

theorem square8 (x y : Int) (hv : vB x y = true) (w : World) :
    Calls Try.prog 78 #[.agg #[.int .i64 x, .int .i64 y]] w fun e w' => e = .returned (.int .i64 (sq x y)) ∧ Below w.heap.size w w' := by
  obtain ⟨hx, hy⟩ := vB_yes hv
  obtain ⟨x0, x1⟩ := self_le hx
  obtain ⟨y0, y1⟩ := self_le hy
  unfold sq
  generalize hp : x * x = p at *
  generalize hq : y * y = q at *
  clear hx hy hv
  go_enter Try.func78, Try.ntmps78
  go_wp2
  go_ret
  exact ⟨rfl, (Below.refl _ _).alloc (Nat.le_refl _) _⟩

theorem most8 (x : Int) (hx : -200 ≤ x ∧ x ≤ 200) (w : World) :
    Calls Try.prog 92 #[.int .i64 x, .int .i64 (-x)] w fun e w' => e = .returned (.int .i64 (ab x)) ∧ w = w' := by
  by_cases h : 0 < x
  · rw [show ab x = x by unfold ab; rw [if_neg (by omega)]]
    have g : decide (-x < x) = true := decide_eq_true (by omega)
    go_enter Try.func92, Try.ntmps92
    go_wp2_with fail
    go_ret
    exact ⟨rfl, rfl⟩
  · rw [show ab x = -x by unfold ab; split <;> omega]
    have g : decide (-x < x) = false := decide_eq_false (by omega)
    go_enter Try.func92, Try.ntmps92
    go_wp2_with fail
    go_ret
    exact ⟨rfl, rfl⟩
theorem size8 (x : Int) (hx : -200 ≤ x ∧ x ≤ 200) (w : World) :
    Calls Try.prog 86 #[.int .i64 x] w fun e w' => e = .returned (.int .i64 (ab x)) ∧ w = w' := by
  have H1 := Lib.hid (fun w => most8 x hx w)
  obtain ⟨x0, x1⟩ := hx
  generalize ab x = v at *
  go_enter Try.func86, Try.ntmps86
  go_wp2_with fail
  refine (H1.out _).mono ?_
  rintro e w1 ⟨rfl, rfl⟩
  go_wp2_with fail
  go_ret
  exact ⟨rfl, rfl⟩
theorem ab_in (x : Int) : ab (ab x) = ab x := by
  have h : ¬ ab x < 0 := by unfold ab; split <;> omega
  show (if ab x < 0 then -ab x else ab x) = ab x
  rw [if_neg h]
theorem near8 (a b : Int) (ha : 0 ≤ a ∧ a ≤ 200) (hb : 0 ≤ b ∧ b ≤ 200) (w : World) :
    Calls Try.prog 87 #[.int .i64 a, .int .i64 b] w fun e w' => e = .returned (.bool (decide ((a + b) * (a + b) < 2 * (a * a)))) ∧ w = w' := by
  obtain ⟨q0, q1⟩ := self_le (x := a) (by omega)
  have s0 : 0 ≤ a + b := by omega
  have s1 : a + b ≤ 400 := by omega
  obtain ⟨p0, p1⟩ := self_le4 ⟨s0, s1⟩
  have e1 : 2 * a * a = 2 * (a * a) := Int.mul_assoc 2 a a
  generalize hs : a + b = s at *
  generalize hp : s * s = p at *
  generalize a * a = q at *
  generalize hd : decide (p < 2 * q) = d
  obtain ⟨a0, a1⟩ := ha
  clear hb
  go_enter Try.func87, Try.ntmps87
  go_wp2_with fail
  go_ret
  exact ⟨rfl, rfl⟩
theorem near_abs (a b : Int) : decide ((ab a + ab b) * (ab a + ab b) < 2 * (ab a * ab a)) = near a b := by
  unfold near
  rw [ab_sq a, Int.mul_assoc 2 a a]


set_option maxRecDepth 100000 in
set_option maxHeartbeats 8000000 in
theorem directionOf (x y : Int) (w : World) :
    Calls Try.prog 45 #[.agg #[.int .i64 x, .int .i64 y]] w
      fun e w' => e = .returned (.tuple #[.int .i64 (dirV x y), .bool (mB x y)]) ∧ Below w.heap.size w w' := by
  have hm := fun w => good8 x y w
  have B0 := Lib.hid (newS 44 #[.int .i64 x, .int .i64 y] w)
  cases hvb : vB x y
  · have HN := Lib.hid (dir_no (x := x) (y := y) (by unfold mB; rw [hvb]; rfl))
    rw [show mB x y = false by unfold mB; rw [hvb]; rfl] at HN ⊢
    rw [hvb] at hm
    have HM := Lib.hid hm
    clear hm hvb
    go_enter Try.func45, Try.ntmps45
    go_wp2_with fail
    generalize w.alloc (.cells #[.int .i64 x, .int .i64 y] 44) = W at *
    refine (HM.out _).mono ?_
    rintro e w1 ⟨rfl, hb1⟩
    have B1 := Lib.hid (B0.out.old hb1)
    clear hb1
    go_wp2_with fail
    go_ret2
    exact ⟨congrArg Ending.returned HN.out, B1.out.1⟩
  · rw [hvb] at hm
    have HV := Lib.hid hm
    clear hm
    by_cases hz : x = 0 ∧ y = 0
    · have HN := Lib.hid (dir_no (x := x) (y := y) (by unfold mB; rw [hz.1, hz.2]; simp))
      rw [show mB x y = false by unfold mB; rw [hz.1, hz.2]; simp] at HN ⊢
      obtain ⟨rfl, rfl⟩ := hz
      clear hvb
      go_enter Try.func45, Try.ntmps45
      go_wp2_with fail
      generalize w.alloc (.cells #[.int .i64 0, .int .i64 0] 44) = W at *
      refine (HV.out _).mono ?_
      rintro e w1 ⟨rfl, hb1⟩
      have B1 := Lib.hid (B0.out.old hb1)
      have c0 : w1.cell? ⟨w.heap.size, 0, none⟩ = some (.int .i64 0) := B1.out.cell 0
      have c1 : w1.cell? ⟨w.heap.size, 1, none⟩ = some (.int .i64 0) := B1.out.cell 1
      clear hb1
      go_wp2_with fail
      go_ret2
      exact ⟨congrArg Ending.returned HN.out, B1.out.1⟩
    · have hne : x ≠ 0 ∨ y ≠ 0 := by omega
      have hb := mB_of hvb hne
      obtain ⟨hx, hy⟩ := vB_yes hvb
      obtain ⟨ny, nx, nb⟩ := near_both hne
      have HY := fun v h => dir_yes (v := v) hb h
      have n1 := fun w => near8 (ab y) (ab x) (ab_le hy) (ab_le hx) w
      have n2 := fun w => near8 (ab x) (ab y) (ab_le hx) (ab_le hy) w
      rw [near_abs] at n1 n2
      have S1 := Lib.hid (fun w d => aid.quiet_left (size8 x hx (World.drewN w d)))
      have S2 := Lib.hid (fun w d => aid.quiet_left (size8 y hy (World.drewN w d)))
      have hcase : ((x == 0) && (y == 0)) = false := by
        rw [Bool.and_eq_false_iff]
        rcases hne with h | h
        · exact Or.inl (by simpa using h)
        · exact Or.inr (by simpa using h)
      rw [hb] at HY ⊢
      clear hb hvb hx hy hz
      generalize ab x = u at *
      generalize ab y = v at *
      generalize near y x = m1 at *
      generalize near x y = m2 at *
      cases m1
      · cases m2
        · obtain ⟨hx0, hy1⟩ := nb rfl rfl
          by_cases sx : 0 < x
          · by_cases sy : 0 < y
            · have hval : dV false false x y = 1 := by rw [dV_no, if_pos sx, if_pos sy]
              have HR := Lib.hid (HY _ hval)
              have N1 := Lib.hid n1
              have N2 := Lib.hid n2
              clear HY n1 n2 hval
              have gx : decide (0 < x) = true := decide_eq_true sx
              have qx : decide (x < 0) = false := decide_eq_false (by omega)
              have gy : decide (0 < y) = true := decide_eq_true sy
              have qy : decide (y < 0) = false := decide_eq_false (by omega)
              clear hy1 ny nx nb sx sy
              have z0 : (x == 0) = false := by simpa using hx0
              clear hx0 hne hcase
              go_enter Try.func45, Try.ntmps45
              go_wp2_with fail
              generalize w.alloc (.cells #[.int .i64 x, .int .i64 y] 44) = W at *
              refine (HV.out _).mono ?_
              rintro e w1 ⟨rfl, hb1⟩
              have B1 := Lib.hid (B0.out.old hb1)
              have c0 : w1.cell? ⟨w.heap.size, 0, none⟩ = some (.int .i64 x) := B1.out.cell 0
              have c1 : w1.cell? ⟨w.heap.size, 1, none⟩ = some (.int .i64 y) := B1.out.cell 1
              clear hb1 B0
              go_wp2_with fail
              go_quiet (first
                | (go_at_call 86; first | (with_reducible exact S1.out _ _) | (with_reducible exact S2.out _ _)))
              go_wp2_with fail
              refine (N1.out _).mono ?_
              rintro e w' ⟨rfl, rfl⟩
              go_wp2_with fail
              refine (N1.out _).mono ?_
              rintro e w' ⟨rfl, rfl⟩
              go_wp2_with fail
              refine (N2.out _).mono ?_
              rintro e w' ⟨rfl, rfl⟩
              go_wp2_with fail
              refine (N2.out _).mono ?_
              rintro e w' ⟨rfl, rfl⟩
              go_wp2_with fail
              go_ret2
              exact ⟨congrArg Ending.returned HR.out, aid.below_drewN B1.out.1 _⟩
            · have hval : dV false false x y = 3 := by rw [dV_no, if_pos sx, if_neg sy]
              have HR := Lib.hid (HY _ hval)
              have N1 := Lib.hid n1
              have N2 := Lib.hid n2
              clear HY n1 n2 hval
              have gx : decide (0 < x) = true := decide_eq_true sx
              have qx : decide (x < 0) = false := decide_eq_false (by omega)
              have gy : decide (0 < y) = false := decide_eq_false sy
              have qy : decide (y < 0) = true := decide_eq_true (by omega)
              clear hy1 ny nx nb sx sy
              have z0 : (x == 0) = false := by simpa using hx0
              clear hx0 hne hcase
              go_enter Try.func45, Try.ntmps45
              go_wp2_with fail
              generalize w.alloc (.cells #[.int .i64 x, .int .i64 y] 44) = W at *
              refine (HV.out _).mono ?_
              rintro e w1 ⟨rfl, hb1⟩
              have B1 := Lib.hid (B0.out.old hb1)
              have c0 : w1.cell? ⟨w.heap.size, 0, none⟩ = some (.int .i64 x) := B1.out.cell 0
              have c1 : w1.cell? ⟨w.heap.size, 1, none⟩ = some (.int .i64 y) := B1.out.cell 1
              clear hb1 B0
              go_wp2_with fail
              go_quiet (first
                | (go_at_call 86; first | (with_reducible exact S1.out _ _) | (with_reducible exact S2.out _ _)))
              go_wp2_with fail
              refine (N1.out _).mono ?_
              rintro e w' ⟨rfl, rfl⟩
              go_wp2_with fail
              refine (N1.out _).mono ?_
              rintro e w' ⟨rfl, rfl⟩
              go_wp2_with fail
              refine (N2.out _).mono ?_
              rintro e w' ⟨rfl, rfl⟩
              go_wp2_with fail
              refine (N2.out _).mono ?_
              rintro e w' ⟨rfl, rfl⟩
              go_wp2_with fail
              go_ret2
              exact ⟨congrArg Ending.returned HR.out, aid.below_drewN B1.out.1 _⟩
          · by_cases sy : 0 < y
            · have hval : dV false false x y = 7 := by rw [dV_no, if_neg sx, if_neg (by omega)]
              have HR := Lib.hid (HY _ hval)
              have N1 := Lib.hid n1
              have N2 := Lib.hid n2
              clear HY n1 n2 hval
              have gx : decide (0 < x) = false := decide_eq_false sx
              have qx : decide (x < 0) = true := decide_eq_true (by omega)
              have gy : decide (0 < y) = true := decide_eq_true sy
              have qy : decide (y < 0) = false := decide_eq_false (by omega)
              clear hy1 ny nx nb sx sy
              have z0 : (x == 0) = false := by simpa using hx0
              clear hx0 hne hcase
              go_enter Try.func45, Try.ntmps45
              go_wp2_with fail
              generalize w.alloc (.cells #[.int .i64 x, .int .i64 y] 44) = W at *
              refine (HV.out _).mono ?_
              rintro e w1 ⟨rfl, hb1⟩
              have B1 := Lib.hid (B0.out.old hb1)
              have c0 : w1.cell? ⟨w.heap.size, 0, none⟩ = some (.int .i64 x) := B1.out.cell 0
              have c1 : w1.cell? ⟨w.heap.size, 1, none⟩ = some (.int .i64 y) := B1.out.cell 1
              clear hb1 B0
              go_wp2_with fail
              go_quiet (first
                | (go_at_call 86; first | (with_reducible exact S1.out _ _) | (with_reducible exact S2.out _ _)))
              go_wp2_with fail
              refine (N1.out _).mono ?_
              rintro e w' ⟨rfl, rfl⟩
              go_wp2_with fail
              refine (N1.out _).mono ?_
              rintro e w' ⟨rfl, rfl⟩
              go_wp2_with fail
              refine (N2.out _).mono ?_
              rintro e w' ⟨rfl, rfl⟩
              go_wp2_with fail
              refine (N2.out _).mono ?_
              rintro e w' ⟨rfl, rfl⟩
              go_wp2_with fail
              go_ret2
              exact ⟨congrArg Ending.returned HR.out, aid.below_drewN B1.out.1 _⟩
            · have hval : dV false false x y = 5 := by rw [dV_no, if_neg sx, if_pos (by omega)]
              have HR := Lib.hid (HY _ hval)
              have N1 := Lib.hid n1
              have N2 := Lib.hid n2
              clear HY n1 n2 hval
              have gx : decide (0 < x) = false := decide_eq_false sx
              have qx : decide (x < 0) = true := decide_eq_true (by omega)
              have gy : decide (0 < y) = false := decide_eq_false sy
              have qy : decide (y < 0) = true := decide_eq_true (by omega)
              clear hy1 ny nx nb sx sy
              have z0 : (x == 0) = false := by simpa using hx0
              clear hx0 hne hcase
              go_enter Try.func45, Try.ntmps45
              go_wp2_with fail
              generalize w.alloc (.cells #[.int .i64 x, .int .i64 y] 44) = W at *
              refine (HV.out _).mono ?_
              rintro e w1 ⟨rfl, hb1⟩
              have B1 := Lib.hid (B0.out.old hb1)
              have c0 : w1.cell? ⟨w.heap.size, 0, none⟩ = some (.int .i64 x) := B1.out.cell 0
              have c1 : w1.cell? ⟨w.heap.size, 1, none⟩ = some (.int .i64 y) := B1.out.cell 1
              clear hb1 B0
              go_wp2_with fail
              go_quiet (first
                | (go_at_call 86; first | (with_reducible exact S1.out _ _) | (with_reducible exact S2.out _ _)))
              go_wp2_with fail
              refine (N1.out _).mono ?_
              rintro e w' ⟨rfl, rfl⟩
              go_wp2_with fail
              refine (N1.out _).mono ?_
              rintro e w' ⟨rfl, rfl⟩
              go_wp2_with fail
              refine (N2.out _).mono ?_
              rintro e w' ⟨rfl, rfl⟩
              go_wp2_with fail
              refine (N2.out _).mono ?_
              rintro e w' ⟨rfl, rfl⟩
              go_wp2_with fail
              go_ret2
              exact ⟨congrArg Ending.returned HR.out, aid.below_drewN B1.out.1 _⟩
        · have hx0 := nx rfl
          by_cases sx : 0 < x
          · have hval : dV false true x y = 2 := by rw [dV_mid]; rw [if_pos sx]
            have HR := Lib.hid (HY _ hval)
            have N1 := Lib.hid n1
            have N2 := Lib.hid n2
            clear HY n1 n2 hval
            have gx : decide (0 < x) = true := decide_eq_true sx
            have qx : decide (x < 0) = false := decide_eq_false (by omega)
            clear ny nx nb sx
            have z0 : (x == 0) = false := by simpa using hx0
            clear hx0 hne hcase
            go_enter Try.func45, Try.ntmps45
            go_wp2_with fail
            generalize w.alloc (.cells #[.int .i64 x, .int .i64 y] 44) = W at *
            refine (HV.out _).mono ?_
            rintro e w1 ⟨rfl, hb1⟩
            have B1 := Lib.hid (B0.out.old hb1)
            have c0 : w1.cell? ⟨w.heap.size, 0, none⟩ = some (.int .i64 x) := B1.out.cell 0
            have c1 : w1.cell? ⟨w.heap.size, 1, none⟩ = some (.int .i64 y) := B1.out.cell 1
            clear hb1 B0
            go_wp2_with fail
            go_quiet (first
              | (go_at_call 86; first | (with_reducible exact S1.out _ _) | (with_reducible exact S2.out _ _)))
            go_wp2_with fail
            refine (N1.out _).mono ?_
            rintro e w' ⟨rfl, rfl⟩
            go_wp2_with fail
            refine (N1.out _).mono ?_
            rintro e w' ⟨rfl, rfl⟩
            go_wp2_with fail
            refine (N2.out _).mono ?_
            rintro e w' ⟨rfl, rfl⟩
            go_wp2_with fail
            go_ret2
            exact ⟨congrArg Ending.returned HR.out, aid.below_drewN B1.out.1 _⟩
          · have hval : dV false true x y = 6 := by rw [dV_mid]; rw [if_neg sx]
            have HR := Lib.hid (HY _ hval)
            have N1 := Lib.hid n1
            have N2 := Lib.hid n2
            clear HY n1 n2 hval
            have gx : decide (0 < x) = false := decide_eq_false sx
            clear ny nx nb sx
            have z0 : (x == 0) = false := by simpa using hx0
            clear hx0 hne hcase
            go_enter Try.func45, Try.ntmps45
            go_wp2_with fail
            generalize w.alloc (.cells #[.int .i64 x, .int .i64 y] 44) = W at *
            refine (HV.out _).mono ?_
            rintro e w1 ⟨rfl, hb1⟩
            have B1 := Lib.hid (B0.out.old hb1)
            have c0 : w1.cell? ⟨w.heap.size, 0, none⟩ = some (.int .i64 x) := B1.out.cell 0
            have c1 : w1.cell? ⟨w.heap.size, 1, none⟩ = some (.int .i64 y) := B1.out.cell 1
            clear hb1 B0
            go_wp2_with fail
            go_quiet (first
              | (go_at_call 86; first | (with_reducible exact S1.out _ _) | (with_reducible exact S2.out _ _)))
            go_wp2_with fail
            refine (N1.out _).mono ?_
            rintro e w' ⟨rfl, rfl⟩
            go_wp2_with fail
            refine (N1.out _).mono ?_
            rintro e w' ⟨rfl, rfl⟩
            go_wp2_with fail
            refine (N2.out _).mono ?_
            rintro e w' ⟨rfl, rfl⟩
            go_wp2_with fail
            refine (N2.out _).mono ?_
            rintro e w' ⟨rfl, rfl⟩
            go_wp2_with fail
            go_ret2
            exact ⟨congrArg Ending.returned HR.out, aid.below_drewN B1.out.1 _⟩
      · have hy0 := ny rfl
        by_cases sy : 0 < y
        · have hval : dV true m2 x y = 0 := by rw [dV_yes]; rw [if_pos sy]
          have HR := Lib.hid (HY _ hval)
          have N1 := Lib.hid n1
          have N2 := Lib.hid n2
          clear HY n1 n2 hval
          have gy : decide (0 < y) = true := decide_eq_true sy
          have qy : decide (y < 0) = false := decide_eq_false (by omega)
          clear ny nx nb sy
          have z1 : (y == 0) = false := by simpa using hy0
          clear hy0 hne
          cases hz0 : (x == 0)
          · clear hcase
            go_enter Try.func45, Try.ntmps45
            go_wp2_with fail
            generalize w.alloc (.cells #[.int .i64 x, .int .i64 y] 44) = W at *
            refine (HV.out _).mono ?_
            rintro e w1 ⟨rfl, hb1⟩
            have B1 := Lib.hid (B0.out.old hb1)
            have c0 : w1.cell? ⟨w.heap.size, 0, none⟩ = some (.int .i64 x) := B1.out.cell 0
            have c1 : w1.cell? ⟨w.heap.size, 1, none⟩ = some (.int .i64 y) := B1.out.cell 1
            clear hb1 B0
            go_wp2_with fail
            go_quiet (first
              | (go_at_call 86; first | (with_reducible exact S1.out _ _) | (with_reducible exact S2.out _ _)))
            go_wp2_with fail
            refine (N1.out _).mono ?_
            rintro e w' ⟨rfl, rfl⟩
            go_wp2_with fail
            go_ret2
            exact ⟨congrArg Ending.returned HR.out, aid.below_drewN B1.out.1 _⟩
          · clear hcase
            go_enter Try.func45, Try.ntmps45
            go_wp2_with fail
            generalize w.alloc (.cells #[.int .i64 x, .int .i64 y] 44) = W at *
            refine (HV.out _).mono ?_
            rintro e w1 ⟨rfl, hb1⟩
            have B1 := Lib.hid (B0.out.old hb1)
            have c0 : w1.cell? ⟨w.heap.size, 0, none⟩ = some (.int .i64 x) := B1.out.cell 0
            have c1 : w1.cell? ⟨w.heap.size, 1, none⟩ = some (.int .i64 y) := B1.out.cell 1
            clear hb1 B0
            go_wp2_with fail
            go_quiet (first
              | (go_at_call 86; first | (with_reducible exact S1.out _ _) | (with_reducible exact S2.out _ _)))
            go_wp2_with fail
            refine (N1.out _).mono ?_
            rintro e w' ⟨rfl, rfl⟩
            go_wp2_with fail
            go_ret2
            exact ⟨congrArg Ending.returned HR.out, aid.below_drewN B1.out.1 _⟩
        · have hval : dV true m2 x y = 4 := by rw [dV_yes]; rw [if_neg sy]
          have HR := Lib.hid (HY _ hval)
          have N1 := Lib.hid n1
          have N2 := Lib.hid n2
          clear HY n1 n2 hval
          have gy : decide (0 < y) = false := decide_eq_false sy
          clear ny nx nb sy
          have z1 : (y == 0) = false := by simpa using hy0
          clear hy0 hne
          cases hz0 : (x == 0)
          · clear hcase
            go_enter Try.func45, Try.ntmps45
            go_wp2_with fail
            generalize w.alloc (.cells #[.int .i64 x, .int .i64 y] 44) = W at *
            refine (HV.out _).mono ?_
            rintro e w1 ⟨rfl, hb1⟩
            have B1 := Lib.hid (B0.out.old hb1)
            have c0 : w1.cell? ⟨w.heap.size, 0, none⟩ = some (.int .i64 x) := B1.out.cell 0
            have c1 : w1.cell? ⟨w.heap.size, 1, none⟩ = some (.int .i64 y) := B1.out.cell 1
            clear hb1 B0
            go_wp2_with fail
            go_quiet (first
              | (go_at_call 86; first | (with_reducible exact S1.out _ _) | (with_reducible exact S2.out _ _)))
            go_wp2_with fail
            refine (N1.out _).mono ?_
            rintro e w' ⟨rfl, rfl⟩
            go_wp2_with fail
            refine (N1.out _).mono ?_
            rintro e w' ⟨rfl, rfl⟩
            go_wp2_with fail
            go_ret2
            exact ⟨congrArg Ending.returned HR.out, aid.below_drewN B1.out.1 _⟩
          · clear hcase
            go_enter Try.func45, Try.ntmps45
            go_wp2_with fail
            generalize w.alloc (.cells #[.int .i64 x, .int .i64 y] 44) = W at *
            refine (HV.out _).mono ?_
            rintro e w1 ⟨rfl, hb1⟩
            have B1 := Lib.hid (B0.out.old hb1)
            have c0 : w1.cell? ⟨w.heap.size, 0, none⟩ = some (.int .i64 x) := B1.out.cell 0
            have c1 : w1.cell? ⟨w.heap.size, 1, none⟩ = some (.int .i64 y) := B1.out.cell 1
            clear hb1 B0
            go_wp2_with fail
            go_quiet (first
              | (go_at_call 86; first | (with_reducible exact S1.out _ _) | (with_reducible exact S2.out _ _)))
            go_wp2_with fail
            refine (N1.out _).mono ?_
            rintro e w' ⟨rfl, rfl⟩
            go_wp2_with fail
            refine (N1.out _).mono ?_
            rintro e w' ⟨rfl, rfl⟩
            go_wp2_with fail
            go_ret2
            exact ⟨congrArg Ending.returned HR.out, aid.below_drewN B1.out.1 _⟩


set_option maxRecDepth 100000 in
set_option maxHeartbeats 8000000 in
theorem fasterThan (a b c d : Int) (w : World) :
    Calls Try.prog 33 #[.agg #[.int .i64 a, .int .i64 b], .agg #[.int .i64 c, .int .i64 d]] w
      fun e w' => e = .returned (.tuple #[.int .i64 (ftV a b c d), .bool (ftB a b c d)]) ∧ Below w.heap.size w w' := by
  have g1 := fun w => good8 a b w
  have g2 := fun w => good8 c d w
  have A0 := Lib.hid ((newS 44 #[.int .i64 a, .int .i64 b] w).alloc (.cells #[.int .i64 c, .int .i64 d] 44))
  have C0 := Lib.hid ((newS 44 #[.int .i64 a, .int .i64 b] w).next 44 #[.int .i64 c, .int .i64 d])
  rw [World.size_alloc] at C0
  have hB : ftB a b c d = (vB a b && vB c d) := rfl
  cases h1 : vB a b
  · have hb : ftB a b c d = false := by rw [hB, h1]; rfl
    have HR := Lib.hid (ft_no hb)
    rw [hb] at HR ⊢
    rw [h1] at g1
    have G1 := Lib.hid g1
    clear g1 g2 h1 hb hB
    go_enter Try.func33, Try.ntmps33
    go_wp2_with fail
    generalize (w.alloc (.cells #[.int .i64 a, .int .i64 b] 44)).alloc (.cells #[.int .i64 c, .int .i64 d] 44) = W at *
    refine (G1.out _).mono ?_
    rintro e w1 ⟨rfl, hb1⟩
    have A1 := Lib.hid (A0.out.old hb1)
    have C1 := Lib.hid (C0.out.old hb1)
    clear hb1 A0 C0
    have a_0 : w1.cell? ⟨w.heap.size, 0, none⟩ = some (.int .i64 a) := A1.out.cell 0
    have a_1 : w1.cell? ⟨w.heap.size, 1, none⟩ = some (.int .i64 b) := A1.out.cell 1
    have c_0 : w1.cell? ⟨w.heap.size + 1, 0, none⟩ = some (.int .i64 c) := C1.out.cell 0
    have c_1 : w1.cell? ⟨w.heap.size + 1, 1, none⟩ = some (.int .i64 d) := C1.out.cell 1
    go_wp2_with fail
    go_ret2
    exact ⟨congrArg Ending.returned HR.out, A1.out.1⟩
  · cases h2 : vB c d
    · have hb : ftB a b c d = false := by rw [hB, h1, h2]; rfl
      have HR := Lib.hid (ft_no hb)
      rw [hb] at HR ⊢
      rw [h1] at g1
      rw [h2] at g2
      have G1 := Lib.hid g1
      have G2 := Lib.hid g2
      clear g1 g2 h1 h2 hb hB
      go_enter Try.func33, Try.ntmps33
      go_wp2_with fail
      generalize (w.alloc (.cells #[.int .i64 a, .int .i64 b] 44)).alloc (.cells #[.int .i64 c, .int .i64 d] 44) = W at *
      refine (G1.out _).mono ?_
      rintro e w1 ⟨rfl, hb1⟩
      have A1 := Lib.hid (A0.out.old hb1)
      have C1 := Lib.hid (C0.out.old hb1)
      clear hb1 A0 C0
      have a_0 : w1.cell? ⟨w.heap.size, 0, none⟩ = some (.int .i64 a) := A1.out.cell 0
      have a_1 : w1.cell? ⟨w.heap.size, 1, none⟩ = some (.int .i64 b) := A1.out.cell 1
      have c_0 : w1.cell? ⟨w.heap.size + 1, 0, none⟩ = some (.int .i64 c) := C1.out.cell 0
      have c_1 : w1.cell? ⟨w.heap.size + 1, 1, none⟩ = some (.int .i64 d) := C1.out.cell 1
      go_wp2_with fail
      clear a_0 a_1 c_0 c_1
      refine (G2.out _).mono ?_
      rintro e w2 ⟨rfl, hb2⟩
      have A2 := Lib.hid (A1.out.old hb2)
      have C2 := Lib.hid (C1.out.old hb2)
      clear hb2 A1 C1
      have a_0 : w2.cell? ⟨w.heap.size, 0, none⟩ = some (.int .i64 a) := A2.out.cell 0
      have a_1 : w2.cell? ⟨w.heap.size, 1, none⟩ = some (.int .i64 b) := A2.out.cell 1
      have c_0 : w2.cell? ⟨w.heap.size + 1, 0, none⟩ = some (.int .i64 c) := C2.out.cell 0
      have c_1 : w2.cell? ⟨w.heap.size + 1, 1, none⟩ = some (.int .i64 d) := C2.out.cell 1
      go_wp2_with fail
      go_ret2
      exact ⟨congrArg Ending.returned HR.out, A2.out.1⟩
    · have hb : ftB a b c d = true := by rw [hB, h1, h2]; rfl
      have HY := fun v h => ft_yes (v := v) hb h
      have Q1 := Lib.hid (fun w => square8 a b h1 w)
      have Q2 := Lib.hid (fun w => square8 c d h2 w)
      rw [hb] at HY ⊢
      rw [h1] at g1
      rw [h2] at g2
      have G1 := Lib.hid g1
      have G2 := Lib.hid g2
      clear g1 g2 h1 h2 hb hB
      generalize sq a b = s at *
      generalize sq c d = t at *
      have HR := HY _ rfl
      clear HY
      by_cases h1 : t < s
      · have k1 : decide (t < s) = true := decide_eq_true h1
        rw [if_pos h1] at HR
        have HR := Lib.hid HR
        clear h1
        go_enter Try.func33, Try.ntmps33
        go_wp2_with fail
        generalize (w.alloc (.cells #[.int .i64 a, .int .i64 b] 44)).alloc (.cells #[.int .i64 c, .int .i64 d] 44) = W at *
        refine (G1.out _).mono ?_
        rintro e w1 ⟨rfl, hb1⟩
        have A1 := Lib.hid (A0.out.old hb1)
        have C1 := Lib.hid (C0.out.old hb1)
        clear hb1 A0 C0
        have a_0 : w1.cell? ⟨w.heap.size, 0, none⟩ = some (.int .i64 a) := A1.out.cell 0
        have a_1 : w1.cell? ⟨w.heap.size, 1, none⟩ = some (.int .i64 b) := A1.out.cell 1
        have c_0 : w1.cell? ⟨w.heap.size + 1, 0, none⟩ = some (.int .i64 c) := C1.out.cell 0
        have c_1 : w1.cell? ⟨w.heap.size + 1, 1, none⟩ = some (.int .i64 d) := C1.out.cell 1
        go_wp2_with fail
        clear a_0 a_1 c_0 c_1
        refine (G2.out _).mono ?_
        rintro e w2 ⟨rfl, hb2⟩
        have A2 := Lib.hid (A1.out.old hb2)
        have C2 := Lib.hid (C1.out.old hb2)
        clear hb2 A1 C1
        have a_0 : w2.cell? ⟨w.heap.size, 0, none⟩ = some (.int .i64 a) := A2.out.cell 0
        have a_1 : w2.cell? ⟨w.heap.size, 1, none⟩ = some (.int .i64 b) := A2.out.cell 1
        have c_0 : w2.cell? ⟨w.heap.size + 1, 0, none⟩ = some (.int .i64 c) := C2.out.cell 0
        have c_1 : w2.cell? ⟨w.heap.size + 1, 1, none⟩ = some (.int .i64 d) := C2.out.cell 1
        go_upto_region 3 with fail
        clear a_0 a_1 c_0 c_1
        have CS2 := Lib.hid (show ∀ WZ : World, Below w2.heap.size w2 WZ → WZ.cell? ⟨w.heap.size, 0, none⟩ = some (.int .i64 a) ∧ WZ.cell? ⟨w.heap.size, 1, none⟩ = some (.int .i64 b) ∧ WZ.cell? ⟨w.heap.size + 1, 0, none⟩ = some (.int .i64 c) ∧ WZ.cell? ⟨w.heap.size + 1, 1, none⟩ = some (.int .i64 d) from fun WZ hz => ⟨posx.at_cell (A2.out.old hz) 0 _ rfl, posx.at_cell (A2.out.old hz) 1 _ rfl, posx.at_cell (C2.out.old hz) 0 _ rfl, posx.at_cell (C2.out.old hz) 1 _ rfl⟩)
        go_cut [15] from 14 to 19 (fun u wz => u = .bool true ∧ Below w2.heap.size w2 wz)
        case first =>
          go_region_held3 (fun w' => w'.cell? ⟨w.heap.size, 0, none⟩ = some (.int .i64 a) ∧ w'.cell? ⟨w.heap.size, 1, none⟩ = some (.int .i64 b) ∧ w'.cell? ⟨w.heap.size + 1, 0, none⟩ = some (.int .i64 c) ∧ w'.cell? ⟨w.heap.size + 1, 1, none⟩ = some (.int .i64 d)) (first
            | exact CS2.out _ (Below.refl w2.heap.size w2).drew
            | exact CS2.out _ (by assumption)
            | go_keep) (first
            | (go_at_call 78; (with_reducible refine (Q1.out _).mono ?_); rintro e w' ⟨rfl, hb⟩
               have hbl := posx.bl_next (V := w2) (by first | exact (Below.refl w2.heap.size w2).drew | assumption) hb
               clear hb)
            | (go_at_call 78; (with_reducible refine (Q2.out _).mono ?_); rintro e w' ⟨rfl, hb⟩
               have hbl := posx.bl_next (V := w2) (by first | exact (Below.refl w2.heap.size w2).drew | assumption) hb
               clear hb))
          all_goals (go_wp2_with fail; go_meet; exact ⟨rfl, by assumption⟩)
        case rest =>
          obtain ⟨rfl, hw⟩ := hcut
          have A3 := Lib.hid (A2.out.old hw)
          have C3 := Lib.hid (C2.out.old hw)
          clear hw CS2 A2 C2
          generalize wc = w3 at *
          have a_0 : w3.cell? ⟨w.heap.size, 0, none⟩ = some (.int .i64 a) := A3.out.cell 0
          have a_1 : w3.cell? ⟨w.heap.size, 1, none⟩ = some (.int .i64 b) := A3.out.cell 1
          have c_0 : w3.cell? ⟨w.heap.size + 1, 0, none⟩ = some (.int .i64 c) := C3.out.cell 0
          have c_1 : w3.cell? ⟨w.heap.size + 1, 1, none⟩ = some (.int .i64 d) := C3.out.cell 1
          go_wp2_with fail
          go_ret2
          exact ⟨congrArg Ending.returned HR.out, A3.out.1⟩
      · have k1 : decide (t < s) = false := decide_eq_false h1
        rw [if_neg h1] at HR
        by_cases h2 : s < t
        · have k2 : decide (s < t) = true := decide_eq_true h2
          rw [if_pos h2] at HR
          have HR := Lib.hid HR
          clear h1 h2
          go_enter Try.func33, Try.ntmps33
          go_wp2_with fail
          generalize (w.alloc (.cells #[.int .i64 a, .int .i64 b] 44)).alloc (.cells #[.int .i64 c, .int .i64 d] 44) = W at *
          refine (G1.out _).mono ?_
          rintro e w1 ⟨rfl, hb1⟩
          have A1 := Lib.hid (A0.out.old hb1)
          have C1 := Lib.hid (C0.out.old hb1)
          clear hb1 A0 C0
          have a_0 : w1.cell? ⟨w.heap.size, 0, none⟩ = some (.int .i64 a) := A1.out.cell 0
          have a_1 : w1.cell? ⟨w.heap.size, 1, none⟩ = some (.int .i64 b) := A1.out.cell 1
          have c_0 : w1.cell? ⟨w.heap.size + 1, 0, none⟩ = some (.int .i64 c) := C1.out.cell 0
          have c_1 : w1.cell? ⟨w.heap.size + 1, 1, none⟩ = some (.int .i64 d) := C1.out.cell 1
          go_wp2_with fail
          clear a_0 a_1 c_0 c_1
          refine (G2.out _).mono ?_
          rintro e w2 ⟨rfl, hb2⟩
          have A2 := Lib.hid (A1.out.old hb2)
          have C2 := Lib.hid (C1.out.old hb2)
          clear hb2 A1 C1
          have a_0 : w2.cell? ⟨w.heap.size, 0, none⟩ = some (.int .i64 a) := A2.out.cell 0
          have a_1 : w2.cell? ⟨w.heap.size, 1, none⟩ = some (.int .i64 b) := A2.out.cell 1
          have c_0 : w2.cell? ⟨w.heap.size + 1, 0, none⟩ = some (.int .i64 c) := C2.out.cell 0
          have c_1 : w2.cell? ⟨w.heap.size + 1, 1, none⟩ = some (.int .i64 d) := C2.out.cell 1
          go_upto_region 3 with fail
          clear a_0 a_1 c_0 c_1
          have CS2 := Lib.hid (show ∀ WZ : World, Below w2.heap.size w2 WZ → WZ.cell? ⟨w.heap.size, 0, none⟩ = some (.int .i64 a) ∧ WZ.cell? ⟨w.heap.size, 1, none⟩ = some (.int .i64 b) ∧ WZ.cell? ⟨w.heap.size + 1, 0, none⟩ = some (.int .i64 c) ∧ WZ.cell? ⟨w.heap.size + 1, 1, none⟩ = some (.int .i64 d) from fun WZ hz => ⟨posx.at_cell (A2.out.old hz) 0 _ rfl, posx.at_cell (A2.out.old hz) 1 _ rfl, posx.at_cell (C2.out.old hz) 0 _ rfl, posx.at_cell (C2.out.old hz) 1 _ rfl⟩)
          go_cut [15] from 14 to 19 (fun u wz => u = .bool false ∧ Below w2.heap.size w2 wz)
          case first =>
            go_region_held3 (fun w' => w'.cell? ⟨w.heap.size, 0, none⟩ = some (.int .i64 a) ∧ w'.cell? ⟨w.heap.size, 1, none⟩ = some (.int .i64 b) ∧ w'.cell? ⟨w.heap.size + 1, 0, none⟩ = some (.int .i64 c) ∧ w'.cell? ⟨w.heap.size + 1, 1, none⟩ = some (.int .i64 d)) (first
              | exact CS2.out _ (Below.refl w2.heap.size w2).drew
              | exact CS2.out _ (by assumption)
              | go_keep) (first
              | (go_at_call 78; (with_reducible refine (Q1.out _).mono ?_); rintro e w' ⟨rfl, hb⟩
                 have hbl := posx.bl_next (V := w2) (by first | exact (Below.refl w2.heap.size w2).drew | assumption) hb
                 clear hb)
              | (go_at_call 78; (with_reducible refine (Q2.out _).mono ?_); rintro e w' ⟨rfl, hb⟩
                 have hbl := posx.bl_next (V := w2) (by first | exact (Below.refl w2.heap.size w2).drew | assumption) hb
                 clear hb))
            all_goals (go_wp2_with fail; go_meet; exact ⟨rfl, by assumption⟩)
          case rest =>
            obtain ⟨rfl, hw⟩ := hcut
            have A3 := Lib.hid (A2.out.old hw)
            have C3 := Lib.hid (C2.out.old hw)
            clear hw CS2 A2 C2
            generalize wc = w3 at *
            have a_0 : w3.cell? ⟨w.heap.size, 0, none⟩ = some (.int .i64 a) := A3.out.cell 0
            have a_1 : w3.cell? ⟨w.heap.size, 1, none⟩ = some (.int .i64 b) := A3.out.cell 1
            have c_0 : w3.cell? ⟨w.heap.size + 1, 0, none⟩ = some (.int .i64 c) := C3.out.cell 0
            have c_1 : w3.cell? ⟨w.heap.size + 1, 1, none⟩ = some (.int .i64 d) := C3.out.cell 1
            go_upto_region 5 with fail
            clear a_0 a_1 c_0 c_1
            have CS3 := Lib.hid (show ∀ WZ : World, Below w3.heap.size w3 WZ → WZ.cell? ⟨w.heap.size, 0, none⟩ = some (.int .i64 a) ∧ WZ.cell? ⟨w.heap.size, 1, none⟩ = some (.int .i64 b) ∧ WZ.cell? ⟨w.heap.size + 1, 0, none⟩ = some (.int .i64 c) ∧ WZ.cell? ⟨w.heap.size + 1, 1, none⟩ = some (.int .i64 d) from fun WZ hz => ⟨posx.at_cell (A3.out.old hz) 0 _ rfl, posx.at_cell (A3.out.old hz) 1 _ rfl, posx.at_cell (C3.out.old hz) 0 _ rfl, posx.at_cell (C3.out.old hz) 1 _ rfl⟩)
            go_cut [21] from 22 to 27 (fun u wz => u = .bool true ∧ Below w3.heap.size w3 wz)
            case first =>
              go_region_held3 (fun w' => w'.cell? ⟨w.heap.size, 0, none⟩ = some (.int .i64 a) ∧ w'.cell? ⟨w.heap.size, 1, none⟩ = some (.int .i64 b) ∧ w'.cell? ⟨w.heap.size + 1, 0, none⟩ = some (.int .i64 c) ∧ w'.cell? ⟨w.heap.size + 1, 1, none⟩ = some (.int .i64 d)) (first
                | exact CS3.out _ (Below.refl w3.heap.size w3).drew
                | exact CS3.out _ (by assumption)
                | go_keep) (first
                | (go_at_call 78; (with_reducible refine (Q1.out _).mono ?_); rintro e w' ⟨rfl, hb⟩
                   have hbl := posx.bl_next (V := w3) (by first | exact (Below.refl w3.heap.size w3).drew | assumption) hb
                   clear hb)
                | (go_at_call 78; (with_reducible refine (Q2.out _).mono ?_); rintro e w' ⟨rfl, hb⟩
                   have hbl := posx.bl_next (V := w3) (by first | exact (Below.refl w3.heap.size w3).drew | assumption) hb
                   clear hb))
              all_goals (go_wp2_with fail; go_meet; exact ⟨rfl, by assumption⟩)
            case rest =>
              obtain ⟨rfl, hw⟩ := hcut
              have A4 := Lib.hid (A3.out.old hw)
              have C4 := Lib.hid (C3.out.old hw)
              clear hw CS3 A3 C3
              generalize wc = w4 at *
              have a_0 : w4.cell? ⟨w.heap.size, 0, none⟩ = some (.int .i64 a) := A4.out.cell 0
              have a_1 : w4.cell? ⟨w.heap.size, 1, none⟩ = some (.int .i64 b) := A4.out.cell 1
              have c_0 : w4.cell? ⟨w.heap.size + 1, 0, none⟩ = some (.int .i64 c) := C4.out.cell 0
              have c_1 : w4.cell? ⟨w.heap.size + 1, 1, none⟩ = some (.int .i64 d) := C4.out.cell 1
              go_wp2_with fail
              go_ret2
              exact ⟨congrArg Ending.returned HR.out, A4.out.1⟩
        · have k2 : decide (s < t) = false := decide_eq_false h2
          rw [if_neg h2] at HR
          have HR := Lib.hid HR
          clear h1 h2
          go_enter Try.func33, Try.ntmps33
          go_wp2_with fail
          generalize (w.alloc (.cells #[.int .i64 a, .int .i64 b] 44)).alloc (.cells #[.int .i64 c, .int .i64 d] 44) = W at *
          refine (G1.out _).mono ?_
          rintro e w1 ⟨rfl, hb1⟩
          have A1 := Lib.hid (A0.out.old hb1)
          have C1 := Lib.hid (C0.out.old hb1)
          clear hb1 A0 C0
          have a_0 : w1.cell? ⟨w.heap.size, 0, none⟩ = some (.int .i64 a) := A1.out.cell 0
          have a_1 : w1.cell? ⟨w.heap.size, 1, none⟩ = some (.int .i64 b) := A1.out.cell 1
          have c_0 : w1.cell? ⟨w.heap.size + 1, 0, none⟩ = some (.int .i64 c) := C1.out.cell 0
          have c_1 : w1.cell? ⟨w.heap.size + 1, 1, none⟩ = some (.int .i64 d) := C1.out.cell 1
          go_wp2_with fail
          clear a_0 a_1 c_0 c_1
          refine (G2.out _).mono ?_
          rintro e w2 ⟨rfl, hb2⟩
          have A2 := Lib.hid (A1.out.old hb2)
          have C2 := Lib.hid (C1.out.old hb2)
          clear hb2 A1 C1
          have a_0 : w2.cell? ⟨w.heap.size, 0, none⟩ = some (.int .i64 a) := A2.out.cell 0
          have a_1 : w2.cell? ⟨w.heap.size, 1, none⟩ = some (.int .i64 b) := A2.out.cell 1
          have c_0 : w2.cell? ⟨w.heap.size + 1, 0, none⟩ = some (.int .i64 c) := C2.out.cell 0
          have c_1 : w2.cell? ⟨w.heap.size + 1, 1, none⟩ = some (.int .i64 d) := C2.out.cell 1
          go_upto_region 3 with fail
          clear a_0 a_1 c_0 c_1
          have CS2 := Lib.hid (show ∀ WZ : World, Below w2.heap.size w2 WZ → WZ.cell? ⟨w.heap.size, 0, none⟩ = some (.int .i64 a) ∧ WZ.cell? ⟨w.heap.size, 1, none⟩ = some (.int .i64 b) ∧ WZ.cell? ⟨w.heap.size + 1, 0, none⟩ = some (.int .i64 c) ∧ WZ.cell? ⟨w.heap.size + 1, 1, none⟩ = some (.int .i64 d) from fun WZ hz => ⟨posx.at_cell (A2.out.old hz) 0 _ rfl, posx.at_cell (A2.out.old hz) 1 _ rfl, posx.at_cell (C2.out.old hz) 0 _ rfl, posx.at_cell (C2.out.old hz) 1 _ rfl⟩)
          go_cut [15] from 14 to 19 (fun u wz => u = .bool false ∧ Below w2.heap.size w2 wz)
          case first =>
            go_region_held3 (fun w' => w'.cell? ⟨w.heap.size, 0, none⟩ = some (.int .i64 a) ∧ w'.cell? ⟨w.heap.size, 1, none⟩ = some (.int .i64 b) ∧ w'.cell? ⟨w.heap.size + 1, 0, none⟩ = some (.int .i64 c) ∧ w'.cell? ⟨w.heap.size + 1, 1, none⟩ = some (.int .i64 d)) (first
              | exact CS2.out _ (Below.refl w2.heap.size w2).drew
              | exact CS2.out _ (by assumption)
              | go_keep) (first
              | (go_at_call 78; (with_reducible refine (Q1.out _).mono ?_); rintro e w' ⟨rfl, hb⟩
                 have hbl := posx.bl_next (V := w2) (by first | exact (Below.refl w2.heap.size w2).drew | assumption) hb
                 clear hb)
              | (go_at_call 78; (with_reducible refine (Q2.out _).mono ?_); rintro e w' ⟨rfl, hb⟩
                 have hbl := posx.bl_next (V := w2) (by first | exact (Below.refl w2.heap.size w2).drew | assumption) hb
                 clear hb))
            all_goals (go_wp2_with fail; go_meet; exact ⟨rfl, by assumption⟩)
          case rest =>
            obtain ⟨rfl, hw⟩ := hcut
            have A3 := Lib.hid (A2.out.old hw)
            have C3 := Lib.hid (C2.out.old hw)
            clear hw CS2 A2 C2
            generalize wc = w3 at *
            have a_0 : w3.cell? ⟨w.heap.size, 0, none⟩ = some (.int .i64 a) := A3.out.cell 0
            have a_1 : w3.cell? ⟨w.heap.size, 1, none⟩ = some (.int .i64 b) := A3.out.cell 1
            have c_0 : w3.cell? ⟨w.heap.size + 1, 0, none⟩ = some (.int .i64 c) := C3.out.cell 0
            have c_1 : w3.cell? ⟨w.heap.size + 1, 1, none⟩ = some (.int .i64 d) := C3.out.cell 1
            go_upto_region 5 with fail
            clear a_0 a_1 c_0 c_1
            have CS3 := Lib.hid (show ∀ WZ : World, Below w3.heap.size w3 WZ → WZ.cell? ⟨w.heap.size, 0, none⟩ = some (.int .i64 a) ∧ WZ.cell? ⟨w.heap.size, 1, none⟩ = some (.int .i64 b) ∧ WZ.cell? ⟨w.heap.size + 1, 0, none⟩ = some (.int .i64 c) ∧ WZ.cell? ⟨w.heap.size + 1, 1, none⟩ = some (.int .i64 d) from fun WZ hz => ⟨posx.at_cell (A3.out.old hz) 0 _ rfl, posx.at_cell (A3.out.old hz) 1 _ rfl, posx.at_cell (C3.out.old hz) 0 _ rfl, posx.at_cell (C3.out.old hz) 1 _ rfl⟩)
            go_cut [21] from 22 to 27 (fun u wz => u = .bool false ∧ Below w3.heap.size w3 wz)
            case first =>
              go_region_held3 (fun w' => w'.cell? ⟨w.heap.size, 0, none⟩ = some (.int .i64 a) ∧ w'.cell? ⟨w.heap.size, 1, none⟩ = some (.int .i64 b) ∧ w'.cell? ⟨w.heap.size + 1, 0, none⟩ = some (.int .i64 c) ∧ w'.cell? ⟨w.heap.size + 1, 1, none⟩ = some (.int .i64 d)) (first
                | exact CS3.out _ (Below.refl w3.heap.size w3).drew
                | exact CS3.out _ (by assumption)
                | go_keep) (first
                | (go_at_call 78; (with_reducible refine (Q1.out _).mono ?_); rintro e w' ⟨rfl, hb⟩
                   have hbl := posx.bl_next (V := w3) (by first | exact (Below.refl w3.heap.size w3).drew | assumption) hb
                   clear hb)
                | (go_at_call 78; (with_reducible refine (Q2.out _).mono ?_); rintro e w' ⟨rfl, hb⟩
                   have hbl := posx.bl_next (V := w3) (by first | exact (Below.refl w3.heap.size w3).drew | assumption) hb
                   clear hb))
              all_goals (go_wp2_with fail; go_meet; exact ⟨rfl, by assumption⟩)
            case rest =>
              obtain ⟨rfl, hw⟩ := hcut
              have A4 := Lib.hid (A3.out.old hw)
              have C4 := Lib.hid (C3.out.old hw)
              clear hw CS3 A3 C3
              generalize wc = w4 at *
              have a_0 : w4.cell? ⟨w.heap.size, 0, none⟩ = some (.int .i64 a) := A4.out.cell 0
              have a_1 : w4.cell? ⟨w.heap.size, 1, none⟩ = some (.int .i64 b) := A4.out.cell 1
              have c_0 : w4.cell? ⟨w.heap.size + 1, 0, none⟩ = some (.int .i64 c) := C4.out.cell 0
              have c_1 : w4.cell? ⟨w.heap.size + 1, 1, none⟩ = some (.int .i64 d) := C4.out.cell 1
              go_wp2_with fail
              go_ret2
              exact ⟨congrArg Ending.returned HR.out, A4.out.1⟩


set_option maxRecDepth 100000 in
set_option maxHeartbeats 8000000 in
theorem turnOf (a b c d : Int) (w : World) :
    Calls Try.prog 30 #[.agg #[.int .i64 a, .int .i64 b], .agg #[.int .i64 c, .int .i64 d]] w
      fun e w' => e = .returned (.tuple #[.int .i64 (tuV a b c d), .bool (tuB a b c d)]) ∧ Below w.heap.size w w' := by
  have g1 := fun w => good8 a b w
  have g2 := fun w => good8 c d w
  have A0 := Lib.hid ((newS 44 #[.int .i64 a, .int .i64 b] w).alloc (.cells #[.int .i64 c, .int .i64 d] 44))
  have C0 := Lib.hid ((newS 44 #[.int .i64 a, .int .i64 b] w).next 44 #[.int .i64 c, .int .i64 d])
  rw [World.size_alloc] at C0
  have hB : tuB a b c d = (mB a b && mB c d) := rfl
  have M1 := mB_sq a b
  have M2 := mB_sq c d
  cases h1 : vB a b
  · have hb : tuB a b c d = false := by rw [hB, M1, h1]; rfl
    have HR := Lib.hid (tu_no hb)
    rw [hb] at HR ⊢
    rw [h1] at g1
    have G1 := Lib.hid g1
    clear g1 g2 h1 hb hB M1 M2
    go_enter Try.func30, Try.ntmps30
    go_wp2_with fail
    generalize (w.alloc (.cells #[.int .i64 a, .int .i64 b] 44)).alloc (.cells #[.int .i64 c, .int .i64 d] 44) = W at *
    refine (G1.out _).mono ?_
    rintro e w1 ⟨rfl, hb1⟩
    have A1 := Lib.hid (A0.out.old hb1)
    have C1 := Lib.hid (C0.out.old hb1)
    clear hb1 A0 C0
    have a_0 : w1.cell? ⟨w.heap.size, 0, none⟩ = some (.int .i64 a) := A1.out.cell 0
    have a_1 : w1.cell? ⟨w.heap.size, 1, none⟩ = some (.int .i64 b) := A1.out.cell 1
    have c_0 : w1.cell? ⟨w.heap.size + 1, 0, none⟩ = some (.int .i64 c) := C1.out.cell 0
    have c_1 : w1.cell? ⟨w.heap.size + 1, 1, none⟩ = some (.int .i64 d) := C1.out.cell 1
    go_wp2_with fail
    go_ret2
    exact ⟨congrArg Ending.returned HR.out, A1.out.1⟩
  · cases h2 : vB c d
    · have hb : tuB a b c d = false := by rw [hB, M2, h2]; simp
      have HR := Lib.hid (tu_no hb)
      rw [hb] at HR ⊢
      rw [h1] at g1
      rw [h2] at g2
      have G1 := Lib.hid g1
      have G2 := Lib.hid g2
      clear g1 g2 h1 h2 hb hB M1 M2
      go_enter Try.func30, Try.ntmps30
      go_wp2_with fail
      generalize (w.alloc (.cells #[.int .i64 a, .int .i64 b] 44)).alloc (.cells #[.int .i64 c, .int .i64 d] 44) = W at *
      refine (G1.out _).mono ?_
      rintro e w1 ⟨rfl, hb1⟩
      have A1 := Lib.hid (A0.out.old hb1)
      have C1 := Lib.hid (C0.out.old hb1)
      clear hb1 A0 C0
      have a_0 : w1.cell? ⟨w.heap.size, 0, none⟩ = some (.int .i64 a) := A1.out.cell 0
      have a_1 : w1.cell? ⟨w.heap.size, 1, none⟩ = some (.int .i64 b) := A1.out.cell 1
      have c_0 : w1.cell? ⟨w.heap.size + 1, 0, none⟩ = some (.int .i64 c) := C1.out.cell 0
      have c_1 : w1.cell? ⟨w.heap.size + 1, 1, none⟩ = some (.int .i64 d) := C1.out.cell 1
      go_wp2_with fail
      clear a_0 a_1 c_0 c_1
      refine (G2.out _).mono ?_
      rintro e w2 ⟨rfl, hb2⟩
      have A2 := Lib.hid (A1.out.old hb2)
      have C2 := Lib.hid (C1.out.old hb2)
      clear hb2 A1 C1
      have a_0 : w2.cell? ⟨w.heap.size, 0, none⟩ = some (.int .i64 a) := A2.out.cell 0
      have a_1 : w2.cell? ⟨w.heap.size, 1, none⟩ = some (.int .i64 b) := A2.out.cell 1
      have c_0 : w2.cell? ⟨w.heap.size + 1, 0, none⟩ = some (.int .i64 c) := C2.out.cell 0
      have c_1 : w2.cell? ⟨w.heap.size + 1, 1, none⟩ = some (.int .i64 d) := C2.out.cell 1
      go_wp2_with fail
      go_ret2
      exact ⟨congrArg Ending.returned HR.out, A2.out.1⟩
    · have Q1 := Lib.hid (fun w => square8 a b h1 w)
      have Q2 := Lib.hid (fun w => square8 c d h2 w)
      rw [h1] at M1 g1
      rw [h2] at M2 g2
      have G1 := Lib.hid g1
      have G2 := Lib.hid g2
      clear g1 g2
      by_cases s1 : sq a b = 0
      · have hb : tuB a b c d = false := by rw [hB, M1, s1]; rfl
        have HR := Lib.hid (tu_no hb)
        rw [hb] at HR ⊢
        have e1 : (sq a b == 0) = true := by rw [s1]; rfl
        clear h1 h2 hb hB M1 M2 s1
        generalize sq a b = s at *
        go_enter Try.func30, Try.ntmps30
        go_wp2_with fail
        generalize (w.alloc (.cells #[.int .i64 a, .int .i64 b] 44)).alloc (.cells #[.int .i64 c, .int .i64 d] 44) = W at *
        refine (G1.out _).mono ?_
        rintro e w1 ⟨rfl, hb1⟩
        have A1 := Lib.hid (A0.out.old hb1)
        have C1 := Lib.hid (C0.out.old hb1)
        clear hb1 A0 C0
        have a_0 : w1.cell? ⟨w.heap.size, 0, none⟩ = some (.int .i64 a) := A1.out.cell 0
        have a_1 : w1.cell? ⟨w.heap.size, 1, none⟩ = some (.int .i64 b) := A1.out.cell 1
        have c_0 : w1.cell? ⟨w.heap.size + 1, 0, none⟩ = some (.int .i64 c) := C1.out.cell 0
        have c_1 : w1.cell? ⟨w.heap.size + 1, 1, none⟩ = some (.int .i64 d) := C1.out.cell 1
        go_wp2_with fail
        clear a_0 a_1 c_0 c_1
        refine (G2.out _).mono ?_
        rintro e w2 ⟨rfl, hb2⟩
        have A2 := Lib.hid (A1.out.old hb2)
        have C2 := Lib.hid (C1.out.old hb2)
        clear hb2 A1 C1
        have a_0 : w2.cell? ⟨w.heap.size, 0, none⟩ = some (.int .i64 a) := A2.out.cell 0
        have a_1 : w2.cell? ⟨w.heap.size, 1, none⟩ = some (.int .i64 b) := A2.out.cell 1
        have c_0 : w2.cell? ⟨w.heap.size + 1, 0, none⟩ = some (.int .i64 c) := C2.out.cell 0
        have c_1 : w2.cell? ⟨w.heap.size + 1, 1, none⟩ = some (.int .i64 d) := C2.out.cell 1
        go_wp2_with fail
        clear a_0 a_1 c_0 c_1
        refine (Q1.out _).mono ?_
        rintro e w3 ⟨rfl, hb3⟩
        have A3 := Lib.hid (A2.out.old hb3)
        have C3 := Lib.hid (C2.out.old hb3)
        clear hb3 A2 C2
        have a_0 : w3.cell? ⟨w.heap.size, 0, none⟩ = some (.int .i64 a) := A3.out.cell 0
        have a_1 : w3.cell? ⟨w.heap.size, 1, none⟩ = some (.int .i64 b) := A3.out.cell 1
        have c_0 : w3.cell? ⟨w.heap.size + 1, 0, none⟩ = some (.int .i64 c) := C3.out.cell 0
        have c_1 : w3.cell? ⟨w.heap.size + 1, 1, none⟩ = some (.int .i64 d) := C3.out.cell 1
        go_wp2_with fail
        go_ret2
        exact ⟨congrArg Ending.returned HR.out, A3.out.1⟩
      · have e1 : (sq a b == 0) = false := by simpa using s1
        rw [decide_eq_false s1] at M1
        by_cases s2 : sq c d = 0
        · have hb : tuB a b c d = false := by rw [hB, M2, s2]; simp
          have HR := Lib.hid (tu_no hb)
          rw [hb] at HR ⊢
          have e2 : (sq c d == 0) = true := by rw [s2]; rfl
          clear h1 h2 hb hB M1 M2 s1 s2
          generalize sq a b = s at *
          generalize sq c d = t at *
          go_enter Try.func30, Try.ntmps30
          go_wp2_with fail
          generalize (w.alloc (.cells #[.int .i64 a, .int .i64 b] 44)).alloc (.cells #[.int .i64 c, .int .i64 d] 44) = W at *
          refine (G1.out _).mono ?_
          rintro e w1 ⟨rfl, hb1⟩
          have A1 := Lib.hid (A0.out.old hb1)
          have C1 := Lib.hid (C0.out.old hb1)
          clear hb1 A0 C0
          have a_0 : w1.cell? ⟨w.heap.size, 0, none⟩ = some (.int .i64 a) := A1.out.cell 0
          have a_1 : w1.cell? ⟨w.heap.size, 1, none⟩ = some (.int .i64 b) := A1.out.cell 1
          have c_0 : w1.cell? ⟨w.heap.size + 1, 0, none⟩ = some (.int .i64 c) := C1.out.cell 0
          have c_1 : w1.cell? ⟨w.heap.size + 1, 1, none⟩ = some (.int .i64 d) := C1.out.cell 1
          go_wp2_with fail
          clear a_0 a_1 c_0 c_1
          refine (G2.out _).mono ?_
          rintro e w2 ⟨rfl, hb2⟩
          have A2 := Lib.hid (A1.out.old hb2)
          have C2 := Lib.hid (C1.out.old hb2)
          clear hb2 A1 C1
          have a_0 : w2.cell? ⟨w.heap.size, 0, none⟩ = some (.int .i64 a) := A2.out.cell 0
          have a_1 : w2.cell? ⟨w.heap.size, 1, none⟩ = some (.int .i64 b) := A2.out.cell 1
          have c_0 : w2.cell? ⟨w.heap.size + 1, 0, none⟩ = some (.int .i64 c) := C2.out.cell 0
          have c_1 : w2.cell? ⟨w.heap.size + 1, 1, none⟩ = some (.int .i64 d) := C2.out.cell 1
          go_wp2_with fail
          clear a_0 a_1 c_0 c_1
          refine (Q1.out _).mono ?_
          rintro e w3 ⟨rfl, hb3⟩
          have A3 := Lib.hid (A2.out.old hb3)
          have C3 := Lib.hid (C2.out.old hb3)
          clear hb3 A2 C2
          have a_0 : w3.cell? ⟨w.heap.size, 0, none⟩ = some (.int .i64 a) := A3.out.cell 0
          have a_1 : w3.cell? ⟨w.heap.size, 1, none⟩ = some (.int .i64 b) := A3.out.cell 1
          have c_0 : w3.cell? ⟨w.heap.size + 1, 0, none⟩ = some (.int .i64 c) := C3.out.cell 0
          have c_1 : w3.cell? ⟨w.heap.size + 1, 1, none⟩ = some (.int .i64 d) := C3.out.cell 1
          go_wp2_with fail
          clear a_0 a_1 c_0 c_1
          refine (Q2.out _).mono ?_
          rintro e w4 ⟨rfl, hb4⟩
          have A4 := Lib.hid (A3.out.old hb4)
          have C4 := Lib.hid (C3.out.old hb4)
          clear hb4 A3 C3
          have a_0 : w4.cell? ⟨w.heap.size, 0, none⟩ = some (.int .i64 a) := A4.out.cell 0
          have a_1 : w4.cell? ⟨w.heap.size, 1, none⟩ = some (.int .i64 b) := A4.out.cell 1
          have c_0 : w4.cell? ⟨w.heap.size + 1, 0, none⟩ = some (.int .i64 c) := C4.out.cell 0
          have c_1 : w4.cell? ⟨w.heap.size + 1, 1, none⟩ = some (.int .i64 d) := C4.out.cell 1
          go_wp2_with fail
          go_ret2
          exact ⟨congrArg Ending.returned HR.out, A4.out.1⟩
        · have e2 : (sq c d == 0) = false := by simpa using s2
          rw [decide_eq_false s2] at M2
          have hb : tuB a b c d = true := by rw [hB, M1, M2]; rfl
          have HY := fun v h => tu_yes (v := v) hb h
          obtain ⟨ha, hbb⟩ := vB_yes h1
          obtain ⟨hc, hd⟩ := vB_yes h2
          obtain ⟨p0, p1⟩ := prod_le ha hc
          obtain ⟨q0, q1⟩ := prod_le hbb hd
          obtain ⟨r0, r1⟩ := prod_le hbb hc
          obtain ⟨t0, t1⟩ := prod_le ha hd
          rw [hb] at HY ⊢
          clear h1 h2 hb hB M1 M2 s1 s2 ha hbb hc hd
          generalize sq a b = s at *
          generalize sq c d = t at *
          unfold cr dot at HY
          generalize hp : a * c = p at *
          generalize hq : b * d = q at *
          generalize hr : b * c = r at *
          generalize ht : a * d = o at *
          have e_1 : IntKind.i64.wrap p = p := IntWalk.i64_in _ (by omega)
          have e_2 : IntKind.i64.wrap q = q := IntWalk.i64_in _ (by omega)
          have e_3 : IntKind.i64.wrap r = r := IntWalk.i64_in _ (by omega)
          have e_4 : IntKind.i64.wrap o = o := IntWalk.i64_in _ (by omega)
          have e_5 : IntKind.i64.wrap (p + q) = p + q := IntWalk.i64_in _ (by omega)
          have e_6 : IntKind.i64.wrap (o - r) = o - r := IntWalk.i64_in _ (by omega)
          generalize hu : o - r = u at *
          generalize hv : p + q = v at *
          have HR := HY _ rfl
          clear HY
          by_cases h1 : u < 0
          · rw [if_pos h1] at HR
            have HR := Lib.hid HR
            go_enter Try.func30, Try.ntmps30
            go_wp2_with fail
            generalize (w.alloc (.cells #[.int .i64 a, .int .i64 b] 44)).alloc (.cells #[.int .i64 c, .int .i64 d] 44) = W at *
            refine (G1.out _).mono ?_
            rintro e w1 ⟨rfl, hb1⟩
            have A1 := Lib.hid (A0.out.old hb1)
            have C1 := Lib.hid (C0.out.old hb1)
            clear hb1 A0 C0
            have a_0 : w1.cell? ⟨w.heap.size, 0, none⟩ = some (.int .i64 a) := A1.out.cell 0
            have a_1 : w1.cell? ⟨w.heap.size, 1, none⟩ = some (.int .i64 b) := A1.out.cell 1
            have c_0 : w1.cell? ⟨w.heap.size + 1, 0, none⟩ = some (.int .i64 c) := C1.out.cell 0
            have c_1 : w1.cell? ⟨w.heap.size + 1, 1, none⟩ = some (.int .i64 d) := C1.out.cell 1
            go_wp2_with fail
            clear a_0 a_1 c_0 c_1
            refine (G2.out _).mono ?_
            rintro e w2 ⟨rfl, hb2⟩
            have A2 := Lib.hid (A1.out.old hb2)
            have C2 := Lib.hid (C1.out.old hb2)
            clear hb2 A1 C1
            have a_0 : w2.cell? ⟨w.heap.size, 0, none⟩ = some (.int .i64 a) := A2.out.cell 0
            have a_1 : w2.cell? ⟨w.heap.size, 1, none⟩ = some (.int .i64 b) := A2.out.cell 1
            have c_0 : w2.cell? ⟨w.heap.size + 1, 0, none⟩ = some (.int .i64 c) := C2.out.cell 0
            have c_1 : w2.cell? ⟨w.heap.size + 1, 1, none⟩ = some (.int .i64 d) := C2.out.cell 1
            go_wp2_with fail
            clear a_0 a_1 c_0 c_1
            refine (Q1.out _).mono ?_
            rintro e w3 ⟨rfl, hb3⟩
            have A3 := Lib.hid (A2.out.old hb3)
            have C3 := Lib.hid (C2.out.old hb3)
            clear hb3 A2 C2
            have a_0 : w3.cell? ⟨w.heap.size, 0, none⟩ = some (.int .i64 a) := A3.out.cell 0
            have a_1 : w3.cell? ⟨w.heap.size, 1, none⟩ = some (.int .i64 b) := A3.out.cell 1
            have c_0 : w3.cell? ⟨w.heap.size + 1, 0, none⟩ = some (.int .i64 c) := C3.out.cell 0
            have c_1 : w3.cell? ⟨w.heap.size + 1, 1, none⟩ = some (.int .i64 d) := C3.out.cell 1
            go_wp2_with fail
            clear a_0 a_1 c_0 c_1
            refine (Q2.out _).mono ?_
            rintro e w4 ⟨rfl, hb4⟩
            have A4 := Lib.hid (A3.out.old hb4)
            have C4 := Lib.hid (C3.out.old hb4)
            clear hb4 A3 C3
            have a_0 : w4.cell? ⟨w.heap.size, 0, none⟩ = some (.int .i64 a) := A4.out.cell 0
            have a_1 : w4.cell? ⟨w.heap.size, 1, none⟩ = some (.int .i64 b) := A4.out.cell 1
            have c_0 : w4.cell? ⟨w.heap.size + 1, 0, none⟩ = some (.int .i64 c) := C4.out.cell 0
            have c_1 : w4.cell? ⟨w.heap.size + 1, 1, none⟩ = some (.int .i64 d) := C4.out.cell 1
            go_wp2_with fail
            go_quiet (fail)
            go_wp2_with fail
            go_ret2
            exact ⟨congrArg Ending.returned HR.out, aid.below_drewN A4.out.1 _⟩
          · have k1 : decide (u < 0) = false := decide_eq_false h1
            rw [if_neg h1] at HR
            by_cases h2 : 0 < u
            · rw [if_pos h2] at HR
              have HR := Lib.hid HR
              clear h1
              go_enter Try.func30, Try.ntmps30
              go_wp2_with fail
              generalize (w.alloc (.cells #[.int .i64 a, .int .i64 b] 44)).alloc (.cells #[.int .i64 c, .int .i64 d] 44) = W at *
              refine (G1.out _).mono ?_
              rintro e w1 ⟨rfl, hb1⟩
              have A1 := Lib.hid (A0.out.old hb1)
              have C1 := Lib.hid (C0.out.old hb1)
              clear hb1 A0 C0
              have a_0 : w1.cell? ⟨w.heap.size, 0, none⟩ = some (.int .i64 a) := A1.out.cell 0
              have a_1 : w1.cell? ⟨w.heap.size, 1, none⟩ = some (.int .i64 b) := A1.out.cell 1
              have c_0 : w1.cell? ⟨w.heap.size + 1, 0, none⟩ = some (.int .i64 c) := C1.out.cell 0
              have c_1 : w1.cell? ⟨w.heap.size + 1, 1, none⟩ = some (.int .i64 d) := C1.out.cell 1
              go_wp2_with fail
              clear a_0 a_1 c_0 c_1
              refine (G2.out _).mono ?_
              rintro e w2 ⟨rfl, hb2⟩
              have A2 := Lib.hid (A1.out.old hb2)
              have C2 := Lib.hid (C1.out.old hb2)
              clear hb2 A1 C1
              have a_0 : w2.cell? ⟨w.heap.size, 0, none⟩ = some (.int .i64 a) := A2.out.cell 0
              have a_1 : w2.cell? ⟨w.heap.size, 1, none⟩ = some (.int .i64 b) := A2.out.cell 1
              have c_0 : w2.cell? ⟨w.heap.size + 1, 0, none⟩ = some (.int .i64 c) := C2.out.cell 0
              have c_1 : w2.cell? ⟨w.heap.size + 1, 1, none⟩ = some (.int .i64 d) := C2.out.cell 1
              go_wp2_with fail
              clear a_0 a_1 c_0 c_1
              refine (Q1.out _).mono ?_
              rintro e w3 ⟨rfl, hb3⟩
              have A3 := Lib.hid (A2.out.old hb3)
              have C3 := Lib.hid (C2.out.old hb3)
              clear hb3 A2 C2
              have a_0 : w3.cell? ⟨w.heap.size, 0, none⟩ = some (.int .i64 a) := A3.out.cell 0
              have a_1 : w3.cell? ⟨w.heap.size, 1, none⟩ = some (.int .i64 b) := A3.out.cell 1
              have c_0 : w3.cell? ⟨w.heap.size + 1, 0, none⟩ = some (.int .i64 c) := C3.out.cell 0
              have c_1 : w3.cell? ⟨w.heap.size + 1, 1, none⟩ = some (.int .i64 d) := C3.out.cell 1
              go_wp2_with fail
              clear a_0 a_1 c_0 c_1
              refine (Q2.out _).mono ?_
              rintro e w4 ⟨rfl, hb4⟩
              have A4 := Lib.hid (A3.out.old hb4)
              have C4 := Lib.hid (C3.out.old hb4)
              clear hb4 A3 C3
              have a_0 : w4.cell? ⟨w.heap.size, 0, none⟩ = some (.int .i64 a) := A4.out.cell 0
              have a_1 : w4.cell? ⟨w.heap.size, 1, none⟩ = some (.int .i64 b) := A4.out.cell 1
              have c_0 : w4.cell? ⟨w.heap.size + 1, 0, none⟩ = some (.int .i64 c) := C4.out.cell 0
              have c_1 : w4.cell? ⟨w.heap.size + 1, 1, none⟩ = some (.int .i64 d) := C4.out.cell 1
              go_wp2_with fail
              go_quiet (fail)
              go_wp2_with fail
              go_ret2
              exact ⟨congrArg Ending.returned HR.out, aid.below_drewN A4.out.1 _⟩
            · have k2 : decide (0 < u) = false := decide_eq_false h2
              rw [if_neg h2] at HR
              by_cases h3 : v < 0
              · rw [if_pos h3] at HR
                have HR := Lib.hid HR
                clear h1 h2
                go_enter Try.func30, Try.ntmps30
                go_wp2_with fail
                generalize (w.alloc (.cells #[.int .i64 a, .int .i64 b] 44)).alloc (.cells #[.int .i64 c, .int .i64 d] 44) = W at *
                refine (G1.out _).mono ?_
                rintro e w1 ⟨rfl, hb1⟩
                have A1 := Lib.hid (A0.out.old hb1)
                have C1 := Lib.hid (C0.out.old hb1)
                clear hb1 A0 C0
                have a_0 : w1.cell? ⟨w.heap.size, 0, none⟩ = some (.int .i64 a) := A1.out.cell 0
                have a_1 : w1.cell? ⟨w.heap.size, 1, none⟩ = some (.int .i64 b) := A1.out.cell 1
                have c_0 : w1.cell? ⟨w.heap.size + 1, 0, none⟩ = some (.int .i64 c) := C1.out.cell 0
                have c_1 : w1.cell? ⟨w.heap.size + 1, 1, none⟩ = some (.int .i64 d) := C1.out.cell 1
                go_wp2_with fail
                clear a_0 a_1 c_0 c_1
                refine (G2.out _).mono ?_
                rintro e w2 ⟨rfl, hb2⟩
                have A2 := Lib.hid (A1.out.old hb2)
                have C2 := Lib.hid (C1.out.old hb2)
                clear hb2 A1 C1
                have a_0 : w2.cell? ⟨w.heap.size, 0, none⟩ = some (.int .i64 a) := A2.out.cell 0
                have a_1 : w2.cell? ⟨w.heap.size, 1, none⟩ = some (.int .i64 b) := A2.out.cell 1
                have c_0 : w2.cell? ⟨w.heap.size + 1, 0, none⟩ = some (.int .i64 c) := C2.out.cell 0
                have c_1 : w2.cell? ⟨w.heap.size + 1, 1, none⟩ = some (.int .i64 d) := C2.out.cell 1
                go_wp2_with fail
                clear a_0 a_1 c_0 c_1
                refine (Q1.out _).mono ?_
                rintro e w3 ⟨rfl, hb3⟩
                have A3 := Lib.hid (A2.out.old hb3)
                have C3 := Lib.hid (C2.out.old hb3)
                clear hb3 A2 C2
                have a_0 : w3.cell? ⟨w.heap.size, 0, none⟩ = some (.int .i64 a) := A3.out.cell 0
                have a_1 : w3.cell? ⟨w.heap.size, 1, none⟩ = some (.int .i64 b) := A3.out.cell 1
                have c_0 : w3.cell? ⟨w.heap.size + 1, 0, none⟩ = some (.int .i64 c) := C3.out.cell 0
                have c_1 : w3.cell? ⟨w.heap.size + 1, 1, none⟩ = some (.int .i64 d) := C3.out.cell 1
                go_wp2_with fail
                clear a_0 a_1 c_0 c_1
                refine (Q2.out _).mono ?_
                rintro e w4 ⟨rfl, hb4⟩
                have A4 := Lib.hid (A3.out.old hb4)
                have C4 := Lib.hid (C3.out.old hb4)
                clear hb4 A3 C3
                have a_0 : w4.cell? ⟨w.heap.size, 0, none⟩ = some (.int .i64 a) := A4.out.cell 0
                have a_1 : w4.cell? ⟨w.heap.size, 1, none⟩ = some (.int .i64 b) := A4.out.cell 1
                have c_0 : w4.cell? ⟨w.heap.size + 1, 0, none⟩ = some (.int .i64 c) := C4.out.cell 0
                have c_1 : w4.cell? ⟨w.heap.size + 1, 1, none⟩ = some (.int .i64 d) := C4.out.cell 1
                go_wp2_with fail
                go_quiet (fail)
                go_wp2_with fail
                go_ret2
                exact ⟨congrArg Ending.returned HR.out, aid.below_drewN A4.out.1 _⟩
              · have k3 : decide (v < 0) = false := decide_eq_false h3
                rw [if_neg h3] at HR
                have HR := Lib.hid HR
                clear h1 h2 h3
                go_enter Try.func30, Try.ntmps30
                go_wp2_with fail
                generalize (w.alloc (.cells #[.int .i64 a, .int .i64 b] 44)).alloc (.cells #[.int .i64 c, .int .i64 d] 44) = W at *
                refine (G1.out _).mono ?_
                rintro e w1 ⟨rfl, hb1⟩
                have A1 := Lib.hid (A0.out.old hb1)
                have C1 := Lib.hid (C0.out.old hb1)
                clear hb1 A0 C0
                have a_0 : w1.cell? ⟨w.heap.size, 0, none⟩ = some (.int .i64 a) := A1.out.cell 0
                have a_1 : w1.cell? ⟨w.heap.size, 1, none⟩ = some (.int .i64 b) := A1.out.cell 1
                have c_0 : w1.cell? ⟨w.heap.size + 1, 0, none⟩ = some (.int .i64 c) := C1.out.cell 0
                have c_1 : w1.cell? ⟨w.heap.size + 1, 1, none⟩ = some (.int .i64 d) := C1.out.cell 1
                go_wp2_with fail
                clear a_0 a_1 c_0 c_1
                refine (G2.out _).mono ?_
                rintro e w2 ⟨rfl, hb2⟩
                have A2 := Lib.hid (A1.out.old hb2)
                have C2 := Lib.hid (C1.out.old hb2)
                clear hb2 A1 C1
                have a_0 : w2.cell? ⟨w.heap.size, 0, none⟩ = some (.int .i64 a) := A2.out.cell 0
                have a_1 : w2.cell? ⟨w.heap.size, 1, none⟩ = some (.int .i64 b) := A2.out.cell 1
                have c_0 : w2.cell? ⟨w.heap.size + 1, 0, none⟩ = some (.int .i64 c) := C2.out.cell 0
                have c_1 : w2.cell? ⟨w.heap.size + 1, 1, none⟩ = some (.int .i64 d) := C2.out.cell 1
                go_wp2_with fail
                clear a_0 a_1 c_0 c_1
                refine (Q1.out _).mono ?_
                rintro e w3 ⟨rfl, hb3⟩
                have A3 := Lib.hid (A2.out.old hb3)
                have C3 := Lib.hid (C2.out.old hb3)
                clear hb3 A2 C2
                have a_0 : w3.cell? ⟨w.heap.size, 0, none⟩ = some (.int .i64 a) := A3.out.cell 0
                have a_1 : w3.cell? ⟨w.heap.size, 1, none⟩ = some (.int .i64 b) := A3.out.cell 1
                have c_0 : w3.cell? ⟨w.heap.size + 1, 0, none⟩ = some (.int .i64 c) := C3.out.cell 0
                have c_1 : w3.cell? ⟨w.heap.size + 1, 1, none⟩ = some (.int .i64 d) := C3.out.cell 1
                go_wp2_with fail
                clear a_0 a_1 c_0 c_1
                refine (Q2.out _).mono ?_
                rintro e w4 ⟨rfl, hb4⟩
                have A4 := Lib.hid (A3.out.old hb4)
                have C4 := Lib.hid (C3.out.old hb4)
                clear hb4 A3 C3
                have a_0 : w4.cell? ⟨w.heap.size, 0, none⟩ = some (.int .i64 a) := A4.out.cell 0
                have a_1 : w4.cell? ⟨w.heap.size, 1, none⟩ = some (.int .i64 b) := A4.out.cell 1
                have c_0 : w4.cell? ⟨w.heap.size + 1, 0, none⟩ = some (.int .i64 c) := C4.out.cell 0
                have c_1 : w4.cell? ⟨w.heap.size + 1, 1, none⟩ = some (.int .i64 d) := C4.out.cell 1
                go_wp2_with fail
                go_quiet (fail)
                go_wp2_with fail
                go_ret2
                exact ⟨congrArg Ending.returned HR.out, aid.below_drewN A4.out.1 _⟩

end Go.Proofs.Ytchhjjiidfacbaa.vels
