/- impl's chapter 16, first part: times, numbers at a time, IsValidMotion, PlaceAt, HeightAt, TimeToX, TimeToHeight, CourseLine. -/
import Derived.Test.YtinkkdgjpcnklaaMot
import Derived.Test.YtinkkdgjpcnklaaMotR
import Derived.Test.YtinkkdgjpcnklaaPosJ
import Derived.Test.YtinkkdgjpcnklaaPosI
import Derived.Test.YtinkkdgjpcnklaaVelI
import Derived.Test.YtinkkdgjpcnklaaHgtI
import Derived.BigQuiet
import Derived.Deep.QuietTactic
import Derived.OwnWalk
namespace Go.Proofs.Ytinkkdgjpcnklaa.mota
open Go.RowKit Go.Proofs.Ytinkkdgjpcnklaa.in_ Go.Proofs.Ytinkkdgjpcnklaa.ats Go.Proofs.Ytinkkdgjpcnklaa.pos Go.Proofs.Ytinkkdgjpcnklaa.vel Go.Proofs.Ytinkkdgjpcnklaa.hgt Go.Proofs.Ytinkkdgjpcnklaa.mot

theorem isTimeOf (n d : Int) (w : World) :
    Calls Try.prog 55 #[.int .i64 n, .int .i64 d] w fun e w' => e = .returned (.bool (tmB n d)) ∧ w = w' := by
  by_cases h0 : 1 ≤ d
  · skip
    by_cases h1 : d ≤ 1000
    · skip
      have hw : IntKind.i64.wrap (60 * d) = 60 * d := IntWalk.i64_in _ (by omega)
      by_cases h2 : 0 ≤ n
      · skip
        by_cases h3 : n ≤ 60 * d
        · skip
          rw [tmB_of ⟨h0, h1⟩ ⟨h2, h3⟩]
          go_enter Try.func55, Try.ntmps55
          go_wp2
          go_ret
          exact ⟨rfl, rfl⟩
        · rw [tmB_no (by omega)]
          go_enter Try.func55, Try.ntmps55
          go_wp2
          go_ret
          exact ⟨rfl, rfl⟩
      · rw [tmB_no (by omega)]
        go_enter Try.func55, Try.ntmps55
        go_wp2
        go_ret
        exact ⟨rfl, rfl⟩
    · rw [tmB_no (by omega)]
      go_enter Try.func55, Try.ntmps55
      go_wp2
      go_ret
      exact ⟨rfl, rfl⟩
  · rw [tmB_no (by omega)]
    go_enter Try.func55, Try.ntmps55
    go_wp2
    go_ret
    exact ⟨rfl, rfl⟩

theorem isWholeMinute (n : Int) (w : World) :
    Calls Try.prog 66 #[.int .i64 n] w fun e w' => e = .returned (.bool (isIn n 0 60)) ∧ w = w' := by
  by_cases h0 : 0 ≤ n
  · by_cases h1 : n ≤ 60
    · rw [isIn_of h0 h1]
      go_enter Try.func66, Try.ntmps66
      go_wp2
      go_ret
      exact ⟨rfl, rfl⟩
    · rw [show isIn n 0 60 = false from decide_eq_false (fun h => h1 h.2)]
      go_enter Try.func66, Try.ntmps66
      go_wp2
      go_ret
      exact ⟨rfl, rfl⟩
  · rw [show isIn n 0 60 = false from decide_eq_false (fun h => h0 h.1)]
    go_enter Try.func66, Try.ntmps66
    go_wp2
    go_ret
    exact ⟨rfl, rfl⟩

/-- The number at a time: the closure that changedAt makes; d and n lie in cells of their own. -/
theorem changed1 (a r n d : Int) (gd gn : Nat) (w : World) (hd : w.cell? ⟨gd, 0, none⟩ = some (.int .i64 d)) (hn : w.cell? ⟨gn, 0, none⟩ = some (.int .i64 n))
    (h1 : -1000000000 ≤ a * d ∧ a * d ≤ 1000000000) (h2 : -1000000000 ≤ r * n ∧ r * n ≤ 1000000000) :
    Calls Try.prog 80 #[.int .i64 a, .int .i64 r, .pointer (some ⟨gd, 0, none⟩), .pointer (some ⟨gn, 0, none⟩)] w fun e w' => e = .returned (.int .i64 (at_ a r n d)) ∧ w = w' := by
  unfold at_
  generalize hp : a * d = P at *
  generalize hq : r * n = Q at *
  have e1 : IntKind.i64.wrap P = P := IntWalk.i64_in _ (by omega)
  have e2 : IntKind.i64.wrap Q = Q := IntWalk.i64_in _ (by omega)
  have e3 : IntKind.i64.wrap (P + Q) = P + Q := IntWalk.i64_in _ (by omega)
  go_enter Try.func80, Try.ntmps80
  go_wp2_with fail
  go_ret
  exact ⟨rfl, rfl⟩
theorem changedAt (n d : Int) (w : World) :
    Calls Try.prog 56 #[.int .i64 n, .int .i64 d] w fun e w' => ∃ gd gn : Nat, e = .returned (.func (.func 80) #[] #[.pointer (some ⟨gd, 0, none⟩), .pointer (some ⟨gn, 0, none⟩)]) ∧ AtS 3 #[.int .i64 d] w w' gd ∧ AtS 3 #[.int .i64 n] w w' gn := by
  have C0 := Lib.hid ((newS 3 #[.int .i64 n] w).alloc (.cells #[.int .i64 d] 3))
  have C1 := Lib.hid ((newS 3 #[.int .i64 n] w).next 3 #[.int .i64 d])
  rw [World.size_alloc] at C1
  go_enter Try.func56, Try.ntmps56
  go_wp2_with fail
  go_ret
  exact ⟨w.heap.size + 1, w.heap.size, rfl, C1.out, C0.out⟩

theorem neg_abs {r : Int} (h : r < 0) : ((r.natAbs : Nat) : Int) = -r := by omega
theorem pos_abs {r : Int} (h : ¬ r < 0) : ((r.natAbs : Nat) : Int) = r := by omega
set_option maxHeartbeats 2000000 in
theorem timeOfChange (D r : Int) (w : World) (hD : -200000 ≤ D ∧ D ≤ 200000) (hr : -10000 ≤ r ∧ r ≤ 10000) :
    Calls Try.prog 51 #[.int .i64 D, .int .i64 r] w fun e w' => e = .returned (.tuple #[.int .i64 (whN D r), .int .i64 (whD D r : Int), .bool (whB D r)]) ∧ Below w.heap.size w w' := by
  by_cases h0 : D = 0
  · subst h0
    rw [(wh_zero r).1, (wh_zero r).2.1, (wh_zero r).2.2]
    by_cases hn : r < 0
    · go_enter Try.func51, Try.ntmps51
      go_wp2_with fail
      go_ret3
      exact ⟨rfl, Below.refl _ _⟩
    · go_enter Try.func51, Try.ntmps51
      go_wp2_with fail
      go_ret3
      exact ⟨rfl, Below.refl _ _⟩
  by_cases hw : 0 < whA D r ∧ whA D r ≤ 60 * (r.natAbs : Int)
  · have HV := Lib.hid (wh_yes h0 hw)
    have HR := Lib.hid (fun w => motr.reduceI (whA D r) r.natAbs w (by omega) (by omega) (by omega) (by omega))
    have HG := Lib.hid (show whG D r = Nat.gcd (whA D r).natAbs r.natAbs from rfl)
    rw [HG.out] at HV
    clear HG
    have hd0 : (D == 0) = false := by simp [h0]
    by_cases hn : r < 0
    · have ea : whA D r = -D := by unfold whA; rw [if_pos hn]
      have er := neg_abs hn
      rw [ea] at HV HR hw
      rw [er] at HR hw
      have h0n : -D ≠ 0 := by omega
      have hd1 : (-D == 0) = false := by simp [h0]
      generalize (-D).tdiv (Nat.gcd (-D).natAbs r.natAbs : Nat) = N at *
      generalize r.natAbs / Nat.gcd (-D).natAbs r.natAbs = M at *
      clear ea er
      go_enter Try.func51, Try.ntmps51
      go_wp2_with fail
      refine (HR.out _).mono ?_
      rintro e w1 ⟨rfl, hj⟩
      have HJ := Lib.hid (motr.below_drew hj)
      clear hj
      go_wp2_with fail
      go_ret3
      exact ⟨by rw [HV.out.1, HV.out.2.1, HV.out.2.2]; rfl, HJ.out⟩
    · have ea : whA D r = D := by unfold whA; rw [if_neg hn]
      have er := pos_abs hn
      rw [ea] at HV HR hw
      rw [er] at HR hw
      generalize (D).tdiv (Nat.gcd (D).natAbs r.natAbs : Nat) = N at *
      generalize r.natAbs / Nat.gcd (D).natAbs r.natAbs = M at *
      clear ea er
      go_enter Try.func51, Try.ntmps51
      go_wp2_with fail
      refine (HR.out _).mono ?_
      rintro e w1 ⟨rfl, hj⟩
      have HJ := Lib.hid (motr.below_drew hj)
      clear hj
      go_wp2_with fail
      go_ret3
      exact ⟨by rw [HV.out.1, HV.out.2.1, HV.out.2.2]; rfl, HJ.out⟩
  · have HV := Lib.hid (wh_no h0 hw)
    have hd0 : (D == 0) = false := by simp [h0]
    by_cases hn : r < 0
    · have ea : whA D r = -D := by unfold whA; rw [if_pos hn]
      have er := neg_abs hn
      rw [ea, er] at hw
      have hd1 : (-D == 0) = false := by simp [h0]
      clear ea er
      by_cases hs : -D < 0
      · go_enter Try.func51, Try.ntmps51
        go_wp2_with fail
        go_ret3
        exact ⟨by rw [HV.out.1, HV.out.2.1, HV.out.2.2]; rfl, Below.refl _ _⟩
      · have hs2 : 60 * -r < -D := by omega
        go_enter Try.func51, Try.ntmps51
        go_wp2_with fail
        go_ret3
        exact ⟨by rw [HV.out.1, HV.out.2.1, HV.out.2.2]; rfl, Below.refl _ _⟩
    · have ea : whA D r = D := by unfold whA; rw [if_neg hn]
      have er := pos_abs hn
      rw [ea, er] at hw
      clear ea er
      by_cases hs : D < 0
      · go_enter Try.func51, Try.ntmps51
        go_wp2_with fail
        go_ret3
        exact ⟨by rw [HV.out.1, HV.out.2.1, HV.out.2.2]; rfl, Below.refl _ _⟩
      · have hs2 : 60 * r < D := by omega
        go_enter Try.func51, Try.ntmps51
        go_wp2_with fail
        go_ret3
        exact ⟨by rw [HV.out.1, HV.out.2.1, HV.out.2.2]; rfl, Below.refl _ _⟩

theorem squaredDistance (a b p q : Int) (w : World) (h1 : -30000 ≤ a - p ∧ a - p ≤ 30000) (h2 : -30000 ≤ b - q ∧ b - q ≤ 30000) :
    Calls Try.prog 62 #[.agg #[.int .i64 a, .int .i64 b], .agg #[.int .i64 p, .int .i64 q]] w fun e w' => e = .returned (.int .i64 ((a - p) * (a - p) + (b - q) * (b - q))) ∧ Below w.heap.size w w' := by
  obtain ⟨x0, x1⟩ := square_in h1
  obtain ⟨y0, y1⟩ := square_in h2
  have E0 := Lib.hid (show Below w.heap.size w ((w.alloc (.cells #[.int .i64 a, .int .i64 b] 25)).alloc (.cells #[.int .i64 p, .int .i64 q] 25)) from ((Below.refl _ _).alloc (Nat.le_refl _) _).alloc (by rw [World.size_alloc]; omega) _)
  have ea : IntKind.i64.wrap (a - p) = a - p := IntWalk.i64_in _ (by omega)
  have eb : IntKind.i64.wrap (b - q) = b - q := IntWalk.i64_in _ (by omega)
  generalize hA : a - p = A at *
  generalize hB : b - q = B at *
  generalize hP : A * A = X at *
  generalize hQ : B * B = Y at *
  have e1 : IntKind.i64.wrap X = X := IntWalk.i64_in _ (by omega)
  have e2 : IntKind.i64.wrap Y = Y := IntWalk.i64_in _ (by omega)
  have e3 : IntKind.i64.wrap (X + Y) = X + Y := IntWalk.i64_in _ (by omega)
  go_enter Try.func62, Try.ntmps62
  go_wp2_with fail
  go_quiet (fail)
  go_wp2_with fail
  go_ret
  exact ⟨rfl, aid.below_drewN E0.out _⟩

set_option maxRecDepth 100000 in
set_option maxHeartbeats 2000000 in
theorem isValidMotion (x y u v h c : Int) (w : World) :
    Calls Try.prog 28 #[.agg #[.int .i64 x, .int .i64 y, .int .i64 u, .int .i64 v, .int .i64 h, .int .i64 c]] w fun e w' => e = .returned (.bool (moB x y u v h c)) ∧ Below w.heap.size w w' := by
  have S0 := Lib.hid (newS 28 #[.int .i64 x, .int .i64 y, .int .i64 u, .int .i64 v, .int .i64 h, .int .i64 c] w)
  have T0 := Lib.hid (fun W => posj.isValidPlace x y W)
  have T1 := Lib.hid (fun W => veli.isValidVelocity u v W)
  have T2 := Lib.hid (fun W => hgti.isHeight h W)
  have HM := Lib.hid (show moB x y u v h c = (pB x y && (vB u v && (hB h && isIn c (-6000) 6000))) from rfl)
  generalize pB x y = b0 at *
  generalize vB u v = b1 at *
  generalize hB h = b2 at *
  cases b0
  · go_enter Try.func28, Try.ntmps28
    go_wp2_with fail
    generalize w.alloc (.cells #[.int .i64 x, .int .i64 y, .int .i64 u, .int .i64 v, .int .i64 h, .int .i64 c] 28) = W0 at *
    have AN0 := Lib.hid (Below.refl W0.heap.size W0)
    refine (T0.out W0).mono ?_
    rintro e V1 ⟨rfl, hb1⟩
    have AN1 := Lib.hid (AN0.out.trans (hb1.mono AN0.out.size))
    clear hb1 AN0
    have m0_ : V1.cell? ⟨w.heap.size, 0, none⟩ = some (.int .i64 x) := (S0.out.old AN1.out).cell 0
    have m1_ : V1.cell? ⟨w.heap.size, 1, none⟩ = some (.int .i64 y) := (S0.out.old AN1.out).cell 1
    have m2_ : V1.cell? ⟨w.heap.size, 2, none⟩ = some (.int .i64 u) := (S0.out.old AN1.out).cell 2
    have m3_ : V1.cell? ⟨w.heap.size, 3, none⟩ = some (.int .i64 v) := (S0.out.old AN1.out).cell 3
    have m4_ : V1.cell? ⟨w.heap.size, 4, none⟩ = some (.int .i64 h) := (S0.out.old AN1.out).cell 4
    have m5_ : V1.cell? ⟨w.heap.size, 5, none⟩ = some (.int .i64 c) := (S0.out.old AN1.out).cell 5
    have BX := Lib.hid (S0.out.1.trans (AN1.out.mono S0.out.1.size))
    go_wp2_with fail
    go_ret
    exact ⟨by rw [HM.out]; rfl, BX.out⟩
  cases b1
  · go_enter Try.func28, Try.ntmps28
    go_wp2_with fail
    generalize w.alloc (.cells #[.int .i64 x, .int .i64 y, .int .i64 u, .int .i64 v, .int .i64 h, .int .i64 c] 28) = W0 at *
    have AN0 := Lib.hid (Below.refl W0.heap.size W0)
    refine (T0.out W0).mono ?_
    rintro e V1 ⟨rfl, hb1⟩
    have AN1 := Lib.hid (AN0.out.trans (hb1.mono AN0.out.size))
    clear hb1 AN0
    have m0_ : V1.cell? ⟨w.heap.size, 0, none⟩ = some (.int .i64 x) := (S0.out.old AN1.out).cell 0
    have m1_ : V1.cell? ⟨w.heap.size, 1, none⟩ = some (.int .i64 y) := (S0.out.old AN1.out).cell 1
    have m2_ : V1.cell? ⟨w.heap.size, 2, none⟩ = some (.int .i64 u) := (S0.out.old AN1.out).cell 2
    have m3_ : V1.cell? ⟨w.heap.size, 3, none⟩ = some (.int .i64 v) := (S0.out.old AN1.out).cell 3
    have m4_ : V1.cell? ⟨w.heap.size, 4, none⟩ = some (.int .i64 h) := (S0.out.old AN1.out).cell 4
    have m5_ : V1.cell? ⟨w.heap.size, 5, none⟩ = some (.int .i64 c) := (S0.out.old AN1.out).cell 5
    go_wp2_with fail
    clear m0_ m1_ m2_ m3_ m4_ m5_
    refine (T1.out V1).mono ?_
    rintro e V2 ⟨rfl, hb2⟩
    have AN2 := Lib.hid (AN1.out.trans (hb2.mono AN1.out.size))
    clear hb2 AN1
    have m0_ : V2.cell? ⟨w.heap.size, 0, none⟩ = some (.int .i64 x) := (S0.out.old AN2.out).cell 0
    have m1_ : V2.cell? ⟨w.heap.size, 1, none⟩ = some (.int .i64 y) := (S0.out.old AN2.out).cell 1
    have m2_ : V2.cell? ⟨w.heap.size, 2, none⟩ = some (.int .i64 u) := (S0.out.old AN2.out).cell 2
    have m3_ : V2.cell? ⟨w.heap.size, 3, none⟩ = some (.int .i64 v) := (S0.out.old AN2.out).cell 3
    have m4_ : V2.cell? ⟨w.heap.size, 4, none⟩ = some (.int .i64 h) := (S0.out.old AN2.out).cell 4
    have m5_ : V2.cell? ⟨w.heap.size, 5, none⟩ = some (.int .i64 c) := (S0.out.old AN2.out).cell 5
    have BX := Lib.hid (S0.out.1.trans (AN2.out.mono S0.out.1.size))
    go_wp2_with fail
    go_ret
    exact ⟨by rw [HM.out]; rfl, BX.out⟩
  cases b2
  · go_enter Try.func28, Try.ntmps28
    go_wp2_with fail
    generalize w.alloc (.cells #[.int .i64 x, .int .i64 y, .int .i64 u, .int .i64 v, .int .i64 h, .int .i64 c] 28) = W0 at *
    have AN0 := Lib.hid (Below.refl W0.heap.size W0)
    refine (T0.out W0).mono ?_
    rintro e V1 ⟨rfl, hb1⟩
    have AN1 := Lib.hid (AN0.out.trans (hb1.mono AN0.out.size))
    clear hb1 AN0
    have m0_ : V1.cell? ⟨w.heap.size, 0, none⟩ = some (.int .i64 x) := (S0.out.old AN1.out).cell 0
    have m1_ : V1.cell? ⟨w.heap.size, 1, none⟩ = some (.int .i64 y) := (S0.out.old AN1.out).cell 1
    have m2_ : V1.cell? ⟨w.heap.size, 2, none⟩ = some (.int .i64 u) := (S0.out.old AN1.out).cell 2
    have m3_ : V1.cell? ⟨w.heap.size, 3, none⟩ = some (.int .i64 v) := (S0.out.old AN1.out).cell 3
    have m4_ : V1.cell? ⟨w.heap.size, 4, none⟩ = some (.int .i64 h) := (S0.out.old AN1.out).cell 4
    have m5_ : V1.cell? ⟨w.heap.size, 5, none⟩ = some (.int .i64 c) := (S0.out.old AN1.out).cell 5
    go_wp2_with fail
    clear m0_ m1_ m2_ m3_ m4_ m5_
    refine (T1.out V1).mono ?_
    rintro e V2 ⟨rfl, hb2⟩
    have AN2 := Lib.hid (AN1.out.trans (hb2.mono AN1.out.size))
    clear hb2 AN1
    have m0_ : V2.cell? ⟨w.heap.size, 0, none⟩ = some (.int .i64 x) := (S0.out.old AN2.out).cell 0
    have m1_ : V2.cell? ⟨w.heap.size, 1, none⟩ = some (.int .i64 y) := (S0.out.old AN2.out).cell 1
    have m2_ : V2.cell? ⟨w.heap.size, 2, none⟩ = some (.int .i64 u) := (S0.out.old AN2.out).cell 2
    have m3_ : V2.cell? ⟨w.heap.size, 3, none⟩ = some (.int .i64 v) := (S0.out.old AN2.out).cell 3
    have m4_ : V2.cell? ⟨w.heap.size, 4, none⟩ = some (.int .i64 h) := (S0.out.old AN2.out).cell 4
    have m5_ : V2.cell? ⟨w.heap.size, 5, none⟩ = some (.int .i64 c) := (S0.out.old AN2.out).cell 5
    go_wp2_with fail
    clear m0_ m1_ m2_ m3_ m4_ m5_
    refine (T2.out V2).mono ?_
    rintro e w' ⟨rfl, rfl⟩
    have m0_ : V2.cell? ⟨w.heap.size, 0, none⟩ = some (.int .i64 x) := (S0.out.old AN2.out).cell 0
    have m1_ : V2.cell? ⟨w.heap.size, 1, none⟩ = some (.int .i64 y) := (S0.out.old AN2.out).cell 1
    have m2_ : V2.cell? ⟨w.heap.size, 2, none⟩ = some (.int .i64 u) := (S0.out.old AN2.out).cell 2
    have m3_ : V2.cell? ⟨w.heap.size, 3, none⟩ = some (.int .i64 v) := (S0.out.old AN2.out).cell 3
    have m4_ : V2.cell? ⟨w.heap.size, 4, none⟩ = some (.int .i64 h) := (S0.out.old AN2.out).cell 4
    have m5_ : V2.cell? ⟨w.heap.size, 5, none⟩ = some (.int .i64 c) := (S0.out.old AN2.out).cell 5
    have BX := Lib.hid (S0.out.1.trans (AN2.out.mono S0.out.1.size))
    go_wp2_with fail
    go_ret
    exact ⟨by rw [HM.out]; rfl, BX.out⟩
  by_cases h0 : -6000 ≤ c
  · by_cases h1 : c ≤ 6000
    · rw [isIn_of h0 h1] at HM
      have g1 : decide (c ≤ 6000) = true := decide_eq_true h1
      go_enter Try.func28, Try.ntmps28
      go_wp2_with fail
      generalize w.alloc (.cells #[.int .i64 x, .int .i64 y, .int .i64 u, .int .i64 v, .int .i64 h, .int .i64 c] 28) = W0 at *
      have AN0 := Lib.hid (Below.refl W0.heap.size W0)
      refine (T0.out W0).mono ?_
      rintro e V1 ⟨rfl, hb1⟩
      have AN1 := Lib.hid (AN0.out.trans (hb1.mono AN0.out.size))
      clear hb1 AN0
      have m0_ : V1.cell? ⟨w.heap.size, 0, none⟩ = some (.int .i64 x) := (S0.out.old AN1.out).cell 0
      have m1_ : V1.cell? ⟨w.heap.size, 1, none⟩ = some (.int .i64 y) := (S0.out.old AN1.out).cell 1
      have m2_ : V1.cell? ⟨w.heap.size, 2, none⟩ = some (.int .i64 u) := (S0.out.old AN1.out).cell 2
      have m3_ : V1.cell? ⟨w.heap.size, 3, none⟩ = some (.int .i64 v) := (S0.out.old AN1.out).cell 3
      have m4_ : V1.cell? ⟨w.heap.size, 4, none⟩ = some (.int .i64 h) := (S0.out.old AN1.out).cell 4
      have m5_ : V1.cell? ⟨w.heap.size, 5, none⟩ = some (.int .i64 c) := (S0.out.old AN1.out).cell 5
      go_wp2_with fail
      clear m0_ m1_ m2_ m3_ m4_ m5_
      refine (T1.out V1).mono ?_
      rintro e V2 ⟨rfl, hb2⟩
      have AN2 := Lib.hid (AN1.out.trans (hb2.mono AN1.out.size))
      clear hb2 AN1
      have m0_ : V2.cell? ⟨w.heap.size, 0, none⟩ = some (.int .i64 x) := (S0.out.old AN2.out).cell 0
      have m1_ : V2.cell? ⟨w.heap.size, 1, none⟩ = some (.int .i64 y) := (S0.out.old AN2.out).cell 1
      have m2_ : V2.cell? ⟨w.heap.size, 2, none⟩ = some (.int .i64 u) := (S0.out.old AN2.out).cell 2
      have m3_ : V2.cell? ⟨w.heap.size, 3, none⟩ = some (.int .i64 v) := (S0.out.old AN2.out).cell 3
      have m4_ : V2.cell? ⟨w.heap.size, 4, none⟩ = some (.int .i64 h) := (S0.out.old AN2.out).cell 4
      have m5_ : V2.cell? ⟨w.heap.size, 5, none⟩ = some (.int .i64 c) := (S0.out.old AN2.out).cell 5
      go_wp2_with fail
      clear m0_ m1_ m2_ m3_ m4_ m5_
      refine (T2.out V2).mono ?_
      rintro e w' ⟨rfl, rfl⟩
      have m0_ : V2.cell? ⟨w.heap.size, 0, none⟩ = some (.int .i64 x) := (S0.out.old AN2.out).cell 0
      have m1_ : V2.cell? ⟨w.heap.size, 1, none⟩ = some (.int .i64 y) := (S0.out.old AN2.out).cell 1
      have m2_ : V2.cell? ⟨w.heap.size, 2, none⟩ = some (.int .i64 u) := (S0.out.old AN2.out).cell 2
      have m3_ : V2.cell? ⟨w.heap.size, 3, none⟩ = some (.int .i64 v) := (S0.out.old AN2.out).cell 3
      have m4_ : V2.cell? ⟨w.heap.size, 4, none⟩ = some (.int .i64 h) := (S0.out.old AN2.out).cell 4
      have m5_ : V2.cell? ⟨w.heap.size, 5, none⟩ = some (.int .i64 c) := (S0.out.old AN2.out).cell 5
      have BX := Lib.hid (S0.out.1.trans (AN2.out.mono S0.out.1.size))
      go_wp2_with fail
      go_ret
      exact ⟨by rw [HM.out]; rfl, BX.out⟩
    · rw [show isIn c (-6000) 6000 = false from decide_eq_false (fun h => h1 h.2)] at HM
      have g1 : decide (c ≤ 6000) = false := decide_eq_false h1
      go_enter Try.func28, Try.ntmps28
      go_wp2_with fail
      generalize w.alloc (.cells #[.int .i64 x, .int .i64 y, .int .i64 u, .int .i64 v, .int .i64 h, .int .i64 c] 28) = W0 at *
      have AN0 := Lib.hid (Below.refl W0.heap.size W0)
      refine (T0.out W0).mono ?_
      rintro e V1 ⟨rfl, hb1⟩
      have AN1 := Lib.hid (AN0.out.trans (hb1.mono AN0.out.size))
      clear hb1 AN0
      have m0_ : V1.cell? ⟨w.heap.size, 0, none⟩ = some (.int .i64 x) := (S0.out.old AN1.out).cell 0
      have m1_ : V1.cell? ⟨w.heap.size, 1, none⟩ = some (.int .i64 y) := (S0.out.old AN1.out).cell 1
      have m2_ : V1.cell? ⟨w.heap.size, 2, none⟩ = some (.int .i64 u) := (S0.out.old AN1.out).cell 2
      have m3_ : V1.cell? ⟨w.heap.size, 3, none⟩ = some (.int .i64 v) := (S0.out.old AN1.out).cell 3
      have m4_ : V1.cell? ⟨w.heap.size, 4, none⟩ = some (.int .i64 h) := (S0.out.old AN1.out).cell 4
      have m5_ : V1.cell? ⟨w.heap.size, 5, none⟩ = some (.int .i64 c) := (S0.out.old AN1.out).cell 5
      go_wp2_with fail
      clear m0_ m1_ m2_ m3_ m4_ m5_
      refine (T1.out V1).mono ?_
      rintro e V2 ⟨rfl, hb2⟩
      have AN2 := Lib.hid (AN1.out.trans (hb2.mono AN1.out.size))
      clear hb2 AN1
      have m0_ : V2.cell? ⟨w.heap.size, 0, none⟩ = some (.int .i64 x) := (S0.out.old AN2.out).cell 0
      have m1_ : V2.cell? ⟨w.heap.size, 1, none⟩ = some (.int .i64 y) := (S0.out.old AN2.out).cell 1
      have m2_ : V2.cell? ⟨w.heap.size, 2, none⟩ = some (.int .i64 u) := (S0.out.old AN2.out).cell 2
      have m3_ : V2.cell? ⟨w.heap.size, 3, none⟩ = some (.int .i64 v) := (S0.out.old AN2.out).cell 3
      have m4_ : V2.cell? ⟨w.heap.size, 4, none⟩ = some (.int .i64 h) := (S0.out.old AN2.out).cell 4
      have m5_ : V2.cell? ⟨w.heap.size, 5, none⟩ = some (.int .i64 c) := (S0.out.old AN2.out).cell 5
      go_wp2_with fail
      clear m0_ m1_ m2_ m3_ m4_ m5_
      refine (T2.out V2).mono ?_
      rintro e w' ⟨rfl, rfl⟩
      have m0_ : V2.cell? ⟨w.heap.size, 0, none⟩ = some (.int .i64 x) := (S0.out.old AN2.out).cell 0
      have m1_ : V2.cell? ⟨w.heap.size, 1, none⟩ = some (.int .i64 y) := (S0.out.old AN2.out).cell 1
      have m2_ : V2.cell? ⟨w.heap.size, 2, none⟩ = some (.int .i64 u) := (S0.out.old AN2.out).cell 2
      have m3_ : V2.cell? ⟨w.heap.size, 3, none⟩ = some (.int .i64 v) := (S0.out.old AN2.out).cell 3
      have m4_ : V2.cell? ⟨w.heap.size, 4, none⟩ = some (.int .i64 h) := (S0.out.old AN2.out).cell 4
      have m5_ : V2.cell? ⟨w.heap.size, 5, none⟩ = some (.int .i64 c) := (S0.out.old AN2.out).cell 5
      have BX := Lib.hid (S0.out.1.trans (AN2.out.mono S0.out.1.size))
      go_wp2_with fail
      go_ret
      exact ⟨by rw [HM.out]; rfl, BX.out⟩
  · rw [show isIn c (-6000) 6000 = false from decide_eq_false (fun h => h0 h.1)] at HM
    go_enter Try.func28, Try.ntmps28
    go_wp2_with fail
    generalize w.alloc (.cells #[.int .i64 x, .int .i64 y, .int .i64 u, .int .i64 v, .int .i64 h, .int .i64 c] 28) = W0 at *
    have AN0 := Lib.hid (Below.refl W0.heap.size W0)
    refine (T0.out W0).mono ?_
    rintro e V1 ⟨rfl, hb1⟩
    have AN1 := Lib.hid (AN0.out.trans (hb1.mono AN0.out.size))
    clear hb1 AN0
    have m0_ : V1.cell? ⟨w.heap.size, 0, none⟩ = some (.int .i64 x) := (S0.out.old AN1.out).cell 0
    have m1_ : V1.cell? ⟨w.heap.size, 1, none⟩ = some (.int .i64 y) := (S0.out.old AN1.out).cell 1
    have m2_ : V1.cell? ⟨w.heap.size, 2, none⟩ = some (.int .i64 u) := (S0.out.old AN1.out).cell 2
    have m3_ : V1.cell? ⟨w.heap.size, 3, none⟩ = some (.int .i64 v) := (S0.out.old AN1.out).cell 3
    have m4_ : V1.cell? ⟨w.heap.size, 4, none⟩ = some (.int .i64 h) := (S0.out.old AN1.out).cell 4
    have m5_ : V1.cell? ⟨w.heap.size, 5, none⟩ = some (.int .i64 c) := (S0.out.old AN1.out).cell 5
    go_wp2_with fail
    clear m0_ m1_ m2_ m3_ m4_ m5_
    refine (T1.out V1).mono ?_
    rintro e V2 ⟨rfl, hb2⟩
    have AN2 := Lib.hid (AN1.out.trans (hb2.mono AN1.out.size))
    clear hb2 AN1
    have m0_ : V2.cell? ⟨w.heap.size, 0, none⟩ = some (.int .i64 x) := (S0.out.old AN2.out).cell 0
    have m1_ : V2.cell? ⟨w.heap.size, 1, none⟩ = some (.int .i64 y) := (S0.out.old AN2.out).cell 1
    have m2_ : V2.cell? ⟨w.heap.size, 2, none⟩ = some (.int .i64 u) := (S0.out.old AN2.out).cell 2
    have m3_ : V2.cell? ⟨w.heap.size, 3, none⟩ = some (.int .i64 v) := (S0.out.old AN2.out).cell 3
    have m4_ : V2.cell? ⟨w.heap.size, 4, none⟩ = some (.int .i64 h) := (S0.out.old AN2.out).cell 4
    have m5_ : V2.cell? ⟨w.heap.size, 5, none⟩ = some (.int .i64 c) := (S0.out.old AN2.out).cell 5
    go_wp2_with fail
    clear m0_ m1_ m2_ m3_ m4_ m5_
    refine (T2.out V2).mono ?_
    rintro e w' ⟨rfl, rfl⟩
    have m0_ : V2.cell? ⟨w.heap.size, 0, none⟩ = some (.int .i64 x) := (S0.out.old AN2.out).cell 0
    have m1_ : V2.cell? ⟨w.heap.size, 1, none⟩ = some (.int .i64 y) := (S0.out.old AN2.out).cell 1
    have m2_ : V2.cell? ⟨w.heap.size, 2, none⟩ = some (.int .i64 u) := (S0.out.old AN2.out).cell 2
    have m3_ : V2.cell? ⟨w.heap.size, 3, none⟩ = some (.int .i64 v) := (S0.out.old AN2.out).cell 3
    have m4_ : V2.cell? ⟨w.heap.size, 4, none⟩ = some (.int .i64 h) := (S0.out.old AN2.out).cell 4
    have m5_ : V2.cell? ⟨w.heap.size, 5, none⟩ = some (.int .i64 c) := (S0.out.old AN2.out).cell 5
    have BX := Lib.hid (S0.out.1.trans (AN2.out.mono S0.out.1.size))
    go_wp2_with fail
    go_ret
    exact ⟨by rw [HM.out]; rfl, BX.out⟩

set_option maxRecDepth 100000 in
set_option maxHeartbeats 2000000 in
theorem placeAt (x y u v h c n d : Int) (w : World)  :
    Calls Try.prog 18 #[.agg #[.int .i64 x, .int .i64 y, .int .i64 u, .int .i64 v, .int .i64 h, .int .i64 c], .int .i64 n, .int .i64 d] w fun e w' => e = .returned (.tuple #[.int .i64 (paV x y u v h c n d x u), .int .i64 (paV x y u v h c n d y v), .int .i64 (paD x y u v h c n d), .bool (paB x y u v h c n d)]) ∧ Below w.heap.size w w' := by
  have S0 := Lib.hid (newS 28 #[.int .i64 x, .int .i64 y, .int .i64 u, .int .i64 v, .int .i64 h, .int .i64 c] w)
  have T0 := Lib.hid (fun W => isValidMotion x y u v h c W)
  have T1 := Lib.hid (fun W => isTimeOf n d W)
  cases hq0 : moB x y u v h c
  · have HE := Lib.hid ((show paB x y u v h c n d = false by unfold paB; rw [hq0]; rfl))
    rw [hq0] at T0
    clear hq0
    go_enter Try.func18, Try.ntmps18
    go_wp2_with fail
    generalize w.alloc (.cells #[.int .i64 x, .int .i64 y, .int .i64 u, .int .i64 v, .int .i64 h, .int .i64 c] 28) = W0 at *
    have AN0 := Lib.hid (Below.refl W0.heap.size W0)
    refine (T0.out W0).mono ?_
    rintro e V1 ⟨rfl, hb1⟩
    have AN1 := Lib.hid (AN0.out.trans (hb1.mono AN0.out.size))
    clear hb1 AN0
    have BX := Lib.hid (S0.out.1.trans (AN1.out.mono S0.out.1.size))
    go_wp2_with fail
    (try simp only [Exit.inBlock, Exit.then]); refine bodyPost_ret (motr.results_tmp4 rfl _ _ _) rfl ?_
    exact ⟨by rw [(pa_no HE.out x u).1, (pa_no HE.out y v).1, (pa_no HE.out x u).2, HE.out]; rfl, BX.out⟩
  rw [hq0] at T0
  cases hq1 : tmB n d
  · have HE := Lib.hid ((show paB x y u v h c n d = false by unfold paB; rw [hq0, hq1]; rfl))
    rw [hq1] at T1
    clear hq0 hq1
    go_enter Try.func18, Try.ntmps18
    go_wp2_with fail
    generalize w.alloc (.cells #[.int .i64 x, .int .i64 y, .int .i64 u, .int .i64 v, .int .i64 h, .int .i64 c] 28) = W0 at *
    have AN0 := Lib.hid (Below.refl W0.heap.size W0)
    refine (T0.out W0).mono ?_
    rintro e V1 ⟨rfl, hb1⟩
    have AN1 := Lib.hid (AN0.out.trans (hb1.mono AN0.out.size))
    clear hb1 AN0
    have m0_ : V1.cell? ⟨w.heap.size, 0, none⟩ = some (.int .i64 x) := (S0.out.old AN1.out).cell 0
    have m1_ : V1.cell? ⟨w.heap.size, 1, none⟩ = some (.int .i64 y) := (S0.out.old AN1.out).cell 1
    have m2_ : V1.cell? ⟨w.heap.size, 2, none⟩ = some (.int .i64 u) := (S0.out.old AN1.out).cell 2
    have m3_ : V1.cell? ⟨w.heap.size, 3, none⟩ = some (.int .i64 v) := (S0.out.old AN1.out).cell 3
    have m4_ : V1.cell? ⟨w.heap.size, 4, none⟩ = some (.int .i64 h) := (S0.out.old AN1.out).cell 4
    have m5_ : V1.cell? ⟨w.heap.size, 5, none⟩ = some (.int .i64 c) := (S0.out.old AN1.out).cell 5
    go_wp2_with fail
    clear m0_ m1_ m2_ m3_ m4_ m5_
    refine (T1.out V1).mono ?_
    rintro e w' ⟨rfl, rfl⟩
    have BX := Lib.hid (S0.out.1.trans (AN1.out.mono S0.out.1.size))
    go_wp2_with fail
    (try simp only [Exit.inBlock, Exit.then]); refine bodyPost_ret (motr.results_tmp4 rfl _ _ _) rfl ?_
    exact ⟨by rw [(pa_no HE.out x u).1, (pa_no HE.out y v).1, (pa_no HE.out x u).2, HE.out]; rfl, BX.out⟩
  rw [hq1] at T1
  have HE := Lib.hid (show paB x y u v h c n d = true by unfold paB; rw [hq0, hq1]; rfl)
  have HX := Lib.hid (pa_yes HE.out x u)
  have HY := Lib.hid (pa_yes HE.out y v)
  obtain ⟨hx, hy, hu, hv, -, -⟩ := mo_in hq0
  have HTX := Lib.hid (at_in (M := 9899) (R := 200) (a := x) (r := u) hq1 ⟨by omega, hx.2⟩ hu)
  have HTY := Lib.hid (at_in (M := 9899) (R := 200) (a := y) (r := v) hq1 ⟨by omega, hy.2⟩ hv)
  clear hq0 hq1 hx hy hu hv
  go_enter Try.func18, Try.ntmps18
  go_wp2_with fail
  generalize w.alloc (.cells #[.int .i64 x, .int .i64 y, .int .i64 u, .int .i64 v, .int .i64 h, .int .i64 c] 28) = W0 at *
  have AN0 := Lib.hid (Below.refl W0.heap.size W0)
  refine (T0.out W0).mono ?_
  rintro e V1 ⟨rfl, hb1⟩
  have AN1 := Lib.hid (AN0.out.trans (hb1.mono AN0.out.size))
  clear hb1 AN0
  have m0_ : V1.cell? ⟨w.heap.size, 0, none⟩ = some (.int .i64 x) := (S0.out.old AN1.out).cell 0
  have m1_ : V1.cell? ⟨w.heap.size, 1, none⟩ = some (.int .i64 y) := (S0.out.old AN1.out).cell 1
  have m2_ : V1.cell? ⟨w.heap.size, 2, none⟩ = some (.int .i64 u) := (S0.out.old AN1.out).cell 2
  have m3_ : V1.cell? ⟨w.heap.size, 3, none⟩ = some (.int .i64 v) := (S0.out.old AN1.out).cell 3
  have m4_ : V1.cell? ⟨w.heap.size, 4, none⟩ = some (.int .i64 h) := (S0.out.old AN1.out).cell 4
  have m5_ : V1.cell? ⟨w.heap.size, 5, none⟩ = some (.int .i64 c) := (S0.out.old AN1.out).cell 5
  go_wp2_with fail
  clear m0_ m1_ m2_ m3_ m4_ m5_
  refine (T1.out V1).mono ?_
  rintro e w' ⟨rfl, rfl⟩
  have m0_ : V1.cell? ⟨w.heap.size, 0, none⟩ = some (.int .i64 x) := (S0.out.old AN1.out).cell 0
  have m1_ : V1.cell? ⟨w.heap.size, 1, none⟩ = some (.int .i64 y) := (S0.out.old AN1.out).cell 1
  have m2_ : V1.cell? ⟨w.heap.size, 2, none⟩ = some (.int .i64 u) := (S0.out.old AN1.out).cell 2
  have m3_ : V1.cell? ⟨w.heap.size, 3, none⟩ = some (.int .i64 v) := (S0.out.old AN1.out).cell 3
  have m4_ : V1.cell? ⟨w.heap.size, 4, none⟩ = some (.int .i64 h) := (S0.out.old AN1.out).cell 4
  have m5_ : V1.cell? ⟨w.heap.size, 5, none⟩ = some (.int .i64 c) := (S0.out.old AN1.out).cell 5
  go_wp2_with fail
  clear m0_ m1_ m2_ m3_ m4_ m5_
  refine (changedAt n d V1).mono ?_
  rintro e V3 ⟨gd, gn, rfl, cd, cn⟩
  have AN3 := Lib.hid (AN1.out.trans (cd.1.mono AN1.out.size))
  have CD := Lib.hid cd
  have CN := Lib.hid cn
  clear cd cn AN1
  have m0_ : V3.cell? ⟨w.heap.size, 0, none⟩ = some (.int .i64 x) := (S0.out.old AN3.out).cell 0
  have m1_ : V3.cell? ⟨w.heap.size, 1, none⟩ = some (.int .i64 y) := (S0.out.old AN3.out).cell 1
  have m2_ : V3.cell? ⟨w.heap.size, 2, none⟩ = some (.int .i64 u) := (S0.out.old AN3.out).cell 2
  have m3_ : V3.cell? ⟨w.heap.size, 3, none⟩ = some (.int .i64 v) := (S0.out.old AN3.out).cell 3
  have m4_ : V3.cell? ⟨w.heap.size, 4, none⟩ = some (.int .i64 h) := (S0.out.old AN3.out).cell 4
  have m5_ : V3.cell? ⟨w.heap.size, 5, none⟩ = some (.int .i64 c) := (S0.out.old AN3.out).cell 5
  have G1 := Lib.hid (fun (w : World) (j : Nat) (hw : w = V3) => aid.quiet_left (changed1 x u n d gd gn (World.drewN w j) ((CD.out.cell 0 |> fun (e : V3.cell? ⟨gd, 0, none⟩ = _) => by subst hw; exact ((aid.below_drewN (Below.refl w.heap.size w) j).cell (p := ⟨gd, 0, none⟩) CD.out.2.2.1).trans e)) ((by subst hw; exact ((aid.below_drewN (Below.refl w.heap.size w) j).cell (p := ⟨gn, 0, none⟩) CN.out.2.2.1).trans (CN.out.cell 0))) (by have := HTX.out; omega) (by have := HTX.out; omega)))
  have G2 := Lib.hid (fun (w : World) (j : Nat) (hw : w = V3) => aid.quiet_left (changed1 y v n d gd gn (World.drewN w j) ((by subst hw; exact ((aid.below_drewN (Below.refl w.heap.size w) j).cell (p := ⟨gd, 0, none⟩) CD.out.2.2.1).trans (CD.out.cell 0))) ((by subst hw; exact ((aid.below_drewN (Below.refl w.heap.size w) j).cell (p := ⟨gn, 0, none⟩) CN.out.2.2.1).trans (CN.out.cell 0))) (by have := HTY.out; omega) (by have := HTY.out; omega)))
  have BX := Lib.hid (S0.out.1.trans (AN3.out.mono S0.out.1.size))
  generalize at_ x u n d = RX at *
  generalize at_ y v n d = RY at *
  go_wp2_with fail
  go_quiet ((go_at_call 80; first | (with_reducible exact G1.out _ _ rfl) | (with_reducible exact G2.out _ _ rfl)))
  go_wp2_with fail
  (try simp only [Exit.inBlock, Exit.then]); refine bodyPost_ret (motr.results_tmp4 rfl _ _ _) rfl ?_
  exact ⟨by rw [HX.out.1, HY.out.1, HX.out.2, HE.out]; rfl, aid.below_drewN BX.out _⟩

set_option maxRecDepth 100000 in
set_option maxHeartbeats 2000000 in
theorem heightAt (x y u v h c n d : Int) (w : World)  :
    Calls Try.prog 22 #[.agg #[.int .i64 x, .int .i64 y, .int .i64 u, .int .i64 v, .int .i64 h, .int .i64 c], .int .i64 n, .int .i64 d] w fun e w' => e = .returned (.tuple #[.int .i64 (haN x y u v h c n d), .int .i64 (haD x y u v h c n d : Int), .bool (paB x y u v h c n d)]) ∧ Below w.heap.size w w' := by
  have S0 := Lib.hid (newS 28 #[.int .i64 x, .int .i64 y, .int .i64 u, .int .i64 v, .int .i64 h, .int .i64 c] w)
  have T0 := Lib.hid (fun W => isValidMotion x y u v h c W)
  have T1 := Lib.hid (fun W => isTimeOf n d W)
  cases hq0 : moB x y u v h c
  · have HE := Lib.hid (show paB x y u v h c n d = false by unfold paB; rw [hq0]; rfl)
    rw [hq0] at T0
    clear hq0
    go_enter Try.func22, Try.ntmps22
    go_wp2_with fail
    generalize w.alloc (.cells #[.int .i64 x, .int .i64 y, .int .i64 u, .int .i64 v, .int .i64 h, .int .i64 c] 28) = W0 at *
    have AN0 := Lib.hid (Below.refl W0.heap.size W0)
    refine (T0.out W0).mono ?_
    rintro e V1 ⟨rfl, hb1⟩
    have AN1 := Lib.hid (AN0.out.trans (hb1.mono AN0.out.size))
    clear hb1 AN0
    have BX := Lib.hid (S0.out.1.trans (AN1.out.mono S0.out.1.size))
    go_wp2_with fail
    go_ret3
    exact ⟨by rw [(ha_no HE.out).1, (ha_no HE.out).2, HE.out]; rfl, BX.out⟩
  rw [hq0] at T0
  cases hq1 : tmB n d
  · have HE := Lib.hid (show paB x y u v h c n d = false by unfold paB; rw [hq0, hq1]; rfl)
    rw [hq1] at T1
    clear hq0 hq1
    go_enter Try.func22, Try.ntmps22
    go_wp2_with fail
    generalize w.alloc (.cells #[.int .i64 x, .int .i64 y, .int .i64 u, .int .i64 v, .int .i64 h, .int .i64 c] 28) = W0 at *
    have AN0 := Lib.hid (Below.refl W0.heap.size W0)
    refine (T0.out W0).mono ?_
    rintro e V1 ⟨rfl, hb1⟩
    have AN1 := Lib.hid (AN0.out.trans (hb1.mono AN0.out.size))
    clear hb1 AN0
    have m0_ : V1.cell? ⟨w.heap.size, 0, none⟩ = some (.int .i64 x) := (S0.out.old AN1.out).cell 0
    have m1_ : V1.cell? ⟨w.heap.size, 1, none⟩ = some (.int .i64 y) := (S0.out.old AN1.out).cell 1
    have m2_ : V1.cell? ⟨w.heap.size, 2, none⟩ = some (.int .i64 u) := (S0.out.old AN1.out).cell 2
    have m3_ : V1.cell? ⟨w.heap.size, 3, none⟩ = some (.int .i64 v) := (S0.out.old AN1.out).cell 3
    have m4_ : V1.cell? ⟨w.heap.size, 4, none⟩ = some (.int .i64 h) := (S0.out.old AN1.out).cell 4
    have m5_ : V1.cell? ⟨w.heap.size, 5, none⟩ = some (.int .i64 c) := (S0.out.old AN1.out).cell 5
    go_wp2_with fail
    clear m0_ m1_ m2_ m3_ m4_ m5_
    refine (T1.out V1).mono ?_
    rintro e w' ⟨rfl, rfl⟩
    have BX := Lib.hid (S0.out.1.trans (AN1.out.mono S0.out.1.size))
    go_wp2_with fail
    go_ret3
    exact ⟨by rw [(ha_no HE.out).1, (ha_no HE.out).2, HE.out]; rfl, BX.out⟩
  rw [hq1] at T1
  have HE := Lib.hid (show paB x y u v h c n d = true by unfold paB; rw [hq0, hq1]; rfl)
  have HV := Lib.hid (ha_yes HE.out)
  obtain ⟨-, -, -, -, hh, hc⟩ := mo_in hq0
  obtain ⟨⟨d1, d2⟩, -⟩ := tmB_yes hq1
  have HT := Lib.hid (at_in (M := 130000) (R := 6000) (a := h) (r := c) hq1 ⟨by omega, hh.2⟩ hc)
  have hin := haX_in HE.out
  have HR := Lib.hid (fun w => motr.reduceI (haX h c n d) d.toNat w hin.1 hin.2 (by omega) (by omega))
  rw [show ((d.toNat : Nat) : Int) = d by omega] at HR
  have HG := Lib.hid (show haG h c n d = Nat.gcd (haX h c n d).natAbs d.toNat from rfl)
  rw [HG.out] at HV
  have HC := Lib.hid (fun (gd gn : Nat) (w : World) hd hn => changed1 h c n d gd gn w hd hn (by have := HT.out; omega) (by have := HT.out; omega))
  rw [show at_ h c n d = haX h c n d from rfl] at HC
  generalize (haX h c n d).tdiv (Nat.gcd (haX h c n d).natAbs d.toNat : Nat) = N at *
  generalize d.toNat / Nat.gcd (haX h c n d).natAbs d.toNat = M at *
  generalize haX h c n d = X at *
  clear hq0 hq1 hh hc hin HG
  go_enter Try.func22, Try.ntmps22
  go_wp2_with fail
  generalize w.alloc (.cells #[.int .i64 x, .int .i64 y, .int .i64 u, .int .i64 v, .int .i64 h, .int .i64 c] 28) = W0 at *
  have AN0 := Lib.hid (Below.refl W0.heap.size W0)
  refine (T0.out W0).mono ?_
  rintro e V1 ⟨rfl, hb1⟩
  have AN1 := Lib.hid (AN0.out.trans (hb1.mono AN0.out.size))
  clear hb1 AN0
  have m0_ : V1.cell? ⟨w.heap.size, 0, none⟩ = some (.int .i64 x) := (S0.out.old AN1.out).cell 0
  have m1_ : V1.cell? ⟨w.heap.size, 1, none⟩ = some (.int .i64 y) := (S0.out.old AN1.out).cell 1
  have m2_ : V1.cell? ⟨w.heap.size, 2, none⟩ = some (.int .i64 u) := (S0.out.old AN1.out).cell 2
  have m3_ : V1.cell? ⟨w.heap.size, 3, none⟩ = some (.int .i64 v) := (S0.out.old AN1.out).cell 3
  have m4_ : V1.cell? ⟨w.heap.size, 4, none⟩ = some (.int .i64 h) := (S0.out.old AN1.out).cell 4
  have m5_ : V1.cell? ⟨w.heap.size, 5, none⟩ = some (.int .i64 c) := (S0.out.old AN1.out).cell 5
  go_wp2_with fail
  clear m0_ m1_ m2_ m3_ m4_ m5_
  refine (T1.out V1).mono ?_
  rintro e w' ⟨rfl, rfl⟩
  have m0_ : V1.cell? ⟨w.heap.size, 0, none⟩ = some (.int .i64 x) := (S0.out.old AN1.out).cell 0
  have m1_ : V1.cell? ⟨w.heap.size, 1, none⟩ = some (.int .i64 y) := (S0.out.old AN1.out).cell 1
  have m2_ : V1.cell? ⟨w.heap.size, 2, none⟩ = some (.int .i64 u) := (S0.out.old AN1.out).cell 2
  have m3_ : V1.cell? ⟨w.heap.size, 3, none⟩ = some (.int .i64 v) := (S0.out.old AN1.out).cell 3
  have m4_ : V1.cell? ⟨w.heap.size, 4, none⟩ = some (.int .i64 h) := (S0.out.old AN1.out).cell 4
  have m5_ : V1.cell? ⟨w.heap.size, 5, none⟩ = some (.int .i64 c) := (S0.out.old AN1.out).cell 5
  go_wp2_with fail
  clear m0_ m1_ m2_ m3_ m4_ m5_
  refine (changedAt n d V1).mono ?_
  rintro e V3 ⟨gd, gn, rfl, cd, cn⟩
  have AN3 := Lib.hid (AN1.out.trans (cd.1.mono AN1.out.size))
  have CD := Lib.hid cd
  have CN := Lib.hid cn
  clear cd cn AN1
  have m0_ : V3.cell? ⟨w.heap.size, 0, none⟩ = some (.int .i64 x) := (S0.out.old AN3.out).cell 0
  have m1_ : V3.cell? ⟨w.heap.size, 1, none⟩ = some (.int .i64 y) := (S0.out.old AN3.out).cell 1
  have m2_ : V3.cell? ⟨w.heap.size, 2, none⟩ = some (.int .i64 u) := (S0.out.old AN3.out).cell 2
  have m3_ : V3.cell? ⟨w.heap.size, 3, none⟩ = some (.int .i64 v) := (S0.out.old AN3.out).cell 3
  have m4_ : V3.cell? ⟨w.heap.size, 4, none⟩ = some (.int .i64 h) := (S0.out.old AN3.out).cell 4
  have m5_ : V3.cell? ⟨w.heap.size, 5, none⟩ = some (.int .i64 c) := (S0.out.old AN3.out).cell 5
  go_wp2_with fail
  clear m0_ m1_ m2_ m3_ m4_ m5_
  refine (HC.out gd gn V3 (CD.out.cell 0) (CN.out.cell 0)).mono ?_
  rintro e w' ⟨rfl, rfl⟩
  go_wp2_with fail
  refine (HR.out V3).mono ?_
  rintro e W9 ⟨rfl, hj⟩
  have BX := Lib.hid (S0.out.1.trans ((AN3.out.trans ((motr.below_drew hj).mono AN3.out.size)).mono S0.out.1.size))
  clear hj
  go_wp2_with fail
  go_ret3
  exact ⟨by rw [HV.out.1, HV.out.2, HE.out]; rfl, BX.out⟩

set_option maxRecDepth 100000 in
set_option maxHeartbeats 2000000 in
theorem timeToX (x y u v h c t : Int) (w : World)  :
    Calls Try.prog 16 #[.agg #[.int .i64 x, .int .i64 y, .int .i64 u, .int .i64 v, .int .i64 h, .int .i64 c], .int .i64 t] w fun e w' => e = .returned (.tuple #[.int .i64 (twN (txB x y u v h c t) (t - x) u), .int .i64 (twD (txB x y u v h c t) (t - x) u : Int), .bool (twB (txB x y u v h c t) (t - x) u)]) ∧ Below w.heap.size w w' := by
  have S0 := Lib.hid (newS 28 #[.int .i64 x, .int .i64 y, .int .i64 u, .int .i64 v, .int .i64 h, .int .i64 c] w)
  have T0 := Lib.hid (fun W => isValidMotion x y u v h c W)
  have T1 := Lib.hid (fun W => posi.isCoordinate t W)
  cases hq0 : moB x y u v h c
  · have HE := Lib.hid (show (txB x y u v h c t) = false by unfold txB; rw [hq0]; rfl)
    rw [hq0] at T0
    clear hq0
    go_enter Try.func16, Try.ntmps16
    go_wp2_with fail
    generalize w.alloc (.cells #[.int .i64 x, .int .i64 y, .int .i64 u, .int .i64 v, .int .i64 h, .int .i64 c] 28) = W0 at *
    have AN0 := Lib.hid (Below.refl W0.heap.size W0)
    refine (T0.out W0).mono ?_
    rintro e V1 ⟨rfl, hb1⟩
    have AN1 := Lib.hid (AN0.out.trans (hb1.mono AN0.out.size))
    clear hb1 AN0
    have BX := Lib.hid (S0.out.1.trans (AN1.out.mono S0.out.1.size))
    go_wp2_with fail
    go_ret3
    exact ⟨by rw [HE.out]; rfl, BX.out⟩
  rw [hq0] at T0
  cases hq1 : isIn t 0 9899
  · have HE := Lib.hid (show (txB x y u v h c t) = false by unfold txB; rw [hq0, hq1]; rfl)
    rw [hq1] at T1
    clear hq0 hq1
    go_enter Try.func16, Try.ntmps16
    go_wp2_with fail
    generalize w.alloc (.cells #[.int .i64 x, .int .i64 y, .int .i64 u, .int .i64 v, .int .i64 h, .int .i64 c] 28) = W0 at *
    have AN0 := Lib.hid (Below.refl W0.heap.size W0)
    refine (T0.out W0).mono ?_
    rintro e V1 ⟨rfl, hb1⟩
    have AN1 := Lib.hid (AN0.out.trans (hb1.mono AN0.out.size))
    clear hb1 AN0
    have m0_ : V1.cell? ⟨w.heap.size, 0, none⟩ = some (.int .i64 x) := (S0.out.old AN1.out).cell 0
    have m1_ : V1.cell? ⟨w.heap.size, 1, none⟩ = some (.int .i64 y) := (S0.out.old AN1.out).cell 1
    have m2_ : V1.cell? ⟨w.heap.size, 2, none⟩ = some (.int .i64 u) := (S0.out.old AN1.out).cell 2
    have m3_ : V1.cell? ⟨w.heap.size, 3, none⟩ = some (.int .i64 v) := (S0.out.old AN1.out).cell 3
    have m4_ : V1.cell? ⟨w.heap.size, 4, none⟩ = some (.int .i64 h) := (S0.out.old AN1.out).cell 4
    have m5_ : V1.cell? ⟨w.heap.size, 5, none⟩ = some (.int .i64 c) := (S0.out.old AN1.out).cell 5
    go_wp2_with fail
    clear m0_ m1_ m2_ m3_ m4_ m5_
    refine (T1.out V1).mono ?_
    rintro e w' ⟨rfl, rfl⟩
    have BX := Lib.hid (S0.out.1.trans (AN1.out.mono S0.out.1.size))
    go_wp2_with fail
    go_ret3
    exact ⟨by rw [HE.out]; rfl, BX.out⟩
  rw [hq1] at T1
  have HE := Lib.hid (show (txB x y u v h c t) = true by unfold txB; rw [hq0, hq1]; rfl)
  obtain ⟨hx, hy, hu, hv, hh, hc⟩ := mo_in hq0
  have ht := isIn_yes hq1
  have HT := Lib.hid (fun W => timeOfChange (t - x) u W (by omega) (by omega))
  have e9 : IntKind.i64.wrap (t - x) = t - x := IntWalk.i64_in _ (by omega)
  clear hq0 hq1
  go_enter Try.func16, Try.ntmps16
  go_wp2_with fail
  generalize w.alloc (.cells #[.int .i64 x, .int .i64 y, .int .i64 u, .int .i64 v, .int .i64 h, .int .i64 c] 28) = W0 at *
  have AN0 := Lib.hid (Below.refl W0.heap.size W0)
  refine (T0.out W0).mono ?_
  rintro e V1 ⟨rfl, hb1⟩
  have AN1 := Lib.hid (AN0.out.trans (hb1.mono AN0.out.size))
  clear hb1 AN0
  have m0_ : V1.cell? ⟨w.heap.size, 0, none⟩ = some (.int .i64 x) := (S0.out.old AN1.out).cell 0
  have m1_ : V1.cell? ⟨w.heap.size, 1, none⟩ = some (.int .i64 y) := (S0.out.old AN1.out).cell 1
  have m2_ : V1.cell? ⟨w.heap.size, 2, none⟩ = some (.int .i64 u) := (S0.out.old AN1.out).cell 2
  have m3_ : V1.cell? ⟨w.heap.size, 3, none⟩ = some (.int .i64 v) := (S0.out.old AN1.out).cell 3
  have m4_ : V1.cell? ⟨w.heap.size, 4, none⟩ = some (.int .i64 h) := (S0.out.old AN1.out).cell 4
  have m5_ : V1.cell? ⟨w.heap.size, 5, none⟩ = some (.int .i64 c) := (S0.out.old AN1.out).cell 5
  go_wp2_with fail
  clear m0_ m1_ m2_ m3_ m4_ m5_
  refine (T1.out V1).mono ?_
  rintro e w' ⟨rfl, rfl⟩
  have m0_ : V1.cell? ⟨w.heap.size, 0, none⟩ = some (.int .i64 x) := (S0.out.old AN1.out).cell 0
  have m1_ : V1.cell? ⟨w.heap.size, 1, none⟩ = some (.int .i64 y) := (S0.out.old AN1.out).cell 1
  have m2_ : V1.cell? ⟨w.heap.size, 2, none⟩ = some (.int .i64 u) := (S0.out.old AN1.out).cell 2
  have m3_ : V1.cell? ⟨w.heap.size, 3, none⟩ = some (.int .i64 v) := (S0.out.old AN1.out).cell 3
  have m4_ : V1.cell? ⟨w.heap.size, 4, none⟩ = some (.int .i64 h) := (S0.out.old AN1.out).cell 4
  have m5_ : V1.cell? ⟨w.heap.size, 5, none⟩ = some (.int .i64 c) := (S0.out.old AN1.out).cell 5
  go_wp2_with fail
  clear m0_ m1_ m2_ m3_ m4_ m5_
  refine (HT.out V1).mono ?_
  rintro e V9 ⟨rfl, hb9⟩
  have BX := Lib.hid (S0.out.1.trans ((AN1.out.trans (hb9.mono AN1.out.size)).mono S0.out.1.size))
  clear hb9
  go_wp2_with fail
  go_ret3
  exact ⟨by rw [HE.out]; rfl, BX.out⟩

set_option maxRecDepth 100000 in
set_option maxHeartbeats 2000000 in
theorem timeToHeight (x y u v h c t : Int) (w : World)  :
    Calls Try.prog 20 #[.agg #[.int .i64 x, .int .i64 y, .int .i64 u, .int .i64 v, .int .i64 h, .int .i64 c], .int .i64 t] w fun e w' => e = .returned (.tuple #[.int .i64 (twN (thB x y u v h c t) (t - h) c), .int .i64 (twD (thB x y u v h c t) (t - h) c : Int), .bool (twB (thB x y u v h c t) (t - h) c)]) ∧ Below w.heap.size w w' := by
  have S0 := Lib.hid (newS 28 #[.int .i64 x, .int .i64 y, .int .i64 u, .int .i64 v, .int .i64 h, .int .i64 c] w)
  have T0 := Lib.hid (fun W => isValidMotion x y u v h c W)
  have T1 := Lib.hid (fun W => hgti.isHeight t W)
  cases hq0 : moB x y u v h c
  · have HE := Lib.hid (show (thB x y u v h c t) = false by unfold thB; rw [hq0]; rfl)
    rw [hq0] at T0
    clear hq0
    go_enter Try.func20, Try.ntmps20
    go_wp2_with fail
    generalize w.alloc (.cells #[.int .i64 x, .int .i64 y, .int .i64 u, .int .i64 v, .int .i64 h, .int .i64 c] 28) = W0 at *
    have AN0 := Lib.hid (Below.refl W0.heap.size W0)
    refine (T0.out W0).mono ?_
    rintro e V1 ⟨rfl, hb1⟩
    have AN1 := Lib.hid (AN0.out.trans (hb1.mono AN0.out.size))
    clear hb1 AN0
    have BX := Lib.hid (S0.out.1.trans (AN1.out.mono S0.out.1.size))
    go_wp2_with fail
    go_ret3
    exact ⟨by rw [HE.out]; rfl, BX.out⟩
  rw [hq0] at T0
  cases hq1 : hB t
  · have HE := Lib.hid (show (thB x y u v h c t) = false by unfold thB; rw [hq0, hq1]; rfl)
    rw [hq1] at T1
    clear hq0 hq1
    go_enter Try.func20, Try.ntmps20
    go_wp2_with fail
    generalize w.alloc (.cells #[.int .i64 x, .int .i64 y, .int .i64 u, .int .i64 v, .int .i64 h, .int .i64 c] 28) = W0 at *
    have AN0 := Lib.hid (Below.refl W0.heap.size W0)
    refine (T0.out W0).mono ?_
    rintro e V1 ⟨rfl, hb1⟩
    have AN1 := Lib.hid (AN0.out.trans (hb1.mono AN0.out.size))
    clear hb1 AN0
    have m0_ : V1.cell? ⟨w.heap.size, 0, none⟩ = some (.int .i64 x) := (S0.out.old AN1.out).cell 0
    have m1_ : V1.cell? ⟨w.heap.size, 1, none⟩ = some (.int .i64 y) := (S0.out.old AN1.out).cell 1
    have m2_ : V1.cell? ⟨w.heap.size, 2, none⟩ = some (.int .i64 u) := (S0.out.old AN1.out).cell 2
    have m3_ : V1.cell? ⟨w.heap.size, 3, none⟩ = some (.int .i64 v) := (S0.out.old AN1.out).cell 3
    have m4_ : V1.cell? ⟨w.heap.size, 4, none⟩ = some (.int .i64 h) := (S0.out.old AN1.out).cell 4
    have m5_ : V1.cell? ⟨w.heap.size, 5, none⟩ = some (.int .i64 c) := (S0.out.old AN1.out).cell 5
    go_wp2_with fail
    clear m0_ m1_ m2_ m3_ m4_ m5_
    refine (T1.out V1).mono ?_
    rintro e w' ⟨rfl, rfl⟩
    have BX := Lib.hid (S0.out.1.trans (AN1.out.mono S0.out.1.size))
    go_wp2_with fail
    go_ret3
    exact ⟨by rw [HE.out]; rfl, BX.out⟩
  rw [hq1] at T1
  have HE := Lib.hid (show (thB x y u v h c t) = true by unfold thB; rw [hq0, hq1]; rfl)
  obtain ⟨hx, hy, hu, hv, hh, hc⟩ := mo_in hq0
  have ht : -2000 ≤ t ∧ t ≤ 130000 := of_decide_eq_true hq1
  have HT := Lib.hid (fun W => timeOfChange (t - h) c W (by omega) (by omega))
  have e9 : IntKind.i64.wrap (t - h) = t - h := IntWalk.i64_in _ (by omega)
  clear hq0 hq1
  go_enter Try.func20, Try.ntmps20
  go_wp2_with fail
  generalize w.alloc (.cells #[.int .i64 x, .int .i64 y, .int .i64 u, .int .i64 v, .int .i64 h, .int .i64 c] 28) = W0 at *
  have AN0 := Lib.hid (Below.refl W0.heap.size W0)
  refine (T0.out W0).mono ?_
  rintro e V1 ⟨rfl, hb1⟩
  have AN1 := Lib.hid (AN0.out.trans (hb1.mono AN0.out.size))
  clear hb1 AN0
  have m0_ : V1.cell? ⟨w.heap.size, 0, none⟩ = some (.int .i64 x) := (S0.out.old AN1.out).cell 0
  have m1_ : V1.cell? ⟨w.heap.size, 1, none⟩ = some (.int .i64 y) := (S0.out.old AN1.out).cell 1
  have m2_ : V1.cell? ⟨w.heap.size, 2, none⟩ = some (.int .i64 u) := (S0.out.old AN1.out).cell 2
  have m3_ : V1.cell? ⟨w.heap.size, 3, none⟩ = some (.int .i64 v) := (S0.out.old AN1.out).cell 3
  have m4_ : V1.cell? ⟨w.heap.size, 4, none⟩ = some (.int .i64 h) := (S0.out.old AN1.out).cell 4
  have m5_ : V1.cell? ⟨w.heap.size, 5, none⟩ = some (.int .i64 c) := (S0.out.old AN1.out).cell 5
  go_wp2_with fail
  clear m0_ m1_ m2_ m3_ m4_ m5_
  refine (T1.out V1).mono ?_
  rintro e w' ⟨rfl, rfl⟩
  have m0_ : V1.cell? ⟨w.heap.size, 0, none⟩ = some (.int .i64 x) := (S0.out.old AN1.out).cell 0
  have m1_ : V1.cell? ⟨w.heap.size, 1, none⟩ = some (.int .i64 y) := (S0.out.old AN1.out).cell 1
  have m2_ : V1.cell? ⟨w.heap.size, 2, none⟩ = some (.int .i64 u) := (S0.out.old AN1.out).cell 2
  have m3_ : V1.cell? ⟨w.heap.size, 3, none⟩ = some (.int .i64 v) := (S0.out.old AN1.out).cell 3
  have m4_ : V1.cell? ⟨w.heap.size, 4, none⟩ = some (.int .i64 h) := (S0.out.old AN1.out).cell 4
  have m5_ : V1.cell? ⟨w.heap.size, 5, none⟩ = some (.int .i64 c) := (S0.out.old AN1.out).cell 5
  go_wp2_with fail
  clear m0_ m1_ m2_ m3_ m4_ m5_
  refine (HT.out V1).mono ?_
  rintro e V9 ⟨rfl, hb9⟩
  have BX := Lib.hid (S0.out.1.trans ((AN1.out.trans (hb9.mono AN1.out.size)).mono S0.out.1.size))
  clear hb9
  go_wp2_with fail
  go_ret3
  exact ⟨by rw [HE.out]; rfl, BX.out⟩

set_option maxRecDepth 100000 in
set_option maxHeartbeats 2000000 in
theorem courseLine (x y u v h c p q : Int) (w : World)  :
    Calls Try.prog 37 #[.agg #[.int .i64 x, .int .i64 y, .int .i64 u, .int .i64 v, .int .i64 h, .int .i64 c], .agg #[.int .i64 p, .int .i64 q]] w fun e w' => e = .returned (.tuple #[.int .i64 (clV x y u v h c p q), .bool (clB x y u v h c p q)]) ∧ Below w.heap.size w w' := by
  have S0 := Lib.hid ((newS 28 #[.int .i64 x, .int .i64 y, .int .i64 u, .int .i64 v, .int .i64 h, .int .i64 c] w).alloc (.cells #[.int .i64 p, .int .i64 q] 25))
  have S1 := Lib.hid ((newS 28 #[.int .i64 x, .int .i64 y, .int .i64 u, .int .i64 v, .int .i64 h, .int .i64 c] w).next 25 #[.int .i64 p, .int .i64 q])
  rw [World.size_alloc] at S1
  have T0 := Lib.hid (fun W => isValidMotion x y u v h c W)
  have T1 := Lib.hid (fun W => veli.isMoving u v W)
  have T2 := Lib.hid (fun W => posj.isValidPlace p q W)
  cases hq0 : moB x y u v h c
  · have HE := Lib.hid (show clB x y u v h c p q = false by unfold clB; rw [hq0]; simp)
    rw [hq0] at T0
    clear hq0
    go_enter Try.func37, Try.ntmps37
    go_wp2_with fail
    generalize (w.alloc (.cells #[.int .i64 x, .int .i64 y, .int .i64 u, .int .i64 v, .int .i64 h, .int .i64 c] 28)).alloc (.cells #[.int .i64 p, .int .i64 q] 25) = W0 at *
    have AN0 := Lib.hid (Below.refl W0.heap.size W0)
    refine (T0.out W0).mono ?_
    rintro e V1 ⟨rfl, hb1⟩
    have AN1 := Lib.hid (AN0.out.trans (hb1.mono AN0.out.size))
    clear hb1 AN0
    have BX := Lib.hid (S0.out.1.trans (AN1.out.mono S0.out.1.size))
    go_wp2_with fail
    go_ret2
    exact ⟨by rw [cl_no HE.out, HE.out]; rfl, BX.out⟩
  rw [hq0] at T0
  cases hq1 : mB u v
  · have HE := Lib.hid (show clB x y u v h c p q = false by unfold clB; rw [hq1]; simp)
    rw [hq1] at T1
    clear hq0 hq1
    go_enter Try.func37, Try.ntmps37
    go_wp2_with fail
    generalize (w.alloc (.cells #[.int .i64 x, .int .i64 y, .int .i64 u, .int .i64 v, .int .i64 h, .int .i64 c] 28)).alloc (.cells #[.int .i64 p, .int .i64 q] 25) = W0 at *
    have AN0 := Lib.hid (Below.refl W0.heap.size W0)
    refine (T0.out W0).mono ?_
    rintro e V1 ⟨rfl, hb1⟩
    have AN1 := Lib.hid (AN0.out.trans (hb1.mono AN0.out.size))
    clear hb1 AN0
    have m0_ : V1.cell? ⟨w.heap.size, 0, none⟩ = some (.int .i64 x) := (S0.out.old AN1.out).cell 0
    have m1_ : V1.cell? ⟨w.heap.size, 1, none⟩ = some (.int .i64 y) := (S0.out.old AN1.out).cell 1
    have m2_ : V1.cell? ⟨w.heap.size, 2, none⟩ = some (.int .i64 u) := (S0.out.old AN1.out).cell 2
    have m3_ : V1.cell? ⟨w.heap.size, 3, none⟩ = some (.int .i64 v) := (S0.out.old AN1.out).cell 3
    have m4_ : V1.cell? ⟨w.heap.size, 4, none⟩ = some (.int .i64 h) := (S0.out.old AN1.out).cell 4
    have m5_ : V1.cell? ⟨w.heap.size, 5, none⟩ = some (.int .i64 c) := (S0.out.old AN1.out).cell 5
    have p0_ : V1.cell? ⟨w.heap.size + 1, 0, none⟩ = some (.int .i64 p) := (S1.out.old AN1.out).cell 0
    have p1_ : V1.cell? ⟨w.heap.size + 1, 1, none⟩ = some (.int .i64 q) := (S1.out.old AN1.out).cell 1
    go_wp2_with fail
    clear m0_ m1_ m2_ m3_ m4_ m5_ p0_ p1_
    refine (T1.out V1).mono ?_
    rintro e V2 ⟨rfl, hb2⟩
    have AN2 := Lib.hid (AN1.out.trans (hb2.mono AN1.out.size))
    clear hb2 AN1
    have BX := Lib.hid (S0.out.1.trans (AN2.out.mono S0.out.1.size))
    go_wp2_with fail
    go_ret2
    exact ⟨by rw [cl_no HE.out, HE.out]; rfl, BX.out⟩
  rw [hq1] at T1
  cases hq2 : pB p q
  · have HE := Lib.hid (show clB x y u v h c p q = false by unfold clB; rw [hq2]; simp)
    rw [hq2] at T2
    clear hq0 hq1 hq2
    go_enter Try.func37, Try.ntmps37
    go_wp2_with fail
    generalize (w.alloc (.cells #[.int .i64 x, .int .i64 y, .int .i64 u, .int .i64 v, .int .i64 h, .int .i64 c] 28)).alloc (.cells #[.int .i64 p, .int .i64 q] 25) = W0 at *
    have AN0 := Lib.hid (Below.refl W0.heap.size W0)
    refine (T0.out W0).mono ?_
    rintro e V1 ⟨rfl, hb1⟩
    have AN1 := Lib.hid (AN0.out.trans (hb1.mono AN0.out.size))
    clear hb1 AN0
    have m0_ : V1.cell? ⟨w.heap.size, 0, none⟩ = some (.int .i64 x) := (S0.out.old AN1.out).cell 0
    have m1_ : V1.cell? ⟨w.heap.size, 1, none⟩ = some (.int .i64 y) := (S0.out.old AN1.out).cell 1
    have m2_ : V1.cell? ⟨w.heap.size, 2, none⟩ = some (.int .i64 u) := (S0.out.old AN1.out).cell 2
    have m3_ : V1.cell? ⟨w.heap.size, 3, none⟩ = some (.int .i64 v) := (S0.out.old AN1.out).cell 3
    have m4_ : V1.cell? ⟨w.heap.size, 4, none⟩ = some (.int .i64 h) := (S0.out.old AN1.out).cell 4
    have m5_ : V1.cell? ⟨w.heap.size, 5, none⟩ = some (.int .i64 c) := (S0.out.old AN1.out).cell 5
    have p0_ : V1.cell? ⟨w.heap.size + 1, 0, none⟩ = some (.int .i64 p) := (S1.out.old AN1.out).cell 0
    have p1_ : V1.cell? ⟨w.heap.size + 1, 1, none⟩ = some (.int .i64 q) := (S1.out.old AN1.out).cell 1
    go_wp2_with fail
    clear m0_ m1_ m2_ m3_ m4_ m5_ p0_ p1_
    refine (T1.out V1).mono ?_
    rintro e V2 ⟨rfl, hb2⟩
    have AN2 := Lib.hid (AN1.out.trans (hb2.mono AN1.out.size))
    clear hb2 AN1
    have m0_ : V2.cell? ⟨w.heap.size, 0, none⟩ = some (.int .i64 x) := (S0.out.old AN2.out).cell 0
    have m1_ : V2.cell? ⟨w.heap.size, 1, none⟩ = some (.int .i64 y) := (S0.out.old AN2.out).cell 1
    have m2_ : V2.cell? ⟨w.heap.size, 2, none⟩ = some (.int .i64 u) := (S0.out.old AN2.out).cell 2
    have m3_ : V2.cell? ⟨w.heap.size, 3, none⟩ = some (.int .i64 v) := (S0.out.old AN2.out).cell 3
    have m4_ : V2.cell? ⟨w.heap.size, 4, none⟩ = some (.int .i64 h) := (S0.out.old AN2.out).cell 4
    have m5_ : V2.cell? ⟨w.heap.size, 5, none⟩ = some (.int .i64 c) := (S0.out.old AN2.out).cell 5
    have p0_ : V2.cell? ⟨w.heap.size + 1, 0, none⟩ = some (.int .i64 p) := (S1.out.old AN2.out).cell 0
    have p1_ : V2.cell? ⟨w.heap.size + 1, 1, none⟩ = some (.int .i64 q) := (S1.out.old AN2.out).cell 1
    go_wp2_with fail
    clear m0_ m1_ m2_ m3_ m4_ m5_ p0_ p1_
    refine (T2.out V2).mono ?_
    rintro e V3 ⟨rfl, hb3⟩
    have AN3 := Lib.hid (AN2.out.trans (hb3.mono AN2.out.size))
    clear hb3 AN2
    have BX := Lib.hid (S0.out.1.trans (AN3.out.mono S0.out.1.size))
    go_wp2_with fail
    go_ret2
    exact ⟨by rw [cl_no HE.out, HE.out]; rfl, BX.out⟩
  rw [hq2] at T2
  have HE := Lib.hid (show clB x y u v h c p q = true by unfold clB; rw [hq0, hq1, hq2]; rfl)
  have HV := Lib.hid (cl_yes HE.out)
  obtain ⟨hx, hy, hu, hv, -, -⟩ := mo_in hq0
  obtain ⟨hp, hq⟩ := pB_yes hq2
  have b1 := mul_le (a := v) (b := p - x) (M := 200) (N := 9899) hv ⟨by omega, by omega⟩
  have b2 := mul_le (a := u) (b := q - y) (M := 200) (N := 9899) hu ⟨by omega, by omega⟩
  unfold crs at HV
  have e1 : IntKind.i64.wrap (p - x) = p - x := IntWalk.i64_in _ (by omega)
  have e2 : IntKind.i64.wrap (q - y) = q - y := IntWalk.i64_in _ (by omega)
  generalize hA : p - x = A at *
  generalize hB' : q - y = B at *
  generalize hP : v * A = R at *
  generalize hQ : u * B = Q at *
  have e3 : IntKind.i64.wrap R = R := IntWalk.i64_in _ (by omega)
  have e4 : IntKind.i64.wrap Q = Q := IntWalk.i64_in _ (by omega)
  have e5 : IntKind.i64.wrap (R - Q) = R - Q := IntWalk.i64_in _ (by omega)
  clear hq0 hq1 hq2
  go_enter Try.func37, Try.ntmps37
  go_wp2_with fail
  generalize (w.alloc (.cells #[.int .i64 x, .int .i64 y, .int .i64 u, .int .i64 v, .int .i64 h, .int .i64 c] 28)).alloc (.cells #[.int .i64 p, .int .i64 q] 25) = W0 at *
  have AN0 := Lib.hid (Below.refl W0.heap.size W0)
  refine (T0.out W0).mono ?_
  rintro e V1 ⟨rfl, hb1⟩
  have AN1 := Lib.hid (AN0.out.trans (hb1.mono AN0.out.size))
  clear hb1 AN0
  have m0_ : V1.cell? ⟨w.heap.size, 0, none⟩ = some (.int .i64 x) := (S0.out.old AN1.out).cell 0
  have m1_ : V1.cell? ⟨w.heap.size, 1, none⟩ = some (.int .i64 y) := (S0.out.old AN1.out).cell 1
  have m2_ : V1.cell? ⟨w.heap.size, 2, none⟩ = some (.int .i64 u) := (S0.out.old AN1.out).cell 2
  have m3_ : V1.cell? ⟨w.heap.size, 3, none⟩ = some (.int .i64 v) := (S0.out.old AN1.out).cell 3
  have m4_ : V1.cell? ⟨w.heap.size, 4, none⟩ = some (.int .i64 h) := (S0.out.old AN1.out).cell 4
  have m5_ : V1.cell? ⟨w.heap.size, 5, none⟩ = some (.int .i64 c) := (S0.out.old AN1.out).cell 5
  have p0_ : V1.cell? ⟨w.heap.size + 1, 0, none⟩ = some (.int .i64 p) := (S1.out.old AN1.out).cell 0
  have p1_ : V1.cell? ⟨w.heap.size + 1, 1, none⟩ = some (.int .i64 q) := (S1.out.old AN1.out).cell 1
  go_wp2_with fail
  clear m0_ m1_ m2_ m3_ m4_ m5_ p0_ p1_
  refine (T1.out V1).mono ?_
  rintro e V2 ⟨rfl, hb2⟩
  have AN2 := Lib.hid (AN1.out.trans (hb2.mono AN1.out.size))
  clear hb2 AN1
  have m0_ : V2.cell? ⟨w.heap.size, 0, none⟩ = some (.int .i64 x) := (S0.out.old AN2.out).cell 0
  have m1_ : V2.cell? ⟨w.heap.size, 1, none⟩ = some (.int .i64 y) := (S0.out.old AN2.out).cell 1
  have m2_ : V2.cell? ⟨w.heap.size, 2, none⟩ = some (.int .i64 u) := (S0.out.old AN2.out).cell 2
  have m3_ : V2.cell? ⟨w.heap.size, 3, none⟩ = some (.int .i64 v) := (S0.out.old AN2.out).cell 3
  have m4_ : V2.cell? ⟨w.heap.size, 4, none⟩ = some (.int .i64 h) := (S0.out.old AN2.out).cell 4
  have m5_ : V2.cell? ⟨w.heap.size, 5, none⟩ = some (.int .i64 c) := (S0.out.old AN2.out).cell 5
  have p0_ : V2.cell? ⟨w.heap.size + 1, 0, none⟩ = some (.int .i64 p) := (S1.out.old AN2.out).cell 0
  have p1_ : V2.cell? ⟨w.heap.size + 1, 1, none⟩ = some (.int .i64 q) := (S1.out.old AN2.out).cell 1
  go_wp2_with fail
  clear m0_ m1_ m2_ m3_ m4_ m5_ p0_ p1_
  refine (T2.out V2).mono ?_
  rintro e V3 ⟨rfl, hb3⟩
  have AN3 := Lib.hid (AN2.out.trans (hb3.mono AN2.out.size))
  clear hb3 AN2
  have m0_ : V3.cell? ⟨w.heap.size, 0, none⟩ = some (.int .i64 x) := (S0.out.old AN3.out).cell 0
  have m1_ : V3.cell? ⟨w.heap.size, 1, none⟩ = some (.int .i64 y) := (S0.out.old AN3.out).cell 1
  have m2_ : V3.cell? ⟨w.heap.size, 2, none⟩ = some (.int .i64 u) := (S0.out.old AN3.out).cell 2
  have m3_ : V3.cell? ⟨w.heap.size, 3, none⟩ = some (.int .i64 v) := (S0.out.old AN3.out).cell 3
  have m4_ : V3.cell? ⟨w.heap.size, 4, none⟩ = some (.int .i64 h) := (S0.out.old AN3.out).cell 4
  have m5_ : V3.cell? ⟨w.heap.size, 5, none⟩ = some (.int .i64 c) := (S0.out.old AN3.out).cell 5
  have p0_ : V3.cell? ⟨w.heap.size + 1, 0, none⟩ = some (.int .i64 p) := (S1.out.old AN3.out).cell 0
  have p1_ : V3.cell? ⟨w.heap.size + 1, 1, none⟩ = some (.int .i64 q) := (S1.out.old AN3.out).cell 1
  by_cases s1 : Q - R < 0
  · have HS := Lib.hid (show clS (Q - R) = 1 by unfold clS; rw [if_pos (by omega)])
    have BX := Lib.hid (S0.out.1.trans (AN3.out.mono S0.out.1.size))
    go_wp2_with fail
    go_ret2
    exact ⟨by rw [HV.out, HS.out, HE.out]; rfl, BX.out⟩
  · by_cases s2 : 0 < Q - R
    · have HS := Lib.hid (show clS (Q - R) = 2 by unfold clS; rw [if_neg (by omega), if_pos (by omega)])
      have BX := Lib.hid (S0.out.1.trans (AN3.out.mono S0.out.1.size))
      go_wp2_with fail
      go_ret2
      exact ⟨by rw [HV.out, HS.out, HE.out]; rfl, BX.out⟩
    · have HS := Lib.hid (show clS (Q - R) = 0 by unfold clS; rw [if_neg (by omega), if_neg (by omega)])
      have BX := Lib.hid (S0.out.1.trans (AN3.out.mono S0.out.1.size))
      go_wp2_with fail
      go_ret2
      exact ⟨by rw [HV.out, HS.out, HE.out]; rfl, BX.out⟩

end Go.Proofs.Ytinkkdgjpcnklaa.mota
