/- spec's chapter 16 but PathCells. -/
import Derived.Test.YtinkkdgjpcnklaaMot
import Derived.Test.YtinkkdgjpcnklaaMotR
import Derived.Test.YtinkkdgjpcnklaaPosS
import Derived.Test.YtinkkdgjpcnklaaVelS
import Derived.Test.YtinkkdgjpcnklaaHgtS
import Derived.BigQuiet
import Derived.Deep.QuietTactic
import Derived.OwnWalk
namespace Go.Proofs.Ytinkkdgjpcnklaa.mots
open Go.RowKit Go.Proofs.Ytinkkdgjpcnklaa.in_ Go.Proofs.Ytinkkdgjpcnklaa.ats Go.Proofs.Ytinkkdgjpcnklaa.pos Go.Proofs.Ytinkkdgjpcnklaa.vel Go.Proofs.Ytinkkdgjpcnklaa.hgt Go.Proofs.Ytinkkdgjpcnklaa.mot

set_option maxRecDepth 100000 in
set_option maxHeartbeats 2000000 in
theorem good16 (x y u v h c : Int) (w : World) :
    Calls Try.prog 52 #[.agg #[.int .i64 x, .int .i64 y, .int .i64 u, .int .i64 v, .int .i64 h, .int .i64 c]] w fun e w' => e = .returned (.bool (moB x y u v h c)) ∧ Below w.heap.size w w' := by
  have S0 := Lib.hid (newS 28 #[.int .i64 x, .int .i64 y, .int .i64 u, .int .i64 v, .int .i64 h, .int .i64 c] w)
  have T0 := Lib.hid (fun W => poss.good7 x y W)
  have T1 := Lib.hid (fun W => vels.good8 u v W)
  have T2 := Lib.hid (fun W => hgts.isHeight h W)
  have T3 := Lib.hid (fun W => l1In c (-6000) 6000 W)
  have HM := Lib.hid (show moB x y u v h c = (pB x y && (vB u v && (hB h && isIn c (-6000) 6000))) from rfl)
  generalize pB x y = b0 at *
  generalize vB u v = b1 at *
  generalize hB h = b2 at *
  generalize isIn c (-6000) 6000 = b3 at *
  cases b0
  · go_enter Try.func52, Try.ntmps52
    go_wp2_with fail
    generalize w.alloc (.cells #[.int .i64 x, .int .i64 y, .int .i64 u, .int .i64 v, .int .i64 h, .int .i64 c] 28) = W0 at *
    have AN0 := Lib.hid (Below.refl W0.heap.size W0)
    refine (T0.out W0).mono ?_
    rintro e V1 ⟨rfl, hb1⟩
    have AN1 := Lib.hid (AN0.out.trans (hb1.mono AN0.out.size))
    clear hb1 AN0
    have BX := Lib.hid (S0.out.1.trans (AN1.out.mono S0.out.1.size))
    go_wp2_with fail
    go_ret
    exact ⟨by rw [HM.out]; rfl, BX.out⟩
  cases b1
  · go_enter Try.func52, Try.ntmps52
    go_wp2_with fail
    generalize w.alloc (.cells #[.int .i64 x, .int .i64 y, .int .i64 u, .int .i64 v, .int .i64 h, .int .i64 c] 28) = W0 at *
    have AN0 := Lib.hid (Below.refl W0.heap.size W0)
    refine (T0.out W0).mono ?_
    rintro e V1 ⟨rfl, hb1⟩
    have AN1 := Lib.hid (AN0.out.trans (hb1.mono AN0.out.size))
    clear hb1 AN0
    have m0_ : V1.cell? ⟨w.heap.size, 0, none⟩ = some (.int .i64 x) := (S0.out.old AN1.out).cell 0
    have m1_ : V1.cell? ⟨w.heap.size, 1, none⟩ = some (.int .i64 y) := (S0.out.old AN1.out).cell 1
    have m2_ : V1.cell? ⟨w.heap.size, 2, none⟩ = some (.int .i64 u) := (S0.out.old AN1.out).cell 2
    have m3_ : V1.cell? ⟨w.heap.size, 3, none⟩ = some (.int .i64 v) := (S0.out.old AN1.out).cell 3
    have m4_ : V1.cell? ⟨w.heap.size, 4, none⟩ = some (.int .i64 h) := (S0.out.old AN1.out).cell 4
    have m5_ : V1.cell? ⟨w.heap.size, 5, none⟩ = some (.int .i64 c) := (S0.out.old AN1.out).cell 5
    go_wp2_with fail
    clear m0_ m1_ m2_ m3_ m4_ m5_
    refine (T1.out V1).mono ?_
    rintro e V2 ⟨rfl, hb2⟩
    have AN2 := Lib.hid (AN1.out.trans (hb2.mono AN1.out.size))
    clear hb2 AN1
    have BX := Lib.hid (S0.out.1.trans (AN2.out.mono S0.out.1.size))
    go_wp2_with fail
    go_ret
    exact ⟨by rw [HM.out]; rfl, BX.out⟩
  cases b2
  · go_enter Try.func52, Try.ntmps52
    go_wp2_with fail
    generalize w.alloc (.cells #[.int .i64 x, .int .i64 y, .int .i64 u, .int .i64 v, .int .i64 h, .int .i64 c] 28) = W0 at *
    have AN0 := Lib.hid (Below.refl W0.heap.size W0)
    refine (T0.out W0).mono ?_
    rintro e V1 ⟨rfl, hb1⟩
    have AN1 := Lib.hid (AN0.out.trans (hb1.mono AN0.out.size))
    clear hb1 AN0
    have m0_ : V1.cell? ⟨w.heap.size, 0, none⟩ = some (.int .i64 x) := (S0.out.old AN1.out).cell 0
    have m1_ : V1.cell? ⟨w.heap.size, 1, none⟩ = some (.int .i64 y) := (S0.out.old AN1.out).cell 1
    have m2_ : V1.cell? ⟨w.heap.size, 2, none⟩ = some (.int .i64 u) := (S0.out.old AN1.out).cell 2
    have m3_ : V1.cell? ⟨w.heap.size, 3, none⟩ = some (.int .i64 v) := (S0.out.old AN1.out).cell 3
    have m4_ : V1.cell? ⟨w.heap.size, 4, none⟩ = some (.int .i64 h) := (S0.out.old AN1.out).cell 4
    have m5_ : V1.cell? ⟨w.heap.size, 5, none⟩ = some (.int .i64 c) := (S0.out.old AN1.out).cell 5
    go_wp2_with fail
    clear m0_ m1_ m2_ m3_ m4_ m5_
    refine (T1.out V1).mono ?_
    rintro e V2 ⟨rfl, hb2⟩
    have AN2 := Lib.hid (AN1.out.trans (hb2.mono AN1.out.size))
    clear hb2 AN1
    have m0_ : V2.cell? ⟨w.heap.size, 0, none⟩ = some (.int .i64 x) := (S0.out.old AN2.out).cell 0
    have m1_ : V2.cell? ⟨w.heap.size, 1, none⟩ = some (.int .i64 y) := (S0.out.old AN2.out).cell 1
    have m2_ : V2.cell? ⟨w.heap.size, 2, none⟩ = some (.int .i64 u) := (S0.out.old AN2.out).cell 2
    have m3_ : V2.cell? ⟨w.heap.size, 3, none⟩ = some (.int .i64 v) := (S0.out.old AN2.out).cell 3
    have m4_ : V2.cell? ⟨w.heap.size, 4, none⟩ = some (.int .i64 h) := (S0.out.old AN2.out).cell 4
    have m5_ : V2.cell? ⟨w.heap.size, 5, none⟩ = some (.int .i64 c) := (S0.out.old AN2.out).cell 5
    go_wp2_with fail
    clear m0_ m1_ m2_ m3_ m4_ m5_
    refine (T2.out V2).mono ?_
    rintro e w' ⟨rfl, rfl⟩
    have BX := Lib.hid (S0.out.1.trans (AN2.out.mono S0.out.1.size))
    go_wp2_with fail
    go_ret
    exact ⟨by rw [HM.out]; rfl, BX.out⟩
  go_enter Try.func52, Try.ntmps52
  go_wp2_with fail
  generalize w.alloc (.cells #[.int .i64 x, .int .i64 y, .int .i64 u, .int .i64 v, .int .i64 h, .int .i64 c] 28) = W0 at *
  have AN0 := Lib.hid (Below.refl W0.heap.size W0)
  refine (T0.out W0).mono ?_
  rintro e V1 ⟨rfl, hb1⟩
  have AN1 := Lib.hid (AN0.out.trans (hb1.mono AN0.out.size))
  clear hb1 AN0
  have m0_ : V1.cell? ⟨w.heap.size, 0, none⟩ = some (.int .i64 x) := (S0.out.old AN1.out).cell 0
  have m1_ : V1.cell? ⟨w.heap.size, 1, none⟩ = some (.int .i64 y) := (S0.out.old AN1.out).cell 1
  have m2_ : V1.cell? ⟨w.heap.size, 2, none⟩ = some (.int .i64 u) := (S0.out.old AN1.out).cell 2
  have m3_ : V1.cell? ⟨w.heap.size, 3, none⟩ = some (.int .i64 v) := (S0.out.old AN1.out).cell 3
  have m4_ : V1.cell? ⟨w.heap.size, 4, none⟩ = some (.int .i64 h) := (S0.out.old AN1.out).cell 4
  have m5_ : V1.cell? ⟨w.heap.size, 5, none⟩ = some (.int .i64 c) := (S0.out.old AN1.out).cell 5
  go_wp2_with fail
  clear m0_ m1_ m2_ m3_ m4_ m5_
  refine (T1.out V1).mono ?_
  rintro e V2 ⟨rfl, hb2⟩
  have AN2 := Lib.hid (AN1.out.trans (hb2.mono AN1.out.size))
  clear hb2 AN1
  have m0_ : V2.cell? ⟨w.heap.size, 0, none⟩ = some (.int .i64 x) := (S0.out.old AN2.out).cell 0
  have m1_ : V2.cell? ⟨w.heap.size, 1, none⟩ = some (.int .i64 y) := (S0.out.old AN2.out).cell 1
  have m2_ : V2.cell? ⟨w.heap.size, 2, none⟩ = some (.int .i64 u) := (S0.out.old AN2.out).cell 2
  have m3_ : V2.cell? ⟨w.heap.size, 3, none⟩ = some (.int .i64 v) := (S0.out.old AN2.out).cell 3
  have m4_ : V2.cell? ⟨w.heap.size, 4, none⟩ = some (.int .i64 h) := (S0.out.old AN2.out).cell 4
  have m5_ : V2.cell? ⟨w.heap.size, 5, none⟩ = some (.int .i64 c) := (S0.out.old AN2.out).cell 5
  go_wp2_with fail
  clear m0_ m1_ m2_ m3_ m4_ m5_
  refine (T2.out V2).mono ?_
  rintro e w' ⟨rfl, rfl⟩
  have m0_ : V2.cell? ⟨w.heap.size, 0, none⟩ = some (.int .i64 x) := (S0.out.old AN2.out).cell 0
  have m1_ : V2.cell? ⟨w.heap.size, 1, none⟩ = some (.int .i64 y) := (S0.out.old AN2.out).cell 1
  have m2_ : V2.cell? ⟨w.heap.size, 2, none⟩ = some (.int .i64 u) := (S0.out.old AN2.out).cell 2
  have m3_ : V2.cell? ⟨w.heap.size, 3, none⟩ = some (.int .i64 v) := (S0.out.old AN2.out).cell 3
  have m4_ : V2.cell? ⟨w.heap.size, 4, none⟩ = some (.int .i64 h) := (S0.out.old AN2.out).cell 4
  have m5_ : V2.cell? ⟨w.heap.size, 5, none⟩ = some (.int .i64 c) := (S0.out.old AN2.out).cell 5
  go_wp2_with fail
  clear m0_ m1_ m2_ m3_ m4_ m5_
  refine (T3.out V2).mono ?_
  rintro e w' ⟨rfl, rfl⟩
  have BX := Lib.hid (S0.out.1.trans (AN2.out.mono S0.out.1.size))
  go_wp2_with fail
  go_ret
  exact ⟨by rw [HM.out]; rfl, BX.out⟩

theorem time16 (n d : Int) (w : World) :
    Calls Try.prog 64 #[.int .i64 n, .int .i64 d] w fun e w' => e = .returned (.bool (tmB n d)) ∧ w = w' := by
  have T0 := Lib.hid (fun W => l1In d 1 1000 W)
  have T1 := Lib.hid (fun W => l1In n 0 (60 * d) W)
  have HM := Lib.hid (show tmB n d = (isIn d 1 1000 && isIn n 0 (60 * d)) from rfl)
  cases h0 : isIn d 1 1000
  · rw [h0] at T0 HM
    clear h0
    go_enter Try.func64, Try.ntmps64
    go_wp2_with fail
    refine (T0.out _).mono ?_
    rintro e w' ⟨rfl, rfl⟩
    go_wp2_with fail
    go_ret
    exact ⟨by rw [HM.out]; rfl, rfl⟩
  · have hd := isIn_yes h0
    have hw : IntKind.i64.wrap (60 * d) = 60 * d := IntWalk.i64_in _ (by omega)
    rw [h0] at T0 HM
    clear h0
    generalize isIn n 0 (60 * d) = b at *
    go_enter Try.func64, Try.ntmps64
    go_wp2_with fail
    refine (T0.out _).mono ?_
    rintro e w' ⟨rfl, rfl⟩
    go_wp2_with fail
    refine (T1.out _).mono ?_
    rintro e w' ⟨rfl, rfl⟩
    go_wp2_with fail
    go_ret
    exact ⟨by rw [HM.out]; rfl, rfl⟩

set_option maxRecDepth 100000 in
set_option maxHeartbeats 2000000 in
theorem isValidMotion (x y u v h c : Int) (w : World) :
    Calls Try.prog 29 #[.agg #[.int .i64 x, .int .i64 y, .int .i64 u, .int .i64 v, .int .i64 h, .int .i64 c]] w fun e w' => e = .returned (.bool (moB x y u v h c)) ∧ Below w.heap.size w w' := by
  have S0 := Lib.hid (newS 28 #[.int .i64 x, .int .i64 y, .int .i64 u, .int .i64 v, .int .i64 h, .int .i64 c] w)
  have T0 := Lib.hid (fun W => good16 x y u v h c W)
  generalize moB x y u v h c = b at *
  go_enter Try.func29, Try.ntmps29
  go_wp2_with fail
  generalize w.alloc (.cells #[.int .i64 x, .int .i64 y, .int .i64 u, .int .i64 v, .int .i64 h, .int .i64 c] 28) = W0 at *
  have AN0 := Lib.hid (Below.refl W0.heap.size W0)
  refine (T0.out W0).mono ?_
  rintro e V1 ⟨rfl, hb1⟩
  have AN1 := Lib.hid (AN0.out.trans (hb1.mono AN0.out.size))
  clear hb1 AN0
  have BX := Lib.hid (S0.out.1.trans (AN1.out.mono S0.out.1.size))
  go_wp2_with fail
  go_ret
  exact ⟨rfl, BX.out⟩

set_option maxRecDepth 100000 in
set_option maxHeartbeats 2000000 in
theorem placeAt (x y u v h c n d : Int) (w : World)  :
    Calls Try.prog 27 #[.agg #[.int .i64 x, .int .i64 y, .int .i64 u, .int .i64 v, .int .i64 h, .int .i64 c], .int .i64 n, .int .i64 d] w fun e w' => e = .returned (.tuple #[.int .i64 (paV x y u v h c n d x u), .int .i64 (paV x y u v h c n d y v), .int .i64 (paD x y u v h c n d), .bool (paB x y u v h c n d)]) ∧ Below w.heap.size w w' := by
  have S0 := Lib.hid (newS 28 #[.int .i64 x, .int .i64 y, .int .i64 u, .int .i64 v, .int .i64 h, .int .i64 c] w)
  have T0 := Lib.hid (fun W => good16 x y u v h c W)
  have T1 := Lib.hid (fun W => time16 n d W)
  cases hq0 : moB x y u v h c
  · have HE := Lib.hid (show paB x y u v h c n d = false by unfold paB; rw [hq0]; rfl)
    rw [hq0] at T0
    clear hq0
    go_enter Try.func27, Try.ntmps27
    go_wp2_with fail
    generalize w.alloc (.cells #[.int .i64 x, .int .i64 y, .int .i64 u, .int .i64 v, .int .i64 h, .int .i64 c] 28) = W0 at *
    have AN0 := Lib.hid (Below.refl W0.heap.size W0)
    refine (T0.out W0).mono ?_
    rintro e V1 ⟨rfl, hb1⟩
    have AN1 := Lib.hid (AN0.out.trans (hb1.mono AN0.out.size))
    clear hb1 AN0
    have BX := Lib.hid (S0.out.1.trans (AN1.out.mono S0.out.1.size))
    go_wp2_with fail
    (try simp only [Exit.inBlock, Exit.then]); refine bodyPost_ret (motr.results_tmp4 rfl _ _ _) rfl ?_
    exact ⟨by rw [(pa_no HE.out x u).1, (pa_no HE.out y v).1, (pa_no HE.out x u).2, HE.out]; rfl, BX.out⟩
  rw [hq0] at T0
  cases hq1 : tmB n d
  · have HE := Lib.hid (show paB x y u v h c n d = false by unfold paB; rw [hq0, hq1]; rfl)
    rw [hq1] at T1
    clear hq0 hq1
    go_enter Try.func27, Try.ntmps27
    go_wp2_with fail
    generalize w.alloc (.cells #[.int .i64 x, .int .i64 y, .int .i64 u, .int .i64 v, .int .i64 h, .int .i64 c] 28) = W0 at *
    have AN0 := Lib.hid (Below.refl W0.heap.size W0)
    refine (T0.out W0).mono ?_
    rintro e V1 ⟨rfl, hb1⟩
    have AN1 := Lib.hid (AN0.out.trans (hb1.mono AN0.out.size))
    clear hb1 AN0
    have m0_ : V1.cell? ⟨w.heap.size, 0, none⟩ = some (.int .i64 x) := (S0.out.old AN1.out).cell 0
    have m1_ : V1.cell? ⟨w.heap.size, 1, none⟩ = some (.int .i64 y) := (S0.out.old AN1.out).cell 1
    have m2_ : V1.cell? ⟨w.heap.size, 2, none⟩ = some (.int .i64 u) := (S0.out.old AN1.out).cell 2
    have m3_ : V1.cell? ⟨w.heap.size, 3, none⟩ = some (.int .i64 v) := (S0.out.old AN1.out).cell 3
    have m4_ : V1.cell? ⟨w.heap.size, 4, none⟩ = some (.int .i64 h) := (S0.out.old AN1.out).cell 4
    have m5_ : V1.cell? ⟨w.heap.size, 5, none⟩ = some (.int .i64 c) := (S0.out.old AN1.out).cell 5
    go_wp2_with fail
    clear m0_ m1_ m2_ m3_ m4_ m5_
    refine (T1.out V1).mono ?_
    rintro e w' ⟨rfl, rfl⟩
    have BX := Lib.hid (S0.out.1.trans (AN1.out.mono S0.out.1.size))
    go_wp2_with fail
    (try simp only [Exit.inBlock, Exit.then]); refine bodyPost_ret (motr.results_tmp4 rfl _ _ _) rfl ?_
    exact ⟨by rw [(pa_no HE.out x u).1, (pa_no HE.out y v).1, (pa_no HE.out x u).2, HE.out]; rfl, BX.out⟩
  rw [hq1] at T1
  have HE := Lib.hid (show paB x y u v h c n d = true by unfold paB; rw [hq0, hq1]; rfl)
  have HX := Lib.hid (pa_yes HE.out x u)
  have HY := Lib.hid (pa_yes HE.out y v)
  obtain ⟨hx, hy, hu, hv, -, -⟩ := mo_in hq0
  obtain ⟨x1, x2⟩ := at_in (M := 9899) (R := 200) (a := x) (r := u) hq1 ⟨by omega, hx.2⟩ hu
  obtain ⟨y1, y2⟩ := at_in (M := 9899) (R := 200) (a := y) (r := v) hq1 ⟨by omega, hy.2⟩ hv
  unfold at_ at HX HY
  generalize hP : x * d = P1 at *
  generalize hQ : u * n = Q1 at *
  generalize hR : y * d = P2 at *
  generalize hS : v * n = Q2 at *
  have e1 : IntKind.i64.wrap P1 = P1 := IntWalk.i64_in _ (by omega)
  have e2 : IntKind.i64.wrap Q1 = Q1 := IntWalk.i64_in _ (by omega)
  have e3 : IntKind.i64.wrap P2 = P2 := IntWalk.i64_in _ (by omega)
  have e4 : IntKind.i64.wrap Q2 = Q2 := IntWalk.i64_in _ (by omega)
  have e5 : IntKind.i64.wrap (P1 + Q1) = P1 + Q1 := IntWalk.i64_in _ (by omega)
  have e6 : IntKind.i64.wrap (P2 + Q2) = P2 + Q2 := IntWalk.i64_in _ (by omega)
  clear hq0 hq1 hx hy hu hv
  go_enter Try.func27, Try.ntmps27
  go_wp2_with fail
  generalize w.alloc (.cells #[.int .i64 x, .int .i64 y, .int .i64 u, .int .i64 v, .int .i64 h, .int .i64 c] 28) = W0 at *
  have AN0 := Lib.hid (Below.refl W0.heap.size W0)
  refine (T0.out W0).mono ?_
  rintro e V1 ⟨rfl, hb1⟩
  have AN1 := Lib.hid (AN0.out.trans (hb1.mono AN0.out.size))
  clear hb1 AN0
  have m0_ : V1.cell? ⟨w.heap.size, 0, none⟩ = some (.int .i64 x) := (S0.out.old AN1.out).cell 0
  have m1_ : V1.cell? ⟨w.heap.size, 1, none⟩ = some (.int .i64 y) := (S0.out.old AN1.out).cell 1
  have m2_ : V1.cell? ⟨w.heap.size, 2, none⟩ = some (.int .i64 u) := (S0.out.old AN1.out).cell 2
  have m3_ : V1.cell? ⟨w.heap.size, 3, none⟩ = some (.int .i64 v) := (S0.out.old AN1.out).cell 3
  have m4_ : V1.cell? ⟨w.heap.size, 4, none⟩ = some (.int .i64 h) := (S0.out.old AN1.out).cell 4
  have m5_ : V1.cell? ⟨w.heap.size, 5, none⟩ = some (.int .i64 c) := (S0.out.old AN1.out).cell 5
  go_wp2_with fail
  clear m0_ m1_ m2_ m3_ m4_ m5_
  refine (T1.out V1).mono ?_
  rintro e w' ⟨rfl, rfl⟩
  have m0_ : V1.cell? ⟨w.heap.size, 0, none⟩ = some (.int .i64 x) := (S0.out.old AN1.out).cell 0
  have m1_ : V1.cell? ⟨w.heap.size, 1, none⟩ = some (.int .i64 y) := (S0.out.old AN1.out).cell 1
  have m2_ : V1.cell? ⟨w.heap.size, 2, none⟩ = some (.int .i64 u) := (S0.out.old AN1.out).cell 2
  have m3_ : V1.cell? ⟨w.heap.size, 3, none⟩ = some (.int .i64 v) := (S0.out.old AN1.out).cell 3
  have m4_ : V1.cell? ⟨w.heap.size, 4, none⟩ = some (.int .i64 h) := (S0.out.old AN1.out).cell 4
  have m5_ : V1.cell? ⟨w.heap.size, 5, none⟩ = some (.int .i64 c) := (S0.out.old AN1.out).cell 5
  have BX := Lib.hid (S0.out.1.trans (AN1.out.mono S0.out.1.size))
  go_wp2_with fail
  go_quiet (fail)
  go_wp2_with fail
  (try simp only [Exit.inBlock, Exit.then]); refine bodyPost_ret (motr.results_tmp4 rfl _ _ _) rfl ?_
  exact ⟨by rw [HX.out.1, HY.out.1, HX.out.2, HE.out]; rfl, aid.below_drewN BX.out _⟩

set_option maxRecDepth 100000 in
set_option maxHeartbeats 2000000 in
theorem heightAt (x y u v h c n d : Int) (w : World)  :
    Calls Try.prog 40 #[.agg #[.int .i64 x, .int .i64 y, .int .i64 u, .int .i64 v, .int .i64 h, .int .i64 c], .int .i64 n, .int .i64 d] w fun e w' => e = .returned (.tuple #[.int .i64 (haN x y u v h c n d), .int .i64 (haD x y u v h c n d : Int), .bool (paB x y u v h c n d)]) ∧ Below w.heap.size w w' := by
  have S0 := Lib.hid (newS 28 #[.int .i64 x, .int .i64 y, .int .i64 u, .int .i64 v, .int .i64 h, .int .i64 c] w)
  have T0 := Lib.hid (fun W => good16 x y u v h c W)
  have T1 := Lib.hid (fun W => time16 n d W)
  cases hq0 : moB x y u v h c
  · have HE := Lib.hid (show paB x y u v h c n d = false by unfold paB; rw [hq0]; rfl)
    rw [hq0] at T0
    clear hq0
    go_enter Try.func40, Try.ntmps40
    go_wp2_with fail
    generalize w.alloc (.cells #[.int .i64 x, .int .i64 y, .int .i64 u, .int .i64 v, .int .i64 h, .int .i64 c] 28) = W0 at *
    have AN0 := Lib.hid (Below.refl W0.heap.size W0)
    refine (T0.out W0).mono ?_
    rintro e V1 ⟨rfl, hb1⟩
    have AN1 := Lib.hid (AN0.out.trans (hb1.mono AN0.out.size))
    clear hb1 AN0
    have BX := Lib.hid (S0.out.1.trans (AN1.out.mono S0.out.1.size))
    go_wp2_with fail
    go_ret3
    exact ⟨by rw [(ha_no HE.out).1, (ha_no HE.out).2, HE.out]; rfl, BX.out⟩
  rw [hq0] at T0
  cases hq1 : tmB n d
  · have HE := Lib.hid (show paB x y u v h c n d = false by unfold paB; rw [hq0, hq1]; rfl)
    rw [hq1] at T1
    clear hq0 hq1
    go_enter Try.func40, Try.ntmps40
    go_wp2_with fail
    generalize w.alloc (.cells #[.int .i64 x, .int .i64 y, .int .i64 u, .int .i64 v, .int .i64 h, .int .i64 c] 28) = W0 at *
    have AN0 := Lib.hid (Below.refl W0.heap.size W0)
    refine (T0.out W0).mono ?_
    rintro e V1 ⟨rfl, hb1⟩
    have AN1 := Lib.hid (AN0.out.trans (hb1.mono AN0.out.size))
    clear hb1 AN0
    have m0_ : V1.cell? ⟨w.heap.size, 0, none⟩ = some (.int .i64 x) := (S0.out.old AN1.out).cell 0
    have m1_ : V1.cell? ⟨w.heap.size, 1, none⟩ = some (.int .i64 y) := (S0.out.old AN1.out).cell 1
    have m2_ : V1.cell? ⟨w.heap.size, 2, none⟩ = some (.int .i64 u) := (S0.out.old AN1.out).cell 2
    have m3_ : V1.cell? ⟨w.heap.size, 3, none⟩ = some (.int .i64 v) := (S0.out.old AN1.out).cell 3
    have m4_ : V1.cell? ⟨w.heap.size, 4, none⟩ = some (.int .i64 h) := (S0.out.old AN1.out).cell 4
    have m5_ : V1.cell? ⟨w.heap.size, 5, none⟩ = some (.int .i64 c) := (S0.out.old AN1.out).cell 5
    go_wp2_with fail
    clear m0_ m1_ m2_ m3_ m4_ m5_
    refine (T1.out V1).mono ?_
    rintro e w' ⟨rfl, rfl⟩
    have BX := Lib.hid (S0.out.1.trans (AN1.out.mono S0.out.1.size))
    go_wp2_with fail
    go_ret3
    exact ⟨by rw [(ha_no HE.out).1, (ha_no HE.out).2, HE.out]; rfl, BX.out⟩
  rw [hq1] at T1
  have HE := Lib.hid (show paB x y u v h c n d = true by unfold paB; rw [hq0, hq1]; rfl)
  have HV := Lib.hid (ha_yes HE.out)
  obtain ⟨-, -, -, -, hh, hc⟩ := mo_in hq0
  obtain ⟨⟨d1, d2⟩, -⟩ := tmB_yes hq1
  obtain ⟨x1, x2⟩ := at_in (M := 130000) (R := 6000) (a := h) (r := c) hq1 ⟨by omega, hh.2⟩ hc
  have hin := haX_in HE.out
  have HR := Lib.hid (fun w => motr.reduceS (haX h c n d) d.toNat w hin.1 hin.2 (by omega) (by omega))
  rw [show ((d.toNat : Nat) : Int) = d by omega] at HR
  have HG := Lib.hid (show haG h c n d = Nat.gcd (haX h c n d).natAbs d.toNat from rfl)
  rw [HG.out] at HV
  generalize (haX h c n d).tdiv (Nat.gcd (haX h c n d).natAbs d.toNat : Nat) = N at *
  generalize d.toNat / Nat.gcd (haX h c n d).natAbs d.toNat = M at *
  unfold haX at HR
  generalize hP : h * d = P1 at *
  generalize hQ : c * n = Q1 at *
  have e1 : IntKind.i64.wrap P1 = P1 := IntWalk.i64_in _ (by omega)
  have e2 : IntKind.i64.wrap Q1 = Q1 := IntWalk.i64_in _ (by omega)
  have e5 : IntKind.i64.wrap (P1 + Q1) = P1 + Q1 := IntWalk.i64_in _ (by omega)
  clear hq0 hq1 hh hc hin HG
  go_enter Try.func40, Try.ntmps40
  go_wp2_with fail
  generalize w.alloc (.cells #[.int .i64 x, .int .i64 y, .int .i64 u, .int .i64 v, .int .i64 h, .int .i64 c] 28) = W0 at *
  have AN0 := Lib.hid (Below.refl W0.heap.size W0)
  refine (T0.out W0).mono ?_
  rintro e V1 ⟨rfl, hb1⟩
  have AN1 := Lib.hid (AN0.out.trans (hb1.mono AN0.out.size))
  clear hb1 AN0
  have m0_ : V1.cell? ⟨w.heap.size, 0, none⟩ = some (.int .i64 x) := (S0.out.old AN1.out).cell 0
  have m1_ : V1.cell? ⟨w.heap.size, 1, none⟩ = some (.int .i64 y) := (S0.out.old AN1.out).cell 1
  have m2_ : V1.cell? ⟨w.heap.size, 2, none⟩ = some (.int .i64 u) := (S0.out.old AN1.out).cell 2
  have m3_ : V1.cell? ⟨w.heap.size, 3, none⟩ = some (.int .i64 v) := (S0.out.old AN1.out).cell 3
  have m4_ : V1.cell? ⟨w.heap.size, 4, none⟩ = some (.int .i64 h) := (S0.out.old AN1.out).cell 4
  have m5_ : V1.cell? ⟨w.heap.size, 5, none⟩ = some (.int .i64 c) := (S0.out.old AN1.out).cell 5
  go_wp2_with fail
  clear m0_ m1_ m2_ m3_ m4_ m5_
  refine (T1.out V1).mono ?_
  rintro e w' ⟨rfl, rfl⟩
  have m0_ : V1.cell? ⟨w.heap.size, 0, none⟩ = some (.int .i64 x) := (S0.out.old AN1.out).cell 0
  have m1_ : V1.cell? ⟨w.heap.size, 1, none⟩ = some (.int .i64 y) := (S0.out.old AN1.out).cell 1
  have m2_ : V1.cell? ⟨w.heap.size, 2, none⟩ = some (.int .i64 u) := (S0.out.old AN1.out).cell 2
  have m3_ : V1.cell? ⟨w.heap.size, 3, none⟩ = some (.int .i64 v) := (S0.out.old AN1.out).cell 3
  have m4_ : V1.cell? ⟨w.heap.size, 4, none⟩ = some (.int .i64 h) := (S0.out.old AN1.out).cell 4
  have m5_ : V1.cell? ⟨w.heap.size, 5, none⟩ = some (.int .i64 c) := (S0.out.old AN1.out).cell 5
  go_wp2_with fail
  clear m0_ m1_ m2_ m3_ m4_ m5_
  refine (HR.out V1).mono ?_
  rintro e W9 ⟨rfl, hj⟩
  have BX := Lib.hid (S0.out.1.trans ((AN1.out.trans ((motr.below_drew hj).mono AN1.out.size)).mono S0.out.1.size))
  clear hj
  go_wp2_with fail
  go_ret3
  exact ⟨by rw [HV.out.1, HV.out.2, HE.out]; rfl, BX.out⟩

theorem neg_abs {r : Int} (h : r < 0) : ((r.natAbs : Nat) : Int) = -r := by omega
theorem pos_abs {r : Int} (h : ¬ r < 0) : ((r.natAbs : Nat) : Int) = r := by omega
set_option maxHeartbeats 2000000 in
theorem when16 (D r : Int) (w : World) (hD : -200000 ≤ D ∧ D ≤ 200000) (hr : -10000 ≤ r ∧ r ≤ 10000) :
    Calls Try.prog 54 #[.int .i64 D, .int .i64 r] w fun e w' => e = .returned (.tuple #[.int .i64 (whN D r), .int .i64 (whD D r : Int), .bool (whB D r)]) ∧ Below w.heap.size w w' := by
  by_cases h0 : D = 0
  · subst h0
    rw [(wh_zero r).1, (wh_zero r).2.1, (wh_zero r).2.2]
    go_enter Try.func54, Try.ntmps54
    go_wp2_with fail
    go_ret3
    exact ⟨rfl, Below.refl _ _⟩
  have hd0 : (D == 0) = false := by simp [h0]
  by_cases hw : 0 < whA D r ∧ whA D r ≤ 60 * (r.natAbs : Int)
  · have HV := Lib.hid (wh_yes h0 hw)
    have HR := Lib.hid (fun w => motr.reduceS (whA D r) r.natAbs w (by omega) (by omega) (by omega) (by omega))
    have HG := Lib.hid (show whG D r = Nat.gcd (whA D r).natAbs r.natAbs from rfl)
    rw [HG.out] at HV
    clear HG
    have hr0 : (r == 0) = false := by simp; omega
    by_cases hn : r < 0
    · have ea : whA D r = -D := by unfold whA; rw [if_pos hn]
      have er := neg_abs hn
      rw [ea] at HV HR hw
      rw [er] at HR hw
      have hr1 : (-r == 0) = false := by simp; omega
      generalize (-D).tdiv (Nat.gcd (-D).natAbs r.natAbs : Nat) = N at *
      generalize r.natAbs / Nat.gcd (-D).natAbs r.natAbs = M at *
      clear ea er
      go_enter Try.func54, Try.ntmps54
      go_wp2_with fail
      refine (HR.out _).mono ?_
      rintro e w1 ⟨rfl, hj⟩
      have HJ := Lib.hid (motr.below_drew hj)
      clear hj
      go_wp2_with fail
      go_ret3
      exact ⟨by rw [HV.out.1, HV.out.2.1, HV.out.2.2]; rfl, HJ.out⟩
    · have ea : whA D r = D := by unfold whA; rw [if_neg hn]
      have er := pos_abs hn
      rw [ea] at HV HR hw
      rw [er] at HR hw
      generalize (D).tdiv (Nat.gcd (D).natAbs r.natAbs : Nat) = N at *
      generalize r.natAbs / Nat.gcd (D).natAbs r.natAbs = M at *
      clear ea er
      go_enter Try.func54, Try.ntmps54
      go_wp2_with fail
      refine (HR.out _).mono ?_
      rintro e w1 ⟨rfl, hj⟩
      have HJ := Lib.hid (motr.below_drew hj)
      clear hj
      go_wp2_with fail
      go_ret3
      exact ⟨by rw [HV.out.1, HV.out.2.1, HV.out.2.2]; rfl, HJ.out⟩
  · have HV := Lib.hid (wh_no h0 hw)
    by_cases hn : r < 0
    · have ea : whA D r = -D := by unfold whA; rw [if_pos hn]
      have er := neg_abs hn
      rw [ea, er] at hw
      clear ea er
      have hr1 : (-r == 0) = false := by simp; omega
      by_cases hs : -D < 0
      · go_enter Try.func54, Try.ntmps54
        go_wp2_with fail
        go_ret3
        exact ⟨by rw [HV.out.1, HV.out.2.1, HV.out.2.2]; rfl, Below.refl _ _⟩
      · have hs2 : 60 * -r < -D := by omega
        go_enter Try.func54, Try.ntmps54
        go_wp2_with fail
        go_ret3
        exact ⟨by rw [HV.out.1, HV.out.2.1, HV.out.2.2]; rfl, Below.refl _ _⟩
    · have ea : whA D r = D := by unfold whA; rw [if_neg hn]
      have er := pos_abs hn
      rw [ea, er] at hw
      clear ea er
      by_cases hz : r = 0
      · subst hz
        go_enter Try.func54, Try.ntmps54
        go_wp2_with fail
        go_ret3
        exact ⟨by rw [HV.out.1, HV.out.2.1, HV.out.2.2]; rfl, Below.refl _ _⟩
      have hr1 : (r == 0) = false := by simp; omega
      by_cases hs : D < 0
      · go_enter Try.func54, Try.ntmps54
        go_wp2_with fail
        go_ret3
        exact ⟨by rw [HV.out.1, HV.out.2.1, HV.out.2.2]; rfl, Below.refl _ _⟩
      · have hs2 : 60 * r < D := by omega
        go_enter Try.func54, Try.ntmps54
        go_wp2_with fail
        go_ret3
        exact ⟨by rw [HV.out.1, HV.out.2.1, HV.out.2.2]; rfl, Below.refl _ _⟩

theorem pB_zero (t : Int) : pB t 0 = isIn t 0 9899 := by
  unfold pB
  rw [show isIn 0 0 9899 = true from rfl, Bool.and_true]
theorem good_x (t : Int) (w : World) : Calls Try.prog 53 #[.agg #[.int .i64 t, .int .i64 0]] w fun e w' => e = .returned (.bool (isIn t 0 9899)) ∧ Below w.heap.size w w' := by
  rw [← pB_zero]
  exact poss.good7 t 0 w
set_option maxRecDepth 100000 in
set_option maxHeartbeats 2000000 in
theorem timeToX (x y u v h c t : Int) (w : World)  :
    Calls Try.prog 17 #[.agg #[.int .i64 x, .int .i64 y, .int .i64 u, .int .i64 v, .int .i64 h, .int .i64 c], .int .i64 t] w fun e w' => e = .returned (.tuple #[.int .i64 (twN (txB x y u v h c t) (t - x) u), .int .i64 (twD (txB x y u v h c t) (t - x) u : Int), .bool (twB (txB x y u v h c t) (t - x) u)]) ∧ Below w.heap.size w w' := by
  have S0 := Lib.hid (newS 28 #[.int .i64 x, .int .i64 y, .int .i64 u, .int .i64 v, .int .i64 h, .int .i64 c] w)
  have T0 := Lib.hid (fun W => good16 x y u v h c W)
  have T1 := Lib.hid (fun W => good_x t W)
  cases hq0 : moB x y u v h c
  · have HE := Lib.hid (show (txB x y u v h c t) = false by unfold txB; rw [hq0]; rfl)
    rw [hq0] at T0
    clear hq0
    go_enter Try.func17, Try.ntmps17
    go_wp2_with fail
    generalize w.alloc (.cells #[.int .i64 x, .int .i64 y, .int .i64 u, .int .i64 v, .int .i64 h, .int .i64 c] 28) = W0 at *
    have AN0 := Lib.hid (Below.refl W0.heap.size W0)
    refine (T0.out W0).mono ?_
    rintro e V1 ⟨rfl, hb1⟩
    have AN1 := Lib.hid (AN0.out.trans (hb1.mono AN0.out.size))
    clear hb1 AN0
    have BX := Lib.hid (S0.out.1.trans (AN1.out.mono S0.out.1.size))
    go_wp2_with fail
    go_ret3
    exact ⟨by rw [HE.out]; rfl, BX.out⟩
  rw [hq0] at T0
  cases hq1 : isIn t 0 9899
  · have HE := Lib.hid (show (txB x y u v h c t) = false by unfold txB; rw [hq0, hq1]; rfl)
    rw [hq1] at T1
    clear hq0 hq1
    go_enter Try.func17, Try.ntmps17
    go_wp2_with fail
    generalize w.alloc (.cells #[.int .i64 x, .int .i64 y, .int .i64 u, .int .i64 v, .int .i64 h, .int .i64 c] 28) = W0 at *
    have AN0 := Lib.hid (Below.refl W0.heap.size W0)
    refine (T0.out W0).mono ?_
    rintro e V1 ⟨rfl, hb1⟩
    have AN1 := Lib.hid (AN0.out.trans (hb1.mono AN0.out.size))
    clear hb1 AN0
    have m0_ : V1.cell? ⟨w.heap.size, 0, none⟩ = some (.int .i64 x) := (S0.out.old AN1.out).cell 0
    have m1_ : V1.cell? ⟨w.heap.size, 1, none⟩ = some (.int .i64 y) := (S0.out.old AN1.out).cell 1
    have m2_ : V1.cell? ⟨w.heap.size, 2, none⟩ = some (.int .i64 u) := (S0.out.old AN1.out).cell 2
    have m3_ : V1.cell? ⟨w.heap.size, 3, none⟩ = some (.int .i64 v) := (S0.out.old AN1.out).cell 3
    have m4_ : V1.cell? ⟨w.heap.size, 4, none⟩ = some (.int .i64 h) := (S0.out.old AN1.out).cell 4
    have m5_ : V1.cell? ⟨w.heap.size, 5, none⟩ = some (.int .i64 c) := (S0.out.old AN1.out).cell 5
    go_wp2_with fail
    clear m0_ m1_ m2_ m3_ m4_ m5_
    refine (T1.out V1).mono ?_
    rintro e V2 ⟨rfl, hb2⟩
    have AN2 := Lib.hid (AN1.out.trans (hb2.mono AN1.out.size))
    clear hb2 AN1
    have BX := Lib.hid (S0.out.1.trans (AN2.out.mono S0.out.1.size))
    go_wp2_with fail
    go_ret3
    exact ⟨by rw [HE.out]; rfl, BX.out⟩
  rw [hq1] at T1
  have HE := Lib.hid (show (txB x y u v h c t) = true by unfold txB; rw [hq0, hq1]; rfl)
  obtain ⟨hx, hy, hu, hv, hh, hc⟩ := mo_in hq0
  have ht := isIn_yes hq1
  have HT := Lib.hid (fun W => when16 (t - x) u W (by omega) (by omega))
  have e9 : IntKind.i64.wrap (t - x) = t - x := IntWalk.i64_in _ (by omega)
  clear hq0 hq1
  go_enter Try.func17, Try.ntmps17
  go_wp2_with fail
  generalize w.alloc (.cells #[.int .i64 x, .int .i64 y, .int .i64 u, .int .i64 v, .int .i64 h, .int .i64 c] 28) = W0 at *
  have AN0 := Lib.hid (Below.refl W0.heap.size W0)
  refine (T0.out W0).mono ?_
  rintro e V1 ⟨rfl, hb1⟩
  have AN1 := Lib.hid (AN0.out.trans (hb1.mono AN0.out.size))
  clear hb1 AN0
  have m0_ : V1.cell? ⟨w.heap.size, 0, none⟩ = some (.int .i64 x) := (S0.out.old AN1.out).cell 0
  have m1_ : V1.cell? ⟨w.heap.size, 1, none⟩ = some (.int .i64 y) := (S0.out.old AN1.out).cell 1
  have m2_ : V1.cell? ⟨w.heap.size, 2, none⟩ = some (.int .i64 u) := (S0.out.old AN1.out).cell 2
  have m3_ : V1.cell? ⟨w.heap.size, 3, none⟩ = some (.int .i64 v) := (S0.out.old AN1.out).cell 3
  have m4_ : V1.cell? ⟨w.heap.size, 4, none⟩ = some (.int .i64 h) := (S0.out.old AN1.out).cell 4
  have m5_ : V1.cell? ⟨w.heap.size, 5, none⟩ = some (.int .i64 c) := (S0.out.old AN1.out).cell 5
  go_wp2_with fail
  clear m0_ m1_ m2_ m3_ m4_ m5_
  refine (T1.out V1).mono ?_
  rintro e V2 ⟨rfl, hb2⟩
  have AN2 := Lib.hid (AN1.out.trans (hb2.mono AN1.out.size))
  clear hb2 AN1
  have m0_ : V2.cell? ⟨w.heap.size, 0, none⟩ = some (.int .i64 x) := (S0.out.old AN2.out).cell 0
  have m1_ : V2.cell? ⟨w.heap.size, 1, none⟩ = some (.int .i64 y) := (S0.out.old AN2.out).cell 1
  have m2_ : V2.cell? ⟨w.heap.size, 2, none⟩ = some (.int .i64 u) := (S0.out.old AN2.out).cell 2
  have m3_ : V2.cell? ⟨w.heap.size, 3, none⟩ = some (.int .i64 v) := (S0.out.old AN2.out).cell 3
  have m4_ : V2.cell? ⟨w.heap.size, 4, none⟩ = some (.int .i64 h) := (S0.out.old AN2.out).cell 4
  have m5_ : V2.cell? ⟨w.heap.size, 5, none⟩ = some (.int .i64 c) := (S0.out.old AN2.out).cell 5
  go_wp2_with fail
  clear m0_ m1_ m2_ m3_ m4_ m5_
  refine (HT.out V2).mono ?_
  rintro e V9 ⟨rfl, hb9⟩
  have BX := Lib.hid (S0.out.1.trans ((AN2.out.trans (hb9.mono AN2.out.size)).mono S0.out.1.size))
  clear hb9
  go_wp2_with fail
  go_ret3
  exact ⟨by rw [HE.out]; rfl, BX.out⟩

set_option maxRecDepth 100000 in
set_option maxHeartbeats 2000000 in
theorem timeToHeight (x y u v h c t : Int) (w : World)  :
    Calls Try.prog 21 #[.agg #[.int .i64 x, .int .i64 y, .int .i64 u, .int .i64 v, .int .i64 h, .int .i64 c], .int .i64 t] w fun e w' => e = .returned (.tuple #[.int .i64 (twN (thB x y u v h c t) (t - h) c), .int .i64 (twD (thB x y u v h c t) (t - h) c : Int), .bool (twB (thB x y u v h c t) (t - h) c)]) ∧ Below w.heap.size w w' := by
  have S0 := Lib.hid (newS 28 #[.int .i64 x, .int .i64 y, .int .i64 u, .int .i64 v, .int .i64 h, .int .i64 c] w)
  have T0 := Lib.hid (fun W => good16 x y u v h c W)
  have T1 := Lib.hid (fun W => hgts.isHeight t W)
  cases hq0 : moB x y u v h c
  · have HE := Lib.hid (show (thB x y u v h c t) = false by unfold thB; rw [hq0]; rfl)
    rw [hq0] at T0
    clear hq0
    go_enter Try.func21, Try.ntmps21
    go_wp2_with fail
    generalize w.alloc (.cells #[.int .i64 x, .int .i64 y, .int .i64 u, .int .i64 v, .int .i64 h, .int .i64 c] 28) = W0 at *
    have AN0 := Lib.hid (Below.refl W0.heap.size W0)
    refine (T0.out W0).mono ?_
    rintro e V1 ⟨rfl, hb1⟩
    have AN1 := Lib.hid (AN0.out.trans (hb1.mono AN0.out.size))
    clear hb1 AN0
    have BX := Lib.hid (S0.out.1.trans (AN1.out.mono S0.out.1.size))
    go_wp2_with fail
    go_ret3
    exact ⟨by rw [HE.out]; rfl, BX.out⟩
  rw [hq0] at T0
  cases hq1 : hB t
  · have HE := Lib.hid (show (thB x y u v h c t) = false by unfold thB; rw [hq0, hq1]; rfl)
    rw [hq1] at T1
    clear hq0 hq1
    go_enter Try.func21, Try.ntmps21
    go_wp2_with fail
    generalize w.alloc (.cells #[.int .i64 x, .int .i64 y, .int .i64 u, .int .i64 v, .int .i64 h, .int .i64 c] 28) = W0 at *
    have AN0 := Lib.hid (Below.refl W0.heap.size W0)
    refine (T0.out W0).mono ?_
    rintro e V1 ⟨rfl, hb1⟩
    have AN1 := Lib.hid (AN0.out.trans (hb1.mono AN0.out.size))
    clear hb1 AN0
    have m0_ : V1.cell? ⟨w.heap.size, 0, none⟩ = some (.int .i64 x) := (S0.out.old AN1.out).cell 0
    have m1_ : V1.cell? ⟨w.heap.size, 1, none⟩ = some (.int .i64 y) := (S0.out.old AN1.out).cell 1
    have m2_ : V1.cell? ⟨w.heap.size, 2, none⟩ = some (.int .i64 u) := (S0.out.old AN1.out).cell 2
    have m3_ : V1.cell? ⟨w.heap.size, 3, none⟩ = some (.int .i64 v) := (S0.out.old AN1.out).cell 3
    have m4_ : V1.cell? ⟨w.heap.size, 4, none⟩ = some (.int .i64 h) := (S0.out.old AN1.out).cell 4
    have m5_ : V1.cell? ⟨w.heap.size, 5, none⟩ = some (.int .i64 c) := (S0.out.old AN1.out).cell 5
    go_wp2_with fail
    clear m0_ m1_ m2_ m3_ m4_ m5_
    refine (T1.out V1).mono ?_
    rintro e w' ⟨rfl, rfl⟩
    have BX := Lib.hid (S0.out.1.trans (AN1.out.mono S0.out.1.size))
    go_wp2_with fail
    go_ret3
    exact ⟨by rw [HE.out]; rfl, BX.out⟩
  rw [hq1] at T1
  have HE := Lib.hid (show (thB x y u v h c t) = true by unfold thB; rw [hq0, hq1]; rfl)
  obtain ⟨hx, hy, hu, hv, hh, hc⟩ := mo_in hq0
  have ht : -2000 ≤ t ∧ t ≤ 130000 := of_decide_eq_true hq1
  have HT := Lib.hid (fun W => when16 (t - h) c W (by omega) (by omega))
  have e9 : IntKind.i64.wrap (t - h) = t - h := IntWalk.i64_in _ (by omega)
  clear hq0 hq1
  go_enter Try.func21, Try.ntmps21
  go_wp2_with fail
  generalize w.alloc (.cells #[.int .i64 x, .int .i64 y, .int .i64 u, .int .i64 v, .int .i64 h, .int .i64 c] 28) = W0 at *
  have AN0 := Lib.hid (Below.refl W0.heap.size W0)
  refine (T0.out W0).mono ?_
  rintro e V1 ⟨rfl, hb1⟩
  have AN1 := Lib.hid (AN0.out.trans (hb1.mono AN0.out.size))
  clear hb1 AN0
  have m0_ : V1.cell? ⟨w.heap.size, 0, none⟩ = some (.int .i64 x) := (S0.out.old AN1.out).cell 0
  have m1_ : V1.cell? ⟨w.heap.size, 1, none⟩ = some (.int .i64 y) := (S0.out.old AN1.out).cell 1
  have m2_ : V1.cell? ⟨w.heap.size, 2, none⟩ = some (.int .i64 u) := (S0.out.old AN1.out).cell 2
  have m3_ : V1.cell? ⟨w.heap.size, 3, none⟩ = some (.int .i64 v) := (S0.out.old AN1.out).cell 3
  have m4_ : V1.cell? ⟨w.heap.size, 4, none⟩ = some (.int .i64 h) := (S0.out.old AN1.out).cell 4
  have m5_ : V1.cell? ⟨w.heap.size, 5, none⟩ = some (.int .i64 c) := (S0.out.old AN1.out).cell 5
  go_wp2_with fail
  clear m0_ m1_ m2_ m3_ m4_ m5_
  refine (T1.out V1).mono ?_
  rintro e w' ⟨rfl, rfl⟩
  have m0_ : V1.cell? ⟨w.heap.size, 0, none⟩ = some (.int .i64 x) := (S0.out.old AN1.out).cell 0
  have m1_ : V1.cell? ⟨w.heap.size, 1, none⟩ = some (.int .i64 y) := (S0.out.old AN1.out).cell 1
  have m2_ : V1.cell? ⟨w.heap.size, 2, none⟩ = some (.int .i64 u) := (S0.out.old AN1.out).cell 2
  have m3_ : V1.cell? ⟨w.heap.size, 3, none⟩ = some (.int .i64 v) := (S0.out.old AN1.out).cell 3
  have m4_ : V1.cell? ⟨w.heap.size, 4, none⟩ = some (.int .i64 h) := (S0.out.old AN1.out).cell 4
  have m5_ : V1.cell? ⟨w.heap.size, 5, none⟩ = some (.int .i64 c) := (S0.out.old AN1.out).cell 5
  go_wp2_with fail
  clear m0_ m1_ m2_ m3_ m4_ m5_
  refine (HT.out V1).mono ?_
  rintro e V9 ⟨rfl, hb9⟩
  have BX := Lib.hid (S0.out.1.trans ((AN1.out.trans (hb9.mono AN1.out.size)).mono S0.out.1.size))
  clear hb9
  go_wp2_with fail
  go_ret3
  exact ⟨by rw [HE.out]; rfl, BX.out⟩

set_option maxRecDepth 100000 in
set_option maxHeartbeats 2000000 in
theorem courseLine (x y u v h c p q : Int) (w : World) :
    Calls Try.prog 38 #[.agg #[.int .i64 x, .int .i64 y, .int .i64 u, .int .i64 v, .int .i64 h, .int .i64 c], .agg #[.int .i64 p, .int .i64 q]] w fun e w' => e = .returned (.tuple #[.int .i64 (clV x y u v h c p q), .bool (clB x y u v h c p q)]) ∧ Below w.heap.size w w' := by
  have S0 := Lib.hid ((newS 28 #[.int .i64 x, .int .i64 y, .int .i64 u, .int .i64 v, .int .i64 h, .int .i64 c] w).alloc (.cells #[.int .i64 p, .int .i64 q] 25))
  have S1 := Lib.hid ((newS 28 #[.int .i64 x, .int .i64 y, .int .i64 u, .int .i64 v, .int .i64 h, .int .i64 c] w).next 25 #[.int .i64 p, .int .i64 q])
  rw [World.size_alloc] at S1
  have T0 := Lib.hid (fun W => good16 x y u v h c W)
  have T1 := Lib.hid (fun W => poss.good7 p q W)
  cases hq0 : moB x y u v h c
  · have HE := Lib.hid (show clB x y u v h c p q = false by unfold clB; rw [hq0]; simp)
    rw [hq0] at T0
    clear hq0
    go_enter Try.func38, Try.ntmps38
    go_wp2_with fail
    generalize (w.alloc (.cells #[.int .i64 x, .int .i64 y, .int .i64 u, .int .i64 v, .int .i64 h, .int .i64 c] 28)).alloc (.cells #[.int .i64 p, .int .i64 q] 25) = W0 at *
    have AN0 := Lib.hid (Below.refl W0.heap.size W0)
    refine (T0.out W0).mono ?_
    rintro e V1 ⟨rfl, hb1⟩
    have AN1 := Lib.hid (AN0.out.trans (hb1.mono AN0.out.size))
    clear hb1 AN0
    have BX := Lib.hid (S0.out.1.trans (AN1.out.mono S0.out.1.size))
    go_wp2_with fail
    go_ret2
    exact ⟨by rw [cl_no HE.out, HE.out]; rfl, BX.out⟩
  rw [hq0] at T0
  cases hq1 : pB p q
  · have HE := Lib.hid (show clB x y u v h c p q = false by unfold clB; rw [hq1]; simp)
    rw [hq1] at T1
    clear hq0 hq1
    go_enter Try.func38, Try.ntmps38
    go_wp2_with fail
    generalize (w.alloc (.cells #[.int .i64 x, .int .i64 y, .int .i64 u, .int .i64 v, .int .i64 h, .int .i64 c] 28)).alloc (.cells #[.int .i64 p, .int .i64 q] 25) = W0 at *
    have AN0 := Lib.hid (Below.refl W0.heap.size W0)
    refine (T0.out W0).mono ?_
    rintro e V1 ⟨rfl, hb1⟩
    have AN1 := Lib.hid (AN0.out.trans (hb1.mono AN0.out.size))
    clear hb1 AN0
    have m0_ : V1.cell? ⟨w.heap.size, 0, none⟩ = some (.int .i64 x) := (S0.out.old AN1.out).cell 0
    have m1_ : V1.cell? ⟨w.heap.size, 1, none⟩ = some (.int .i64 y) := (S0.out.old AN1.out).cell 1
    have m2_ : V1.cell? ⟨w.heap.size, 2, none⟩ = some (.int .i64 u) := (S0.out.old AN1.out).cell 2
    have m3_ : V1.cell? ⟨w.heap.size, 3, none⟩ = some (.int .i64 v) := (S0.out.old AN1.out).cell 3
    have m4_ : V1.cell? ⟨w.heap.size, 4, none⟩ = some (.int .i64 h) := (S0.out.old AN1.out).cell 4
    have m5_ : V1.cell? ⟨w.heap.size, 5, none⟩ = some (.int .i64 c) := (S0.out.old AN1.out).cell 5
    have p0_ : V1.cell? ⟨w.heap.size + 1, 0, none⟩ = some (.int .i64 p) := (S1.out.old AN1.out).cell 0
    have p1_ : V1.cell? ⟨w.heap.size + 1, 1, none⟩ = some (.int .i64 q) := (S1.out.old AN1.out).cell 1
    go_wp2_with fail
    clear m0_ m1_ m2_ m3_ m4_ m5_ p0_ p1_
    refine (T1.out V1).mono ?_
    rintro e V2 ⟨rfl, hb2⟩
    have AN2 := Lib.hid (AN1.out.trans (hb2.mono AN1.out.size))
    clear hb2 AN1
    have BX := Lib.hid (S0.out.1.trans (AN2.out.mono S0.out.1.size))
    go_wp2_with fail
    go_ret2
    exact ⟨by rw [cl_no HE.out, HE.out]; rfl, BX.out⟩
  rw [hq1] at T1
  have T2 := Lib.hid (fun W => vels.square8 u v (moB_yes hq0).2.1 W)
  have hk : mB u v = !decide (sq u v = 0) := by rw [mB_sq, (moB_yes hq0).2.1, Bool.true_and]
  generalize sq u v = K at *
  cases hq2 : mB u v
  · have HE := Lib.hid (show clB x y u v h c p q = false by unfold clB; rw [hq2]; simp)
    rw [hq2] at hk
    have hz : (K == 0) = true := by simpa using hk
    clear hq0 hq1 hq2 hk
    go_enter Try.func38, Try.ntmps38
    go_wp2_with fail
    generalize (w.alloc (.cells #[.int .i64 x, .int .i64 y, .int .i64 u, .int .i64 v, .int .i64 h, .int .i64 c] 28)).alloc (.cells #[.int .i64 p, .int .i64 q] 25) = W0 at *
    have AN0 := Lib.hid (Below.refl W0.heap.size W0)
    refine (T0.out W0).mono ?_
    rintro e V1 ⟨rfl, hb1⟩
    have AN1 := Lib.hid (AN0.out.trans (hb1.mono AN0.out.size))
    clear hb1 AN0
    have m0_ : V1.cell? ⟨w.heap.size, 0, none⟩ = some (.int .i64 x) := (S0.out.old AN1.out).cell 0
    have m1_ : V1.cell? ⟨w.heap.size, 1, none⟩ = some (.int .i64 y) := (S0.out.old AN1.out).cell 1
    have m2_ : V1.cell? ⟨w.heap.size, 2, none⟩ = some (.int .i64 u) := (S0.out.old AN1.out).cell 2
    have m3_ : V1.cell? ⟨w.heap.size, 3, none⟩ = some (.int .i64 v) := (S0.out.old AN1.out).cell 3
    have m4_ : V1.cell? ⟨w.heap.size, 4, none⟩ = some (.int .i64 h) := (S0.out.old AN1.out).cell 4
    have m5_ : V1.cell? ⟨w.heap.size, 5, none⟩ = some (.int .i64 c) := (S0.out.old AN1.out).cell 5
    have p0_ : V1.cell? ⟨w.heap.size + 1, 0, none⟩ = some (.int .i64 p) := (S1.out.old AN1.out).cell 0
    have p1_ : V1.cell? ⟨w.heap.size + 1, 1, none⟩ = some (.int .i64 q) := (S1.out.old AN1.out).cell 1
    go_wp2_with fail
    clear m0_ m1_ m2_ m3_ m4_ m5_ p0_ p1_
    refine (T1.out V1).mono ?_
    rintro e V2 ⟨rfl, hb2⟩
    have AN2 := Lib.hid (AN1.out.trans (hb2.mono AN1.out.size))
    clear hb2 AN1
    have m0_ : V2.cell? ⟨w.heap.size, 0, none⟩ = some (.int .i64 x) := (S0.out.old AN2.out).cell 0
    have m1_ : V2.cell? ⟨w.heap.size, 1, none⟩ = some (.int .i64 y) := (S0.out.old AN2.out).cell 1
    have m2_ : V2.cell? ⟨w.heap.size, 2, none⟩ = some (.int .i64 u) := (S0.out.old AN2.out).cell 2
    have m3_ : V2.cell? ⟨w.heap.size, 3, none⟩ = some (.int .i64 v) := (S0.out.old AN2.out).cell 3
    have m4_ : V2.cell? ⟨w.heap.size, 4, none⟩ = some (.int .i64 h) := (S0.out.old AN2.out).cell 4
    have m5_ : V2.cell? ⟨w.heap.size, 5, none⟩ = some (.int .i64 c) := (S0.out.old AN2.out).cell 5
    have p0_ : V2.cell? ⟨w.heap.size + 1, 0, none⟩ = some (.int .i64 p) := (S1.out.old AN2.out).cell 0
    have p1_ : V2.cell? ⟨w.heap.size + 1, 1, none⟩ = some (.int .i64 q) := (S1.out.old AN2.out).cell 1
    go_wp2_with fail
    clear m0_ m1_ m2_ m3_ m4_ m5_ p0_ p1_
    refine (T2.out V2).mono ?_
    rintro e V3 ⟨rfl, hb3⟩
    have AN3 := Lib.hid (AN2.out.trans (hb3.mono AN2.out.size))
    clear hb3 AN2
    have BX := Lib.hid (S0.out.1.trans (AN3.out.mono S0.out.1.size))
    go_wp2_with fail
    go_ret2
    exact ⟨by rw [cl_no HE.out, HE.out]; rfl, BX.out⟩
  rw [hq2] at hk
  have hz : (K == 0) = false := by simpa using hk
  clear hk
  have HE := Lib.hid (show clB x y u v h c p q = true by unfold clB; rw [hq0, hq1, hq2]; rfl)
  have HV := Lib.hid (cl_yes HE.out)
  obtain ⟨hx, hy, hu, hv, -, -⟩ := mo_in hq0
  obtain ⟨hp, hq⟩ := pB_yes hq1
  have b1 := mul_le (a := v) (b := p - x) (M := 200) (N := 9899) hv ⟨by omega, by omega⟩
  have b2 := mul_le (a := u) (b := q - y) (M := 200) (N := 9899) hu ⟨by omega, by omega⟩
  unfold crs at HV
  have e1 : IntKind.i64.wrap (p - x) = p - x := IntWalk.i64_in _ (by omega)
  have e2 : IntKind.i64.wrap (q - y) = q - y := IntWalk.i64_in _ (by omega)
  generalize hA : p - x = A at *
  generalize hB' : q - y = B at *
  generalize hP : v * A = R at *
  generalize hQ : u * B = Q at *
  have e3 : IntKind.i64.wrap R = R := IntWalk.i64_in _ (by omega)
  have e4 : IntKind.i64.wrap Q = Q := IntWalk.i64_in _ (by omega)
  have e5 : IntKind.i64.wrap (Q - R) = Q - R := IntWalk.i64_in _ (by omega)
  clear hq0 hq1 hq2
  go_enter Try.func38, Try.ntmps38
  go_wp2_with fail
  generalize (w.alloc (.cells #[.int .i64 x, .int .i64 y, .int .i64 u, .int .i64 v, .int .i64 h, .int .i64 c] 28)).alloc (.cells #[.int .i64 p, .int .i64 q] 25) = W0 at *
  have AN0 := Lib.hid (Below.refl W0.heap.size W0)
  refine (T0.out W0).mono ?_
  rintro e V1 ⟨rfl, hb1⟩
  have AN1 := Lib.hid (AN0.out.trans (hb1.mono AN0.out.size))
  clear hb1 AN0
  have m0_ : V1.cell? ⟨w.heap.size, 0, none⟩ = some (.int .i64 x) := (S0.out.old AN1.out).cell 0
  have m1_ : V1.cell? ⟨w.heap.size, 1, none⟩ = some (.int .i64 y) := (S0.out.old AN1.out).cell 1
  have m2_ : V1.cell? ⟨w.heap.size, 2, none⟩ = some (.int .i64 u) := (S0.out.old AN1.out).cell 2
  have m3_ : V1.cell? ⟨w.heap.size, 3, none⟩ = some (.int .i64 v) := (S0.out.old AN1.out).cell 3
  have m4_ : V1.cell? ⟨w.heap.size, 4, none⟩ = some (.int .i64 h) := (S0.out.old AN1.out).cell 4
  have m5_ : V1.cell? ⟨w.heap.size, 5, none⟩ = some (.int .i64 c) := (S0.out.old AN1.out).cell 5
  have p0_ : V1.cell? ⟨w.heap.size + 1, 0, none⟩ = some (.int .i64 p) := (S1.out.old AN1.out).cell 0
  have p1_ : V1.cell? ⟨w.heap.size + 1, 1, none⟩ = some (.int .i64 q) := (S1.out.old AN1.out).cell 1
  go_wp2_with fail
  clear m0_ m1_ m2_ m3_ m4_ m5_ p0_ p1_
  refine (T1.out V1).mono ?_
  rintro e V2 ⟨rfl, hb2⟩
  have AN2 := Lib.hid (AN1.out.trans (hb2.mono AN1.out.size))
  clear hb2 AN1
  have m0_ : V2.cell? ⟨w.heap.size, 0, none⟩ = some (.int .i64 x) := (S0.out.old AN2.out).cell 0
  have m1_ : V2.cell? ⟨w.heap.size, 1, none⟩ = some (.int .i64 y) := (S0.out.old AN2.out).cell 1
  have m2_ : V2.cell? ⟨w.heap.size, 2, none⟩ = some (.int .i64 u) := (S0.out.old AN2.out).cell 2
  have m3_ : V2.cell? ⟨w.heap.size, 3, none⟩ = some (.int .i64 v) := (S0.out.old AN2.out).cell 3
  have m4_ : V2.cell? ⟨w.heap.size, 4, none⟩ = some (.int .i64 h) := (S0.out.old AN2.out).cell 4
  have m5_ : V2.cell? ⟨w.heap.size, 5, none⟩ = some (.int .i64 c) := (S0.out.old AN2.out).cell 5
  have p0_ : V2.cell? ⟨w.heap.size + 1, 0, none⟩ = some (.int .i64 p) := (S1.out.old AN2.out).cell 0
  have p1_ : V2.cell? ⟨w.heap.size + 1, 1, none⟩ = some (.int .i64 q) := (S1.out.old AN2.out).cell 1
  go_wp2_with fail
  clear m0_ m1_ m2_ m3_ m4_ m5_ p0_ p1_
  refine (T2.out V2).mono ?_
  rintro e V3 ⟨rfl, hb3⟩
  have AN3 := Lib.hid (AN2.out.trans (hb3.mono AN2.out.size))
  clear hb3 AN2
  have m0_ : V3.cell? ⟨w.heap.size, 0, none⟩ = some (.int .i64 x) := (S0.out.old AN3.out).cell 0
  have m1_ : V3.cell? ⟨w.heap.size, 1, none⟩ = some (.int .i64 y) := (S0.out.old AN3.out).cell 1
  have m2_ : V3.cell? ⟨w.heap.size, 2, none⟩ = some (.int .i64 u) := (S0.out.old AN3.out).cell 2
  have m3_ : V3.cell? ⟨w.heap.size, 3, none⟩ = some (.int .i64 v) := (S0.out.old AN3.out).cell 3
  have m4_ : V3.cell? ⟨w.heap.size, 4, none⟩ = some (.int .i64 h) := (S0.out.old AN3.out).cell 4
  have m5_ : V3.cell? ⟨w.heap.size, 5, none⟩ = some (.int .i64 c) := (S0.out.old AN3.out).cell 5
  have p0_ : V3.cell? ⟨w.heap.size + 1, 0, none⟩ = some (.int .i64 p) := (S1.out.old AN3.out).cell 0
  have p1_ : V3.cell? ⟨w.heap.size + 1, 1, none⟩ = some (.int .i64 q) := (S1.out.old AN3.out).cell 1
  by_cases s1 : Q - R < 0
  · have HS := Lib.hid (show clS (Q - R) = 1 by unfold clS; rw [if_pos (by omega)])
    have BX := Lib.hid (S0.out.1.trans (AN3.out.mono S0.out.1.size))
    go_wp2_with fail
    go_ret2
    exact ⟨by rw [HV.out, HS.out, HE.out]; rfl, BX.out⟩
  · by_cases s2 : 0 < Q - R
    · have HS := Lib.hid (show clS (Q - R) = 2 by unfold clS; rw [if_neg (by omega), if_pos (by omega)])
      have BX := Lib.hid (S0.out.1.trans (AN3.out.mono S0.out.1.size))
      go_wp2_with fail
      go_ret2
      exact ⟨by rw [HV.out, HS.out, HE.out]; rfl, BX.out⟩
    · have HS := Lib.hid (show clS (Q - R) = 0 by unfold clS; rw [if_neg (by omega), if_neg (by omega)])
      have BX := Lib.hid (S0.out.1.trans (AN3.out.mono S0.out.1.size))
      go_wp2_with fail
      go_ret2
      exact ⟨by rw [HV.out, HS.out, HE.out]; rfl, BX.out⟩

set_option maxRecDepth 100000 in
set_option maxHeartbeats 2000000 in
theorem at16 (x y u v h c t : Int) (w : World) (h1 : -1000000000 ≤ u * t ∧ u * t ≤ 1000000000) (h2 : -1000000000 ≤ v * t ∧ v * t ≤ 1000000000) (h3 : -1000000000 ≤ x ∧ x ≤ 1000000000) (h4 : -1000000000 ≤ y ∧ y ≤ 1000000000) :
    Calls Try.prog 70 #[.agg #[.int .i64 x, .int .i64 y, .int .i64 u, .int .i64 v, .int .i64 h, .int .i64 c], .int .i64 t] w fun e w' => e = .returned (.agg #[.int .i64 (x + u * t), .int .i64 (y + v * t)]) ∧ Below w.heap.size w w' := by
  generalize hP : u * t = P at *
  generalize hQ : v * t = Q at *
  have e1 : IntKind.i64.wrap P = P := IntWalk.i64_in _ (by omega)
  have e2 : IntKind.i64.wrap Q = Q := IntWalk.i64_in _ (by omega)
  have e3 : IntKind.i64.wrap (x + P) = x + P := IntWalk.i64_in _ (by omega)
  have e4 : IntKind.i64.wrap (y + Q) = y + Q := IntWalk.i64_in _ (by omega)
  have h5 := (newS 28 #[.int .i64 x, .int .i64 y, .int .i64 u, .int .i64 v, .int .i64 h, .int .i64 c] w).next 25 #[.int .i64 (x + P), .int .i64 (y + Q)]
  rw [World.size_alloc] at h5
  have HL := Lib.hid (h5.load Try.underlying25 rfl (by kernel_rfl))
  have HB := Lib.hid h5.1
  clear h5
  go_enter Try.func70, Try.ntmps70
  go_wp2_with fail
  refine bodyPost_ret (v := .agg #[.int .i64 (x + P), .int .i64 (y + Q)]) ?_ rfl ⟨rfl, HB.out⟩
  rw [results_cell1 rfl]
  simp [asAddr, Result.andThen, HL.out]

set_option maxRecDepth 100000 in
set_option maxHeartbeats 2000000 in
theorem lv_no {x y u v h c : Int} (e : lvB x y u v h c = false) : lvV x y u v h c = 0 := by unfold lvV; rw [e]; rfl
theorem lv_yes {x y u v h c : Int} {k : Nat} (hm : moB x y u v h c = true) (hk : k < 61) (hb : ∀ i, i < k → okT x y u v i = true) (hx : okT x y u v k = false) : lvB x y u v h c = true ∧ lvV x y u v h c = k := by
  have e := led_stop hb hx 61 hk
  have e2 : lvB x y u v h c = true := by unfold lvB; rw [hm, e, decide_eq_true hk]; rfl
  unfold lvV
  rw [e2, e]
  exact ⟨rfl, rfl⟩
theorem lv_end {x y u v h c : Int} (hb : ∀ i, i < 61 → okT x y u v i = true) : lvB x y u v h c = false := by
  unfold lvB
  rw [led_all 61 hb, decide_eq_false (by omega), Bool.and_false]
set_option maxRecDepth 100000 in
set_option maxHeartbeats 2000000 in
theorem leavesAt (x y u v h c : Int) (w : World) :
    Calls Try.prog 35 #[.agg #[.int .i64 x, .int .i64 y, .int .i64 u, .int .i64 v, .int .i64 h, .int .i64 c]] w fun e w' => e = .returned (.tuple #[.int .i64 (lvV x y u v h c : Int), .bool (lvB x y u v h c)]) ∧ Below w.heap.size w w' := by
  have S0 := Lib.hid (newS 28 #[.int .i64 x, .int .i64 y, .int .i64 u, .int .i64 v, .int .i64 h, .int .i64 c] w)
  have T0 := Lib.hid (fun W => good16 x y u v h c W)
  cases hq0 : moB x y u v h c
  · have HE := Lib.hid (show lvB x y u v h c = false by unfold lvB; rw [hq0]; rfl)
    rw [hq0] at T0
    clear hq0
    go_enter Try.func35, Try.ntmps35
    go_wp2_with fail
    generalize w.alloc (.cells #[.int .i64 x, .int .i64 y, .int .i64 u, .int .i64 v, .int .i64 h, .int .i64 c] 28) = W0 at *
    have AN0 := Lib.hid (Below.refl W0.heap.size W0)
    refine (T0.out W0).mono ?_
    rintro e V1 ⟨rfl, hb1⟩
    have AN1 := Lib.hid (AN0.out.trans (hb1.mono AN0.out.size))
    clear hb1 AN0
    have BX := Lib.hid (S0.out.1.trans (AN1.out.mono S0.out.1.size))
    go_wp2_with fail
    go_ret2
    exact ⟨by rw [lv_no HE.out, HE.out]; rfl, BX.out⟩
  rw [hq0] at T0
  have HY := Lib.hid (fun (k : Nat) (hk : k < 61) hb hx => lv_yes (x := x) (y := y) (u := u) (v := v) (h := h) (c := c) (k := k) hq0 hk hb hx)
  obtain ⟨hx, hy, hu, hv, -, -⟩ := mo_in hq0
  have HA := Lib.hid (fun (k : Nat) (W : World) (hk : k ≤ 60) => at16 x y u v h c (k : Int) W (by have := far hx hu hk; omega) (by have := far hy hv hk; omega) (by omega) (by omega))
  clear hq0 hx hy hu hv
  go_enter Try.func35, Try.ntmps35
  go_wp2_with fail
  generalize w.alloc (.cells #[.int .i64 x, .int .i64 y, .int .i64 u, .int .i64 v, .int .i64 h, .int .i64 c] 28) = W0 at *
  have AN0 := Lib.hid (Below.refl W0.heap.size W0)
  refine (T0.out W0).mono ?_
  rintro e V1 ⟨rfl, hb1⟩
  have AN1 := Lib.hid (AN0.out.trans (hb1.mono AN0.out.size))
  clear hb1 AN0
  generalize hV : V1 = V at *
  clear hV
  go_wp2_with fail
  go_loopw [4] (fun t wr => ∃ k : Nat, k ≤ 61 ∧ t = .int .i64 k ∧ Below W0.heap.size W0 wr ∧ ∀ i, i < k → okT x y u v i = true) (fun t _ => 61 - (intOf t).toNat)
  case atStart => exact ⟨0, by omega, rfl, AN1.out, fun i hi => absurd hi (Nat.not_lt_zero i)⟩
  case round =>
    obtain ⟨k, hk, rfl, hb, hall⟩ := hrel
    have HB := Lib.hid hb
    have HO := Lib.hid hall
    clear hb hall
    by_cases hlt : k ≤ 60
    · have hlt2 : (k : Int) ≤ 60 := by omega
      have HW := Lib.hid (fun W => show Calls Try.prog 53 #[.agg #[.int .i64 (x + u * (k : Int)), .int .i64 (y + v * (k : Int))]] W (fun e w' => e = .returned (.bool (okT x y u v k)) ∧ Below W.heap.size W w') from poss.good7 _ _ W)
      have HK := Lib.hid (HA.out k)
      have HS := Lib.hid (HY.out k (by omega) HO.out)
      generalize x + u * (k : Int) = X at *
      generalize y + v * (k : Int) = Y at *
      generalize hb : okT x y u v k = b at *
      have m0_ : wr.cell? ⟨w.heap.size, 0, none⟩ = some (.int .i64 x) := (S0.out.old HB.out).cell 0
      have m1_ : wr.cell? ⟨w.heap.size, 1, none⟩ = some (.int .i64 y) := (S0.out.old HB.out).cell 1
      have m2_ : wr.cell? ⟨w.heap.size, 2, none⟩ = some (.int .i64 u) := (S0.out.old HB.out).cell 2
      have m3_ : wr.cell? ⟨w.heap.size, 3, none⟩ = some (.int .i64 v) := (S0.out.old HB.out).cell 3
      have m4_ : wr.cell? ⟨w.heap.size, 4, none⟩ = some (.int .i64 h) := (S0.out.old HB.out).cell 4
      have m5_ : wr.cell? ⟨w.heap.size, 5, none⟩ = some (.int .i64 c) := (S0.out.old HB.out).cell 5
      go_wp2_with fail
      clear m0_ m1_ m2_ m3_ m4_ m5_
      refine (HK.out wr hlt).mono ?_
      rintro e W7 ⟨rfl, hb7⟩
      have HB7 := Lib.hid (HB.out.trans (hb7.mono HB.out.size))
      clear hb7
      go_wp2_with fail
      refine (HW.out W7).mono ?_
      rintro e W8 ⟨rfl, hb8⟩
      have HB8 := Lib.hid (HB7.out.trans (hb8.mono HB7.out.size))
      clear hb8
      cases b
      · have HE := Lib.hid (HS.out rfl)
        have BX := Lib.hid (S0.out.1.trans (HB8.out.mono S0.out.1.size))
        go_wp2_with fail
        go_ret2
        exact ⟨by rw [HE.out.1, HE.out.2]; rfl, BX.out⟩
      · have HN := Lib.hid (show ∀ i, i < k + 1 → okT x y u v i = true from fun i hi => by
          by_cases e : i = k
          · rw [e]; exact hb
          · exact HO.out i (by omega))
        clear HS hb
        go_wp2_with fail
        go_roundw
        case rel => exact ⟨k + 1, by omega, by go_num, HB8.out, HN.out⟩
        case measure => simp [intOf]; omega
    · obtain rfl : k = 61 := by omega
      have HE := Lib.hid (lv_end (h := h) (c := c) HO.out)
      have BX := Lib.hid (S0.out.1.trans (HB.out.mono S0.out.1.size))
      go_wp2_with fail
      go_ret2
      exact ⟨by rw [lv_no HE.out, HE.out]; rfl, BX.out⟩

/-- The smallest number that has been seen. -/
def ls (f : Nat → Int) (k : Nat) : Int := if k = 0 then -1 else f (nmT f k)
theorem sqd_in {x y u v p q : Int} {k : Nat} (hx : 0 ≤ x ∧ x ≤ 9899) (hy : 0 ≤ y ∧ y ≤ 9899) (hu : -200 ≤ u ∧ u ≤ 200) (hv : -200 ≤ v ∧ v ≤ 200) (hp : 0 ≤ p ∧ p ≤ 9899) (hq : 0 ≤ q ∧ q ≤ 9899) (hk : k ≤ 60) : 0 ≤ sqd x y u v p q k := by
  have h1 := far hx hu hk
  have h2 := far hy hv hk
  have e1 := square_in (z := x + u * (k : Int) - p) (by omega)
  have e2 := square_in (z := y + v * (k : Int) - q) (by omega)
  unfold sqd
  omega
set_option maxRecDepth 100000 in
set_option maxHeartbeats 4000000 in
theorem nearestMinute (x y u v h c p q : Int) (w : World)  :
    Calls Try.prog 25 #[.agg #[.int .i64 x, .int .i64 y, .int .i64 u, .int .i64 v, .int .i64 h, .int .i64 c], .agg #[.int .i64 p, .int .i64 q]] w fun e w' => e = .returned (.tuple #[.int .i64 (nmV x y u v h c p q : Int), .bool (nmB x y u v h c p q)]) ∧ Below w.heap.size w w' := by
  have S0 := Lib.hid ((newS 28 #[.int .i64 x, .int .i64 y, .int .i64 u, .int .i64 v, .int .i64 h, .int .i64 c] w).alloc (.cells #[.int .i64 p, .int .i64 q] 25))
  have S1 := Lib.hid ((newS 28 #[.int .i64 x, .int .i64 y, .int .i64 u, .int .i64 v, .int .i64 h, .int .i64 c] w).next 25 #[.int .i64 p, .int .i64 q])
  rw [World.size_alloc] at S1
  have T0 := Lib.hid (fun W => good16 x y u v h c W)
  have T1 := Lib.hid (fun W => poss.good7 p q W)
  cases hq0 : moB x y u v h c
  · have HE := Lib.hid (show nmB x y u v h c p q = false by unfold nmB; rw [hq0]; rfl)
    rw [hq0] at T0
    clear hq0
    go_enter Try.func25, Try.ntmps25
    go_wp2_with fail
    generalize (w.alloc (.cells #[.int .i64 x, .int .i64 y, .int .i64 u, .int .i64 v, .int .i64 h, .int .i64 c] 28)).alloc (.cells #[.int .i64 p, .int .i64 q] 25) = W0 at *
    have AN0 := Lib.hid (Below.refl W0.heap.size W0)
    refine (T0.out W0).mono ?_
    rintro e V1 ⟨rfl, hb1⟩
    have AN1 := Lib.hid (AN0.out.trans (hb1.mono AN0.out.size))
    clear hb1 AN0
    have BX := Lib.hid (S0.out.1.trans (AN1.out.mono S0.out.1.size))
    go_wp2_with fail
    go_ret2
    exact ⟨by rw [nm_no HE.out, HE.out]; rfl, BX.out⟩
  rw [hq0] at T0
  cases hq1 : pB p q
  · have HE := Lib.hid (show nmB x y u v h c p q = false by unfold nmB; rw [hq0, hq1]; rfl)
    rw [hq1] at T1
    clear hq0 hq1
    go_enter Try.func25, Try.ntmps25
    go_wp2_with fail
    generalize (w.alloc (.cells #[.int .i64 x, .int .i64 y, .int .i64 u, .int .i64 v, .int .i64 h, .int .i64 c] 28)).alloc (.cells #[.int .i64 p, .int .i64 q] 25) = W0 at *
    have AN0 := Lib.hid (Below.refl W0.heap.size W0)
    refine (T0.out W0).mono ?_
    rintro e V1 ⟨rfl, hb1⟩
    have AN1 := Lib.hid (AN0.out.trans (hb1.mono AN0.out.size))
    clear hb1 AN0
    have m0_ : V1.cell? ⟨w.heap.size, 0, none⟩ = some (.int .i64 x) := (S0.out.old AN1.out).cell 0
    have m1_ : V1.cell? ⟨w.heap.size, 1, none⟩ = some (.int .i64 y) := (S0.out.old AN1.out).cell 1
    have m2_ : V1.cell? ⟨w.heap.size, 2, none⟩ = some (.int .i64 u) := (S0.out.old AN1.out).cell 2
    have m3_ : V1.cell? ⟨w.heap.size, 3, none⟩ = some (.int .i64 v) := (S0.out.old AN1.out).cell 3
    have m4_ : V1.cell? ⟨w.heap.size, 4, none⟩ = some (.int .i64 h) := (S0.out.old AN1.out).cell 4
    have m5_ : V1.cell? ⟨w.heap.size, 5, none⟩ = some (.int .i64 c) := (S0.out.old AN1.out).cell 5
    have p0_ : V1.cell? ⟨w.heap.size + 1, 0, none⟩ = some (.int .i64 p) := (S1.out.old AN1.out).cell 0
    have p1_ : V1.cell? ⟨w.heap.size + 1, 1, none⟩ = some (.int .i64 q) := (S1.out.old AN1.out).cell 1
    go_wp2_with fail
    clear m0_ m1_ m2_ m3_ m4_ m5_ p0_ p1_
    refine (T1.out V1).mono ?_
    rintro e V2 ⟨rfl, hb2⟩
    have AN2 := Lib.hid (AN1.out.trans (hb2.mono AN1.out.size))
    clear hb2 AN1
    have BX := Lib.hid (S0.out.1.trans (AN2.out.mono S0.out.1.size))
    go_wp2_with fail
    go_ret2
    exact ⟨by rw [nm_no HE.out, HE.out]; rfl, BX.out⟩
  rw [hq1] at T1
  have HE := Lib.hid (show nmB x y u v h c p q = true by unfold nmB; rw [hq0, hq1]; rfl)
  have HV := Lib.hid (nm_yes HE.out)
  obtain ⟨hx, hy, hu, hv, -, -⟩ := mo_in hq0
  obtain ⟨hp, hq⟩ := pB_yes hq1
  have HP := Lib.hid (fun (k : Nat) (hk : k ≤ 60) => sqd_in hx hy hu hv hp hq hk)
  have HF := Lib.hid (fun (k : Nat) (hk : k ≤ 60) => far hx hu hk)
  have HG := Lib.hid (fun (k : Nat) (hk : k ≤ 60) => far hy hv hk)
  have HI := Lib.hid (show (0 ≤ p ∧ p ≤ 9899) ∧ 0 ≤ q ∧ q ≤ 9899 from ⟨hp, hq⟩)
  clear hq0 hq1 hx hy hu hv hp hq
  go_enter Try.func25, Try.ntmps25
  go_wp2_with fail
  generalize (w.alloc (.cells #[.int .i64 x, .int .i64 y, .int .i64 u, .int .i64 v, .int .i64 h, .int .i64 c] 28)).alloc (.cells #[.int .i64 p, .int .i64 q] 25) = W0 at *
  have AN0 := Lib.hid (Below.refl W0.heap.size W0)
  refine (T0.out W0).mono ?_
  rintro e V1 ⟨rfl, hb1⟩
  have AN1 := Lib.hid (AN0.out.trans (hb1.mono AN0.out.size))
  clear hb1 AN0
  have m0_ : V1.cell? ⟨w.heap.size, 0, none⟩ = some (.int .i64 x) := (S0.out.old AN1.out).cell 0
  have m1_ : V1.cell? ⟨w.heap.size, 1, none⟩ = some (.int .i64 y) := (S0.out.old AN1.out).cell 1
  have m2_ : V1.cell? ⟨w.heap.size, 2, none⟩ = some (.int .i64 u) := (S0.out.old AN1.out).cell 2
  have m3_ : V1.cell? ⟨w.heap.size, 3, none⟩ = some (.int .i64 v) := (S0.out.old AN1.out).cell 3
  have m4_ : V1.cell? ⟨w.heap.size, 4, none⟩ = some (.int .i64 h) := (S0.out.old AN1.out).cell 4
  have m5_ : V1.cell? ⟨w.heap.size, 5, none⟩ = some (.int .i64 c) := (S0.out.old AN1.out).cell 5
  have p0_ : V1.cell? ⟨w.heap.size + 1, 0, none⟩ = some (.int .i64 p) := (S1.out.old AN1.out).cell 0
  have p1_ : V1.cell? ⟨w.heap.size + 1, 1, none⟩ = some (.int .i64 q) := (S1.out.old AN1.out).cell 1
  go_wp2_with fail
  clear m0_ m1_ m2_ m3_ m4_ m5_ p0_ p1_
  refine (T1.out V1).mono ?_
  rintro e V2 ⟨rfl, hb2⟩
  have AN2 := Lib.hid (AN1.out.trans (hb2.mono AN1.out.size))
  clear hb2 AN1
  generalize hV : V2 = V at *
  clear hV
  go_wp2_with fail
  go_loopw [6, 7, 8] (fun b l t wr => ∃ k : Nat, k ≤ 61 ∧ b = .int .i64 (nmT (sqd x y u v p q) k : Nat) ∧ l = .int .i64 (ls (sqd x y u v p q) k) ∧ t = .int .i64 k ∧ Below W0.heap.size W0 wr) (fun _ _ t _ => 61 - (intOf t).toNat)
  case atStart => exact ⟨0, by omega, rfl, rfl, rfl, AN2.out⟩
  case round =>
    obtain ⟨k, hk, rfl, rfl, rfl, hb⟩ := hrel
    have HB := Lib.hid hb
    clear hb
    by_cases hlt : k ≤ 60
    · have hlt2 : (k : Int) ≤ 60 := by omega
      obtain ⟨⟨a1, a2⟩, a3, a4⟩ := HF.out k hlt
      obtain ⟨⟨b1, b2⟩, b3, b4⟩ := HG.out k hlt
      obtain ⟨⟨p1, p2⟩, q1, q2⟩ := HI.out
      have hd := HP.out k hlt
      have HQ := Lib.hid (show sqd x y u v p q k = (x + u * (k : Int) - p) * (x + u * (k : Int) - p) + (y + v * (k : Int) - q) * (y + v * (k : Int) - q) from rfl)
      have s1 := square_in (z := x + u * (k : Int) - p) (by omega)
      have s2 := square_in (z := y + v * (k : Int) - q) (by omega)
      generalize hz1 : u * (k : Int) = Z1 at *
      generalize hz2 : v * (k : Int) = Z2 at *
      have e1 : IntKind.i64.wrap Z1 = Z1 := IntWalk.i64_in _ (by omega)
      have e2 : IntKind.i64.wrap Z2 = Z2 := IntWalk.i64_in _ (by omega)
      have e3 : IntKind.i64.wrap (x + Z1) = x + Z1 := IntWalk.i64_in _ (by omega)
      have e4 : IntKind.i64.wrap (y + Z2) = y + Z2 := IntWalk.i64_in _ (by omega)
      have e5 : IntKind.i64.wrap (x + Z1 - p) = x + Z1 - p := IntWalk.i64_in _ (by omega)
      have e6 : IntKind.i64.wrap (y + Z2 - q) = y + Z2 - q := IntWalk.i64_in _ (by omega)
      generalize ha1 : x + Z1 - p = A1 at *
      generalize ha2 : y + Z2 - q = A2 at *
      generalize hx1 : A1 * A1 = X1 at *
      generalize hx2 : A2 * A2 = X2 at *
      have e7 : IntKind.i64.wrap X1 = X1 := IntWalk.i64_in _ (by omega)
      have e8 : IntKind.i64.wrap X2 = X2 := IntWalk.i64_in _ (by omega)
      have e9 : IntKind.i64.wrap (X1 + X2) = X1 + X2 := IntWalk.i64_in _ (by omega)
      have m0_ : wr.cell? ⟨w.heap.size, 0, none⟩ = some (.int .i64 x) := (S0.out.old HB.out).cell 0
      have m1_ : wr.cell? ⟨w.heap.size, 1, none⟩ = some (.int .i64 y) := (S0.out.old HB.out).cell 1
      have m2_ : wr.cell? ⟨w.heap.size, 2, none⟩ = some (.int .i64 u) := (S0.out.old HB.out).cell 2
      have m3_ : wr.cell? ⟨w.heap.size, 3, none⟩ = some (.int .i64 v) := (S0.out.old HB.out).cell 3
      have m4_ : wr.cell? ⟨w.heap.size, 4, none⟩ = some (.int .i64 h) := (S0.out.old HB.out).cell 4
      have m5_ : wr.cell? ⟨w.heap.size, 5, none⟩ = some (.int .i64 c) := (S0.out.old HB.out).cell 5
      have p0_ : wr.cell? ⟨w.heap.size + 1, 0, none⟩ = some (.int .i64 p) := (S1.out.old HB.out).cell 0
      have p1_ : wr.cell? ⟨w.heap.size + 1, 1, none⟩ = some (.int .i64 q) := (S1.out.old HB.out).cell 1
      by_cases h0 : k = 0
      · have NB := Lib.hid (show nmT (sqd x y u v p q) (k + 1) = k by rw [h0, nmT_one])
        have NL := Lib.hid (show ls (sqd x y u v p q) (k + 1) = X1 + X2 by rw [← HQ.out]; unfold ls; rw [if_neg (Nat.succ_ne_zero k), NB.out])
        have hl : ls (sqd x y u v p q) k = -1 := by unfold ls; rw [if_pos h0]
        rw [hl]
        clear hl h0
        generalize hn : nmT (sqd x y u v p q) k = m0 at *
        clear hn
        go_wp2_with fail
        go_quiet (fail)
        go_wp2_with fail
        go_roundw
        case rel => exact ⟨k + 1, by omega, by rw [NB.out], by rw [NL.out], by go_num, aid.below_drewN HB.out _⟩
        case measure => simp [intOf]; omega
      · have hl : ls (sqd x y u v p q) k = sqd x y u v p q (nmT (sqd x y u v p q) k) := by unfold ls; rw [if_neg h0]
        have hnn := HP.out (nmT (sqd x y u v p q) k) (by have := nmT_lt (sqd x y u v p q) (k - 1); rw [Nat.sub_add_cancel (by omega)] at this; omega)
        by_cases hc : sqd x y u v p q k < sqd x y u v p q (nmT (sqd x y u v p q) k)
        · have NB := Lib.hid (show nmT (sqd x y u v p q) (k + 1) = k from nmT_yes hc)
          have NL := Lib.hid (show ls (sqd x y u v p q) (k + 1) = X1 + X2 by rw [← HQ.out]; unfold ls; rw [if_neg (Nat.succ_ne_zero k), NB.out])
          rw [hl]
          rw [HQ.out] at hc
          clear hl h0
          generalize sqd x y u v p q (nmT (sqd x y u v p q) k) = L0 at *
          generalize hn : nmT (sqd x y u v p q) k = m0 at *
          clear hn
          have g1 : ¬ L0 < 0 := by omega
          go_wp2_with fail
          go_quiet (fail)
          go_wp2_with fail
          go_roundw
          case rel => exact ⟨k + 1, by omega, by rw [NB.out], by rw [NL.out], by go_num, aid.below_drewN HB.out _⟩
          case measure => simp [intOf]; omega
        · have NB := Lib.hid (show nmT (sqd x y u v p q) (k + 1) = nmT (sqd x y u v p q) k from nmT_no hc)
          have NL := Lib.hid (show ls (sqd x y u v p q) (k + 1) = sqd x y u v p q (nmT (sqd x y u v p q) k) by unfold ls; rw [if_neg (Nat.succ_ne_zero k), NB.out])
          rw [hl]
          rw [HQ.out] at hc
          clear hl h0
          generalize sqd x y u v p q (nmT (sqd x y u v p q) k) = L0 at *
          generalize hn : nmT (sqd x y u v p q) k = m0 at *
          clear hn
          have g1 : ¬ L0 < 0 := by omega
          go_wp2_with fail
          go_quiet (fail)
          go_wp2_with fail
          go_roundw
          case rel => exact ⟨k + 1, by omega, by rw [NB.out], by rw [NL.out], by go_num, aid.below_drewN HB.out _⟩
          case measure => simp [intOf]; omega
    · obtain rfl : k = 61 := by omega
      have BX := Lib.hid (S0.out.1.trans (HB.out.mono S0.out.1.size))
      go_wp2_with fail
      go_ret2
      exact ⟨by rw [HV.out, HE.out]; rfl, BX.out⟩

end Go.Proofs.Ytinkkdgjpcnklaa.mots
