/- spec's public functions of chapter 17 that return numbers and truths: DoubleArea, IsIn, IsOnBorder, CrossedSides. -/
import Derived.Test.YtadpihfegccpkaaSctR
import Derived.Test.YtadpihfegccpkaaSctW
namespace Go.Proofs.Ytadpihfegccpkaa.sctq
open Go.RowKit Go.Proofs.Ytadpihfegccpkaa.ints Go.Proofs.Ytadpihfegccpkaa.lst Go.Proofs.Ytadpihfegccpkaa.in_ Go.Proofs.Ytadpihfegccpkaa.ats Go.Proofs.Ytadpihfegccpkaa.pos Go.Proofs.Ytadpihfegccpkaa.sct Go.Proofs.Ytadpihfegccpkaa.sctt Go.Proofs.Ytadpihfegccpkaa.sctv Go.Proofs.Ytadpihfegccpkaa.scti Go.Proofs.Ytadpihfegccpkaa.sctj Go.Proofs.Ytadpihfegccpkaa.sctb Go.Proofs.Ytadpihfegccpkaa.sctr

theorem abs7 (x : Int) (w : World) (hx : -1200000000 ≤ x) (hx2 : x ≤ 1200000000) :
    Calls Try.prog 81 #[.int .i64 x] w fun e w' => e = .returned (.int .i64 (x.natAbs : Int)) ∧ w = w' := by
  have T := Lib.hid (fun w => scts.most x (-x) w)
  have e1 : IntKind.i64.wrap (-x) = -x := IntWalk.i64_in _ (by omega)
  rw [show max x (-x) = (x.natAbs : Int) by omega] at T
  generalize (x.natAbs : Int) = y at *
  go_enter Try.func81, Try.ntmps81
  go_wp2_with fail
  refine (T.out _).mono ?_
  rintro e w' ⟨rfl, rfl⟩
  go_wp2_with fail
  go_ret
  exact ⟨rfl, rfl⟩
set_option maxRecDepth 100000 in
set_option maxHeartbeats 2000000 in
theorem doubleArea (d : Int) (zs : List Int) (A : Option Addr) (n c : Nat) (w : World) (hn : n ≤ 1048576) (h1 : RdZ 2 w w.heap.size A n zs) :
    Calls Try.prog 37 #[.agg #[.int .i64 d, .slice A n c]] w fun e w' => e = .returned (.tuple #[.int .i64 (daV d zs n), .bool (seV d zs n)]) ∧ Below w.heap.size w w' := by
  have S0 := Lib.hid (newS 26 #[.int .i64 d, .slice A n c] w)
  have T0 := Lib.hid (fun W (hb : Below w.heap.size w W) => show Calls Try.prog 59 #[.agg #[.int .i64 d, .slice A n c]] W (fun e w' => e = .returned (.bool (seV d zs n)) ∧ Below W.heap.size W w') from sctw.good17 d zs A n c W (by omega) (h1.next hb))
  cases hq0 : seV d zs n
  · have HE := Lib.hid (And.intro (daV_no hq0) hq0)
    rw [hq0] at T0
    clear h1 hq0
    go_enter Try.func37, Try.ntmps37
    go_wp2_with fail
    generalize (w.alloc (.cells #[.int .i64 d, .slice A n c] 26)) = W0 at *
    have AN0 := Lib.hid (Below.refl W0.heap.size W0)
    refine (T0.out W0 (S0.out.1.trans (AN0.out.mono S0.out.1.size))).mono ?_
    rintro e V1 ⟨rfl, hb1⟩
    have AN1 := Lib.hid (AN0.out.trans (hb1.mono AN0.out.size))
    clear hb1
    have BX := Lib.hid (S0.out.1.trans (AN1.out.mono S0.out.1.size))
    go_wp2_with fail
    go_ret2
    exact ⟨by rw [HE.out.1]; rfl, BX.out⟩
  rw [hq0] at T0
  obtain ⟨⟨g3, g8⟩, gp⟩ := se_corner hq0
  obtain ⟨r1, r2⟩ := dbl_bd g3 g8 gp
  have HV := Lib.hid (daV_yes hq0)
  have CD := Lib.hid (fun W (hb : Below w.heap.size w W) => sctu.double17 d zs A n c W (by omega) (by omega) gp g3 g8 (h1.next hb))
  have CA := Lib.hid (fun W => abs7 (dbl (cX zs) (cY zs) (n - 2)) W r1 r2)
  have HB := Lib.hid hq0
  clear hq0 h1 gp r1 r2
  generalize dbl (cX zs) (cY zs) (n - 2) = s at *
  go_enter Try.func37, Try.ntmps37
  go_wp2_with fail
  generalize (w.alloc (.cells #[.int .i64 d, .slice A n c] 26)) = W0 at *
  have AN0 := Lib.hid (Below.refl W0.heap.size W0)
  refine (T0.out W0 (S0.out.1.trans (AN0.out.mono S0.out.1.size))).mono ?_
  rintro e V1 ⟨rfl, hb1⟩
  have AN1 := Lib.hid (AN0.out.trans (hb1.mono AN0.out.size))
  clear hb1
  have c00 : V1.cell? ⟨w.heap.size, 0, none⟩ = some (.int .i64 d) := (S0.out.old AN1.out).cell 0
  have c01 : V1.cell? ⟨w.heap.size, 1, none⟩ = some (.slice A n c) := (S0.out.old AN1.out).cell 1
  go_wp2_with fail
  clear c00 c01
  refine (CD.out V1 (S0.out.1.trans (AN1.out.mono S0.out.1.size))).mono ?_
  rintro e V2 ⟨rfl, hb2⟩
  have AN2 := Lib.hid (AN1.out.trans (hb2.mono AN1.out.size))
  clear hb2
  go_wp2_with fail
  refine (CA.out V2).mono ?_
  rintro e w' ⟨rfl, rfl⟩
  have BX := Lib.hid (S0.out.1.trans (AN2.out.mono S0.out.1.size))
  go_wp2_with fail
  go_ret2
  exact ⟨by rw [HV.out]; rfl, BX.out⟩

set_option maxRecDepth 100000 in
set_option maxHeartbeats 2000000 in
theorem isIn (d : Int) (zs : List Int) (px py : Int) (A : Option Addr) (n c : Nat) (w : World) (hn : n ≤ 1048576) (h1 : RdZ 2 w w.heap.size A n zs) :
    Calls Try.prog 17 #[.agg #[.int .i64 d, .slice A n c], .agg #[.int .i64 px, .int .i64 py]] w fun e w' => e = .returned (.tuple #[.bool (iiV d zs n px py), .bool (iiB d zs n px py)]) ∧ Below w.heap.size w w' := by
  have S0 := Lib.hid ((newS 26 #[.int .i64 d, .slice A n c] w).alloc (.cells #[.int .i64 px, .int .i64 py] 28))
  have S1 := Lib.hid ((newS 26 #[.int .i64 d, .slice A n c] w).next 28 #[.int .i64 px, .int .i64 py])
  rw [World.size_alloc] at S1
  have T0 := Lib.hid (fun W (hb : Below w.heap.size w W) => show Calls Try.prog 59 #[.agg #[.int .i64 d, .slice A n c]] W (fun e w' => e = .returned (.bool (seV d zs n)) ∧ Below W.heap.size W w') from sctw.good17 d zs A n c W (by omega) (h1.next hb))
  have T1 := Lib.hid (fun W => poss.good7 px py W)
  cases hq0 : seV d zs n
  · have HE := Lib.hid (And.intro (iiV_no (px := px) (py := py) (ii_no1 hq0)) (ii_no1 (px := px) (py := py) hq0))
    rw [hq0] at T0
    clear h1 hq0
    go_enter Try.func17, Try.ntmps17
    go_wp2_with fail
    generalize ((w.alloc (.cells #[.int .i64 d, .slice A n c] 26)).alloc (.cells #[.int .i64 px, .int .i64 py] 28)) = W0 at *
    have AN0 := Lib.hid (Below.refl W0.heap.size W0)
    refine (T0.out W0 (S0.out.1.trans (AN0.out.mono S0.out.1.size))).mono ?_
    rintro e V1 ⟨rfl, hb1⟩
    have AN1 := Lib.hid (AN0.out.trans (hb1.mono AN0.out.size))
    clear hb1
    have BX := Lib.hid (S0.out.1.trans (AN1.out.mono S0.out.1.size))
    go_wp2_with fail
    go_ret2
    exact ⟨by rw [HE.out.1.1, HE.out.2]; rfl, BX.out⟩
  rw [hq0] at T0
  cases hq1 : pB px py
  · have HE := Lib.hid (And.intro (iiV_no (d := d) (zs := zs) (n := n) (ii_no2 hq1)) (ii_no2 (d := d) (zs := zs) (n := n) hq1))
    rw [hq1] at T1
    clear h1 hq0 hq1
    go_enter Try.func17, Try.ntmps17
    go_wp2_with fail
    generalize ((w.alloc (.cells #[.int .i64 d, .slice A n c] 26)).alloc (.cells #[.int .i64 px, .int .i64 py] 28)) = W0 at *
    have AN0 := Lib.hid (Below.refl W0.heap.size W0)
    refine (T0.out W0 (S0.out.1.trans (AN0.out.mono S0.out.1.size))).mono ?_
    rintro e V1 ⟨rfl, hb1⟩
    have AN1 := Lib.hid (AN0.out.trans (hb1.mono AN0.out.size))
    clear hb1
    have c00 : V1.cell? ⟨w.heap.size, 0, none⟩ = some (.int .i64 d) := (S0.out.old AN1.out).cell 0
    have c01 : V1.cell? ⟨w.heap.size, 1, none⟩ = some (.slice A n c) := (S0.out.old AN1.out).cell 1
    have c10 : V1.cell? ⟨w.heap.size + 1, 0, none⟩ = some (.int .i64 px) := (S1.out.old AN1.out).cell 0
    have c11 : V1.cell? ⟨w.heap.size + 1, 1, none⟩ = some (.int .i64 py) := (S1.out.old AN1.out).cell 1
    go_wp2_with fail
    clear c00 c01 c10 c11
    refine (T1.out V1).mono ?_
    rintro e V2 ⟨rfl, hb2⟩
    have AN2 := Lib.hid (AN1.out.trans (hb2.mono AN1.out.size))
    clear hb2
    have BX := Lib.hid (S0.out.1.trans (AN2.out.mono S0.out.1.size))
    go_wp2_with fail
    go_ret2
    exact ⟨by rw [HE.out.1.1, HE.out.2]; rfl, BX.out⟩
  rw [hq1] at T1
  obtain ⟨⟨g3, g8⟩, gp⟩ := se_corner hq0
  have HB := Lib.hid (ii_yes hq0 hq1)
  have HV := Lib.hid ((iiV_yes HB.out).1)
  have CD := Lib.hid (fun W (hb : Below w.heap.size w W) => sctu.in17 d zs px py A n c W (by omega) (by omega) gp hq1 (h1.next hb))
  clear hq0 hq1 h1 gp
  generalize inB (cX zs) (cY zs) n px py = s at *
  go_enter Try.func17, Try.ntmps17
  go_wp2_with fail
  generalize ((w.alloc (.cells #[.int .i64 d, .slice A n c] 26)).alloc (.cells #[.int .i64 px, .int .i64 py] 28)) = W0 at *
  have AN0 := Lib.hid (Below.refl W0.heap.size W0)
  refine (T0.out W0 (S0.out.1.trans (AN0.out.mono S0.out.1.size))).mono ?_
  rintro e V1 ⟨rfl, hb1⟩
  have AN1 := Lib.hid (AN0.out.trans (hb1.mono AN0.out.size))
  clear hb1
  have c00 : V1.cell? ⟨w.heap.size, 0, none⟩ = some (.int .i64 d) := (S0.out.old AN1.out).cell 0
  have c01 : V1.cell? ⟨w.heap.size, 1, none⟩ = some (.slice A n c) := (S0.out.old AN1.out).cell 1
  have c10 : V1.cell? ⟨w.heap.size + 1, 0, none⟩ = some (.int .i64 px) := (S1.out.old AN1.out).cell 0
  have c11 : V1.cell? ⟨w.heap.size + 1, 1, none⟩ = some (.int .i64 py) := (S1.out.old AN1.out).cell 1
  go_wp2_with fail
  clear c00 c01 c10 c11
  refine (T1.out V1).mono ?_
  rintro e V2 ⟨rfl, hb2⟩
  have AN2 := Lib.hid (AN1.out.trans (hb2.mono AN1.out.size))
  clear hb2
  have c00 : V2.cell? ⟨w.heap.size, 0, none⟩ = some (.int .i64 d) := (S0.out.old AN2.out).cell 0
  have c01 : V2.cell? ⟨w.heap.size, 1, none⟩ = some (.slice A n c) := (S0.out.old AN2.out).cell 1
  have c10 : V2.cell? ⟨w.heap.size + 1, 0, none⟩ = some (.int .i64 px) := (S1.out.old AN2.out).cell 0
  have c11 : V2.cell? ⟨w.heap.size + 1, 1, none⟩ = some (.int .i64 py) := (S1.out.old AN2.out).cell 1
  go_wp2_with fail
  clear c00 c01 c10 c11
  refine (CD.out V2 (S0.out.1.trans (AN2.out.mono S0.out.1.size))).mono ?_
  rintro e V3 ⟨rfl, hb3⟩
  have AN3 := Lib.hid (AN2.out.trans (hb3.mono AN2.out.size))
  clear hb3
  have BX := Lib.hid (S0.out.1.trans (AN3.out.mono S0.out.1.size))
  go_wp2_with fail
  go_ret2
  exact ⟨by rw [HV.out, HB.out]; rfl, BX.out⟩

set_option maxRecDepth 100000 in
set_option maxHeartbeats 2000000 in
theorem isOnBorder (d : Int) (zs : List Int) (px py : Int) (A : Option Addr) (n c : Nat) (w : World) (hn : n ≤ 1048576) (h1 : RdZ 2 w w.heap.size A n zs) :
    Calls Try.prog 21 #[.agg #[.int .i64 d, .slice A n c], .agg #[.int .i64 px, .int .i64 py]] w fun e w' => e = .returned (.tuple #[.bool (ioV d zs n px py), .bool (iiB d zs n px py)]) ∧ Below w.heap.size w w' := by
  have S0 := Lib.hid ((newS 26 #[.int .i64 d, .slice A n c] w).alloc (.cells #[.int .i64 px, .int .i64 py] 28))
  have S1 := Lib.hid ((newS 26 #[.int .i64 d, .slice A n c] w).next 28 #[.int .i64 px, .int .i64 py])
  rw [World.size_alloc] at S1
  have T0 := Lib.hid (fun W (hb : Below w.heap.size w W) => show Calls Try.prog 59 #[.agg #[.int .i64 d, .slice A n c]] W (fun e w' => e = .returned (.bool (seV d zs n)) ∧ Below W.heap.size W w') from sctw.good17 d zs A n c W (by omega) (h1.next hb))
  have T1 := Lib.hid (fun W => poss.good7 px py W)
  cases hq0 : seV d zs n
  · have HE := Lib.hid (And.intro (iiV_no (px := px) (py := py) (ii_no1 hq0)) (ii_no1 (px := px) (py := py) hq0))
    rw [hq0] at T0
    clear h1 hq0
    go_enter Try.func21, Try.ntmps21
    go_wp2_with fail
    generalize ((w.alloc (.cells #[.int .i64 d, .slice A n c] 26)).alloc (.cells #[.int .i64 px, .int .i64 py] 28)) = W0 at *
    have AN0 := Lib.hid (Below.refl W0.heap.size W0)
    refine (T0.out W0 (S0.out.1.trans (AN0.out.mono S0.out.1.size))).mono ?_
    rintro e V1 ⟨rfl, hb1⟩
    have AN1 := Lib.hid (AN0.out.trans (hb1.mono AN0.out.size))
    clear hb1
    have BX := Lib.hid (S0.out.1.trans (AN1.out.mono S0.out.1.size))
    go_wp2_with fail
    go_ret2
    exact ⟨by rw [HE.out.1.2, HE.out.2]; rfl, BX.out⟩
  rw [hq0] at T0
  cases hq1 : pB px py
  · have HE := Lib.hid (And.intro (iiV_no (d := d) (zs := zs) (n := n) (ii_no2 hq1)) (ii_no2 (d := d) (zs := zs) (n := n) hq1))
    rw [hq1] at T1
    clear h1 hq0 hq1
    go_enter Try.func21, Try.ntmps21
    go_wp2_with fail
    generalize ((w.alloc (.cells #[.int .i64 d, .slice A n c] 26)).alloc (.cells #[.int .i64 px, .int .i64 py] 28)) = W0 at *
    have AN0 := Lib.hid (Below.refl W0.heap.size W0)
    refine (T0.out W0 (S0.out.1.trans (AN0.out.mono S0.out.1.size))).mono ?_
    rintro e V1 ⟨rfl, hb1⟩
    have AN1 := Lib.hid (AN0.out.trans (hb1.mono AN0.out.size))
    clear hb1
    have c00 : V1.cell? ⟨w.heap.size, 0, none⟩ = some (.int .i64 d) := (S0.out.old AN1.out).cell 0
    have c01 : V1.cell? ⟨w.heap.size, 1, none⟩ = some (.slice A n c) := (S0.out.old AN1.out).cell 1
    have c10 : V1.cell? ⟨w.heap.size + 1, 0, none⟩ = some (.int .i64 px) := (S1.out.old AN1.out).cell 0
    have c11 : V1.cell? ⟨w.heap.size + 1, 1, none⟩ = some (.int .i64 py) := (S1.out.old AN1.out).cell 1
    go_wp2_with fail
    clear c00 c01 c10 c11
    refine (T1.out V1).mono ?_
    rintro e V2 ⟨rfl, hb2⟩
    have AN2 := Lib.hid (AN1.out.trans (hb2.mono AN1.out.size))
    clear hb2
    have BX := Lib.hid (S0.out.1.trans (AN2.out.mono S0.out.1.size))
    go_wp2_with fail
    go_ret2
    exact ⟨by rw [HE.out.1.2, HE.out.2]; rfl, BX.out⟩
  rw [hq1] at T1
  obtain ⟨⟨g3, g8⟩, gp⟩ := se_corner hq0
  have HB := Lib.hid (ii_yes hq0 hq1)
  have HV := Lib.hid ((iiV_yes HB.out).2)
  have CD := Lib.hid (fun W (hb : Below w.heap.size w W) => sctu.border17 d zs px py A n c W (by omega) (by omega) gp hq1 (h1.next hb))
  clear hq0 hq1 h1 gp
  generalize brd (cX zs) (cY zs) n px py n = s at *
  go_enter Try.func21, Try.ntmps21
  go_wp2_with fail
  generalize ((w.alloc (.cells #[.int .i64 d, .slice A n c] 26)).alloc (.cells #[.int .i64 px, .int .i64 py] 28)) = W0 at *
  have AN0 := Lib.hid (Below.refl W0.heap.size W0)
  refine (T0.out W0 (S0.out.1.trans (AN0.out.mono S0.out.1.size))).mono ?_
  rintro e V1 ⟨rfl, hb1⟩
  have AN1 := Lib.hid (AN0.out.trans (hb1.mono AN0.out.size))
  clear hb1
  have c00 : V1.cell? ⟨w.heap.size, 0, none⟩ = some (.int .i64 d) := (S0.out.old AN1.out).cell 0
  have c01 : V1.cell? ⟨w.heap.size, 1, none⟩ = some (.slice A n c) := (S0.out.old AN1.out).cell 1
  have c10 : V1.cell? ⟨w.heap.size + 1, 0, none⟩ = some (.int .i64 px) := (S1.out.old AN1.out).cell 0
  have c11 : V1.cell? ⟨w.heap.size + 1, 1, none⟩ = some (.int .i64 py) := (S1.out.old AN1.out).cell 1
  go_wp2_with fail
  clear c00 c01 c10 c11
  refine (T1.out V1).mono ?_
  rintro e V2 ⟨rfl, hb2⟩
  have AN2 := Lib.hid (AN1.out.trans (hb2.mono AN1.out.size))
  clear hb2
  have c00 : V2.cell? ⟨w.heap.size, 0, none⟩ = some (.int .i64 d) := (S0.out.old AN2.out).cell 0
  have c01 : V2.cell? ⟨w.heap.size, 1, none⟩ = some (.slice A n c) := (S0.out.old AN2.out).cell 1
  have c10 : V2.cell? ⟨w.heap.size + 1, 0, none⟩ = some (.int .i64 px) := (S1.out.old AN2.out).cell 0
  have c11 : V2.cell? ⟨w.heap.size + 1, 1, none⟩ = some (.int .i64 py) := (S1.out.old AN2.out).cell 1
  go_wp2_with fail
  clear c00 c01 c10 c11
  refine (CD.out V2 (S0.out.1.trans (AN2.out.mono S0.out.1.size))).mono ?_
  rintro e V3 ⟨rfl, hb3⟩
  have AN3 := Lib.hid (AN2.out.trans (hb3.mono AN2.out.size))
  clear hb3
  have BX := Lib.hid (S0.out.1.trans (AN3.out.mono S0.out.1.size))
  go_wp2_with fail
  go_ret2
  exact ⟨by rw [HV.out, HB.out]; rfl, BX.out⟩

set_option maxRecDepth 100000 in
set_option maxHeartbeats 2000000 in
theorem crossedSides (d : Int) (zs : List Int) (px py qx qy : Int) (A : Option Addr) (n c : Nat) (w : World) (hn : n ≤ 1048576) (h1 : RdZ 2 w w.heap.size A n zs) :
    Calls Try.prog 33 #[.agg #[.int .i64 d, .slice A n c], .agg #[.int .i64 px, .int .i64 py], .agg #[.int .i64 qx, .int .i64 qy]] w fun e w' => e = .returned (.tuple #[.int .i64 ((csV d zs n px py qx qy : Nat) : Int), .bool (csB d zs n px py qx qy)]) ∧ Below w.heap.size w w' := by
  have S0 := Lib.hid (((newS 26 #[.int .i64 d, .slice A n c] w).alloc (.cells #[.int .i64 px, .int .i64 py] 28)).alloc (.cells #[.int .i64 qx, .int .i64 qy] 28))
  have S1 := Lib.hid (((newS 26 #[.int .i64 d, .slice A n c] w).next 28 #[.int .i64 px, .int .i64 py]).alloc (.cells #[.int .i64 qx, .int .i64 qy] 28))
  rw [World.size_alloc] at S1
  have S2 := Lib.hid (((newS 26 #[.int .i64 d, .slice A n c] w).alloc (.cells #[.int .i64 px, .int .i64 py] 28)).next 28 #[.int .i64 qx, .int .i64 qy])
  rw [World.size_alloc, World.size_alloc] at S2
  have T0 := Lib.hid (fun W (hb : Below w.heap.size w W) => show Calls Try.prog 59 #[.agg #[.int .i64 d, .slice A n c]] W (fun e w' => e = .returned (.bool (seV d zs n)) ∧ Below W.heap.size W w') from sctw.good17 d zs A n c W (by omega) (h1.next hb))
  have T1 := Lib.hid (fun W => poss.good7 px py W)
  have T2 := Lib.hid (fun W => poss.good7 qx qy W)
  cases hq0 : seV d zs n
  · have HE := Lib.hid (show csV d zs n px py qx qy = 0 ∧ csB d zs n px py qx qy = false from And.intro (csV_no (cs_no1 hq0)) (cs_no1 hq0))
    rw [hq0] at T0
    clear h1 hq0
    go_enter Try.func33, Try.ntmps33
    go_wp2_with fail
    generalize (((w.alloc (.cells #[.int .i64 d, .slice A n c] 26)).alloc (.cells #[.int .i64 px, .int .i64 py] 28)).alloc (.cells #[.int .i64 qx, .int .i64 qy] 28)) = W0 at *
    have AN0 := Lib.hid (Below.refl W0.heap.size W0)
    refine (T0.out W0 (S0.out.1.trans (AN0.out.mono S0.out.1.size))).mono ?_
    rintro e V1 ⟨rfl, hb1⟩
    have AN1 := Lib.hid (AN0.out.trans (hb1.mono AN0.out.size))
    clear hb1
    have BX := Lib.hid (S0.out.1.trans (AN1.out.mono S0.out.1.size))
    go_wp2_with fail
    go_ret2
    exact ⟨by rw [HE.out.1, HE.out.2]; rfl, BX.out⟩
  rw [hq0] at T0
  cases hq1 : pB px py
  · have HE := Lib.hid (show csV d zs n px py qx qy = 0 ∧ csB d zs n px py qx qy = false from And.intro (csV_no (cs_no2 hq1)) (cs_no2 hq1))
    rw [hq1] at T1
    clear h1 hq0 hq1
    go_enter Try.func33, Try.ntmps33
    go_wp2_with fail
    generalize (((w.alloc (.cells #[.int .i64 d, .slice A n c] 26)).alloc (.cells #[.int .i64 px, .int .i64 py] 28)).alloc (.cells #[.int .i64 qx, .int .i64 qy] 28)) = W0 at *
    have AN0 := Lib.hid (Below.refl W0.heap.size W0)
    refine (T0.out W0 (S0.out.1.trans (AN0.out.mono S0.out.1.size))).mono ?_
    rintro e V1 ⟨rfl, hb1⟩
    have AN1 := Lib.hid (AN0.out.trans (hb1.mono AN0.out.size))
    clear hb1
    have c00 : V1.cell? ⟨w.heap.size, 0, none⟩ = some (.int .i64 d) := (S0.out.old AN1.out).cell 0
    have c01 : V1.cell? ⟨w.heap.size, 1, none⟩ = some (.slice A n c) := (S0.out.old AN1.out).cell 1
    have c10 : V1.cell? ⟨w.heap.size + 1, 0, none⟩ = some (.int .i64 px) := (S1.out.old AN1.out).cell 0
    have c11 : V1.cell? ⟨w.heap.size + 1, 1, none⟩ = some (.int .i64 py) := (S1.out.old AN1.out).cell 1
    have c20 : V1.cell? ⟨w.heap.size + 1 + 1, 0, none⟩ = some (.int .i64 qx) := (S2.out.old AN1.out).cell 0
    have c21 : V1.cell? ⟨w.heap.size + 1 + 1, 1, none⟩ = some (.int .i64 qy) := (S2.out.old AN1.out).cell 1
    go_wp2_with fail
    clear c00 c01 c10 c11 c20 c21
    refine (T1.out V1).mono ?_
    rintro e V2 ⟨rfl, hb2⟩
    have AN2 := Lib.hid (AN1.out.trans (hb2.mono AN1.out.size))
    clear hb2
    have BX := Lib.hid (S0.out.1.trans (AN2.out.mono S0.out.1.size))
    go_wp2_with fail
    go_ret2
    exact ⟨by rw [HE.out.1, HE.out.2]; rfl, BX.out⟩
  rw [hq1] at T1
  cases hq2 : pB qx qy
  · have HE := Lib.hid (show csV d zs n px py qx qy = 0 ∧ csB d zs n px py qx qy = false from And.intro (csV_no (cs_no3 hq2)) (cs_no3 hq2))
    rw [hq2] at T2
    clear h1 hq0 hq1 hq2
    go_enter Try.func33, Try.ntmps33
    go_wp2_with fail
    generalize (((w.alloc (.cells #[.int .i64 d, .slice A n c] 26)).alloc (.cells #[.int .i64 px, .int .i64 py] 28)).alloc (.cells #[.int .i64 qx, .int .i64 qy] 28)) = W0 at *
    have AN0 := Lib.hid (Below.refl W0.heap.size W0)
    refine (T0.out W0 (S0.out.1.trans (AN0.out.mono S0.out.1.size))).mono ?_
    rintro e V1 ⟨rfl, hb1⟩
    have AN1 := Lib.hid (AN0.out.trans (hb1.mono AN0.out.size))
    clear hb1
    have c00 : V1.cell? ⟨w.heap.size, 0, none⟩ = some (.int .i64 d) := (S0.out.old AN1.out).cell 0
    have c01 : V1.cell? ⟨w.heap.size, 1, none⟩ = some (.slice A n c) := (S0.out.old AN1.out).cell 1
    have c10 : V1.cell? ⟨w.heap.size + 1, 0, none⟩ = some (.int .i64 px) := (S1.out.old AN1.out).cell 0
    have c11 : V1.cell? ⟨w.heap.size + 1, 1, none⟩ = some (.int .i64 py) := (S1.out.old AN1.out).cell 1
    have c20 : V1.cell? ⟨w.heap.size + 1 + 1, 0, none⟩ = some (.int .i64 qx) := (S2.out.old AN1.out).cell 0
    have c21 : V1.cell? ⟨w.heap.size + 1 + 1, 1, none⟩ = some (.int .i64 qy) := (S2.out.old AN1.out).cell 1
    go_wp2_with fail
    clear c00 c01 c10 c11 c20 c21
    refine (T1.out V1).mono ?_
    rintro e V2 ⟨rfl, hb2⟩
    have AN2 := Lib.hid (AN1.out.trans (hb2.mono AN1.out.size))
    clear hb2
    have c00 : V2.cell? ⟨w.heap.size, 0, none⟩ = some (.int .i64 d) := (S0.out.old AN2.out).cell 0
    have c01 : V2.cell? ⟨w.heap.size, 1, none⟩ = some (.slice A n c) := (S0.out.old AN2.out).cell 1
    have c10 : V2.cell? ⟨w.heap.size + 1, 0, none⟩ = some (.int .i64 px) := (S1.out.old AN2.out).cell 0
    have c11 : V2.cell? ⟨w.heap.size + 1, 1, none⟩ = some (.int .i64 py) := (S1.out.old AN2.out).cell 1
    have c20 : V2.cell? ⟨w.heap.size + 1 + 1, 0, none⟩ = some (.int .i64 qx) := (S2.out.old AN2.out).cell 0
    have c21 : V2.cell? ⟨w.heap.size + 1 + 1, 1, none⟩ = some (.int .i64 qy) := (S2.out.old AN2.out).cell 1
    go_wp2_with fail
    clear c00 c01 c10 c11 c20 c21
    refine (T2.out V2).mono ?_
    rintro e V3 ⟨rfl, hb3⟩
    have AN3 := Lib.hid (AN2.out.trans (hb3.mono AN2.out.size))
    clear hb3
    have BX := Lib.hid (S0.out.1.trans (AN3.out.mono S0.out.1.size))
    go_wp2_with fail
    go_ret2
    exact ⟨by rw [HE.out.1, HE.out.2]; rfl, BX.out⟩
  rw [hq2] at T2
  obtain ⟨⟨g3, g8⟩, gp⟩ := se_corner hq0
  have HB := Lib.hid (cs_yes hq0 hq1 hq2)
  have HV := Lib.hid (csV_yes HB.out)
  obtain ⟨b, o, rfl, hlb, -, -⟩ := cells2 h1 (show 0 < n by omega)
  have CC := Lib.hid (fun k (hk : k < n) WZ (hb : Below w.heap.size w WZ) => sctu.corner h1 hk hb)
  generalize cX zs = X at *
  generalize cY zs = Y at *
  have HO := Lib.hid (fun k j (hk : k < n) (hj : j < n) => fun W d0 os => Calls.regrown_of (scts.meet17 (X k) (Y k) (X j) (Y j) px py qx qy (gp k hk) (gp j hj) hq1 hq2 (Sort.grow (redrawn W d0) os)))
  clear hq0 hq1 hq2 h1 gp
  go_enter Try.func33, Try.ntmps33
  go_wp2_with fail
  generalize (((w.alloc (.cells #[.int .i64 d, .slice (some ⟨b, o, none⟩) n c] 26)).alloc (.cells #[.int .i64 px, .int .i64 py] 28)).alloc (.cells #[.int .i64 qx, .int .i64 qy] 28)) = W0 at *
  have AN0 := Lib.hid (Below.refl W0.heap.size W0)
  refine (T0.out W0 (S0.out.1.trans (AN0.out.mono S0.out.1.size))).mono ?_
  rintro e V1 ⟨rfl, hb1⟩
  have AN1 := Lib.hid (AN0.out.trans (hb1.mono AN0.out.size))
  clear hb1
  have c00 : V1.cell? ⟨w.heap.size, 0, none⟩ = some (.int .i64 d) := (S0.out.old AN1.out).cell 0
  have c01 : V1.cell? ⟨w.heap.size, 1, none⟩ = some (.slice (some ⟨b, o, none⟩) n c) := (S0.out.old AN1.out).cell 1
  have c10 : V1.cell? ⟨w.heap.size + 1, 0, none⟩ = some (.int .i64 px) := (S1.out.old AN1.out).cell 0
  have c11 : V1.cell? ⟨w.heap.size + 1, 1, none⟩ = some (.int .i64 py) := (S1.out.old AN1.out).cell 1
  have c20 : V1.cell? ⟨w.heap.size + 1 + 1, 0, none⟩ = some (.int .i64 qx) := (S2.out.old AN1.out).cell 0
  have c21 : V1.cell? ⟨w.heap.size + 1 + 1, 1, none⟩ = some (.int .i64 qy) := (S2.out.old AN1.out).cell 1
  go_wp2_with fail
  clear c00 c01 c10 c11 c20 c21
  refine (T1.out V1).mono ?_
  rintro e V2 ⟨rfl, hb2⟩
  have AN2 := Lib.hid (AN1.out.trans (hb2.mono AN1.out.size))
  clear hb2
  have c00 : V2.cell? ⟨w.heap.size, 0, none⟩ = some (.int .i64 d) := (S0.out.old AN2.out).cell 0
  have c01 : V2.cell? ⟨w.heap.size, 1, none⟩ = some (.slice (some ⟨b, o, none⟩) n c) := (S0.out.old AN2.out).cell 1
  have c10 : V2.cell? ⟨w.heap.size + 1, 0, none⟩ = some (.int .i64 px) := (S1.out.old AN2.out).cell 0
  have c11 : V2.cell? ⟨w.heap.size + 1, 1, none⟩ = some (.int .i64 py) := (S1.out.old AN2.out).cell 1
  have c20 : V2.cell? ⟨w.heap.size + 1 + 1, 0, none⟩ = some (.int .i64 qx) := (S2.out.old AN2.out).cell 0
  have c21 : V2.cell? ⟨w.heap.size + 1 + 1, 1, none⟩ = some (.int .i64 qy) := (S2.out.old AN2.out).cell 1
  go_wp2_with fail
  clear c00 c01 c10 c11 c20 c21
  refine (T2.out V2).mono ?_
  rintro e V3 ⟨rfl, hb3⟩
  have AN3 := Lib.hid (AN2.out.trans (hb3.mono AN2.out.size))
  clear hb3
  go_upto_region 3 with fail
  have s1 : V3.cell? ⟨w.heap.size, 1, none⟩ = some (.slice (some ⟨b, o, none⟩) n c) := (S0.out.old AN3.out).cell 1
  go_quiet (fail)
  clear s1
  have AD := Lib.hid (fun j => aid.below_drewN AN3.out j)
  go_wp2_with fail
  go_loopw [8, 10] (fun u t wr => ∃ k : Nat, k ≤ n ∧ t = .int .i64 k ∧ u = .int .i64 ((cnt X Y n px py qx qy k : Nat) : Int) ∧ Below W0.heap.size W0 wr) (fun _ t _ => n - (intOf t).toNat)
  case atStart => exact ⟨0, Nat.zero_le _, rfl, rfl, AD.out _⟩
  case round =>
    obtain ⟨k, hk, rfl, rfl, hb⟩ := hrel
    have HBk := Lib.hid hb
    by_cases hlt : k < n
    · obtain ⟨j, hj⟩ : ∃ j, j = (k + 1) % n := ⟨_, rfl⟩
      have hjn : j < n := by rw [hj]; exact Nat.mod_lt _ (by omega)
      have hm : ((k : Int) + 1) % (n : Int) = (j : Int) := by rw [hj]; exact sctu.mod_c1 k n
      have hm2 : ((k : Int) + 1).tmod (n : Int) = (j : Int) := by rw [hj]; exact sctu.mod_c2 k n
      have hjn2 : (j : Int) < (n : Int) := by omega
      have hj0 : (0 : Int) ≤ (j : Int) := Int.natCast_nonneg _
      have hk0 : (0 : Int) ≤ (k : Int) := Int.natCast_nonneg _
      have hlt2 : (k : Int) < (n : Int) := by omega
      have hnk : ¬ n = 0 := by omega
      have hne : ¬ (n : Int) = 0 := by omega
      have wk : IntKind.i64.wrap ((k : Int) + 1) = (k : Int) + 1 := IntWalk.i64_in _ (by omega)
      have BW := Lib.hid (S0.out.1.trans (hb.mono S0.out.1.size))
      obtain ⟨⟨p0, p1⟩, lb⟩ := CC.out k hlt wr BW.out
      obtain ⟨⟨q0, q1⟩, lb2⟩ := CC.out j hjn wr BW.out
      have s1 : wr.cell? ⟨w.heap.size, 1, none⟩ = some (.slice (some ⟨b, o, none⟩) n c) := (S0.out.old hb).cell 1
      have t0 : wr.cell? ⟨w.heap.size + 1, 0, none⟩ = some (.int .i64 px) := (S1.out.old hb).cell 0
      have t1 : wr.cell? ⟨w.heap.size + 1, 1, none⟩ = some (.int .i64 py) := (S1.out.old hb).cell 1
      have u0 : wr.cell? ⟨w.heap.size + 1 + 1, 0, none⟩ = some (.int .i64 qx) := (S2.out.old hb).cell 0
      have u1 : wr.cell? ⟨w.heap.size + 1 + 1, 1, none⟩ = some (.int .i64 qy) := (S2.out.old hb).cell 1
      have HY := Lib.hid (fun h => cnt_yes (X := X) (Y := Y) (n := n) (k := k) (px := px) (py := py) (qx := qx) (qy := qy) h)
      have HN := Lib.hid (fun h => cnt_no (X := X) (Y := Y) (n := n) (k := k) (px := px) (py := py) (qx := qx) (qy := qy) h)
      rw [← hj] at HY HN
      have D := Lib.hid (HO.out k j hlt hjn)
      have hcn := cnt_le X Y n px py qx qy k
      have wc1 : IntKind.i64.wrap (((cnt X Y n px py qx qy k : Nat) : Int) + 1) = ((cnt X Y n px py qx qy k : Nat) : Int) + 1 := IntWalk.i64_in _ (by omega)
      clear hb hj lb2 hcn
      generalize meB (X k) (Y k) (X j) (Y j) px py qx qy = tb at *
      generalize X k = x at *
      generalize Y k = y at *
      generalize X j = u at *
      generalize Y j = v at *
      generalize cnt X Y n px py qx qy k = cn at *
      cases tb
      · go_wp2_with fail
        have p0' := fun d0 os => cell_regrown p0 d0 os
        have p1' := fun d0 os => cell_regrown p1 d0 os
        have q0' := fun d0 os => cell_regrown q0 d0 os
        have q1' := fun d0 os => cell_regrown q1 d0 os
        have s1' := fun d0 os => cell_regrown s1 d0 os
        have t0' := fun d0 os => cell_regrown t0 d0 os
        have t1' := fun d0 os => cell_regrown t1 d0 os
        have u0' := fun d0 os => cell_regrown u0 d0 os
        have u1' := fun d0 os => cell_regrown u1 d0 os
        clear p0 p1 q0 q1 s1 t0 t1 u0 u1
        refine wp_region_quiet_below (by kernel_rfl) (by kernel_rfl) ?_
        repeat (
          with_reducible refine wpQuiet_step (fun K hK => ?_)
          go_simp
          first
            | (refine hK _ ?_; clear hK K)
            | (apply Exists.intro
               refine ⟨fun _ => ?_, hK _ ?_⟩
               (first
                 | (go_at_call 77; with_reducible exact D.out _ _ _))
               clear hK K))
        with_reducible refine wpQuiet_nil ?_
        intro _ hw'
        obtain ⟨⟨dq, osq⟩, hw''⟩ := hw'
        subst hw''
        have hbl := (below_regrown wr dq osq)
        clear p0' p1' q0' q1' s1' t0' t1' u0' u1'
        generalize Sort.grow (redrawn wr dq) osq = w3 at *
        have HB3 := Lib.hid (HBk.out.trans (hbl.mono HBk.out.size))
        have HT := Lib.hid (HN.out (by first | trivial | rfl))
        clear hbl
        go_wp2_with fail
        go_roundw
        case rel => exact ⟨k + 1, by omega, by go_num, by rw [HT.out], HB3.out⟩
        case measure => simp [intOf]; omega
      · go_wp2_with fail
        have p0' := fun d0 os => cell_regrown p0 d0 os
        have p1' := fun d0 os => cell_regrown p1 d0 os
        have q0' := fun d0 os => cell_regrown q0 d0 os
        have q1' := fun d0 os => cell_regrown q1 d0 os
        have s1' := fun d0 os => cell_regrown s1 d0 os
        have t0' := fun d0 os => cell_regrown t0 d0 os
        have t1' := fun d0 os => cell_regrown t1 d0 os
        have u0' := fun d0 os => cell_regrown u0 d0 os
        have u1' := fun d0 os => cell_regrown u1 d0 os
        clear p0 p1 q0 q1 s1 t0 t1 u0 u1
        refine wp_region_quiet_below (by kernel_rfl) (by kernel_rfl) ?_
        repeat (
          with_reducible refine wpQuiet_step (fun K hK => ?_)
          go_simp
          first
            | (refine hK _ ?_; clear hK K)
            | (apply Exists.intro
               refine ⟨fun _ => ?_, hK _ ?_⟩
               (first
                 | (go_at_call 77; with_reducible exact D.out _ _ _))
               clear hK K))
        with_reducible refine wpQuiet_nil ?_
        intro _ hw'
        obtain ⟨⟨dq, osq⟩, hw''⟩ := hw'
        subst hw''
        have hbl := (below_regrown wr dq osq)
        clear p0' p1' q0' q1' s1' t0' t1' u0' u1'
        generalize Sort.grow (redrawn wr dq) osq = w3 at *
        have HB3 := Lib.hid (HBk.out.trans (hbl.mono HBk.out.size))
        have HT := Lib.hid (HY.out (by first | trivial | rfl))
        clear hbl
        go_wp2_with fail
        go_roundw
        case rel => exact ⟨k + 1, by omega, by go_num, by rw [HT.out]; rfl, HB3.out⟩
        case measure => simp [intOf]; omega
    · obtain rfl : k = n := by omega
      have BX := Lib.hid (S0.out.1.trans (hb.mono S0.out.1.size))
      clear hb CC HO
      go_wp2_with fail
      go_ret2
      exact ⟨by rw [HV.out, HB.out]; rfl, BX.out⟩

end Go.Proofs.Ytadpihfegccpkaa.sctq
