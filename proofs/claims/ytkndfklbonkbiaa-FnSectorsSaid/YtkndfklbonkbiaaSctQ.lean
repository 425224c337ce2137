/- spec's public functions of chapter 17 that return numbers and truths: DoubleArea, IsIn, IsOnBorder, CrossedSides. -/
import Derived.Test.YtkndfklbonkbiaaSctR
import Derived.Test.YtkndfklbonkbiaaSctW
namespace Go.Proofs.Ytkndfklbonkbiaa.sctq
open Go.RowKit Go.Proofs.Ytkndfklbonkbiaa.ints Go.Proofs.Ytkndfklbonkbiaa.lst Go.Proofs.Ytkndfklbonkbiaa.in_ Go.Proofs.Ytkndfklbonkbiaa.ats Go.Proofs.Ytkndfklbonkbiaa.pos Go.Proofs.Ytkndfklbonkbiaa.sct Go.Proofs.Ytkndfklbonkbiaa.sctt Go.Proofs.Ytkndfklbonkbiaa.sctv Go.Proofs.Ytkndfklbonkbiaa.scti Go.Proofs.Ytkndfklbonkbiaa.sctj Go.Proofs.Ytkndfklbonkbiaa.sctb Go.Proofs.Ytkndfklbonkbiaa.sctr

set_option maxRecDepth 100000 in
set_option maxHeartbeats 2000000 in
theorem isIn (d : Int) (zs : List Int) (px py : Int) (A : Option Addr) (n c : Nat) (w : World) (hn : n ≤ 1048576) (h1 : RdZ 2 w w.heap.size A n zs) :
    Calls Try.prog 19 #[.agg #[.int .i64 d, .slice A n c], .agg #[.int .i64 px, .int .i64 py]] w fun e w' => e = .returned (.tuple #[.bool (iiV d zs n px py), .bool (iiB d zs n px py)]) ∧ Below w.heap.size w w' := by
  have S0 := Lib.hid ((newS 42 #[.int .i64 d, .slice A n c] w).alloc (.cells #[.int .i64 px, .int .i64 py] 31))
  have S1 := Lib.hid ((newS 42 #[.int .i64 d, .slice A n c] w).next 31 #[.int .i64 px, .int .i64 py])
  rw [World.size_alloc] at S1
  have T0 := Lib.hid (fun W (hb : Below w.heap.size w W) => show Calls Try.prog 55 #[.agg #[.int .i64 d, .slice A n c]] W (fun e w' => e = .returned (.bool (seV d zs n)) ∧ Below W.heap.size W w') from sctw.good17 d zs A n c W (by omega) (h1.next hb))
  have T1 := Lib.hid (fun W => poss.good7 px py W)
  cases hq0 : seV d zs n
  · have HE := Lib.hid (And.intro (iiV_no (px := px) (py := py) (ii_no1 hq0)) (ii_no1 (px := px) (py := py) hq0))
    rw [hq0] at T0
    clear h1 hq0
    go_enter Try.func19, Try.ntmps19
    go_wp2_with fail
    generalize ((w.alloc (.cells #[.int .i64 d, .slice A n c] 42)).alloc (.cells #[.int .i64 px, .int .i64 py] 31)) = W0 at *
    have AN0 := Lib.hid (Below.refl W0.heap.size W0)
    refine (T0.out W0 (S0.out.1.trans (AN0.out.mono S0.out.1.size))).mono ?_
    rintro e V1 ⟨rfl, hb1⟩
    have AN1 := Lib.hid (AN0.out.trans (hb1.mono AN0.out.size))
    clear hb1
    have BX := Lib.hid (S0.out.1.trans (AN1.out.mono S0.out.1.size))
    go_wp2_with fail
    go_ret2
    exact ⟨by rw [HE.out.1.1, HE.out.2]; rfl, BX.out⟩
  rw [hq0] at T0
  cases hq1 : pB px py
  · have HE := Lib.hid (And.intro (iiV_no (d := d) (zs := zs) (n := n) (ii_no2 hq1)) (ii_no2 (d := d) (zs := zs) (n := n) hq1))
    rw [hq1] at T1
    clear h1 hq0 hq1
    go_enter Try.func19, Try.ntmps19
    go_wp2_with fail
    generalize ((w.alloc (.cells #[.int .i64 d, .slice A n c] 42)).alloc (.cells #[.int .i64 px, .int .i64 py] 31)) = W0 at *
    have AN0 := Lib.hid (Below.refl W0.heap.size W0)
    refine (T0.out W0 (S0.out.1.trans (AN0.out.mono S0.out.1.size))).mono ?_
    rintro e V1 ⟨rfl, hb1⟩
    have AN1 := Lib.hid (AN0.out.trans (hb1.mono AN0.out.size))
    clear hb1
    have c00 : V1.cell? ⟨w.heap.size, 0, none⟩ = some (.int .i64 d) := (S0.out.old AN1.out).cell 0
    have c01 : V1.cell? ⟨w.heap.size, 1, none⟩ = some (.slice A n c) := (S0.out.old AN1.out).cell 1
    have c10 : V1.cell? ⟨w.heap.size + 1, 0, none⟩ = some (.int .i64 px) := (S1.out.old AN1.out).cell 0
    have c11 : V1.cell? ⟨w.heap.size + 1, 1, none⟩ = some (.int .i64 py) := (S1.out.old AN1.out).cell 1
    go_wp2_with fail
    clear c00 c01 c10 c11
    refine (T1.out V1).mono ?_
    rintro e V2 ⟨rfl, hb2⟩
    have AN2 := Lib.hid (AN1.out.trans (hb2.mono AN1.out.size))
    clear hb2
    have BX := Lib.hid (S0.out.1.trans (AN2.out.mono S0.out.1.size))
    go_wp2_with fail
    go_ret2
    exact ⟨by rw [HE.out.1.1, HE.out.2]; rfl, BX.out⟩
  rw [hq1] at T1
  obtain ⟨⟨g3, g8⟩, gp⟩ := se_corner hq0
  have HB := Lib.hid (ii_yes hq0 hq1)
  have HV := Lib.hid ((iiV_yes HB.out).1)
  have CD := Lib.hid (fun W (hb : Below w.heap.size w W) => sctu.in17 d zs px py A n c W (by omega) (by omega) gp hq1 (h1.next hb))
  clear hq0 hq1 h1 gp
  generalize inB (cX zs) (cY zs) n px py = s at *
  go_enter Try.func19, Try.ntmps19
  go_wp2_with fail
  generalize ((w.alloc (.cells #[.int .i64 d, .slice A n c] 42)).alloc (.cells #[.int .i64 px, .int .i64 py] 31)) = W0 at *
  have AN0 := Lib.hid (Below.refl W0.heap.size W0)
  refine (T0.out W0 (S0.out.1.trans (AN0.out.mono S0.out.1.size))).mono ?_
  rintro e V1 ⟨rfl, hb1⟩
  have AN1 := Lib.hid (AN0.out.trans (hb1.mono AN0.out.size))
  clear hb1
  have c00 : V1.cell? ⟨w.heap.size, 0, none⟩ = some (.int .i64 d) := (S0.out.old AN1.out).cell 0
  have c01 : V1.cell? ⟨w.heap.size, 1, none⟩ = some (.slice A n c) := (S0.out.old AN1.out).cell 1
  have c10 : V1.cell? ⟨w.heap.size + 1, 0, none⟩ = some (.int .i64 px) := (S1.out.old AN1.out).cell 0
  have c11 : V1.cell? ⟨w.heap.size + 1, 1, none⟩ = some (.int .i64 py) := (S1.out.old AN1.out).cell 1
  go_wp2_with fail
  clear c00 c01 c10 c11
  refine (T1.out V1).mono ?_
  rintro e V2 ⟨rfl, hb2⟩
  have AN2 := Lib.hid (AN1.out.trans (hb2.mono AN1.out.size))
  clear hb2
  have c00 : V2.cell? ⟨w.heap.size, 0, none⟩ = some (.int .i64 d) := (S0.out.old AN2.out).cell 0
  have c01 : V2.cell? ⟨w.heap.size, 1, none⟩ = some (.slice A n c) := (S0.out.old AN2.out).cell 1
  have c10 : V2.cell? ⟨w.heap.size + 1, 0, none⟩ = some (.int .i64 px) := (S1.out.old AN2.out).cell 0
  have c11 : V2.cell? ⟨w.heap.size + 1, 1, none⟩ = some (.int .i64 py) := (S1.out.old AN2.out).cell 1
  go_wp2_with fail
  clear c00 c01 c10 c11
  refine (CD.out V2 (S0.out.1.trans (AN2.out.mono S0.out.1.size))).mono ?_
  rintro e V3 ⟨rfl, hb3⟩
  have AN3 := Lib.hid (AN2.out.trans (hb3.mono AN2.out.size))
  clear hb3
  have BX := Lib.hid (S0.out.1.trans (AN3.out.mono S0.out.1.size))
  go_wp2_with fail
  go_ret2
  exact ⟨by rw [HV.out, HB.out]; rfl, BX.out⟩

set_option maxRecDepth 100000 in
set_option maxHeartbeats 2000000 in
theorem isOnBorder (d : Int) (zs : List Int) (px py : Int) (A : Option Addr) (n c : Nat) (w : World) (hn : n ≤ 1048576) (h1 : RdZ 2 w w.heap.size A n zs) :
    Calls Try.prog 23 #[.agg #[.int .i64 d, .slice A n c], .agg #[.int .i64 px, .int .i64 py]] w fun e w' => e = .returned (.tuple #[.bool (ioV d zs n px py), .bool (iiB d zs n px py)]) ∧ Below w.heap.size w w' := by
  have S0 := Lib.hid ((newS 42 #[.int .i64 d, .slice A n c] w).alloc (.cells #[.int .i64 px, .int .i64 py] 31))
  have S1 := Lib.hid ((newS 42 #[.int .i64 d, .slice A n c] w).next 31 #[.int .i64 px, .int .i64 py])
  rw [World.size_alloc] at S1
  have T0 := Lib.hid (fun W (hb : Below w.heap.size w W) => show Calls Try.prog 55 #[.agg #[.int .i64 d, .slice A n c]] W (fun e w' => e = .returned (.bool (seV d zs n)) ∧ Below W.heap.size W w') from sctw.good17 d zs A n c W (by omega) (h1.next hb))
  have T1 := Lib.hid (fun W => poss.good7 px py W)
  cases hq0 : seV d zs n
  · have HE := Lib.hid (And.intro (iiV_no (px := px) (py := py) (ii_no1 hq0)) (ii_no1 (px := px) (py := py) hq0))
    rw [hq0] at T0
    clear h1 hq0
    go_enter Try.func23, Try.ntmps23
    go_wp2_with fail
    generalize ((w.alloc (.cells #[.int .i64 d, .slice A n c] 42)).alloc (.cells #[.int .i64 px, .int .i64 py] 31)) = W0 at *
    have AN0 := Lib.hid (Below.refl W0.heap.size W0)
    refine (T0.out W0 (S0.out.1.trans (AN0.out.mono S0.out.1.size))).mono ?_
    rintro e V1 ⟨rfl, hb1⟩
    have AN1 := Lib.hid (AN0.out.trans (hb1.mono AN0.out.size))
    clear hb1
    have BX := Lib.hid (S0.out.1.trans (AN1.out.mono S0.out.1.size))
    go_wp2_with fail
    go_ret2
    exact ⟨by rw [HE.out.1.2, HE.out.2]; rfl, BX.out⟩
  rw [hq0] at T0
  cases hq1 : pB px py
  · have HE := Lib.hid (And.intro (iiV_no (d := d) (zs := zs) (n := n) (ii_no2 hq1)) (ii_no2 (d := d) (zs := zs) (n := n) hq1))
    rw [hq1] at T1
    clear h1 hq0 hq1
    go_enter Try.func23, Try.ntmps23
    go_wp2_with fail
    generalize ((w.alloc (.cells #[.int .i64 d, .slice A n c] 42)).alloc (.cells #[.int .i64 px, .int .i64 py] 31)) = W0 at *
    have AN0 := Lib.hid (Below.refl W0.heap.size W0)
    refine (T0.out W0 (S0.out.1.trans (AN0.out.mono S0.out.1.size))).mono ?_
    rintro e V1 ⟨rfl, hb1⟩
    have AN1 := Lib.hid (AN0.out.trans (hb1.mono AN0.out.size))
    clear hb1
    have c00 : V1.cell? ⟨w.heap.size, 0, none⟩ = some (.int .i64 d) := (S0.out.old AN1.out).cell 0
    have c01 : V1.cell? ⟨w.heap.size, 1, none⟩ = some (.slice A n c) := (S0.out.old AN1.out).cell 1
    have c10 : V1.cell? ⟨w.heap.size + 1, 0, none⟩ = some (.int .i64 px) := (S1.out.old AN1.out).cell 0
    have c11 : V1.cell? ⟨w.heap.size + 1, 1, none⟩ = some (.int .i64 py) := (S1.out.old AN1.out).cell 1
    go_wp2_with fail
    clear c00 c01 c10 c11
    refine (T1.out V1).mono ?_
    rintro e V2 ⟨rfl, hb2⟩
    have AN2 := Lib.hid (AN1.out.trans (hb2.mono AN1.out.size))
    clear hb2
    have BX := Lib.hid (S0.out.1.trans (AN2.out.mono S0.out.1.size))
    go_wp2_with fail
    go_ret2
    exact ⟨by rw [HE.out.1.2, HE.out.2]; rfl, BX.out⟩
  rw [hq1] at T1
  obtain ⟨⟨g3, g8⟩, gp⟩ := se_corner hq0
  have HB := Lib.hid (ii_yes hq0 hq1)
  have HV := Lib.hid ((iiV_yes HB.out).2)
  have CD := Lib.hid (fun W (hb : Below w.heap.size w W) => sctu.border17 d zs px py A n c W (by omega) (by omega) gp hq1 (h1.next hb))
  clear hq0 hq1 h1 gp
  generalize brd (cX zs) (cY zs) n px py n = s at *
  go_enter Try.func23, Try.ntmps23
  go_wp2_with fail
  generalize ((w.alloc (.cells #[.int .i64 d, .slice A n c] 42)).alloc (.cells #[.int .i64 px, .int .i64 py] 31)) = W0 at *
  have AN0 := Lib.hid (Below.refl W0.heap.size W0)
  refine (T0.out W0 (S0.out.1.trans (AN0.out.mono S0.out.1.size))).mono ?_
  rintro e V1 ⟨rfl, hb1⟩
  have AN1 := Lib.hid (AN0.out.trans (hb1.mono AN0.out.size))
  clear hb1
  have c00 : V1.cell? ⟨w.heap.size, 0, none⟩ = some (.int .i64 d) := (S0.out.old AN1.out).cell 0
  have c01 : V1.cell? ⟨w.heap.size, 1, none⟩ = some (.slice A n c) := (S0.out.old AN1.out).cell 1
  have c10 : V1.cell? ⟨w.heap.size + 1, 0, none⟩ = some (.int .i64 px) := (S1.out.old AN1.out).cell 0
  have c11 : V1.cell? ⟨w.heap.size + 1, 1, none⟩ = some (.int .i64 py) := (S1.out.old AN1.out).cell 1
  go_wp2_with fail
  clear c00 c01 c10 c11
  refine (T1.out V1).mono ?_
  rintro e V2 ⟨rfl, hb2⟩
  have AN2 := Lib.hid (AN1.out.trans (hb2.mono AN1.out.size))
  clear hb2
  have c00 : V2.cell? ⟨w.heap.size, 0, none⟩ = some (.int .i64 d) := (S0.out.old AN2.out).cell 0
  have c01 : V2.cell? ⟨w.heap.size, 1, none⟩ = some (.slice A n c) := (S0.out.old AN2.out).cell 1
  have c10 : V2.cell? ⟨w.heap.size + 1, 0, none⟩ = some (.int .i64 px) := (S1.out.old AN2.out).cell 0
  have c11 : V2.cell? ⟨w.heap.size + 1, 1, none⟩ = some (.int .i64 py) := (S1.out.old AN2.out).cell 1
  go_wp2_with fail
  clear c00 c01 c10 c11
  refine (CD.out V2 (S0.out.1.trans (AN2.out.mono S0.out.1.size))).mono ?_
  rintro e V3 ⟨rfl, hb3⟩
  have AN3 := Lib.hid (AN2.out.trans (hb3.mono AN2.out.size))
  clear hb3
  have BX := Lib.hid (S0.out.1.trans (AN3.out.mono S0.out.1.size))
  go_wp2_with fail
  go_ret2
  exact ⟨by rw [HV.out, HB.out]; rfl, BX.out⟩

end Go.Proofs.Ytkndfklbonkbiaa.sctq
