/- impl's public functions of chapter 17 that return numbers and truths: DoubleArea, IsIn, IsOnBorder, CrossedSides. -/
import Derived.Test.YtkndfklbonkbiaaSctR
import Derived.Test.YtkndfklbonkbiaaSctC
namespace Go.Proofs.Ytkndfklbonkbiaa.sctp
open Go.RowKit Go.Proofs.Ytkndfklbonkbiaa.ints Go.Proofs.Ytkndfklbonkbiaa.lst Go.Proofs.Ytkndfklbonkbiaa.in_ Go.Proofs.Ytkndfklbonkbiaa.ats Go.Proofs.Ytkndfklbonkbiaa.pos Go.Proofs.Ytkndfklbonkbiaa.sct Go.Proofs.Ytkndfklbonkbiaa.sctt Go.Proofs.Ytkndfklbonkbiaa.sctv Go.Proofs.Ytkndfklbonkbiaa.scti Go.Proofs.Ytkndfklbonkbiaa.sctj Go.Proofs.Ytkndfklbonkbiaa.sctb Go.Proofs.Ytkndfklbonkbiaa.sctr

theorem absoluteOf (x : Int) (w : World) (hx : -1200000000 ≤ x) (hx2 : x ≤ 1200000000) :
    Calls Try.prog 63 #[.int .i64 x] w fun e w' => e = .returned (.int .i64 (x.natAbs : Int)) ∧ w = w' := by
  by_cases h : x < 0
  · have hm : x < -x := by omega
    rw [show (x.natAbs : Int) = -x by omega]
    go_enter Try.func63, Try.ntmps63
    go_wp2
    all_goals
      go_ret
      first | exact ⟨rfl, rfl⟩ | (exfalso; omega) | exact ⟨by rw [aid.ret_int (show max x (-x) = -x by omega)], rfl⟩ | exact ⟨aid.ret_int (show max x (-x) = -x by omega), rfl⟩
  · have hm : ¬ x < -x := by omega
    have g : decide (x < -x) = false := decide_eq_false hm
    rw [show (x.natAbs : Int) = x by omega]
    go_enter Try.func63, Try.ntmps63
    go_wp2
    all_goals
      go_ret
      first | exact ⟨rfl, rfl⟩ | (exfalso; omega) | exact ⟨by rw [aid.ret_int (show max x (-x) = x by omega)], rfl⟩ | exact ⟨aid.ret_int (show max x (-x) = x by omega), rfl⟩
set_option maxRecDepth 100000 in
set_option maxHeartbeats 2000000 in
theorem doubleArea (d : Int) (zs : List Int) (A : Option Addr) (n c : Nat) (w : World) (hc : n ≤ c) (hn : n ≤ 1048576) (h1 : RdZ 2 w w.heap.size A n zs) :
    Calls Try.prog 25 #[.agg #[.int .i64 d, .slice A n c]] w fun e w' => e = .returned (.tuple #[.int .i64 (daV d zs n), .bool (seV d zs n)]) ∧ Below w.heap.size w w' := by
  have S0 := Lib.hid (newS 42 #[.int .i64 d, .slice A n c] w)
  have T0 := Lib.hid (fun W (hb : Below w.heap.size w W) => show Calls Try.prog 20 #[.agg #[.int .i64 d, .slice A n c]] W (fun e w' => e = .returned (.bool (seV d zs n)) ∧ Below W.heap.size W w') from sctc.isValidSector d zs A n c W hc (by omega) (h1.next hb))
  cases hq0 : seV d zs n
  · have HE := Lib.hid (And.intro (daV_no hq0) hq0)
    rw [hq0] at T0
    clear h1 hq0
    go_enter Try.func25, Try.ntmps25
    go_wp2_with fail
    generalize (w.alloc (.cells #[.int .i64 d, .slice A n c] 42)) = W0 at *
    have AN0 := Lib.hid (Below.refl W0.heap.size W0)
    refine (T0.out W0 (S0.out.1.trans (AN0.out.mono S0.out.1.size))).mono ?_
    rintro e V1 ⟨rfl, hb1⟩
    have AN1 := Lib.hid (AN0.out.trans (hb1.mono AN0.out.size))
    clear hb1
    have BX := Lib.hid (S0.out.1.trans (AN1.out.mono S0.out.1.size))
    go_wp2_with fail
    go_ret2
    exact ⟨by rw [HE.out.1]; rfl, BX.out⟩
  rw [hq0] at T0
  obtain ⟨⟨g3, g8⟩, gp⟩ := se_corner hq0
  obtain ⟨r1, r2⟩ := dbl_bd g3 g8 gp
  have HV := Lib.hid (daV_yes hq0)
  have CS := Lib.hid (fun W (hb : Below w.heap.size w W) => sctb.sidesOf zs A n c W hn (h1.next hb))
  have CA := Lib.hid (fun W => absoluteOf (dbl (cX zs) (cY zs) (n - 2)) W r1 r2)
  have HB := Lib.hid hq0
  have HL := Lib.hid (sdL_length (cX zs) (cY zs) n n)
  have HSH := Lib.hid (sh_is (cX zs) (cY zs) g3)
  generalize cX zs = X at *
  generalize cY zs = Y at *
  have HC := Lib.hid (fun k (hk : k < n) => shC_bd gp hk)
  have HBD := Lib.hid (fun k (hk : k ≤ n) => sm_bd (f := shC X Y n) (B := 97990201) (m := k) (fun j hj => (shC_bd gp (show j < n by omega)).2))
  clear hq0 h1 gp r1 r2
  generalize dbl X Y (n - 2) = ar at *
  go_enter Try.func25, Try.ntmps25
  go_wp2_with fail
  generalize (w.alloc (.cells #[.int .i64 d, .slice A n c] 42)) = W0 at *
  have AN0 := Lib.hid (Below.refl W0.heap.size W0)
  refine (T0.out W0 (S0.out.1.trans (AN0.out.mono S0.out.1.size))).mono ?_
  rintro e V1 ⟨rfl, hb1⟩
  have AN1 := Lib.hid (AN0.out.trans (hb1.mono AN0.out.size))
  clear hb1
  have c00 : V1.cell? ⟨w.heap.size, 0, none⟩ = some (.int .i64 d) := (S0.out.old AN1.out).cell 0
  have c01 : V1.cell? ⟨w.heap.size, 1, none⟩ = some (.slice A n c) := (S0.out.old AN1.out).cell 1
  go_wp2_with fail
  clear c00 c01
  refine (CS.out V1 (S0.out.1.trans (AN1.out.mono S0.out.1.size))).mono ?_
  rintro e V2 ⟨v, rfl, ho, hb2⟩
  have AN2 := Lib.hid (AN1.out.trans (hb2.mono AN1.out.size))
  clear hb2
  obtain ⟨A2, c2, rfl⟩ := own_sliceZ ho
  have HR := Lib.hid (RdZ.of_own ho HL.out)
  clear ho
  go_wp2_with fail
  go_loopw [4, 14] (fun u t wr => ∃ k : Nat, k ≤ n ∧ t = .int .i64 k ∧ u = .int .i64 (shV X Y n k) ∧ Below V2.heap.size V2 wr) (fun _ t _ => n - (intOf t).toNat)
  case atStart => exact ⟨0, Nat.zero_le _, rfl, rfl, Below.refl _ _⟩
  case round =>
    obtain ⟨k, hk, rfl, rfl, hb⟩ := hrel
    by_cases hlt : k < n
    · obtain ⟨b1, o1, rfl, l1, p0, p1, p2, p3⟩ := cells4 (HR.out.below hb (Nat.le_refl _)) hlt
      have hlt2 : (k : Int) < (n : Int) := by omega
      have HB2 := Lib.hid (hb.alloc hb.size (.cells #[.int .i64 (X k), .int .i64 (Y k), .int .i64 (X ((k + 1) % n)), .int .i64 (Y ((k + 1) % n))] 103))
      have HS := Lib.hid (show shV X Y n (k + 1) = shV X Y n k + shC X Y n k from rfl)
      obtain ⟨⟨⟨f1, f2⟩, f3, f4⟩, f5, f6⟩ := HC.out k hlt
      have f7 := HBD.out k hk
      change -((k : Int) * 97990201) ≤ shV X Y n k ∧ shV X Y n k ≤ (k : Int) * 97990201 at f7
      have e0 : shC X Y n k = X k * Y ((k + 1) % n) - X ((k + 1) % n) * Y k := rfl
      rw [e0] at HS f5 f6
      clear hb e0
      generalize shV X Y n k = z0 at *
      generalize X k = ax at *
      generalize Y k = ay at *
      generalize X ((k + 1) % n) = bx at *
      generalize Y ((k + 1) % n) = by_ at *
      generalize hM1 : ax * by_ = m1 at *
      generalize hM2 : bx * ay = m2 at *
      have e1 : IntKind.i64.wrap m1 = m1 := IntWalk.i64_in _ (by omega)
      have e2 : IntKind.i64.wrap m2 = m2 := IntWalk.i64_in _ (by omega)
      have e3 : IntKind.i64.wrap (m1 - m2) = m1 - m2 := IntWalk.i64_in _ (by omega)
      have e4 : IntKind.i64.wrap (z0 + (m1 - m2)) = z0 + (m1 - m2) := IntWalk.i64_in _ (by omega)
      clear f1 f2 f3 f4 f5 f6 f7
      go_wp2_with fail
      go_roundw
      case rel => exact ⟨k + 1, by omega, by go_num, by first | rw [HS.out] | rfl, HB2.out⟩
      case measure => simp [intOf]; omega
    · obtain rfl : k = n := by omega
      rw [HSH.out]
      have AX := Lib.hid (AN2.out.trans (hb.mono AN2.out.size))
      clear hb HR HC HBD
      go_wp2_with fail
      refine (CA.out _).mono ?_
      rintro e w' ⟨rfl, rfl⟩
      have BX := Lib.hid (S0.out.1.trans (AX.out.mono S0.out.1.size))
      go_wp2_with fail
      go_ret2
      exact ⟨by rw [HV.out]; rfl, BX.out⟩

set_option maxRecDepth 100000 in
set_option maxHeartbeats 2000000 in
theorem isIn (d : Int) (zs : List Int) (px py : Int) (A : Option Addr) (n c : Nat) (w : World) (hc : n ≤ c) (hn : n ≤ 1048576) (h1 : RdZ 2 w w.heap.size A n zs) :
    Calls Try.prog 18 #[.agg #[.int .i64 d, .slice A n c], .agg #[.int .i64 px, .int .i64 py]] w fun e w' => e = .returned (.tuple #[.bool (iiV d zs n px py), .bool (iiB d zs n px py)]) ∧ Below w.heap.size w w' := by
  have S0 := Lib.hid ((newS 42 #[.int .i64 d, .slice A n c] w).alloc (.cells #[.int .i64 px, .int .i64 py] 31))
  have S1 := Lib.hid ((newS 42 #[.int .i64 d, .slice A n c] w).next 31 #[.int .i64 px, .int .i64 py])
  rw [World.size_alloc] at S1
  have T0 := Lib.hid (fun W (hb : Below w.heap.size w W) => show Calls Try.prog 20 #[.agg #[.int .i64 d, .slice A n c]] W (fun e w' => e = .returned (.bool (seV d zs n)) ∧ Below W.heap.size W w') from sctc.isValidSector d zs A n c W hc (by omega) (h1.next hb))
  have T1 := Lib.hid (fun W => posj.isValidPlace px py W)
  cases hq0 : seV d zs n
  · have HE := Lib.hid (And.intro (iiV_no (px := px) (py := py) (ii_no1 hq0)) (ii_no1 (px := px) (py := py) hq0))
    rw [hq0] at T0
    clear h1 hq0
    go_enter Try.func18, Try.ntmps18
    go_wp2_with fail
    generalize ((w.alloc (.cells #[.int .i64 d, .slice A n c] 42)).alloc (.cells #[.int .i64 px, .int .i64 py] 31)) = W0 at *
    have AN0 := Lib.hid (Below.refl W0.heap.size W0)
    refine (T0.out W0 (S0.out.1.trans (AN0.out.mono S0.out.1.size))).mono ?_
    rintro e V1 ⟨rfl, hb1⟩
    have AN1 := Lib.hid (AN0.out.trans (hb1.mono AN0.out.size))
    clear hb1
    have BX := Lib.hid (S0.out.1.trans (AN1.out.mono S0.out.1.size))
    go_wp2_with fail
    go_ret2
    exact ⟨by rw [HE.out.1.1, HE.out.2]; rfl, BX.out⟩
  rw [hq0] at T0
  cases hq1 : pB px py
  · have HE := Lib.hid (And.intro (iiV_no (d := d) (zs := zs) (n := n) (ii_no2 hq1)) (ii_no2 (d := d) (zs := zs) (n := n) hq1))
    rw [hq1] at T1
    clear h1 hq0 hq1
    go_enter Try.func18, Try.ntmps18
    go_wp2_with fail
    generalize ((w.alloc (.cells #[.int .i64 d, .slice A n c] 42)).alloc (.cells #[.int .i64 px, .int .i64 py] 31)) = W0 at *
    have AN0 := Lib.hid (Below.refl W0.heap.size W0)
    refine (T0.out W0 (S0.out.1.trans (AN0.out.mono S0.out.1.size))).mono ?_
    rintro e V1 ⟨rfl, hb1⟩
    have AN1 := Lib.hid (AN0.out.trans (hb1.mono AN0.out.size))
    clear hb1
    have c00 : V1.cell? ⟨w.heap.size, 0, none⟩ = some (.int .i64 d) := (S0.out.old AN1.out).cell 0
    have c01 : V1.cell? ⟨w.heap.size, 1, none⟩ = some (.slice A n c) := (S0.out.old AN1.out).cell 1
    have c10 : V1.cell? ⟨w.heap.size + 1, 0, none⟩ = some (.int .i64 px) := (S1.out.old AN1.out).cell 0
    have c11 : V1.cell? ⟨w.heap.size + 1, 1, none⟩ = some (.int .i64 py) := (S1.out.old AN1.out).cell 1
    go_wp2_with fail
    clear c00 c01 c10 c11
    refine (T1.out V1).mono ?_
    rintro e V2 ⟨rfl, hb2⟩
    have AN2 := Lib.hid (AN1.out.trans (hb2.mono AN1.out.size))
    clear hb2
    have BX := Lib.hid (S0.out.1.trans (AN2.out.mono S0.out.1.size))
    go_wp2_with fail
    go_ret2
    exact ⟨by rw [HE.out.1.1, HE.out.2]; rfl, BX.out⟩
  rw [hq1] at T1
  obtain ⟨⟨g3, g8⟩, gp⟩ := se_corner hq0
  have HB := Lib.hid (ii_yes hq0 hq1)
  have HV := Lib.hid ((iiV_yes HB.out).1)
  have CD := Lib.hid (fun W (hb : Below w.heap.size w W) => sctc.whereIs zs px py A n c W hn gp hq1 (h1.next hb))
  rw [← wh_in] at HV
  clear hq0 hq1 h1 gp
  generalize whV (cX zs) (cY zs) n px py = s at *
  by_cases h0 : s = 0
  · have g1 : (s != 0) = false := by simp [h0]
    have HX := Lib.hid (HV.out.trans (decide_eq_false (fun h => h h0)))
    go_enter Try.func18, Try.ntmps18
    go_wp2_with fail
    generalize ((w.alloc (.cells #[.int .i64 d, .slice A n c] 42)).alloc (.cells #[.int .i64 px, .int .i64 py] 31)) = W0 at *
    have AN0 := Lib.hid (Below.refl W0.heap.size W0)
    refine (T0.out W0 (S0.out.1.trans (AN0.out.mono S0.out.1.size))).mono ?_
    rintro e V1 ⟨rfl, hb1⟩
    have AN1 := Lib.hid (AN0.out.trans (hb1.mono AN0.out.size))
    clear hb1
    have c00 : V1.cell? ⟨w.heap.size, 0, none⟩ = some (.int .i64 d) := (S0.out.old AN1.out).cell 0
    have c01 : V1.cell? ⟨w.heap.size, 1, none⟩ = some (.slice A n c) := (S0.out.old AN1.out).cell 1
    have c10 : V1.cell? ⟨w.heap.size + 1, 0, none⟩ = some (.int .i64 px) := (S1.out.old AN1.out).cell 0
    have c11 : V1.cell? ⟨w.heap.size + 1, 1, none⟩ = some (.int .i64 py) := (S1.out.old AN1.out).cell 1
    go_wp2_with fail
    clear c00 c01 c10 c11
    refine (T1.out V1).mono ?_
    rintro e V2 ⟨rfl, hb2⟩
    have AN2 := Lib.hid (AN1.out.trans (hb2.mono AN1.out.size))
    clear hb2
    have c00 : V2.cell? ⟨w.heap.size, 0, none⟩ = some (.int .i64 d) := (S0.out.old AN2.out).cell 0
    have c01 : V2.cell? ⟨w.heap.size, 1, none⟩ = some (.slice A n c) := (S0.out.old AN2.out).cell 1
    have c10 : V2.cell? ⟨w.heap.size + 1, 0, none⟩ = some (.int .i64 px) := (S1.out.old AN2.out).cell 0
    have c11 : V2.cell? ⟨w.heap.size + 1, 1, none⟩ = some (.int .i64 py) := (S1.out.old AN2.out).cell 1
    go_wp2_with fail
    clear c00 c01 c10 c11
    refine (CD.out V2 (S0.out.1.trans (AN2.out.mono S0.out.1.size))).mono ?_
    rintro e V3 ⟨rfl, hb3⟩
    have AN3 := Lib.hid (AN2.out.trans (hb3.mono AN2.out.size))
    clear hb3
    have BX := Lib.hid (S0.out.1.trans (AN3.out.mono S0.out.1.size))
    go_wp2_with fail
    go_ret2
    exact ⟨by rw [HX.out, HB.out]; rfl, BX.out⟩
  · have g1 : (s != 0) = true := by simp [h0]
    have HX := Lib.hid (HV.out.trans (decide_eq_true h0))
    go_enter Try.func18, Try.ntmps18
    go_wp2_with fail
    generalize ((w.alloc (.cells #[.int .i64 d, .slice A n c] 42)).alloc (.cells #[.int .i64 px, .int .i64 py] 31)) = W0 at *
    have AN0 := Lib.hid (Below.refl W0.heap.size W0)
    refine (T0.out W0 (S0.out.1.trans (AN0.out.mono S0.out.1.size))).mono ?_
    rintro e V1 ⟨rfl, hb1⟩
    have AN1 := Lib.hid (AN0.out.trans (hb1.mono AN0.out.size))
    clear hb1
    have c00 : V1.cell? ⟨w.heap.size, 0, none⟩ = some (.int .i64 d) := (S0.out.old AN1.out).cell 0
    have c01 : V1.cell? ⟨w.heap.size, 1, none⟩ = some (.slice A n c) := (S0.out.old AN1.out).cell 1
    have c10 : V1.cell? ⟨w.heap.size + 1, 0, none⟩ = some (.int .i64 px) := (S1.out.old AN1.out).cell 0
    have c11 : V1.cell? ⟨w.heap.size + 1, 1, none⟩ = some (.int .i64 py) := (S1.out.old AN1.out).cell 1
    go_wp2_with fail
    clear c00 c01 c10 c11
    refine (T1.out V1).mono ?_
    rintro e V2 ⟨rfl, hb2⟩
    have AN2 := Lib.hid (AN1.out.trans (hb2.mono AN1.out.size))
    clear hb2
    have c00 : V2.cell? ⟨w.heap.size, 0, none⟩ = some (.int .i64 d) := (S0.out.old AN2.out).cell 0
    have c01 : V2.cell? ⟨w.heap.size, 1, none⟩ = some (.slice A n c) := (S0.out.old AN2.out).cell 1
    have c10 : V2.cell? ⟨w.heap.size + 1, 0, none⟩ = some (.int .i64 px) := (S1.out.old AN2.out).cell 0
    have c11 : V2.cell? ⟨w.heap.size + 1, 1, none⟩ = some (.int .i64 py) := (S1.out.old AN2.out).cell 1
    go_wp2_with fail
    clear c00 c01 c10 c11
    refine (CD.out V2 (S0.out.1.trans (AN2.out.mono S0.out.1.size))).mono ?_
    rintro e V3 ⟨rfl, hb3⟩
    have AN3 := Lib.hid (AN2.out.trans (hb3.mono AN2.out.size))
    clear hb3
    have BX := Lib.hid (S0.out.1.trans (AN3.out.mono S0.out.1.size))
    go_wp2_with fail
    go_ret2
    exact ⟨by rw [HX.out, HB.out]; rfl, BX.out⟩

set_option maxRecDepth 100000 in
set_option maxHeartbeats 2000000 in
theorem isOnBorder (d : Int) (zs : List Int) (px py : Int) (A : Option Addr) (n c : Nat) (w : World) (hc : n ≤ c) (hn : n ≤ 1048576) (h1 : RdZ 2 w w.heap.size A n zs) :
    Calls Try.prog 22 #[.agg #[.int .i64 d, .slice A n c], .agg #[.int .i64 px, .int .i64 py]] w fun e w' => e = .returned (.tuple #[.bool (ioV d zs n px py), .bool (iiB d zs n px py)]) ∧ Below w.heap.size w w' := by
  have S0 := Lib.hid ((newS 42 #[.int .i64 d, .slice A n c] w).alloc (.cells #[.int .i64 px, .int .i64 py] 31))
  have S1 := Lib.hid ((newS 42 #[.int .i64 d, .slice A n c] w).next 31 #[.int .i64 px, .int .i64 py])
  rw [World.size_alloc] at S1
  have T0 := Lib.hid (fun W (hb : Below w.heap.size w W) => show Calls Try.prog 20 #[.agg #[.int .i64 d, .slice A n c]] W (fun e w' => e = .returned (.bool (seV d zs n)) ∧ Below W.heap.size W w') from sctc.isValidSector d zs A n c W hc (by omega) (h1.next hb))
  have T1 := Lib.hid (fun W => posj.isValidPlace px py W)
  cases hq0 : seV d zs n
  · have HE := Lib.hid (And.intro (iiV_no (px := px) (py := py) (ii_no1 hq0)) (ii_no1 (px := px) (py := py) hq0))
    rw [hq0] at T0
    clear h1 hq0
    go_enter Try.func22, Try.ntmps22
    go_wp2_with fail
    generalize ((w.alloc (.cells #[.int .i64 d, .slice A n c] 42)).alloc (.cells #[.int .i64 px, .int .i64 py] 31)) = W0 at *
    have AN0 := Lib.hid (Below.refl W0.heap.size W0)
    refine (T0.out W0 (S0.out.1.trans (AN0.out.mono S0.out.1.size))).mono ?_
    rintro e V1 ⟨rfl, hb1⟩
    have AN1 := Lib.hid (AN0.out.trans (hb1.mono AN0.out.size))
    clear hb1
    have BX := Lib.hid (S0.out.1.trans (AN1.out.mono S0.out.1.size))
    go_wp2_with fail
    go_ret2
    exact ⟨by rw [HE.out.1.2, HE.out.2]; rfl, BX.out⟩
  rw [hq0] at T0
  cases hq1 : pB px py
  · have HE := Lib.hid (And.intro (iiV_no (d := d) (zs := zs) (n := n) (ii_no2 hq1)) (ii_no2 (d := d) (zs := zs) (n := n) hq1))
    rw [hq1] at T1
    clear h1 hq0 hq1
    go_enter Try.func22, Try.ntmps22
    go_wp2_with fail
    generalize ((w.alloc (.cells #[.int .i64 d, .slice A n c] 42)).alloc (.cells #[.int .i64 px, .int .i64 py] 31)) = W0 at *
    have AN0 := Lib.hid (Below.refl W0.heap.size W0)
    refine (T0.out W0 (S0.out.1.trans (AN0.out.mono S0.out.1.size))).mono ?_
    rintro e V1 ⟨rfl, hb1⟩
    have AN1 := Lib.hid (AN0.out.trans (hb1.mono AN0.out.size))
    clear hb1
    have c00 : V1.cell? ⟨w.heap.size, 0, none⟩ = some (.int .i64 d) := (S0.out.old AN1.out).cell 0
    have c01 : V1.cell? ⟨w.heap.size, 1, none⟩ = some (.slice A n c) := (S0.out.old AN1.out).cell 1
    have c10 : V1.cell? ⟨w.heap.size + 1, 0, none⟩ = some (.int .i64 px) := (S1.out.old AN1.out).cell 0
    have c11 : V1.cell? ⟨w.heap.size + 1, 1, none⟩ = some (.int .i64 py) := (S1.out.old AN1.out).cell 1
    go_wp2_with fail
    clear c00 c01 c10 c11
    refine (T1.out V1).mono ?_
    rintro e V2 ⟨rfl, hb2⟩
    have AN2 := Lib.hid (AN1.out.trans (hb2.mono AN1.out.size))
    clear hb2
    have BX := Lib.hid (S0.out.1.trans (AN2.out.mono S0.out.1.size))
    go_wp2_with fail
    go_ret2
    exact ⟨by rw [HE.out.1.2, HE.out.2]; rfl, BX.out⟩
  rw [hq1] at T1
  obtain ⟨⟨g3, g8⟩, gp⟩ := se_corner hq0
  have HB := Lib.hid (ii_yes hq0 hq1)
  have HV := Lib.hid ((iiV_yes HB.out).2)
  have CD := Lib.hid (fun W (hb : Below w.heap.size w W) => sctc.whereIs zs px py A n c W hn gp hq1 (h1.next hb))
  rw [← wh_on] at HV
  clear hq0 hq1 h1 gp
  generalize whV (cX zs) (cY zs) n px py = s at *
  by_cases h0 : s = 1
  · have g1 : (s == 1) = true := by simp [h0]
    have HX := Lib.hid (HV.out.trans (decide_eq_true h0))
    go_enter Try.func22, Try.ntmps22
    go_wp2_with fail
    generalize ((w.alloc (.cells #[.int .i64 d, .slice A n c] 42)).alloc (.cells #[.int .i64 px, .int .i64 py] 31)) = W0 at *
    have AN0 := Lib.hid (Below.refl W0.heap.size W0)
    refine (T0.out W0 (S0.out.1.trans (AN0.out.mono S0.out.1.size))).mono ?_
    rintro e V1 ⟨rfl, hb1⟩
    have AN1 := Lib.hid (AN0.out.trans (hb1.mono AN0.out.size))
    clear hb1
    have c00 : V1.cell? ⟨w.heap.size, 0, none⟩ = some (.int .i64 d) := (S0.out.old AN1.out).cell 0
    have c01 : V1.cell? ⟨w.heap.size, 1, none⟩ = some (.slice A n c) := (S0.out.old AN1.out).cell 1
    have c10 : V1.cell? ⟨w.heap.size + 1, 0, none⟩ = some (.int .i64 px) := (S1.out.old AN1.out).cell 0
    have c11 : V1.cell? ⟨w.heap.size + 1, 1, none⟩ = some (.int .i64 py) := (S1.out.old AN1.out).cell 1
    go_wp2_with fail
    clear c00 c01 c10 c11
    refine (T1.out V1).mono ?_
    rintro e V2 ⟨rfl, hb2⟩
    have AN2 := Lib.hid (AN1.out.trans (hb2.mono AN1.out.size))
    clear hb2
    have c00 : V2.cell? ⟨w.heap.size, 0, none⟩ = some (.int .i64 d) := (S0.out.old AN2.out).cell 0
    have c01 : V2.cell? ⟨w.heap.size, 1, none⟩ = some (.slice A n c) := (S0.out.old AN2.out).cell 1
    have c10 : V2.cell? ⟨w.heap.size + 1, 0, none⟩ = some (.int .i64 px) := (S1.out.old AN2.out).cell 0
    have c11 : V2.cell? ⟨w.heap.size + 1, 1, none⟩ = some (.int .i64 py) := (S1.out.old AN2.out).cell 1
    go_wp2_with fail
    clear c00 c01 c10 c11
    refine (CD.out V2 (S0.out.1.trans (AN2.out.mono S0.out.1.size))).mono ?_
    rintro e V3 ⟨rfl, hb3⟩
    have AN3 := Lib.hid (AN2.out.trans (hb3.mono AN2.out.size))
    clear hb3
    have BX := Lib.hid (S0.out.1.trans (AN3.out.mono S0.out.1.size))
    go_wp2_with fail
    go_ret2
    exact ⟨by rw [HX.out, HB.out]; rfl, BX.out⟩
  · have g1 : (s == 1) = false := by simp [h0]
    have HX := Lib.hid (HV.out.trans (decide_eq_false h0))
    go_enter Try.func22, Try.ntmps22
    go_wp2_with fail
    generalize ((w.alloc (.cells #[.int .i64 d, .slice A n c] 42)).alloc (.cells #[.int .i64 px, .int .i64 py] 31)) = W0 at *
    have AN0 := Lib.hid (Below.refl W0.heap.size W0)
    refine (T0.out W0 (S0.out.1.trans (AN0.out.mono S0.out.1.size))).mono ?_
    rintro e V1 ⟨rfl, hb1⟩
    have AN1 := Lib.hid (AN0.out.trans (hb1.mono AN0.out.size))
    clear hb1
    have c00 : V1.cell? ⟨w.heap.size, 0, none⟩ = some (.int .i64 d) := (S0.out.old AN1.out).cell 0
    have c01 : V1.cell? ⟨w.heap.size, 1, none⟩ = some (.slice A n c) := (S0.out.old AN1.out).cell 1
    have c10 : V1.cell? ⟨w.heap.size + 1, 0, none⟩ = some (.int .i64 px) := (S1.out.old AN1.out).cell 0
    have c11 : V1.cell? ⟨w.heap.size + 1, 1, none⟩ = some (.int .i64 py) := (S1.out.old AN1.out).cell 1
    go_wp2_with fail
    clear c00 c01 c10 c11
    refine (T1.out V1).mono ?_
    rintro e V2 ⟨rfl, hb2⟩
    have AN2 := Lib.hid (AN1.out.trans (hb2.mono AN1.out.size))
    clear hb2
    have c00 : V2.cell? ⟨w.heap.size, 0, none⟩ = some (.int .i64 d) := (S0.out.old AN2.out).cell 0
    have c01 : V2.cell? ⟨w.heap.size, 1, none⟩ = some (.slice A n c) := (S0.out.old AN2.out).cell 1
    have c10 : V2.cell? ⟨w.heap.size + 1, 0, none⟩ = some (.int .i64 px) := (S1.out.old AN2.out).cell 0
    have c11 : V2.cell? ⟨w.heap.size + 1, 1, none⟩ = some (.int .i64 py) := (S1.out.old AN2.out).cell 1
    go_wp2_with fail
    clear c00 c01 c10 c11
    refine (CD.out V2 (S0.out.1.trans (AN2.out.mono S0.out.1.size))).mono ?_
    rintro e V3 ⟨rfl, hb3⟩
    have AN3 := Lib.hid (AN2.out.trans (hb3.mono AN2.out.size))
    clear hb3
    have BX := Lib.hid (S0.out.1.trans (AN3.out.mono S0.out.1.size))
    go_wp2_with fail
    go_ret2
    exact ⟨by rw [HX.out, HB.out]; rfl, BX.out⟩

theorem rd_two (x y a b : Int) (W : World) : RdZ 2 (W.alloc (.cells #[.int .i64 x, .int .i64 y, .int .i64 a, .int .i64 b] 31)) (W.alloc (.cells #[.int .i64 x, .int .i64 y, .int .i64 a, .int .i64 b] 31)).heap.size (some ⟨W.heap.size, 0, none⟩) 2 [x, y, a, b] := by
  refine ⟨rfl, fun _ => ⟨W.heap.size, 0, rfl, by rw [World.size_alloc]; omega, fun j z hz => ?_⟩⟩
  rw [Nat.zero_add]
  refine ((newS 31 #[.int .i64 x, .int .i64 y, .int .i64 a, .int .i64 b] W).cell j).trans ?_
  match j, hz with
  | 0, hz => simpa using hz
  | 1, hz => simpa using hz
  | 2, hz => simpa using hz
  | 3, hz => simpa using hz
  | j + 4, hz => simp at hz
theorem areAll_two (x y a b : Int) (W : World) :
    Calls Try.prog 56 #[.func (.func 49) #[] #[], .slice (some ⟨W.heap.size, 0, none⟩) 2 2] (W.alloc (.cells #[.int .i64 x, .int .i64 y, .int .i64 a, .int .i64 b] 31)) fun e w' => e = .returned (.bool (pB x y && pB a b)) ∧ Below W.heap.size W w' := by
  refine (sctb.areAllPlaces [x, y, a, b] _ 2 2 _ (by omega) (rd_two x y a b W)).mono ?_
  rintro e w' ⟨rfl, hb⟩
  have h0 := (Below.refl W.heap.size W).alloc (Nat.le_refl _) (.cells #[.int .i64 x, .int .i64 y, .int .i64 a, .int .i64 b] 31)
  refine ⟨?_, h0.trans (hb.mono h0.size)⟩
  show Ending.returned (.bool ((true && pB x y) && pB a b)) = _
  rw [Bool.true_and]

end Go.Proofs.Ytkndfklbonkbiaa.sctp
