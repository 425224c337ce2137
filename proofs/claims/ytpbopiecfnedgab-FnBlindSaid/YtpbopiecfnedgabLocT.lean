/- SendTime of both. -/
import Derived.Test.YtpbopiecfnedgabLocS
import Derived.Test.YtpbopiecfnedgabLocI
namespace Go.Proofs.Ytpbopiecfnedgab.loct
open Go.RowKit Go.Proofs.Ytpbopiecfnedgab.ints Go.Proofs.Ytpbopiecfnedgab.lst Go.Proofs.Ytpbopiecfnedgab.sit Go.Proofs.Ytpbopiecfnedgab.in_ Go.Proofs.Ytpbopiecfnedgab.ats Go.Proofs.Ytpbopiecfnedgab.sits Go.Proofs.Ytpbopiecfnedgab.sitt Go.Proofs.Ytpbopiecfnedgab.sitv Go.Proofs.Ytpbopiecfnedgab.intc Go.Proofs.Ytpbopiecfnedgab.loc

set_option maxRecDepth 100000 in
set_option maxHeartbeats 2000000 in
theorem sendS (zs xs : List Int) (x y : Int) (A C : Option Addr) (n c m q : Nat) (w : World) (hn : n ≤ 1048576) (hm : m ≤ 1048576) (h1 : RdZ 2 w w.heap.size A n zs) (h2 : RdI w w.heap.size C m xs) :
    Calls Try.prog 38 #[.slice A n c, .slice C m q, .agg #[.int .i64 x, .int .i64 y]] w fun e w' => e = .returned (.tuple #[.int .i64 (tmV zs n xs m x y), .bool (tmB zs n xs m x y)]) ∧ Below w.heap.size w w' := by
  have S0 := Lib.hid (newS 32 #[.int .i64 x, .int .i64 y] w)
  have T0 := Lib.hid (fun W (hb : Below w.heap.size w W) => asked10 zs xs A C n c m q W (by omega) (by omega) (h1.next hb) (h2.next hb))
  have T1 := Lib.hid (fun W => point10 x y W)
  have H1 := Lib.hid h1
  have H2 := Lib.hid h2
  clear h1 h2
  cases hq0 : arB zs n xs m
  · rw [hq0] at T0
    have HE := Lib.hid (show tmB zs n xs m x y = false by unfold tmB stB; rw [hq0]; rfl)
    have HV := Lib.hid (tm_no HE.out)
    clear H1 H2 hq0
    go_enter Try.func38, Try.ntmps38
    go_wp2_with fail
    generalize w.alloc (.cells #[.int .i64 x, .int .i64 y] 32) = W0 at *
    have AN0 := Lib.hid (Below.refl W0.heap.size W0)
    refine (T0.out W0 (S0.out.1.trans (AN0.out.mono S0.out.1.size))).mono ?_
    rintro e V0 ⟨rfl, hb0⟩
    have AN1 := Lib.hid (AN0.out.trans (hb0.mono AN0.out.size))
    clear hb0 AN0
    have BX := Lib.hid (S0.out.1.trans (AN1.out.mono S0.out.1.size))
    go_wp2_with fail
    go_ret2
    exact ⟨by rw [HE.out, HV.out]; rfl, BX.out⟩
  rw [hq0] at T0
  cases hq1 : onB x y
  · rw [hq1] at T1
    have HE := Lib.hid (show tmB zs n xs m x y = false by unfold tmB stB; rw [hq0, hq1]; rfl)
    have HV := Lib.hid (tm_no HE.out)
    clear H1 H2 hq0 hq1
    go_enter Try.func38, Try.ntmps38
    go_wp2_with fail
    generalize w.alloc (.cells #[.int .i64 x, .int .i64 y] 32) = W0 at *
    have AN0 := Lib.hid (Below.refl W0.heap.size W0)
    refine (T0.out W0 (S0.out.1.trans (AN0.out.mono S0.out.1.size))).mono ?_
    rintro e V0 ⟨rfl, hb0⟩
    have AN1 := Lib.hid (AN0.out.trans (hb0.mono AN0.out.size))
    clear hb0 AN0
    have c0_ : V0.cell? ⟨w.heap.size, 0, none⟩ = some (.int .i64 x) := (S0.out.old AN1.out).cell 0
    have c1_ : V0.cell? ⟨w.heap.size, 1, none⟩ = some (.int .i64 y) := (S0.out.old AN1.out).cell 1
    go_wp2_with fail
    clear c0_ c1_
    refine (T1.out V0).mono ?_
    rintro e V1 ⟨rfl, hb1⟩
    have AN2 := Lib.hid (AN1.out.trans (hb1.mono AN1.out.size))
    clear hb1 AN1
    have BX := Lib.hid (S0.out.1.trans (AN2.out.mono S0.out.1.size))
    go_wp2_with fail
    go_ret2
    exact ⟨by rw [HE.out, HV.out]; rfl, BX.out⟩
  rw [hq1] at T1
  obtain rfl : m = n := (arB_yes hq0).2.2
  have h0 := (siB_yes (arB_yes hq0).2.1).1
  have HL := Lib.hid (stT_length zs xs x y m)
  have HNZ := Lib.hid (fun (h : ¬ sp zs xs m x y = 0) => show tmB zs m xs m x y = false by unfold tmB; rw [decide_eq_false h]; simp)
  have HY := Lib.hid (fun (h : sp zs xs m x y = 0) => show tmB zs m xs m x y = isIn ((stT zs xs x y m).getD 0 0) 0 100000 ∧ tmV zs m xs m x y = if isIn ((stT zs xs x y m).getD 0 0) 0 100000 = true then (stT zs xs x y m).getD 0 0 else 0 by
    have e : tmB zs m xs m x y = isIn ((stT zs xs x y m).getD 0 0) 0 100000 := by unfold tmB stB; rw [hq0, hq1, decide_eq_true h]; rfl
    exact ⟨e, by unfold tmV; rw [e]⟩)
  have CS := Lib.hid (fun W (hb : Below w.heap.size w W) => locs.spread11 zs xs x y A C m c q W h0 hm (siB_yes (arB_yes hq0).2.1).2.2.1 hq1 (arB_yes hq0).1 (H1.out.next hb) (H2.out.next hb))
  have CT := Lib.hid (fun W (hb : Below w.heap.size w W) => sent10 zs x y xs C m q A m c W hn (okL_on (siB_yes (arB_yes hq0).2.1).2.2.1) (okP_on hq1) (Nat.le_refl _) (fun k hk => by have := aiT_at (arB_yes hq0).1 hk; omega) (H2.out.next hb) (H1.out.next hb))
  generalize sp zs xs m x y = z at *
  clear H1 H2 hq0 hq1
  go_enter Try.func38, Try.ntmps38
  go_wp2_with fail
  generalize w.alloc (.cells #[.int .i64 x, .int .i64 y] 32) = W0 at *
  have AN0 := Lib.hid (Below.refl W0.heap.size W0)
  refine (T0.out W0 (S0.out.1.trans (AN0.out.mono S0.out.1.size))).mono ?_
  rintro e V0 ⟨rfl, hb0⟩
  have AN1 := Lib.hid (AN0.out.trans (hb0.mono AN0.out.size))
  clear hb0 AN0
  have c0_ : V0.cell? ⟨w.heap.size, 0, none⟩ = some (.int .i64 x) := (S0.out.old AN1.out).cell 0
  have c1_ : V0.cell? ⟨w.heap.size, 1, none⟩ = some (.int .i64 y) := (S0.out.old AN1.out).cell 1
  go_wp2_with fail
  clear c0_ c1_
  refine (T1.out V0).mono ?_
  rintro e V1 ⟨rfl, hb1⟩
  have AN2 := Lib.hid (AN1.out.trans (hb1.mono AN1.out.size))
  clear hb1 AN1
  have c0_ : V1.cell? ⟨w.heap.size, 0, none⟩ = some (.int .i64 x) := (S0.out.old AN2.out).cell 0
  have c1_ : V1.cell? ⟨w.heap.size, 1, none⟩ = some (.int .i64 y) := (S0.out.old AN2.out).cell 1
  go_wp2_with fail
  clear c0_ c1_
  refine (CS.out V1 (S0.out.1.trans (AN2.out.mono S0.out.1.size))).mono ?_
  rintro e V7 ⟨rfl, hb⟩
  have AN7 := Lib.hid (AN2.out.trans (hb.mono AN2.out.size))
  clear hb AN2
  by_cases hz : z = 0
  · subst hz
    have HYQ := Lib.hid (HY.out rfl)
    clear HY
    have c0_ : V7.cell? ⟨w.heap.size, 0, none⟩ = some (.int .i64 x) := (S0.out.old AN7.out).cell 0
    have c1_ : V7.cell? ⟨w.heap.size, 1, none⟩ = some (.int .i64 y) := (S0.out.old AN7.out).cell 1
    go_wp2_with fail
    clear c0_ c1_
    refine (CT.out V7 (S0.out.1.trans (AN7.out.mono S0.out.1.size))).mono ?_
    rintro e V8 ⟨v, rfl, ho, hb⟩
    obtain ⟨AX, cX, rfl⟩ := own_sliceZ ho
    have RX := Lib.hid (rd_of_own ho HL.out)
    have AN8 := Lib.hid (AN7.out.trans (hb.mono AN7.out.size))
    clear hb ho AN7 CT
    obtain ⟨b, o, u, rfl, hbl, hx, hc8⟩ := RX.out.at_ h0
    rw [Nat.add_zero] at hc8
    have hu : (stT zs xs x y m).getD 0 0 = u := by rw [List.getD_eq_getElem?_getD, hx]; rfl
    rw [hu] at HYQ
    have m0 : (0 : Int) < (m : Int) := by omega
    have I := Lib.hid (fun w => l1In u 0 100000 w)
    clear hx hu RX
    cases hI : isIn u 0 100000
    · rw [hI] at I HYQ
      have HE := Lib.hid HYQ.out.1
      have HV := Lib.hid HYQ.out.2
      go_wp2_with fail
      refine (I.out _).mono ?_
      rintro e w' ⟨rfl, rfl⟩
      have BX := Lib.hid (S0.out.1.trans (AN8.out.mono S0.out.1.size))
      go_wp2_with fail
      go_ret2
      exact ⟨by rw [HE.out, HV.out]; rfl, BX.out⟩
    · rw [hI] at I HYQ
      have HE := Lib.hid HYQ.out.1
      have HV := Lib.hid HYQ.out.2
      go_wp2_with fail
      refine (I.out _).mono ?_
      rintro e w' ⟨rfl, rfl⟩
      have BX := Lib.hid (S0.out.1.trans (AN8.out.mono S0.out.1.size))
      go_wp2_with fail
      go_ret2
      exact ⟨by rw [HE.out, HV.out]; rfl, BX.out⟩
  · have hz2 : (z != 0) = true := bne_iff_ne.mpr hz
    have HE := Lib.hid (HNZ.out hz)
    have HV := Lib.hid (tm_no HE.out)
    have BX := Lib.hid (S0.out.1.trans (AN7.out.mono S0.out.1.size))
    clear hz
    go_wp2_with fail
    go_ret2
    exact ⟨by rw [HE.out, HV.out]; rfl, BX.out⟩

set_option maxRecDepth 100000 in
set_option maxHeartbeats 2000000 in
theorem sendI (zs xs : List Int) (x y : Int) (A C : Option Addr) (n c m q : Nat) (w : World) (hc : n ≤ c) (hn : n ≤ 1048576) (hm : m ≤ 1048576) (h1 : RdZ 2 w w.heap.size A n zs) (h2 : RdI w w.heap.size C m xs) :
    Calls Try.prog 39 #[.slice A n c, .slice C m q, .agg #[.int .i64 x, .int .i64 y]] w fun e w' => e = .returned (.tuple #[.int .i64 (tmV zs n xs m x y), .bool (tmB zs n xs m x y)]) ∧ Below w.heap.size w w' := by
  have S0 := Lib.hid (newS 32 #[.int .i64 x, .int .i64 y] w)
  have CT := Lib.hid (fun W (hb : Below w.heap.size w W) => sitj.sendTimes zs xs x y A C n c m q W hc hn hm (h1.next hb) (h2.next hb))
  clear h1 h2
  cases hq : stB zs n xs m x y
  · rw [hq] at CT
    have HE := Lib.hid (show tmB zs n xs m x y = false by unfold tmB; rw [hq]; rfl)
    have HV := Lib.hid (tm_no HE.out)
    clear hq
    go_enter Try.func39, Try.ntmps39
    go_wp2_with fail
    generalize w.alloc (.cells #[.int .i64 x, .int .i64 y] 32) = W0 at *
    refine (CT.out W0 S0.out.1).mono ?_
    rintro e V7 ⟨v, rfl, ho, hb⟩
    have BX := Lib.hid (S0.out.1.trans (hb.mono S0.out.1.size))
    clear hb CT S0
    obtain ⟨AX, cX, rfl⟩ := own_sliceZ ho
    clear ho
    go_wp2_with fail
    go_ret2
    exact ⟨by rw [HE.out, HV.out]; rfl, BX.out⟩
  rw [hq] at CT
  have hq0 : arB zs n xs m = true := by unfold stB at hq; rw [Bool.and_eq_true] at hq; exact hq.1
  have hq1 : onB x y = true := by unfold stB at hq; rw [Bool.and_eq_true] at hq; exact hq.2
  obtain rfl : m = n := (arB_yes hq0).2.2
  have h0 := (siB_yes (arB_yes hq0).2.1).1
  have HL := Lib.hid (stT_length zs xs x y m)
  have HNZ := Lib.hid (fun (h : ¬ sp zs xs m x y = 0) => show tmB zs m xs m x y = false by unfold tmB; rw [decide_eq_false h]; simp)
  have HY := Lib.hid (fun (h : sp zs xs m x y = 0) => show tmB zs m xs m x y = isIn ((stT zs xs x y m).getD 0 0) 0 100000 ∧ tmV zs m xs m x y = if isIn ((stT zs xs x y m).getD 0 0) 0 100000 = true then (stT zs xs x y m).getD 0 0 else 0 by
    have e : tmB zs m xs m x y = isIn ((stT zs xs x y m).getD 0 0) 0 100000 := by unfold tmB stB; rw [hq0, hq1, decide_eq_true h]; rfl
    exact ⟨e, by unfold tmV; rw [e]⟩)
  have HSV := Lib.hid (stV_yes hq)
  have HSP := Lib.hid (show sp zs xs m x y = mxT (stT zs xs x y m) (m - 1) - mnT (stT zs xs x y m) (m - 1) from rfl)
  clear hq hq0 hq1
  rw [HSV.out, HL.out] at CT
  go_enter Try.func39, Try.ntmps39
  go_wp2_with fail
  generalize w.alloc (.cells #[.int .i64 x, .int .i64 y] 32) = W0 at *
  refine (CT.out W0 S0.out.1).mono ?_
  rintro e V7 ⟨v, rfl, ho, hb⟩
  have BX := Lib.hid (S0.out.1.trans (hb.mono S0.out.1.size))
  clear hb CT S0
  obtain ⟨AX, cX, rfl⟩ := own_sliceZ ho
  have RX := Lib.hid (rd_of_own ho HL.out)
  clear ho
  generalize hT : stT zs xs x y m = L at *
  clear hT
  have MX := Lib.hid (loci.maxN L AX m cX V7 h0 hm RX.out)
  have MN := Lib.hid (loci.minN L AX m cX V7 h0 hm RX.out)
  obtain ⟨b, o, u, rfl, hbl, hx, hc8⟩ := RX.out.at_ h0
  rw [Nat.add_zero] at hc8
  have hu : L.getD 0 0 = u := by rw [List.getD_eq_getElem?_getD, hx]; rfl
  rw [hu] at HY
  have m0 : (0 : Int) < (m : Int) := by omega
  clear hx hu RX
  generalize mxT L (m - 1) = s at *
  generalize mnT L (m - 1) = t at *
  by_cases hz : s = t
  · have HYQ := Lib.hid (HY.out (by rw [HSP.out]; omega))
    clear HY
    subst hz
    have n1 : (s != s) = false := by simp
    have I := Lib.hid (fun w => siti.isTime u w)
    cases hI : isIn u 0 100000
    · rw [hI] at I HYQ
      have HE := Lib.hid HYQ.out.1
      have HV := Lib.hid HYQ.out.2
      go_wp2_with fail
      refine MX.out.mono ?_
      rintro e w' ⟨rfl, rfl⟩
      go_wp2_with fail
      refine MN.out.mono ?_
      rintro e w' ⟨rfl, rfl⟩
      go_wp2_with fail
      refine (I.out _).mono ?_
      rintro e w' ⟨rfl, rfl⟩
      go_wp2_with fail
      go_ret2
      exact ⟨by rw [HE.out, HV.out]; rfl, BX.out⟩
    · rw [hI] at I HYQ
      have HE := Lib.hid HYQ.out.1
      have HV := Lib.hid HYQ.out.2
      go_wp2_with fail
      refine MX.out.mono ?_
      rintro e w' ⟨rfl, rfl⟩
      go_wp2_with fail
      refine MN.out.mono ?_
      rintro e w' ⟨rfl, rfl⟩
      go_wp2_with fail
      refine (I.out _).mono ?_
      rintro e w' ⟨rfl, rfl⟩
      go_wp2_with fail
      go_ret2
      exact ⟨by rw [HE.out, HV.out]; rfl, BX.out⟩
  · have HE := Lib.hid (HNZ.out (by rw [HSP.out]; omega))
    have HV := Lib.hid (tm_no HE.out)
    have n1 : (s != t) = true := bne_iff_ne.mpr hz
    clear hz
    go_wp2_with fail
    refine MX.out.mono ?_
    rintro e w' ⟨rfl, rfl⟩
    go_wp2_with fail
    refine MN.out.mono ?_
    rintro e w' ⟨rfl, rfl⟩
    go_wp2_with fail
    go_ret2
    exact ⟨by rw [HE.out, HV.out]; rfl, BX.out⟩

end Go.Proofs.Ytpbopiecfnedgab.loct
