/- impl's functions of chapter 11: spreadOf, SpreadAt, everyPoint at the closure of pointsThatFit, pointsThatFit, FittingPoints, IsLocated, SendTime. -/
import Derived.Test.YtpbopiecfnedgabSitJ
import Derived.Test.YtpbopiecfnedgabSitV
import Derived.Test.YtpbopiecfnedgabLoc
namespace Go.Proofs.Ytpbopiecfnedgab.loci
open Go.RowKit Go.Proofs.Ytpbopiecfnedgab.ints Go.Proofs.Ytpbopiecfnedgab.lst Go.Proofs.Ytpbopiecfnedgab.sit Go.Proofs.Ytpbopiecfnedgab.in_ Go.Proofs.Ytpbopiecfnedgab.ats Go.Proofs.Ytpbopiecfnedgab.sits Go.Proofs.Ytpbopiecfnedgab.siti Go.Proofs.Ytpbopiecfnedgab.sitj Go.Proofs.Ytpbopiecfnedgab.sitv Go.Proofs.Ytpbopiecfnedgab.intc Go.Proofs.Ytpbopiecfnedgab.loc

theorem max_mx (xs : List Int) (k : Nat) (hk : k < xs.length) : Lib.maxOf (xs.take (k + 1)) = mxT xs k := by
  induction k with
  | zero => exact Lib.maxOf_one xs
  | succ k ih => rw [Lib.maxOf_step xs (k + 1) (by omega) hk, ih (by omega), mxT]
theorem min_mn (xs : List Int) (k : Nat) (hk : k < xs.length) : Lib.minOf (xs.take (k + 1)) = mnT xs k := by
  induction k with
  | zero => exact Lib.minOf_one xs
  | succ k ih => rw [Lib.minOf_step xs (k + 1) (by omega) hk, ih (by omega), mnT]
theorem maxN (xs : List Int) (A : Option Addr) (n c : Nat) (w : World) (hn : 0 < n) (hn2 : n ≤ 1048576) (h : RdI w w.heap.size A n xs) :
    Calls Try.prog 85 #[.slice A n c] w fun e w' => e = .returned (.int .i64 (mxT xs (n - 1))) ∧ w' = w := by
  obtain ⟨b, o, rfl, hb, hc⟩ := h.2 hn
  refine (Try.slices_Max_int b o n c xs w hn (Nat.le_of_eq h.1.symm) (by omega) (fun j hj => by
    refine hc j _ ?_
    rw [List.getD_eq_getElem?_getD, List.getElem?_eq_getElem hj]; rfl)).mono ?_
  rintro e w' ⟨rfl, rfl⟩
  refine ⟨?_, rfl⟩
  have := max_mx xs (n - 1) (by have := h.1; omega)
  rw [show n - 1 + 1 = n by omega] at this
  rw [this]
theorem minN (xs : List Int) (A : Option Addr) (n c : Nat) (w : World) (hn : 0 < n) (hn2 : n ≤ 1048576) (h : RdI w w.heap.size A n xs) :
    Calls Try.prog 86 #[.slice A n c] w fun e w' => e = .returned (.int .i64 (mnT xs (n - 1))) ∧ w' = w := by
  obtain ⟨b, o, rfl, hb, hc⟩ := h.2 hn
  refine (Try.slices_Min_int b o n c xs w hn (Nat.le_of_eq h.1.symm) (by omega) (fun j hj => by
    refine hc j _ ?_
    rw [List.getD_eq_getElem?_getD, List.getElem?_eq_getElem hj]; rfl)).mono ?_
  rintro e w' ⟨rfl, rfl⟩
  refine ⟨?_, rfl⟩
  have := min_mn xs (n - 1) (by have := h.1; omega)
  rw [show n - 1 + 1 = n by omega] at this
  rw [this]

set_option maxRecDepth 100000 in
theorem spreadOf (zs xs : List Int) (x y : Int) (A C : Option Addr) (n c q : Nat) (w : World) (h0 : 0 < n) (hn : n ≤ 1048576) (hon : onT zs n = true) (hp : onB x y = true) (hai : aiT xs n = true) (h1 : RdZ 2 w w.heap.size A n zs) (h2 : RdI w w.heap.size C n xs) :
    Calls Try.prog 67 #[.agg #[.int .i64 x, .int .i64 y], .slice A n c, .slice C n q] w fun e w' => e = .returned (.int .i64 (sp zs xs n x y)) ∧ Below w.heap.size w w' := by
  have S0 := Lib.hid (newS 32 #[.int .i64 x, .int .i64 y] w)
  have CC := Lib.hid (fun W (hb : Below w.heap.size w W) => sendTimesFrom zs xs x y A C n c q W h0 hn hon hp hai (h1.next hb) (h2.next hb))
  have HL := Lib.hid (stT_length zs xs x y n)
  have HIN := Lib.hid (sp_in h0 hon hai hp)
  have HV := Lib.hid (show sp zs xs n x y = mxT (stT zs xs x y n) (n - 1) - mnT (stT zs xs x y n) (n - 1) from rfl)
  rw [HV.out] at HIN
  clear h1 h2 hon hp hai
  go_enter Try.func67, Try.ntmps67
  go_wp2_with fail
  generalize w.alloc (.cells #[.int .i64 x, .int .i64 y] 32) = W0 at *
  refine (CC.out W0 S0.out.1).mono ?_
  rintro e w1 ⟨v1, rfl, ho1, hb1⟩
  obtain ⟨A1, c1, rfl⟩ := own_sliceZ ho1
  have R1 := Lib.hid (rd_of_own ho1 HL.out)
  have B1 := Lib.hid (S0.out.1.trans (hb1.mono S0.out.1.size))
  clear ho1 hb1 CC
  generalize stT zs xs x y n = L at *
  have MX := Lib.hid (maxN L A1 n c1 w1 h0 hn R1.out)
  have MN := Lib.hid (minN L A1 n c1 w1 h0 hn R1.out)
  generalize mxT L (n - 1) = u at *
  generalize mnT L (n - 1) = v at *
  have e1 : IntKind.i64.wrap (u - v) = u - v := IntWalk.i64_in _ (by have := HIN.out; omega)
  go_wp2_with fail
  refine MX.out.mono ?_
  rintro e w' ⟨rfl, rfl⟩
  go_wp2_with fail
  refine MN.out.mono ?_
  rintro e w' ⟨rfl, rfl⟩
  go_wp2_with fail
  go_ret
  exact ⟨by rw [HV.out]; rfl, B1.out⟩

set_option maxRecDepth 100000 in
set_option maxHeartbeats 2000000 in
theorem spreadAt (zs xs : List Int) (x y : Int) (A C : Option Addr) (n c m q : Nat) (w : World) (hc : n ≤ c) (hn : n ≤ 1048576) (hm : m ≤ 1048576) (h1 : RdZ 2 w w.heap.size A n zs) (h2 : RdI w w.heap.size C m xs) :
    Calls Try.prog 19 #[.slice A n c, .slice C m q, .agg #[.int .i64 x, .int .i64 y]] w fun e w' => e = .returned (.tuple #[.int .i64 (saV zs n xs m x y), .bool (stB zs n xs m x y)]) ∧ Below w.heap.size w w' := by
  have S0 := Lib.hid (newS 32 #[.int .i64 x, .int .i64 y] w)
  have T0 := Lib.hid (fun W (hb : Below w.heap.size w W) => areArrivals zs xs A C n c m q W hc (by omega) (by omega) (h1.next hb) (h2.next hb))
  have T1 := Lib.hid (fun W => isOnGround x y W)
  have H1 := Lib.hid h1
  have H2 := Lib.hid h2
  clear h1 h2
  cases hq0 : arB zs n xs m
  · rw [hq0] at T0
    have HE := Lib.hid (show stB zs n xs m x y = false by unfold stB; rw [hq0]; rfl)
    have HV := Lib.hid (saV_no HE.out)
    clear H1 H2 hq0
    go_enter Try.func19, Try.ntmps19
    go_wp2_with fail
    generalize w.alloc (.cells #[.int .i64 x, .int .i64 y] 32) = W0 at *
    have AN0 := Lib.hid (Below.refl W0.heap.size W0)
    refine (T0.out W0 (S0.out.1.trans (AN0.out.mono S0.out.1.size))).mono ?_
    rintro e V0 ⟨rfl, hb0⟩
    have AN1 := Lib.hid (AN0.out.trans (hb0.mono AN0.out.size))
    clear hb0 AN0
    have BX := Lib.hid (S0.out.1.trans (AN1.out.mono S0.out.1.size))
    go_wp2_with fail
    go_ret2
    exact ⟨by rw [HE.out, HV.out]; rfl, BX.out⟩
  rw [hq0] at T0
  cases hq1 : onB x y
  · rw [hq1] at T1
    have HE := Lib.hid (show stB zs n xs m x y = false by unfold stB; rw [hq0, hq1]; rfl)
    have HV := Lib.hid (saV_no HE.out)
    clear H1 H2 hq0 hq1
    go_enter Try.func19, Try.ntmps19
    go_wp2_with fail
    generalize w.alloc (.cells #[.int .i64 x, .int .i64 y] 32) = W0 at *
    have AN0 := Lib.hid (Below.refl W0.heap.size W0)
    refine (T0.out W0 (S0.out.1.trans (AN0.out.mono S0.out.1.size))).mono ?_
    rintro e V0 ⟨rfl, hb0⟩
    have AN1 := Lib.hid (AN0.out.trans (hb0.mono AN0.out.size))
    clear hb0 AN0
    have c0_ : V0.cell? ⟨w.heap.size, 0, none⟩ = some (.int .i64 x) := (S0.out.old AN1.out).cell 0
    have c1_ : V0.cell? ⟨w.heap.size, 1, none⟩ = some (.int .i64 y) := (S0.out.old AN1.out).cell 1
    go_wp2_with fail
    clear c0_ c1_
    refine (T1.out V0).mono ?_
    rintro e V1 ⟨rfl, hb1⟩
    have AN2 := Lib.hid (AN1.out.trans (hb1.mono AN1.out.size))
    clear hb1 AN1
    have BX := Lib.hid (S0.out.1.trans (AN2.out.mono S0.out.1.size))
    go_wp2_with fail
    go_ret2
    exact ⟨by rw [HE.out, HV.out]; rfl, BX.out⟩
  rw [hq1] at T1
  have HE := Lib.hid (show stB zs n xs m x y = true by unfold stB; rw [hq0, hq1]; rfl)
  have HV := Lib.hid (saV_yes HE.out)
  obtain rfl : m = n := (arB_yes hq0).2.2
  have CC := Lib.hid (fun W (hb : Below w.heap.size w W) => spreadOf zs xs x y A C m c q W (siB_yes (arB_yes hq0).2.1).1 hm (siB_yes (arB_yes hq0).2.1).2.2.1 hq1 (arB_yes hq0).1 (H1.out.next hb) (H2.out.next hb))
  clear H1 H2 hq0 hq1
  go_enter Try.func19, Try.ntmps19
  go_wp2_with fail
  generalize w.alloc (.cells #[.int .i64 x, .int .i64 y] 32) = W0 at *
  have AN0 := Lib.hid (Below.refl W0.heap.size W0)
  refine (T0.out W0 (S0.out.1.trans (AN0.out.mono S0.out.1.size))).mono ?_
  rintro e V0 ⟨rfl, hb0⟩
  have AN1 := Lib.hid (AN0.out.trans (hb0.mono AN0.out.size))
  clear hb0 AN0
  have c0_ : V0.cell? ⟨w.heap.size, 0, none⟩ = some (.int .i64 x) := (S0.out.old AN1.out).cell 0
  have c1_ : V0.cell? ⟨w.heap.size, 1, none⟩ = some (.int .i64 y) := (S0.out.old AN1.out).cell 1
  go_wp2_with fail
  clear c0_ c1_
  refine (T1.out V0).mono ?_
  rintro e V1 ⟨rfl, hb1⟩
  have AN2 := Lib.hid (AN1.out.trans (hb1.mono AN1.out.size))
  clear hb1 AN1
  have c0_ : V1.cell? ⟨w.heap.size, 0, none⟩ = some (.int .i64 x) := (S0.out.old AN2.out).cell 0
  have c1_ : V1.cell? ⟨w.heap.size, 1, none⟩ = some (.int .i64 y) := (S0.out.old AN2.out).cell 1
  go_wp2_with fail
  clear c0_ c1_
  refine (CC.out V1 (S0.out.1.trans (AN2.out.mono S0.out.1.size))).mono ?_
  rintro e VX ⟨rfl, hb⟩
  have BX := Lib.hid (S0.out.1.trans ((AN2.out.trans (hb.mono AN2.out.size)).mono S0.out.1.size))
  clear hb
  go_wp2_with fail
  go_ret2
  exact ⟨by rw [HE.out, HV.out]; rfl, BX.out⟩

theorem isTolerance (x : Int) (w : World) : Calls Try.prog 70 #[.int .i64 x] w fun e w' => e = .returned (.bool (isIn x 0 5)) ∧ w = w' := by
  by_cases h1 : 0 ≤ x
  · have g1 : decide (0 ≤ x) = true := decide_eq_true h1
    by_cases h2 : x ≤ 5
    · have g2 : isIn x 0 5 = true := decide_eq_true ⟨h1, h2⟩
      rw [g2]
      go_enter Try.func70, Try.ntmps70
      go_wp2_with fail
      go_ret
      exact ⟨rfl, rfl⟩
    · have g2 : isIn x 0 5 = false := decide_eq_false (fun h => h2 h.2)
      have g3 : 5 < x := by omega
      rw [g2]
      go_enter Try.func70, Try.ntmps70
      go_wp2_with fail
      go_ret
      exact ⟨rfl, rfl⟩
  · have g2 : isIn x 0 5 = false := decide_eq_false (fun h => h1 h.1)
    have g3 : x < 0 := by omega
    rw [g2]
    go_enter Try.func70, Try.ntmps70
    go_wp2_with fail
    go_ret
    exact ⟨rfl, rfl⟩

set_option maxRecDepth 100000 in
theorem everyFit (g1 g2 g3 g4 : Nat) (Inv : Nat → World → Prop) (hstep : ∀ k, k < 961 → ∀ W, Inv k W → Calls Try.prog 107 #[.agg #[.int .i64 (pX k), .int .i64 (pY k)], .pointer (some ⟨g1, 0, none⟩), .pointer (some ⟨g2, 0, none⟩), .pointer (some ⟨g3, 0, none⟩), .pointer (some ⟨g4, 0, none⟩)] W fun e w' => e = .returned (.tuple #[]) ∧ Inv (k + 1) w') (w : World) (h0 : Inv 0 w) :
    Calls Try.prog 72 #[.func (.func 107) #[] #[.pointer (some ⟨g1, 0, none⟩), .pointer (some ⟨g2, 0, none⟩), .pointer (some ⟨g3, 0, none⟩), .pointer (some ⟨g4, 0, none⟩)]] w fun e w' => e = .returned (.tuple #[]) ∧ Inv 961 w' := by
  have HS := Lib.hid (fun (x y : Nat) (hx : x < 31) (hy : y < 31) W (h : Inv (y * 31 + x) W) => (show Calls Try.prog 107 #[.agg #[.int .i64 (x : Int), .int .i64 (y : Int)], .pointer (some ⟨g1, 0, none⟩), .pointer (some ⟨g2, 0, none⟩), .pointer (some ⟨g3, 0, none⟩), .pointer (some ⟨g4, 0, none⟩)] W fun e w' => e = .returned (.tuple #[]) ∧ Inv (y * 31 + (x + 1)) w' from by
    have hq := p_row (y := y) hx
    have := hstep (y * 31 + x) (by omega) W h
    rw [hq.1, hq.2] at this
    exact this))
  have H0 := Lib.hid h0
  clear hstep h0
  go_enter Try.func72, Try.ntmps72
  go_wp2_with fail
  go_loopw [4] (fun i wr => ∃ y : Nat, y ≤ 31 ∧ i = .int .i64 y ∧ Inv (y * 31) wr) (fun i _ => 31 - (intOf i).toNat)
  case atStart => exact ⟨0, by omega, rfl, H0.out⟩
  case round =>
    obtain ⟨y, hy, rfl, hinv⟩ := hrel
    clear H0
    have HI := Lib.hid hinv
    clear hinv
    by_cases hlt : y < 31
    · have hlt2 : (y : Int) < 31 := by omega
      go_wp2_with fail
      go_loopw [7] (fun i wr => ∃ x : Nat, x ≤ 31 ∧ i = .int .i64 x ∧ Inv (y * 31 + x) wr) (fun i _ => 31 - (intOf i).toNat)
      case atStart => exact ⟨0, by omega, rfl, HI.out⟩
      case round =>
        obtain ⟨x, hx, rfl, hinv⟩ := hrel
        clear HI
        by_cases hxt : x < 31
        · have hxt2 : (x : Int) < 31 := by omega
          have C := Lib.hid (HS.out x y hxt hlt wr hinv)
          clear hinv
          go_wp2_with fail
          refine C.out.mono ?_
          rintro e w2 ⟨rfl, hinv⟩
          have HI := Lib.hid hinv
          clear hinv C
          go_wp2_with fail
          go_roundw
          case rel => exact ⟨x + 1, by omega, by go_num, HI.out⟩
          case measure => simp [intOf]; omega
        · obtain rfl : x = 31 := by omega
          have HI := Lib.hid hinv
          have HK := Lib.hid (show (y + 1) * 31 = y * 31 + 31 by omega)
          clear hinv
          go_wp2_with fail
          go_roundw
          case rel => exact ⟨y + 1, by omega, by go_num, by rw [HK.out]; exact HI.out⟩
          case measure => simp [intOf]; omega
    · obtain rfl : y = 31 := by omega
      go_wp2_with fail
      go_end0
      exact ⟨rfl, HI.out⟩

/-- A block that is no part of a row which is written. -/
theorem at_rows {T : TypeId} {cs : Array Value} {w W W' : World} {b B : Nat} {r : Option Nat} (h : AtS T cs w W b) (hg : W.grownBy W' r) (hB : b < B) (hr : ∀ p, r = some p → B ≤ p) : AtS T cs w W' b :=
  ⟨h.1.grown hg h.1.size (fun p e => by have := hr p e; have := h.2.1; omega), h.2.1, Nat.lt_of_lt_of_le h.2.2.1 hg.size, (hg.block b h.2.2.1 (fun e => by have := hr b e.symm; omega)).trans h.2.2.2⟩
theorem own_setbox {W : World} {B e s n b : Nat} {v : Value} {xs : List Value} (h : W.ownsRow B e s v n xs) (hlt : b < B) (i : Nat) (u : Value) : (W.setCell ⟨b, i, none⟩ u).ownsRow B e s v n xs :=
  own_kept_at h (grown_set (grown_refl _ (some b)) i u) (fun g e e2 => by injection e2 with e2; have := own_.row_ge h g e; omega)

/-- What pointsThatFit holds when k points have been visited. -/
def FitSt (zs xs : List Int) (n : Nat) (t : Int) (c q : Nat) (A C : Option Addr) (w : World) (k : Nat) (W : World) : Prop :=
  AtS 29 #[.slice A n c] w W w.heap.size ∧ AtS 23 #[.slice C n q] w W (w.heap.size + 1) ∧ AtS 3 #[.int .i64 t] w W (w.heap.size + 1 + 1) ∧
  ∃ v, AtS 29 #[v] w W (w.heap.size + 1 + 1 + 1) ∧ W.ownsRow (w.heap.size + 4) 32 2 v (fcT zs xs n t k) (cellsI (ftT zs xs n t k))
theorem FitSt.at {zs xs : List Int} {n : Nat} {t : Int} {c q : Nat} {A C : Option Addr} {w : World} {k : Nat} {W : World} (h : FitSt zs xs n t c q A C w k W) : Below w.heap.size w W := h.1.1

set_option maxRecDepth 100000 in
set_option maxHeartbeats 4000000 in
theorem fitStep (zs xs : List Int) (n : Nat) (t : Int) (c q : Nat) (A C : Option Addr) (w : World) (h0 : 0 < n) (hn : n ≤ 1048576) (hon : onT zs n = true) (hai : aiT xs n = true) (h1 : RdZ 2 w w.heap.size A n zs) (h2 : RdI w w.heap.size C n xs) (k : Nat) (hk : k < 961) (W : World) (h : FitSt zs xs n t c q A C w k W) :
    Calls Try.prog 107 #[.agg #[.int .i64 (pX k), .int .i64 (pY k)], .pointer (some ⟨w.heap.size, 0, none⟩), .pointer (some ⟨w.heap.size + 1, 0, none⟩), .pointer (some ⟨w.heap.size + 1 + 1, 0, none⟩), .pointer (some ⟨w.heap.size + 1 + 1 + 1, 0, none⟩)] W fun e w' => e = .returned (.tuple #[]) ∧ FitSt zs xs n t c q A C w (k + 1) w' := by
  obtain ⟨a1, a2, a3, v, a4, ho⟩ := h
  obtain ⟨Av, cv, rfl⟩ := own_sliceZ ho
  have SX := Lib.hid (newS 32 #[.int .i64 (pX k), .int .i64 (pY k)] W)
  have CO := Lib.hid (fun WZ (hb : Below W.heap.size W WZ) => (show Calls Try.prog 67 #[.agg #[.int .i64 (pX k), .int .i64 (pY k)], .slice A n c, .slice C n q] WZ fun e w' => e = .returned (.int .i64 (sq zs xs n k)) ∧ Below WZ.heap.size WZ w' from
    spreadOf zs xs (pX k) (pY k) A C n c q WZ h0 hn hon (p_on hk) hai (h1.next (a1.1.trans (hb.mono a1.1.size))) (h2.next (a1.1.trans (hb.mono a1.1.size)))))
  have HY := Lib.hid (fun (h : sq zs xs n k ≤ t) => And.intro (fcT_yes h) (ftT_yes h))
  have HN := Lib.hid (fun (h : ¬ sq zs xs n k ≤ t) => And.intro (fcT_no h) (ftT_no h))
  have hle := fc_le zs xs n t k
  have A1 := Lib.hid a1
  have A2 := Lib.hid a2
  have A3 := Lib.hid a3
  have A4 := Lib.hid a4
  have HO := Lib.hid ho
  have LW := Lib.hid (show w.heap.size + 4 ≤ W.heap.size by have := a4.2.2.1; omega)
  obtain ⟨i0, hi, hz0, hz1, hz2⟩ := info_parts infoS
  clear a1 a2 a3 a4 ho h1 h2 hon hai
  unfold FitSt
  generalize fcT zs xs n t k = cnt at *
  generalize ftT zs xs n t k = L at *
  generalize sq zs xs n k = s at *
  generalize pX k = x at *
  generalize pY k = y at *
  go_enter Try.func107, Try.ntmps107
  go_upto_region 1 with fail
  generalize W.alloc (.cells #[.int .i64 x, .int .i64 y] 32) = WX at *
  have HW := Lib.hid (show Below W.heap.size W WX from SX.out.1)
  have CS := Lib.hid (show ∀ WZ : World, Below WX.heap.size WX WZ → (WZ.cell? ⟨W.heap.size, 0, none⟩ = some (.int .i64 x) ∧ WZ.cell? ⟨W.heap.size, 1, none⟩ = some (.int .i64 y) ∧ WZ.cell? ⟨w.heap.size, 0, none⟩ = some (.slice A n c) ∧ WZ.cell? ⟨w.heap.size + 1, 0, none⟩ = some (.slice C n q) ∧ WZ.cell? ⟨w.heap.size + 1 + 1, 0, none⟩ = some (.int .i64 t)) from fun WZ hz =>
    have hw := SX.out.1.trans (hz.mono SX.out.1.size)
    And.intro ((SX.out.old hz).cell 0) (And.intro ((SX.out.old hz).cell 1) (And.intro ((A1.out.old hw).cell 0) (And.intro ((A2.out.old hw).cell 0) ((A3.out.old hw).cell 0)))))
  go_region_held3 (fun w' => w'.cell? ⟨W.heap.size, 0, none⟩ = some (.int .i64 x) ∧ w'.cell? ⟨W.heap.size, 1, none⟩ = some (.int .i64 y) ∧ w'.cell? ⟨w.heap.size, 0, none⟩ = some (.slice A n c) ∧ w'.cell? ⟨w.heap.size + 1, 0, none⟩ = some (.slice C n q) ∧ w'.cell? ⟨w.heap.size + 1 + 1, 0, none⟩ = some (.int .i64 t)) (first
    | exact CS.out _ (Below.refl WX.heap.size WX).drew
    | exact CS.out _ (by assumption)
    | go_keep) (first
    | (go_at_call 67; (with_reducible refine (CO.out _ HW.out.drew).mono ?_); rintro e wy ⟨rfl, hb⟩
       have hbl2 : Below WX.heap.size WX wy := (Below.refl WX.heap.size WX).drew.trans (hb.mono (Nat.le_refl _))
       clear hb))
  all_goals (
    have hw := SX.out.1.trans (hbl2.mono SX.out.1.size)
    have S2 := Lib.hid (SX.out.old hbl2)
    have D1 := Lib.hid (A1.out.old hw)
    have D2 := Lib.hid (A2.out.old hw)
    have D3 := Lib.hid (A3.out.old hw)
    have D4 := Lib.hid (A4.out.old hw)
    have hown := own_.own_below HO.out hw
    have hsz : w.heap.size + 4 ≤ wy.heap.size := Nat.le_trans LW.out hw.size
    clear hbl2 hw CS CO A1 A2 A3 A4 HO SX
    by_cases hs : s ≤ t
    · have HE := Lib.hid (HY.out hs)
      clear HY HN
      have c0_ : wy.cell? ⟨W.heap.size, 0, none⟩ = some (.int .i64 x) := S2.out.cell 0
      have c1_ : wy.cell? ⟨W.heap.size, 1, none⟩ = some (.int .i64 y) := S2.out.cell 1
      have c4_ : wy.cell? ⟨w.heap.size + 1 + 1 + 1, 0, none⟩ = some (.slice Av cnt cv) := D4.out.cell 0
      go_wp2_with (at_builtin; refine wpList_append_own _ rfl (.tmp 12) (.tmp 14) 29 rfl (w.heap.size + 4) 32 i0 (.agg #[.int .i64 0, .int .i64 0]) 2 16 Try.underlying29 hi hz0 hz1 hz2 rfl (by decide) _ cnt (cellsI L) rfl (hown.alloc _) ⟨wy.heap.size, 0, none⟩ 1 1 [.int .i64 x, .int .i64 y] rfl rfl (cells_new _ _ #[.int .i64 x, .int .i64 y]) (two_cells _ _) (by unfold maxLen; omega) (by omega) (by simp; omega) ?_; intro v' w5 hown' hgrow hnil; obtain ⟨A5, k5, rfl⟩ := own_sliceZ hown'; have E4 := Lib.hid (at_rows (D4.out.alloc _) hgrow (B := w.heap.size + 4) (by omega) (own_.row_ge hown)); have c5_ : w5.cell? ⟨w.heap.size + 1 + 1 + 1, 0, none⟩ = some (.slice Av cnt cv) := E4.out.cell 0; have f5_ : w5.frozen? ⟨w.heap.size + 1 + 1 + 1, 0, none⟩ = false := E4.out.frozen 0)
      have E1 := at_rows (D1.out.alloc _) hgrow (B := w.heap.size + 4) (by omega) (own_.row_ge hown)
      have E2 := at_rows (D2.out.alloc _) hgrow (B := w.heap.size + 4) (by omega) (own_.row_ge hown)
      have E3 := at_rows (D3.out.alloc _) hgrow (B := w.heap.size + 4) (by omega) (own_.row_ge hown)
      go_end0
      refine ⟨rfl, E1.other (by omega) (by omega) 0 _, E2.other (by omega) (by omega) 0 _, E3.other (by omega) (by omega) 0 _, _, E4.out.set 0 _, ?_⟩
      rw [HE.out.1, HE.out.2]
      exact own_setbox (own_growP hown') (by omega) 0 _
    · have HE := Lib.hid (HN.out (by omega))
      have hs3 : t < s := by omega
      clear HY HN
      go_wp2_with fail
      go_end0
      refine ⟨rfl, D1.out, D2.out, D3.out, _, D4.out, ?_⟩
      rw [HE.out.1, HE.out.2]
      exact hown)

set_option maxRecDepth 100000 in
set_option maxHeartbeats 2000000 in
theorem pointsThatFit (zs xs : List Int) (t : Int) (A C : Option Addr) (n c q : Nat) (w : World) (h0 : 0 < n) (hn : n ≤ 1048576) (hon : onT zs n = true) (hai : aiT xs n = true) (h1 : RdZ 2 w w.heap.size A n zs) (h2 : RdI w w.heap.size C n xs) :
    Calls Try.prog 71 #[.slice A n c, .slice C n q, .int .i64 t] w fun e w' => ∃ v, e = .returned v ∧ w'.ownsRow w.heap.size 32 2 v (fcT zs xs n t 961) (cellsI (ftT zs xs n t 961)) ∧ Below w.heap.size w w' := by
  have X1 := newS 29 #[.slice A n c] w
  have X2 := X1.next 23 #[.slice C n q]
  have X3 := X2.next 3 #[.int .i64 t]
  have X4 := X3.next 29 #[.slice none 0 0]
  have F0 := Lib.hid (show FitSt zs xs n t c q A C w 0 ((((w.alloc (.cells #[.slice A n c] 29)).alloc (.cells #[.slice C n q] 23)).alloc (.cells #[.int .i64 t] 3)).alloc (.cells #[.slice none 0 0] 29)) from by
    refine ⟨((X1.alloc _).alloc _).alloc _, ?_, ?_, _, ?_, World.ownsRow_nil _ _ _ _⟩
    · have := (X2.alloc (.cells #[.int .i64 t] 3)).alloc (.cells #[.slice none 0 0] 29)
      rwa [World.size_alloc] at this
    · have := X3.alloc (.cells #[.slice none 0 0] 29)
      rwa [World.size_alloc, World.size_alloc] at this
    · have := X4
      rwa [World.size_alloc, World.size_alloc, World.size_alloc] at this)
  have EV := Lib.hid (fun W (h : FitSt zs xs n t c q A C w 0 W) => everyFit w.heap.size (w.heap.size + 1) (w.heap.size + 1 + 1) (w.heap.size + 1 + 1 + 1) (fun k W => FitSt zs xs n t c q A C w k W) (fun k hk W h => fitStep zs xs n t c q A C w h0 hn hon hai h1 h2 k hk W h) W h)
  clear X1 X2 X3 X4 h1 h2 hon hai
  go_enter Try.func71, Try.ntmps71
  go_wp2_with fail
  refine (EV.out _ F0.out).mono ?_
  rintro e w1 ⟨rfl, b1, b2, b3, v, b4, ho⟩
  have c4_ : w1.cell? ⟨w.heap.size + 1 + 1 + 1, 0, none⟩ = some v := b4.cell 0
  have BX := Lib.hid b1.1
  have HO := Lib.hid ho
  clear F0 EV b1 b2 b3 b4 ho
  go_wp2_with fail
  go_ret
  exact ⟨v, rfl, own_.own_base HO.out (by omega), BX.out⟩

set_option maxRecDepth 100000 in
set_option maxHeartbeats 2000000 in
theorem fittingPoints (zs xs : List Int) (t : Int) (A C : Option Addr) (n c m q : Nat) (w : World) (hc : n ≤ c) (hn : n ≤ 1048576) (hm : m ≤ 1048576) (h1 : RdZ 2 w w.heap.size A n zs) (h2 : RdI w w.heap.size C m xs) :
    Calls Try.prog 23 #[.slice A n c, .slice C m q, .int .i64 t] w fun e w' => ∃ v, e = .returned (.tuple #[v, .bool (ltB zs n xs m t)]) ∧ w'.ownsRow w.heap.size 32 2 v (ftN zs n xs m t) (cellsI (ftV zs n xs m t)) ∧ Below w.heap.size w w' := by
  have T0 := Lib.hid (fun W (hb : Below w.heap.size w W) => areArrivals zs xs A C n c m q W hc (by omega) (by omega) (h1.next hb) (h2.next hb))
  have T1 := Lib.hid (fun W => isTolerance t W)
  have H1 := Lib.hid h1
  have H2 := Lib.hid h2
  clear h1 h2
  cases hq0 : arB zs n xs m
  · rw [hq0] at T0
    have HE := Lib.hid (show ltB zs n xs m t = false by unfold ltB; rw [hq0]; rfl)
    have HV := Lib.hid (And.intro (ftN_no HE.out) (ftV_no HE.out))
    clear H1 H2 hq0
    go_enter Try.func23, Try.ntmps23
    go_wp2_with fail
    have AN0 := Lib.hid (Below.refl w.heap.size w)
    refine (T0.out w AN0.out).mono ?_
    rintro e V0 ⟨rfl, hb0⟩
    have AN1 := Lib.hid (AN0.out.trans (hb0.mono AN0.out.size))
    clear hb0 AN0
    have BX := Lib.hid AN1.out
    go_wp2_with fail
    go_ret2
    exact ⟨_, by rw [HE.out]; rfl, by rw [HV.out.1, HV.out.2]; exact World.ownsRow_nil _ _ _ _, BX.out⟩
  rw [hq0] at T0
  cases hq1 : isIn t 0 5
  · rw [hq1] at T1
    have HE := Lib.hid (show ltB zs n xs m t = false by unfold ltB; rw [hq0, hq1]; rfl)
    have HV := Lib.hid (And.intro (ftN_no HE.out) (ftV_no HE.out))
    clear H1 H2 hq0 hq1
    go_enter Try.func23, Try.ntmps23
    go_wp2_with fail
    have AN0 := Lib.hid (Below.refl w.heap.size w)
    refine (T0.out w AN0.out).mono ?_
    rintro e V0 ⟨rfl, hb0⟩
    have AN1 := Lib.hid (AN0.out.trans (hb0.mono AN0.out.size))
    clear hb0 AN0
    go_wp2_with fail
    refine (T1.out V0).mono ?_
    rintro e w' ⟨rfl, rfl⟩
    have BX := Lib.hid AN1.out
    go_wp2_with fail
    go_ret2
    exact ⟨_, by rw [HE.out]; rfl, by rw [HV.out.1, HV.out.2]; exact World.ownsRow_nil _ _ _ _, BX.out⟩
  rw [hq1] at T1
  have HE := Lib.hid (show ltB zs n xs m t = true by unfold ltB; rw [hq0, hq1]; rfl)
  have HV := Lib.hid (And.intro (ftN_yes HE.out) (ftV_yes HE.out))
  obtain rfl : m = n := (arB_yes hq0).2.2
  have CC := Lib.hid (fun W (hb : Below w.heap.size w W) => pointsThatFit zs xs t A C m c q W (siB_yes (arB_yes hq0).2.1).1 hm (siB_yes (arB_yes hq0).2.1).2.2.1 (arB_yes hq0).1 (H1.out.next hb) (H2.out.next hb))
  clear H1 H2 hq0 hq1
  go_enter Try.func23, Try.ntmps23
  go_wp2_with fail
  have AN0 := Lib.hid (Below.refl w.heap.size w)
  refine (T0.out w AN0.out).mono ?_
  rintro e V0 ⟨rfl, hb0⟩
  have AN1 := Lib.hid (AN0.out.trans (hb0.mono AN0.out.size))
  clear hb0 AN0
  go_wp2_with fail
  refine (T1.out V0).mono ?_
  rintro e w' ⟨rfl, rfl⟩
  go_wp2_with fail
  refine (CC.out V0 AN1.out).mono ?_
  rintro e VX ⟨v, rfl, ho, hb⟩
  have OX := Lib.hid (own_.own_base ho AN1.out.size)
  have BX := Lib.hid (AN1.out.trans (hb.mono AN1.out.size))
  clear ho hb
  go_wp2_with fail
  go_ret2
  exact ⟨_, by rw [HE.out]; rfl, by rw [HV.out.1, HV.out.2]; exact OX.out, BX.out⟩

set_option maxRecDepth 100000 in
theorem isLocated (zs xs : List Int) (t : Int) (A C : Option Addr) (n c m q : Nat) (w : World) (hc : n ≤ c) (hn : n ≤ 1048576) (hm : m ≤ 1048576) (h1 : RdZ 2 w w.heap.size A n zs) (h2 : RdI w w.heap.size C m xs) :
    Calls Try.prog 31 #[.slice A n c, .slice C m q, .int .i64 t] w fun e w' => e = .returned (.tuple #[.bool (ilV zs n xs m t), .bool (ltB zs n xs m t)]) ∧ Below w.heap.size w w' := by
  have FP := Lib.hid (fittingPoints zs xs t A C n c m q w hc hn hm h1 h2)
  have HL := Lib.hid (ftN_le zs n xs m t)
  have HV := Lib.hid (show ilV zs n xs m t = decide (ftN zs n xs m t = 1) from rfl)
  clear h1 h2
  generalize ftN zs n xs m t = N at *
  generalize ftV zs n xs m t = L at *
  generalize ltB zs n xs m t = B at *
  go_enter Try.func31, Try.ntmps31
  go_wp2_with fail
  refine FP.out.mono ?_
  rintro e w1 ⟨v, rfl, ho, hb⟩
  obtain ⟨AX, cX, rfl⟩ := own_sliceZ ho
  clear ho FP
  by_cases h1 : N = 1
  · subst h1
    go_wp2_with fail
    go_ret2
    exact ⟨by rw [HV.out]; rfl, hb⟩
  · have h2 : ((N : Int) == 1) = false := beq_eq_false_iff_ne.mpr (by omega)
    rw [decide_eq_false h1] at HV
    clear h1
    go_wp2_with fail
    go_ret2
    exact ⟨by rw [HV.out]; rfl, hb⟩

end Go.Proofs.Ytpbopiecfnedgab.loci
