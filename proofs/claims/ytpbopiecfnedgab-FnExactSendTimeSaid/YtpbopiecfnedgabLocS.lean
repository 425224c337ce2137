/- spec's functions of chapter 11: l11Spread, SpreadAt, l11Fitting, l11Asked, FittingPoints, IsLocated. -/
import Derived.Test.YtpbopiecfnedgabSitT
import Derived.Test.YtpbopiecfnedgabSitV
import Derived.Test.YtpbopiecfnedgabIntC
import Derived.Test.YtpbopiecfnedgabLoc
namespace Go.Proofs.Ytpbopiecfnedgab.locs
open Go.RowKit Go.Proofs.Ytpbopiecfnedgab.ints Go.Proofs.Ytpbopiecfnedgab.lst Go.Proofs.Ytpbopiecfnedgab.sit Go.Proofs.Ytpbopiecfnedgab.in_ Go.Proofs.Ytpbopiecfnedgab.ats Go.Proofs.Ytpbopiecfnedgab.sits Go.Proofs.Ytpbopiecfnedgab.sitt Go.Proofs.Ytpbopiecfnedgab.sitv Go.Proofs.Ytpbopiecfnedgab.intc Go.Proofs.Ytpbopiecfnedgab.loc

theorem least11 (a b : Int) (w : World) :
    Calls Try.prog 74 #[.int .i64 a, .int .i64 b] w fun e w' => e = .returned (.int .i64 (min a b)) ∧ w' = w := by
  by_cases h : a < b
  · have e1 : min a b = a := by omega
    rw [e1]
    go_enter Try.func74, Try.ntmps74
    go_wp2_with fail
    go_ret
    exact ⟨rfl, rfl⟩
  · have e1 : min a b = b := by omega
    have h2 : b ≤ a := by omega
    rw [e1]
    go_enter Try.func74, Try.ntmps74
    go_wp2_with fail
    go_ret
    exact ⟨rfl, rfl⟩
theorem most11 (a b : Int) (w : World) :
    Calls Try.prog 75 #[.int .i64 a, .int .i64 b] w fun e w' => e = .returned (.int .i64 (max a b)) ∧ w' = w := by
  by_cases h : b < a
  · have e1 : max a b = a := by omega
    rw [e1]
    go_enter Try.func75, Try.ntmps75
    go_wp2_with fail
    go_ret
    exact ⟨rfl, rfl⟩
  · have e1 : max a b = b := by omega
    have h2 : a ≤ b := by omega
    rw [e1]
    go_enter Try.func75, Try.ntmps75
    go_wp2_with fail
    go_ret
    exact ⟨rfl, rfl⟩

set_option maxRecDepth 100000 in
set_option maxHeartbeats 2000000 in
theorem spread11 (zs xs : List Int) (x y : Int) (A C : Option Addr) (n c q : Nat) (w : World) (h0 : 0 < n) (hn : n ≤ 1048576) (hon : onT zs n = true) (hp : onB x y = true) (hai : aiT xs n = true) (h1 : RdZ 2 w w.heap.size A n zs) (h2 : RdI w w.heap.size C n xs) :
    Calls Try.prog 64 #[.slice A n c, .slice C n q, .agg #[.int .i64 x, .int .i64 y]] w fun e w' => e = .returned (.int .i64 (sp zs xs n x y)) ∧ Below w.heap.size w w' := by
  have S0 := Lib.hid (newS 32 #[.int .i64 x, .int .i64 y] w)
  have CC := Lib.hid (fun W (hb : Below w.heap.size w W) => sent10 zs x y xs C n q A n c W hn (okL_on hon) (okP_on hp) (Nat.le_refl _) (fun k hk => by have := aiT_at hai hk; omega) (h2.next hb) (h1.next hb))
  have HL := Lib.hid (stT_length zs xs x y n)
  have HIN := Lib.hid (sp_in h0 hon hai hp)
  have HV := Lib.hid (show sp zs xs n x y = mxT (stT zs xs x y n) (n - 1) - mnT (stT zs xs x y n) (n - 1) from rfl)
  have LM := Lib.hid (fun a b w => least11 a b w)
  have MM := Lib.hid (fun a b w => most11 a b w)
  rw [HV.out] at HIN
  clear h1 h2 hon hp hai
  go_enter Try.func64, Try.ntmps64
  go_wp2_with fail
  generalize w.alloc (.cells #[.int .i64 x, .int .i64 y] 32) = W0 at *
  refine (CC.out W0 S0.out.1).mono ?_
  rintro e w1 ⟨v1, rfl, ho1, hb1⟩
  obtain ⟨A1, c1, rfl⟩ := own_sliceZ ho1
  have R1 := Lib.hid (rd_of_own ho1 HL.out)
  have B1 := Lib.hid (S0.out.1.trans (hb1.mono S0.out.1.size))
  clear ho1 hb1 CC
  generalize stT zs xs x y n = L at *
  obtain ⟨b, o, z, rfl, hbl, hx, hc⟩ := R1.out.at_ h0
  rw [Nat.add_zero] at hc
  have hz : L.getD 0 0 = z := by rw [List.getD_eq_getElem?_getD, hx]; rfl
  have hn0 : (0 : Int) < (n : Int) := by omega
  have HM0 := Lib.hid (show mnT L 0 = z from hz)
  have HX0 := Lib.hid (show mxT L 0 = z from hz)
  clear hx hz
  go_wp2_with fail
  go_quiet (fail)
  go_wp2_with fail
  go_loopw [8, 9, 10] (fun u v i wr => ∃ k : Nat, k + 1 ≤ n ∧ u = .int .i64 (mnT L k) ∧ v = .int .i64 (mxT L k) ∧ i = .int .i64 ((k + 1 : Nat) : Int) ∧ Below w1.heap.size w1 wr) (fun _ _ i _ => n - (intOf i).toNat)
  case atStart => exact ⟨0, by omega, by rw [HM0.out], by rw [HX0.out], rfl, aid.below_drewN (Below.refl _ _) _⟩
  case round =>
    obtain ⟨k, hk, rfl, rfl, rfl, hb⟩ := hrel
    clear HM0 HX0 hc
    by_cases hlt : k + 1 < n
    · obtain ⟨b2, o2, s, eA, hbl2, hxk, hc⟩ := (R1.out.below hb (Nat.le_refl _)).at_ hlt
      obtain ⟨rfl, rfl⟩ : b = b2 ∧ o = o2 := by injection eA with e; injection e with e1 e2; exact ⟨e1, e2⟩
      have hs : L.getD (k + 1) 0 = s := by rw [List.getD_eq_getElem?_getD, hxk]; rfl
      have HMk := Lib.hid (show min (mnT L k) s = mnT L (k + 1) by rw [mnT, hs])
      have HXk := Lib.hid (show max (mxT L k) s = mxT L (k + 1) by rw [mxT, hs])
      have LMk := Lib.hid (fun w => LM.out (mnT L k) s w)
      have MMk := Lib.hid (fun w => MM.out (mxT L k) s w)
      rw [HMk.out] at LMk
      rw [HXk.out] at MMk
      have hk2 : ((k + 1 : Nat) : Int) < (n : Int) := by omega
      have HB := Lib.hid hb
      clear eA hxk hs HMk HXk hb
      generalize mnT L k = u at *
      generalize mxT L k = v at *
      generalize hu2 : mnT L (k + 1) = u2 at *
      generalize hv2 : mxT L (k + 1) = v2 at *
      have HU := Lib.hid hu2
      have HV2 := Lib.hid hv2
      clear hu2 hv2
      generalize hk1 : k + 1 = k1 at *
      go_wp2_with fail
      refine (LMk.out _).mono ?_
      rintro e w' ⟨rfl, rfl⟩
      go_wp2_with fail
      refine (MMk.out _).mono ?_
      rintro e w' ⟨rfl, rfl⟩
      go_wp2_with fail
      go_roundw
      case rel => exact ⟨k1, by omega, by rw [HU.out], by rw [HV2.out], by go_num, HB.out⟩
      case measure => simp [intOf]; omega
    · obtain rfl : n = k + 1 := by omega
      rw [Nat.add_sub_cancel] at HV HIN
      have HB := Lib.hid (B1.out.trans (hb.mono B1.out.size))
      clear hb LM MM
      generalize mnT L k = u at *
      generalize mxT L k = v at *
      have e1 : IntKind.i64.wrap (v - u) = v - u := IntWalk.i64_in _ (by have := HIN.out; omega)
      go_wp2_with fail
      go_ret
      exact ⟨by rw [HV.out]; rfl, HB.out⟩

set_option maxRecDepth 100000 in
theorem asked11 (zs xs : List Int) (t : Int) (A C : Option Addr) (n c m q : Nat) (w : World) (hn : n ≤ 1048576) (hm : m ≤ 1048576) (h1 : RdZ 2 w w.heap.size A n zs) (h2 : RdI w w.heap.size C m xs) :
    Calls Try.prog 68 #[.slice A n c, .slice C m q, .int .i64 t] w fun e w' => e = .returned (.bool (ltB zs n xs m t)) ∧ Below w.heap.size w w' := by
  have T0 := asked10 zs xs A C n c m q w (by omega) (by omega) h1 h2
  have T1 := Lib.hid (fun w => l1In t 0 5 w)
  clear h1 h2
  unfold ltB
  cases hq : arB zs n xs m
  · rw [hq] at T0
    have T := Lib.hid T0
    clear T0 hq
    go_enter Try.func68, Try.ntmps68
    go_wp2_with fail
    refine T.out.mono ?_
    rintro e w1 ⟨rfl, hb⟩
    go_wp2_with fail
    go_ret
    exact ⟨rfl, hb⟩
  · rw [hq] at T0
    have T := Lib.hid T0
    clear T0 hq
    generalize isIn t 0 5 = p at *
    go_enter Try.func68, Try.ntmps68
    go_wp2_with fail
    refine T.out.mono ?_
    rintro e w1 ⟨rfl, hb⟩
    go_wp2_with fail
    refine (T1.out _).mono ?_
    rintro e w' ⟨rfl, rfl⟩
    go_wp2_with fail
    go_ret
    exact ⟨rfl, hb⟩

set_option maxRecDepth 100000 in
set_option maxHeartbeats 2000000 in
theorem spreadAt (zs xs : List Int) (x y : Int) (A C : Option Addr) (n c m q : Nat) (w : World) (hn : n ≤ 1048576) (hm : m ≤ 1048576) (h1 : RdZ 2 w w.heap.size A n zs) (h2 : RdI w w.heap.size C m xs) :
    Calls Try.prog 15 #[.slice A n c, .slice C m q, .agg #[.int .i64 x, .int .i64 y]] w fun e w' => e = .returned (.tuple #[.int .i64 (saV zs n xs m x y), .bool (stB zs n xs m x y)]) ∧ Below w.heap.size w w' := by
  have S0 := Lib.hid (newS 32 #[.int .i64 x, .int .i64 y] w)
  have T0 := Lib.hid (fun W (hb : Below w.heap.size w W) => asked10 zs xs A C n c m q W (by omega) (by omega) (h1.next hb) (h2.next hb))
  have T1 := Lib.hid (fun W => point10 x y W)
  have H1 := Lib.hid h1
  have H2 := Lib.hid h2
  clear h1 h2
  cases hq0 : arB zs n xs m
  · rw [hq0] at T0
    have HE := Lib.hid (show stB zs n xs m x y = false by unfold stB; rw [hq0]; rfl)
    have HV := Lib.hid (saV_no HE.out)
    clear H1 H2 hq0
    go_enter Try.func15, Try.ntmps15
    go_wp2_with fail
    generalize w.alloc (.cells #[.int .i64 x, .int .i64 y] 32) = W0 at *
    have AN0 := Lib.hid (Below.refl W0.heap.size W0)
    refine (T0.out W0 (S0.out.1.trans (AN0.out.mono S0.out.1.size))).mono ?_
    rintro e V0 ⟨rfl, hb0⟩
    have AN1 := Lib.hid (AN0.out.trans (hb0.mono AN0.out.size))
    clear hb0 AN0
    have BX := Lib.hid (S0.out.1.trans (AN1.out.mono S0.out.1.size))
    go_wp2_with fail
    go_ret2
    exact ⟨by rw [HE.out, HV.out]; rfl, BX.out⟩
  rw [hq0] at T0
  cases hq1 : onB x y
  · rw [hq1] at T1
    have HE := Lib.hid (show stB zs n xs m x y = false by unfold stB; rw [hq0, hq1]; rfl)
    have HV := Lib.hid (saV_no HE.out)
    clear H1 H2 hq0 hq1
    go_enter Try.func15, Try.ntmps15
    go_wp2_with fail
    generalize w.alloc (.cells #[.int .i64 x, .int .i64 y] 32) = W0 at *
    have AN0 := Lib.hid (Below.refl W0.heap.size W0)
    refine (T0.out W0 (S0.out.1.trans (AN0.out.mono S0.out.1.size))).mono ?_
    rintro e V0 ⟨rfl, hb0⟩
    have AN1 := Lib.hid (AN0.out.trans (hb0.mono AN0.out.size))
    clear hb0 AN0
    have c0_ : V0.cell? ⟨w.heap.size, 0, none⟩ = some (.int .i64 x) := (S0.out.old AN1.out).cell 0
    have c1_ : V0.cell? ⟨w.heap.size, 1, none⟩ = some (.int .i64 y) := (S0.out.old AN1.out).cell 1
    go_wp2_with fail
    clear c0_ c1_
    refine (T1.out V0).mono ?_
    rintro e V1 ⟨rfl, hb1⟩
    have AN2 := Lib.hid (AN1.out.trans (hb1.mono AN1.out.size))
    clear hb1 AN1
    have BX := Lib.hid (S0.out.1.trans (AN2.out.mono S0.out.1.size))
    go_wp2_with fail
    go_ret2
    exact ⟨by rw [HE.out, HV.out]; rfl, BX.out⟩
  rw [hq1] at T1
  have HE := Lib.hid (show stB zs n xs m x y = true by unfold stB; rw [hq0, hq1]; rfl)
  have HV := Lib.hid (saV_yes HE.out)
  obtain rfl : m = n := (arB_yes hq0).2.2
  have CC := Lib.hid (fun W (hb : Below w.heap.size w W) => spread11 zs xs x y A C m c q W (siB_yes (arB_yes hq0).2.1).1 hm (siB_yes (arB_yes hq0).2.1).2.2.1 hq1 (arB_yes hq0).1 (H1.out.next hb) (H2.out.next hb))
  clear H1 H2 hq0 hq1
  go_enter Try.func15, Try.ntmps15
  go_wp2_with fail
  generalize w.alloc (.cells #[.int .i64 x, .int .i64 y] 32) = W0 at *
  have AN0 := Lib.hid (Below.refl W0.heap.size W0)
  refine (T0.out W0 (S0.out.1.trans (AN0.out.mono S0.out.1.size))).mono ?_
  rintro e V0 ⟨rfl, hb0⟩
  have AN1 := Lib.hid (AN0.out.trans (hb0.mono AN0.out.size))
  clear hb0 AN0
  have c0_ : V0.cell? ⟨w.heap.size, 0, none⟩ = some (.int .i64 x) := (S0.out.old AN1.out).cell 0
  have c1_ : V0.cell? ⟨w.heap.size, 1, none⟩ = some (.int .i64 y) := (S0.out.old AN1.out).cell 1
  go_wp2_with fail
  clear c0_ c1_
  refine (T1.out V0).mono ?_
  rintro e V1 ⟨rfl, hb1⟩
  have AN2 := Lib.hid (AN1.out.trans (hb1.mono AN1.out.size))
  clear hb1 AN1
  have c0_ : V1.cell? ⟨w.heap.size, 0, none⟩ = some (.int .i64 x) := (S0.out.old AN2.out).cell 0
  have c1_ : V1.cell? ⟨w.heap.size, 1, none⟩ = some (.int .i64 y) := (S0.out.old AN2.out).cell 1
  go_wp2_with fail
  clear c0_ c1_
  refine (CC.out V1 (S0.out.1.trans (AN2.out.mono S0.out.1.size))).mono ?_
  rintro e VX ⟨rfl, hb⟩
  have BX := Lib.hid (S0.out.1.trans ((AN2.out.trans (hb.mono AN2.out.size)).mono S0.out.1.size))
  clear hb
  go_wp2_with fail
  go_ret2
  exact ⟨by rw [HE.out, HV.out]; rfl, BX.out⟩

set_option maxRecDepth 100000 in
set_option maxHeartbeats 4000000 in
theorem fitting11 (zs xs : List Int) (t : Int) (A C : Option Addr) (n c q : Nat) (w : World) (h0 : 0 < n) (hn : n ≤ 1048576) (hon : onT zs n = true) (hai : aiT xs n = true) (h1 : RdZ 2 w w.heap.size A n zs) (h2 : RdI w w.heap.size C n xs) :
    Calls Try.prog 69 #[.slice A n c, .slice C n q, .int .i64 t] w fun e w' => ∃ v, e = .returned v ∧ w'.ownsRow w.heap.size 32 2 v (fcT zs xs n t 961) (cellsI (ftT zs xs n t 961)) ∧ Below w.heap.size w w' := by
  have CO := Lib.hid (fun (x y : Nat) (hx : x < 31) (hy : y < 31) (W : World) (hb : Below w.heap.size w W) => show Calls Try.prog 64 #[.slice A n c, .slice C n q, .agg #[.int .i64 (x : Int), .int .i64 (y : Int)]] W fun e w' => e = .returned (.int .i64 (sq zs xs n (y * 31 + x))) ∧ Below W.heap.size W w' from by
    have hq := p_row (y := y) hx
    have hp := p_on (k := y * 31 + x) (by omega)
    unfold sq
    rw [hq.1, hq.2] at hp ⊢
    exact spread11 zs xs x y A C n c q W h0 hn hon hp hai (h1.next hb) (h2.next hb))
  have HY := Lib.hid (fun x y (hx : x < 31) h => ft_row_yes (zs := zs) (xs := xs) (n := n) (t := t) (x := x) (y := y) hx h)
  have HN := Lib.hid (fun x y h => ft_row_no (zs := zs) (xs := xs) (n := n) (t := t) (x := x) (y := y) h)
  have HLE := Lib.hid (fun k => fc_le zs xs n t k)
  obtain ⟨i0, hi, hz0, hz1, hz2⟩ := info_parts infoS
  clear h1 h2 hon hai
  go_enter Try.func69, Try.ntmps69
  go_wp2_with fail
  go_loopw [7, 8] (fun v i wr => ∃ y : Nat, y ≤ 31 ∧ i = .int .i64 y ∧ wr.ownsRow w.heap.size 32 2 v (fcT zs xs n t (y * 31)) (cellsI (ftT zs xs n t (y * 31))) ∧ Below w.heap.size w wr) (fun _ i _ => 31 - (intOf i).toNat)
  case atStart => exact ⟨0, by omega, rfl, own_emptyZ _ _ _, (Below.refl _ _).alloc (Nat.le_refl _) _⟩
  case round =>
    obtain ⟨y, hy, rfl, hown, hb⟩ := hrel
    have HB := Lib.hid hb
    have HO := Lib.hid hown
    clear hb hown
    by_cases hlt : y < 31
    · have hlt2 : (y : Int) ≤ 30 := by omega
      go_wp2_with fail
      go_loopw [7, 9] (fun v i wr => ∃ x : Nat, x ≤ 31 ∧ i = .int .i64 x ∧ wr.ownsRow w.heap.size 32 2 v (fcT zs xs n t (y * 31 + x)) (cellsI (ftT zs xs n t (y * 31 + x))) ∧ Below w.heap.size w wr) (fun _ i _ => 31 - (intOf i).toNat)
      case atStart => exact ⟨0, by omega, rfl, HO.out, HB.out⟩
      case round =>
        obtain ⟨x, hx, rfl, hown, hb⟩ := hrel
        clear HB HO
        by_cases hxt : x < 31
        · have hxt2 : (x : Int) ≤ 30 := by omega
          have SX := Lib.hid (newS 32 #[.int .i64 (x : Int), .int .i64 (y : Int)] wr)
          have HB := Lib.hid hb
          have HO := Lib.hid hown
          have C := Lib.hid (fun W hw => CO.out x y hxt hlt W hw)
          have HYk := Lib.hid (HY.out x y hxt)
          have HNk := Lib.hid (HN.out x y)
          have hle := HLE.out (y * 31 + x)
          clear hb hown
          generalize ftT zs xs n t (y * 31 + x) = L at *
          generalize fcT zs xs n t (y * 31 + x) = cnt at *
          generalize sq zs xs n (y * 31 + x) = s at *
          go_wp2_with fail
          generalize wr.alloc (.cells #[.int .i64 (x : Int), .int .i64 (y : Int)] 32) = WX at *
          refine (C.out WX (HB.out.trans (SX.out.1.mono HB.out.size))).mono ?_
          rintro e w2 ⟨rfl, hb2⟩
          have c0_ : w2.cell? ⟨wr.heap.size, 0, none⟩ = some (.int .i64 (x : Int)) := (SX.out.old hb2).cell 0
          have c1_ : w2.cell? ⟨wr.heap.size, 1, none⟩ = some (.int .i64 (y : Int)) := (SX.out.old hb2).cell 1
          have hbq := HB.out.trans ((SX.out.1.trans (hb2.mono SX.out.1.size)).mono HB.out.size)
          have hown := own_.own_below HO.out (SX.out.1.trans (hb2.mono SX.out.1.size))
          have hsz := hbq.size
          clear hb2 C
          by_cases hs : s ≤ t
          · have HE := Lib.hid (HYk.out hs)
            clear HYk HNk
            go_wp2_with (at_builtin; refine wpList_append_own _ rfl (.tmp 29) (.tmp 31) 29 rfl w.heap.size 32 i0 (.agg #[.int .i64 0, .int .i64 0]) 2 16 Try.underlying29 hi hz0 hz1 hz2 rfl (by decide) _ cnt (cellsI L) rfl (hown.alloc _) ⟨w2.heap.size, 0, none⟩ 1 1 [.int .i64 (x : Int), .int .i64 (y : Int)] rfl rfl (cells_new _ _ #[.int .i64 (x : Int), .int .i64 (y : Int)]) (two_cells _ _) (by unfold maxLen; omega) (by omega) (by simp; omega) ?_; intro v' w3 hown' hgrow hnil)
            have HB' := Lib.hid (own_.below_append hbq hown hsz hgrow)
            have HO' := Lib.hid (own_growP hown')
            clear hown' hgrow hnil hown hbq c0_ c1_
            go_roundw
            case rel => exact ⟨x + 1, by omega, by go_num, by rw [HE.out.1, HE.out.2]; exact HO'.out, HB'.out⟩
            case measure => simp [intOf]; omega
          · have HE := Lib.hid (HNk.out (by omega))
            have hs3 : t < s := by omega
            have HB' := Lib.hid hbq
            have HO' := Lib.hid hown
            clear HYk HNk hbq hown c0_ c1_
            go_wp2_with fail
            go_roundw
            case rel => exact ⟨x + 1, by omega, by go_num, by rw [HE.out.1, HE.out.2]; exact HO'.out, HB'.out⟩
            case measure => simp [intOf]; omega
        · obtain rfl : x = 31 := by omega
          have HB' := Lib.hid hb
          have HO' := Lib.hid hown
          have HK := Lib.hid (show (y + 1) * 31 = y * 31 + 31 by omega)
          clear hb hown
          go_wp2_with fail
          go_roundw
          case rel => exact ⟨y + 1, by omega, by go_num, by rw [HK.out]; exact HO'.out, HB'.out⟩
          case measure => simp [intOf]; omega
    · obtain rfl : y = 31 := by omega
      go_wp2_with fail
      go_ret
      exact ⟨_, rfl, HO.out, HB.out⟩

set_option maxRecDepth 100000 in
set_option maxHeartbeats 2000000 in
theorem fittingPoints (zs xs : List Int) (t : Int) (A C : Option Addr) (n c m q : Nat) (w : World) (hn : n ≤ 1048576) (hm : m ≤ 1048576) (h1 : RdZ 2 w w.heap.size A n zs) (h2 : RdI w w.heap.size C m xs) :
    Calls Try.prog 22 #[.slice A n c, .slice C m q, .int .i64 t] w fun e w' => ∃ v, e = .returned (.tuple #[v, .bool (ltB zs n xs m t)]) ∧ w'.ownsRow w.heap.size 32 2 v (ftN zs n xs m t) (cellsI (ftV zs n xs m t)) ∧ Below w.heap.size w w' := by
  have T0 := Lib.hid (fun W (hb : Below w.heap.size w W) => asked11 zs xs t A C n c m q W hn hm (h1.next hb) (h2.next hb))
  have H1 := Lib.hid h1
  have H2 := Lib.hid h2
  clear h1 h2
  cases hq0 : ltB zs n xs m t
  · rw [hq0] at T0
    have HE := Lib.hid (show ltB zs n xs m t = false by exact hq0)
    have HV := Lib.hid (And.intro (ftN_no HE.out) (ftV_no HE.out))
    clear H1 H2 hq0
    go_enter Try.func22, Try.ntmps22
    go_wp2_with fail
    have AN0 := Lib.hid (Below.refl w.heap.size w)
    refine (T0.out w AN0.out).mono ?_
    rintro e V0 ⟨rfl, hb0⟩
    have AN1 := Lib.hid (AN0.out.trans (hb0.mono AN0.out.size))
    clear hb0 AN0
    have OX := Lib.hid (own_emptyZ V0 32 2)
    have BX := Lib.hid (AN1.out.alloc AN1.out.size (.cells #[] 32))
    have LX := Lib.hid AN1.out.size
    go_wp2_with fail
    go_ret2
    exact ⟨_, rfl, by rw [HV.out.1, HV.out.2]; exact own_.own_base OX.out LX.out, BX.out⟩
  rw [hq0] at T0
  have HE := Lib.hid (show ltB zs n xs m t = true by exact hq0)
  have HV := Lib.hid (And.intro (ftN_yes HE.out) (ftV_yes HE.out))
  obtain rfl : m = n := (arB_yes (ltB_yes hq0).1).2.2
  have CC := Lib.hid (fun W (hb : Below w.heap.size w W) => fitting11 zs xs t A C m c q W (siB_yes (arB_yes (ltB_yes hq0).1).2.1).1 hm (siB_yes (arB_yes (ltB_yes hq0).1).2.1).2.2.1 (arB_yes (ltB_yes hq0).1).1 (H1.out.next hb) (H2.out.next hb))
  clear H1 H2 hq0
  go_enter Try.func22, Try.ntmps22
  go_wp2_with fail
  have AN0 := Lib.hid (Below.refl w.heap.size w)
  refine (T0.out w AN0.out).mono ?_
  rintro e V0 ⟨rfl, hb0⟩
  have AN1 := Lib.hid (AN0.out.trans (hb0.mono AN0.out.size))
  clear hb0 AN0
  go_wp2_with fail
  refine (CC.out V0 AN1.out).mono ?_
  rintro e VX ⟨v, rfl, ho, hb⟩
  have OX := Lib.hid (own_.own_base ho AN1.out.size)
  have BX := Lib.hid (AN1.out.trans (hb.mono AN1.out.size))
  clear ho hb
  go_wp2_with fail
  go_ret2
  exact ⟨_, rfl, by rw [HV.out.1, HV.out.2]; exact OX.out, BX.out⟩

set_option maxRecDepth 100000 in
set_option maxHeartbeats 2000000 in
theorem isLocated (zs xs : List Int) (t : Int) (A C : Option Addr) (n c m q : Nat) (w : World) (hn : n ≤ 1048576) (hm : m ≤ 1048576) (h1 : RdZ 2 w w.heap.size A n zs) (h2 : RdI w w.heap.size C m xs) :
    Calls Try.prog 30 #[.slice A n c, .slice C m q, .int .i64 t] w fun e w' => e = .returned (.tuple #[.bool (ilV zs n xs m t), .bool (ltB zs n xs m t)]) ∧ Below w.heap.size w w' := by
  have T0 := Lib.hid (fun W (hb : Below w.heap.size w W) => asked11 zs xs t A C n c m q W hn hm (h1.next hb) (h2.next hb))
  have H1 := Lib.hid h1
  have H2 := Lib.hid h2
  clear h1 h2
  cases hq0 : ltB zs n xs m t
  · rw [hq0] at T0
    have HE := Lib.hid (show ltB zs n xs m t = false by exact hq0)
    have HV := Lib.hid (show ilV zs n xs m t = false by unfold ilV; rw [ftN_no HE.out]; rfl)
    clear H1 H2 hq0
    go_enter Try.func30, Try.ntmps30
    go_wp2_with fail
    have AN0 := Lib.hid (Below.refl w.heap.size w)
    refine (T0.out w AN0.out).mono ?_
    rintro e V0 ⟨rfl, hb0⟩
    have AN1 := Lib.hid (AN0.out.trans (hb0.mono AN0.out.size))
    clear hb0 AN0
    have BX := Lib.hid AN1.out
    go_wp2_with fail
    go_ret2
    exact ⟨by rw [HV.out]; rfl, BX.out⟩
  rw [hq0] at T0
  have HE := Lib.hid (show ltB zs n xs m t = true by exact hq0)
  have HV := Lib.hid (show ilV zs n xs m t = decide (fcT zs xs n t 961 = 1) by unfold ilV; rw [ftN_yes HE.out])
  obtain rfl : m = n := (arB_yes (ltB_yes hq0).1).2.2
  have CC := Lib.hid (fun W (hb : Below w.heap.size w W) => fitting11 zs xs t A C m c q W (siB_yes (arB_yes (ltB_yes hq0).1).2.1).1 hm (siB_yes (arB_yes (ltB_yes hq0).1).2.1).2.2.1 (arB_yes (ltB_yes hq0).1).1 (H1.out.next hb) (H2.out.next hb))
  clear H1 H2 hq0
  go_enter Try.func30, Try.ntmps30
  go_wp2_with fail
  have AN0 := Lib.hid (Below.refl w.heap.size w)
  refine (T0.out w AN0.out).mono ?_
  rintro e V0 ⟨rfl, hb0⟩
  have AN1 := Lib.hid (AN0.out.trans (hb0.mono AN0.out.size))
  clear hb0 AN0
  go_wp2_with fail
  refine (CC.out V0 AN1.out).mono ?_
  rintro e VX ⟨v, rfl, ho, hb⟩
  obtain ⟨AX, cX, rfl⟩ := own_sliceZ ho
  have BX := Lib.hid (AN1.out.trans (hb.mono AN1.out.size))
  clear ho hb CC
  generalize fcT zs xs m t 961 = N at *
  by_cases h1 : N = 1
  · subst h1
    go_wp2_with fail
    go_ret2
    exact ⟨by rw [HV.out]; rfl, BX.out⟩
  · have h2 : ((N : Int) == 1) = false := beq_eq_false_iff_ne.mpr (by omega)
    rw [decide_eq_false h1] at HV
    clear h1
    go_wp2_with fail
    go_ret2
    exact ⟨by rw [HV.out]; rfl, BX.out⟩

end Go.Proofs.Ytpbopiecfnedgab.locs
