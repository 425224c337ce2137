/- impl's distancesTo, sitesWithin, ArrivalsOf, CoverOf, sendTimesFrom, SendTimes. -/
import Derived.Test.YtpbopiecfnedgabSitI
import Derived.Test.YtpbopiecfnedgabIntC
import Derived.Test.YtpbopiecfnedgabShelf
import Derived.Laws.MakeOwn
namespace Go.Proofs.Ytpbopiecfnedgab.sitj
open Go.RowKit Go.Proofs.Ytpbopiecfnedgab.ints Go.Proofs.Ytpbopiecfnedgab.lst Go.Proofs.Ytpbopiecfnedgab.sit Go.Proofs.Ytpbopiecfnedgab.in_ Go.Proofs.Ytpbopiecfnedgab.ats Go.Proofs.Ytpbopiecfnedgab.sits Go.Proofs.Ytpbopiecfnedgab.siti Go.Proofs.Ytpbopiecfnedgab.intc

/-- The first j numbers of ys, then those of xs. -/
def mixI (xs ys : List Int) (j : Nat) : List Int := ys.take j ++ xs.drop j
theorem mixI_zero (xs ys : List Int) : mixI xs ys 0 = xs := by simp [mixI]
theorem mixI_all {xs ys : List Int} {n : Nat} (hx : xs.length = n) (hy : ys.length = n) : mixI xs ys n = ys := by
  unfold mixI
  rw [List.take_of_length_le (by omega), List.drop_eq_nil_of_le (by omega), List.append_nil]
theorem mixI_length {xs ys : List Int} {n j : Nat} (hx : xs.length = n) (hy : ys.length = n) (hj : j ≤ n) : (mixI xs ys j).length = n := by
  unfold mixI
  rw [List.length_append, List.length_take, List.length_drop]
  omega
theorem mixI_at {xs ys : List Int} {n j : Nat} {x : Int} (hy : ys.length = n) (hj : j < n) (h : xs[j]? = some x) : (mixI xs ys j)[j]? = some x := by
  unfold mixI
  rw [List.getElem?_append_right (by rw [List.length_take]; omega), List.length_take, hy, Nat.min_eq_left (by omega), Nat.sub_self, List.getElem?_drop, Nat.add_zero]
  exact h
theorem mixI_set {xs ys : List Int} {n j : Nat} {y : Int} (hx : xs.length = n) (hy : ys.length = n) (hj : j < n) (h : ys[j]? = some y) : (cellsI (mixI xs ys j)).set j (.int .i64 y) = cellsI (mixI xs ys (j + 1)) := by
  have hl := (List.getElem?_eq_some_iff.1 h).1
  have hv := (List.getElem?_eq_some_iff.1 h).2
  unfold mixI cellsI
  have h1 : (ys.take j).length = j := by rw [List.length_take]; omega
  rw [← List.map_set]
  congr 1
  rw [List.set_append, if_neg (by omega), h1, Nat.sub_self, List.take_succ_eq_append_getElem hl, List.drop_eq_getElem_cons (by omega : j < xs.length), List.set_cons_zero, List.append_assoc, hv]
  rfl
theorem row_some {w : World} {B e n : Nat} {v : Value} {xs : List Value} (h : w.ownsRow B e 1 v n xs) (hn : 0 < n) : ∃ g c, v = .slice (some ⟨g, 0, none⟩) n c ∧ B ≤ g ∧ g < w.heap.size ∧ n ≤ c := by
  rcases h.2 with ⟨_, h1⟩ | ⟨g, cap, cur, rfl, hB, hh, a, b, c⟩
  · omega
  · refine ⟨g, cap, rfl, hB, ?_, by omega⟩
    rcases Nat.lt_or_ge g w.heap.size with h2 | h2
    · exact h2
    · rw [Array.getElem?_eq_none h2] at hh; cases hh

theorem cloneI (xs : List Int) (A : Option Addr) (n c : Nat) (w : World) (hn : 0 < n) (hn2 : n ≤ 1048576) (h : RdI w w.heap.size A n xs) :
    Calls Try.prog 112 #[.slice A n c] w fun e w' => ∃ v, e = .returned v ∧ w'.ownsRow w.heap.size 3 1 v n (cellsI xs) ∧ Below w.heap.size w w' := by
  obtain ⟨b, o, rfl, hb, hc⟩ := h.2 hn
  refine (Try.slices_Clone_int b o n c xs w (Nat.le_of_eq h.1.symm) (by omega) (fun j hj => by
    refine hc j _ ?_
    rw [List.getD_eq_getElem?_getD, List.getElem?_eq_getElem hj]; rfl)).mono ?_
  rintro e w' ⟨v, rfl, ho, -, hb⟩
  rw [List.take_of_length_le (Nat.le_of_eq h.1)] at ho
  exact ⟨v, rfl, ho, hb⟩

set_option maxRecDepth 100000 in
set_option maxHeartbeats 2000000 in
theorem distancesTo (zs : List Int) (x y : Int) (A : Option Addr) (n c : Nat) (w : World) (hn : n ≤ 1048576) (hon : onT zs n = true) (hp : onB x y = true) (h1 : RdZ 2 w w.heap.size A n zs) :
    Calls Try.prog 91 #[.agg #[.int .i64 x, .int .i64 y], .slice A n c] w fun e w' => ∃ v, e = .returned v ∧ w'.ownsRow w.heap.size 3 1 v n (cellsI (dsL zs x y n)) ∧ Below w.heap.size w w' := by
  have S0 := Lib.hid (newS 32 #[.int .i64 x, .int .i64 y] w)
  have HD := Lib.hid (fun k (hk : k < n) w => (show Calls Try.prog 97 #[.agg #[.int .i64 x, .int .i64 y], .agg #[.int .i64 (fld 2 zs k 0), .int .i64 (fld 2 zs k 1)]] w fun e w' => e = .returned (.int .i64 (ds zs x y k)) ∧ Below w.heap.size w w' from by unfold ds; rw [dist_comm]; exact distanceOf x y (fld 2 zs k 0) (fld 2 zs k 1) hp (onT_at hon hk) w))
  have HA := Lib.hid (fun k (hk : k < n) => dsL_at (zs := zs) (x := x) (y := y) hk)
  have HL := Lib.hid (dsL_length zs x y n)
  obtain ⟨i0, hi, hz0, hz1, hz2⟩ := info_parts infoI
  clear hon hp
  go_enter Try.func91, Try.ntmps91
  go_upto_region 1 with fail
  generalize w.alloc (.cells #[.int .i64 x, .int .i64 y] 32) = W0 at *
  go_wp2_with (at_make; refine wpList_make_full _ rfl _ _ 23 rfl W0.heap.size 3 i0 (.int .i64 0) 1 Try.underlying23 hi hz0 hz1 _ _ _ _ n rfl rfl rfl rfl (by rw [hz2]; omega) (by unfold maxLen; omega) (Nat.le_refl _) ?_; intro w1 hown hg)
  have O1 := Lib.hid (show w1.ownsRow W0.heap.size 3 1 (.slice (some ⟨W0.heap.size, 0, none⟩) n n) n (fillI (dsL zs x y n) 0 n) by rw [fillI_zero, ← made1 n]; exact hown)
  have B1 := Lib.hid ((Below.refl W0.heap.size W0).grown hg (Nat.le_refl _) (fun k e => by cases e))
  clear hown hg
  go_loopw [13] (fun i wr => ∃ k : Nat, k ≤ n ∧ i = .int .i64 k ∧ Below W0.heap.size W0 wr ∧ wr.ownsRow W0.heap.size 3 1 (.slice (some ⟨W0.heap.size, 0, none⟩) n n) n (fillI (dsL zs x y n) k n)) (fun i _ => n - (intOf i).toNat)
  case atStart => exact ⟨0, Nat.zero_le _, rfl, B1.out, O1.out⟩
  case round =>
    obtain ⟨k, hk, rfl, hb, hown⟩ := hrel
    clear B1 O1
    by_cases hlt : k < n
    · obtain ⟨b1, o1, rfl, l1, p0', p1'⟩ := cells2 h1 hlt
      have hw := S0.out.1.trans (hb.mono S0.out.1.size)
      have p0 := (hw.cell (p := ⟨b1, o1 + k * 2, none⟩) l1).trans p0'
      have p1 := (hw.cell (p := ⟨b1, o1 + k * 2 + 1, none⟩) l1).trans p1'
      have c0 := (S0.out.old hb).cell 0
      have c1 := (S0.out.old hb).cell 1
      have clt := (S0.out.old hb).2.2.1
      have blt : b1 < wr.heap.size := Nat.lt_of_lt_of_le l1 hw.size
      have hlt2 : (k : Int) < (n : Int) := by omega
      have D := Lib.hid (fun w => HD.out k hlt w)
      have HAk := Lib.hid (HA.out k hlt)
      have HB := Lib.hid (hb.alloc hb.size (.cells #[.int .i64 (fld 2 zs k 0), .int .i64 (fld 2 zs k 1)] 32))
      have HO := Lib.hid (own_.own_below hown ((Below.refl _ _).alloc (Nat.le_refl _) (.cells #[.int .i64 (fld 2 zs k 0), .int .i64 (fld 2 zs k 1)] 32)))
      clear hb hown p0' p1' h1 HD HA hw
      generalize ds zs x y k = d at *
      generalize fld 2 zs k 0 = u at *
      generalize fld 2 zs k 1 = v at *
      generalize dsL zs x y n = L at *
      go_wp2_with fail
      refine (D.out _).mono ?_
      rintro e w2 ⟨rfl, hb2⟩
      have hown2 := own_.own_below HO.out hb2
      have hb3 := HB.out.trans (hb2.mono HB.out.size)
      obtain ⟨u0, hu0⟩ := fillI_at (m := k) HL.out hlt (by omega)
      have s0 := (hown2.cellAt k (by omega)).trans hu0
      have r0 := hown2.frozenAt k
      have st0 := (hown2.stored k (.int .i64 d)).1
      rw [fillI_set HAk.out hlt] at st0
      have ST := Lib.hid st0
      have HB3 := Lib.hid (hb3.setCell (p := ⟨W0.heap.size, k, none⟩) (Nat.le_refl _) (.int .i64 d))
      clear hown2 hb3 hb2 st0 hu0 p0 p1 c0 c1 HB HO D HAk
      go_wp2_with fail
      go_roundw
      case rel => exact ⟨k + 1, by omega, by go_num, HB3.out, ST.out⟩
      case measure => simp [intOf]; omega
    · obtain rfl : k = n := by omega
      rw [fillI_all HL.out] at hown
      have HO := Lib.hid hown
      have HB := Lib.hid hb
      clear h1 hown hb
      go_wp2_with fail
      go_ret
      exact ⟨_, rfl, own_.own_base HO.out S0.out.1.size, S0.out.1.trans (HB.out.mono S0.out.1.size)⟩

set_option maxRecDepth 100000 in
set_option maxHeartbeats 2000000 in
theorem arrivalsOf (zs : List Int) (x y t : Int) (A : Option Addr) (n c : Nat) (w : World) (hc : n ≤ c) (hn : n ≤ 1048576) (h1 : RdZ 2 w w.heap.size A n zs) :
    Calls Try.prog 42 #[.slice A n c, .agg #[.int .i64 x, .int .i64 y], .int .i64 t] w fun e w' => ∃ v, e = .returned (.tuple #[v, .bool (avB zs n x y t)]) ∧ w'.ownsRow w.heap.size 3 1 v (avV zs n x y t).length (cellsI (avV zs n x y t)) ∧ Below w.heap.size w w' := by
  have S0 := Lib.hid (newS 32 #[.int .i64 x, .int .i64 y] w)
  have T0 := Lib.hid (fun (W : World) (hb : Below w.heap.size w W) => isValidSites zs A n c W hc (by omega) (h1.next hb))
  have T1 := Lib.hid (fun W => isOnGround x y W)
  have T2 := Lib.hid (fun W => isTime t W)
  have CO := Lib.hid (fun (h : siB zs n = true) (hp : onB x y = true) (W : World) (hb : Below w.heap.size w W) => distancesTo zs x y A n c W hn (siB_yes h).2.2.1 hp (h1.next hb))
  have HR := Lib.hid h1
  clear h1
  cases hq0 : siB zs n
  · rw [hq0] at T0
    have HE := Lib.hid (show avB zs n x y t = false by unfold avB; rw [hq0]; rfl)
    have HV := Lib.hid (avV_no HE.out)
    clear CO HR hq0
    go_enter Try.func42, Try.ntmps42
    go_wp2_with fail
    generalize w.alloc (.cells #[.int .i64 x, .int .i64 y] 32) = W0 at *
    have AN0 := Lib.hid (Below.refl W0.heap.size W0)
    refine (T0.out W0 (S0.out.1.trans (AN0.out.mono S0.out.1.size))).mono ?_
    rintro e V0 ⟨rfl, hb0⟩
    have AN1 := Lib.hid (AN0.out.trans (hb0.mono AN0.out.size))
    clear hb0 AN0
    have BX := Lib.hid (S0.out.1.trans (AN1.out.mono S0.out.1.size))
    go_wp2_with fail
    go_ret2
    exact ⟨_, by rw [HE.out]; rfl, by rw [HV.out]; exact World.ownsRow_nil _ _ _ _, BX.out⟩
  rw [hq0] at T0
  cases hq1 : onB x y
  · rw [hq1] at T1
    have HE := Lib.hid (show avB zs n x y t = false by unfold avB; rw [hq0, hq1]; rfl)
    have HV := Lib.hid (avV_no HE.out)
    clear CO HR hq0 hq1
    go_enter Try.func42, Try.ntmps42
    go_wp2_with fail
    generalize w.alloc (.cells #[.int .i64 x, .int .i64 y] 32) = W0 at *
    have AN0 := Lib.hid (Below.refl W0.heap.size W0)
    refine (T0.out W0 (S0.out.1.trans (AN0.out.mono S0.out.1.size))).mono ?_
    rintro e V0 ⟨rfl, hb0⟩
    have AN1 := Lib.hid (AN0.out.trans (hb0.mono AN0.out.size))
    clear hb0 AN0
    have c0_ : V0.cell? ⟨w.heap.size, 0, none⟩ = some (.int .i64 x) := (S0.out.old AN1.out).cell 0
    have c1_ : V0.cell? ⟨w.heap.size, 1, none⟩ = some (.int .i64 y) := (S0.out.old AN1.out).cell 1
    go_wp2_with fail
    clear c0_ c1_
    refine (T1.out V0).mono ?_
    rintro e V1 ⟨rfl, hb1⟩
    have AN2 := Lib.hid (AN1.out.trans (hb1.mono AN1.out.size))
    clear hb1 AN1
    have BX := Lib.hid (S0.out.1.trans (AN2.out.mono S0.out.1.size))
    go_wp2_with fail
    go_ret2
    exact ⟨_, by rw [HE.out]; rfl, by rw [HV.out]; exact World.ownsRow_nil _ _ _ _, BX.out⟩
  rw [hq1] at T1
  cases hq2 : isIn t 0 100000
  · rw [hq2] at T2
    have HE := Lib.hid (show avB zs n x y t = false by unfold avB; rw [hq0, hq1, hq2]; rfl)
    have HV := Lib.hid (avV_no HE.out)
    clear CO HR hq0 hq1 hq2
    go_enter Try.func42, Try.ntmps42
    go_wp2_with fail
    generalize w.alloc (.cells #[.int .i64 x, .int .i64 y] 32) = W0 at *
    have AN0 := Lib.hid (Below.refl W0.heap.size W0)
    refine (T0.out W0 (S0.out.1.trans (AN0.out.mono S0.out.1.size))).mono ?_
    rintro e V0 ⟨rfl, hb0⟩
    have AN1 := Lib.hid (AN0.out.trans (hb0.mono AN0.out.size))
    clear hb0 AN0
    have c0_ : V0.cell? ⟨w.heap.size, 0, none⟩ = some (.int .i64 x) := (S0.out.old AN1.out).cell 0
    have c1_ : V0.cell? ⟨w.heap.size, 1, none⟩ = some (.int .i64 y) := (S0.out.old AN1.out).cell 1
    go_wp2_with fail
    clear c0_ c1_
    refine (T1.out V0).mono ?_
    rintro e V1 ⟨rfl, hb1⟩
    have AN2 := Lib.hid (AN1.out.trans (hb1.mono AN1.out.size))
    clear hb1 AN1
    go_wp2_with fail
    refine (T2.out V1).mono ?_
    rintro e w' ⟨rfl, rfl⟩
    have BX := Lib.hid (S0.out.1.trans (AN2.out.mono S0.out.1.size))
    go_wp2_with fail
    go_ret2
    exact ⟨_, by rw [HE.out]; rfl, by rw [HV.out]; exact World.ownsRow_nil _ _ _ _, BX.out⟩
  rw [hq2] at T2
  have HE := Lib.hid (show avB zs n x y t = true by unfold avB; rw [hq0, hq1, hq2]; rfl)
  have HV := Lib.hid (avV_yes HE.out)
  have CC := Lib.hid (fun W (hb : Below w.heap.size w W) => CO.out hq0 hq1 W hb)
  have HXL := Lib.hid (dsL_length zs x y n)
  have HYL := Lib.hid (avT_length zs x y t n)
  have HXA := Lib.hid (fun k (hk : k < n) => dsL_at (zs := zs) (x := x) (y := y) hk)
  have HYA := Lib.hid (fun k (hk : k < n) => avT_at (zs := zs) (x := x) (y := y) (t := t) hk)
  have HIN := Lib.hid (fun k (hk : k < n) => ds_in (siB_yes hq0).2.2.1 hk hq1)
  obtain ⟨t0, t1⟩ : 0 ≤ t ∧ t ≤ 100000 := of_decide_eq_true hq2
  have hn1 := (siB_yes hq0).1
  clear CO HR hq0 hq1 hq2
  go_enter Try.func42, Try.ntmps42
  go_wp2_with fail
  generalize w.alloc (.cells #[.int .i64 x, .int .i64 y] 32) = W0 at *
  have AN0 := Lib.hid (Below.refl W0.heap.size W0)
  refine (T0.out W0 (S0.out.1.trans (AN0.out.mono S0.out.1.size))).mono ?_
  rintro e V0 ⟨rfl, hb0⟩
  have AN1 := Lib.hid (AN0.out.trans (hb0.mono AN0.out.size))
  clear hb0 AN0
  have c0_ : V0.cell? ⟨w.heap.size, 0, none⟩ = some (.int .i64 x) := (S0.out.old AN1.out).cell 0
  have c1_ : V0.cell? ⟨w.heap.size, 1, none⟩ = some (.int .i64 y) := (S0.out.old AN1.out).cell 1
  go_wp2_with fail
  clear c0_ c1_
  refine (T1.out V0).mono ?_
  rintro e V1 ⟨rfl, hb1⟩
  have AN2 := Lib.hid (AN1.out.trans (hb1.mono AN1.out.size))
  clear hb1 AN1
  go_wp2_with fail
  refine (T2.out V1).mono ?_
  rintro e w' ⟨rfl, rfl⟩
  have c0_ : V1.cell? ⟨w.heap.size, 0, none⟩ = some (.int .i64 x) := (S0.out.old AN2.out).cell 0
  have c1_ : V1.cell? ⟨w.heap.size, 1, none⟩ = some (.int .i64 y) := (S0.out.old AN2.out).cell 1
  go_wp2_with fail
  clear c0_ c1_
  refine (CC.out V1 (S0.out.1.trans (AN2.out.mono S0.out.1.size))).mono ?_
  rintro e VX ⟨v, rfl, ho, hb⟩
  obtain ⟨g, cg, rfl, hgB, hgl, hcg⟩ := row_some ho (by omega)
  have BW := Lib.hid (S0.out.1.trans (AN2.out.mono S0.out.1.size))
  have LW := Lib.hid (Nat.le_trans S0.out.1.size AN2.out.size)
  have OG := Lib.hid ho
  have BG := Lib.hid hb
  have GB := Lib.hid hgB
  clear ho hb hgB CC
  go_wp2_with fail
  go_loopw [28] (fun i wr => ∃ k : Nat, k ≤ n ∧ i = .int .i64 k ∧ Below V1.heap.size V1 wr ∧ wr.ownsRow V1.heap.size 3 1 (.slice (some ⟨g, 0, none⟩) n cg) n (cellsI (mixI (dsL zs x y n) (avT zs x y t n) k))) (fun i _ => n - (intOf i).toNat)
  case atStart => exact ⟨0, Nat.zero_le _, rfl, BG.out, by rw [mixI_zero]; exact OG.out⟩
  case round =>
    obtain ⟨k, hk, rfl, hb, hown⟩ := hrel
    clear BG OG
    by_cases hlt : k < n
    · have hlt2 : (k : Int) < (n : Int) := by omega
      have hxa := HXA.out k hlt
      have hyb := HYA.out k hlt
      obtain ⟨d0, d1⟩ := HIN.out k hlt
      rw [Int.add_comm] at hyb
      generalize ha : ds zs x y k = a at *
      have s0 := (hown.cellAt k (by omega)).trans (show (cellsI (mixI (dsL zs x y n) (avT zs x y t n) k))[k]? = some (.int .i64 a) by unfold cellsI; rw [List.getElem?_map, mixI_at HYL.out hlt hxa]; rfl)
      have r0 := hown.frozenAt k
      have st0 := (hown.stored k (.int .i64 (a + t))).1
      rw [mixI_set HXL.out HYL.out hlt hyb] at st0
      have ST := Lib.hid st0
      have HB3 := Lib.hid (hb.setCell (p := ⟨g, k, none⟩) GB.out (.int .i64 (a + t)))
      clear hown hb st0 hxa hyb ha
      go_wp2_with fail
      go_roundw
      case rel => exact ⟨k + 1, by omega, by go_num, HB3.out, ST.out⟩
      case measure => simp [intOf]; omega
    · obtain rfl : k = n := by omega
      rw [mixI_all HXL.out HYL.out] at hown
      have HO := Lib.hid hown
      have HB := Lib.hid hb
      clear hown hb
      go_wp2_with fail
      go_ret2
      exact ⟨_, by rw [HE.out]; rfl, by rw [HV.out, HYL.out]; exact own_.own_base HO.out LW.out, BW.out.trans (HB.out.mono LW.out)⟩

set_option maxRecDepth 100000 in
set_option maxHeartbeats 2000000 in
theorem sendTimesFrom (zs xs : List Int) (x y : Int) (A C : Option Addr) (n c q : Nat) (w : World) (h0 : 0 < n) (hn : n ≤ 1048576) (hon : onT zs n = true) (hp : onB x y = true) (hai : aiT xs n = true) (h1 : RdZ 2 w w.heap.size A n zs) (h2 : RdI w w.heap.size C n xs) :
    Calls Try.prog 95 #[.agg #[.int .i64 x, .int .i64 y], .slice A n c, .slice C n q] w fun e w' => ∃ v, e = .returned v ∧ w'.ownsRow w.heap.size 3 1 v n (cellsI (stT zs xs x y n)) ∧ Below w.heap.size w w' := by
  have S0 := Lib.hid (newS 32 #[.int .i64 x, .int .i64 y] w)
  have CC := Lib.hid (fun W (hb : Below w.heap.size w W) => distancesTo zs x y A n c W hn hon hp (h1.next hb))
  have CL := Lib.hid (fun W (hb : Below w.heap.size w W) => cloneI xs C n q W h0 hn (h2.next hb))
  have HXL := Lib.hid h2.1
  have HDL := Lib.hid (dsL_length zs x y n)
  have HYL := Lib.hid (stT_length zs xs x y n)
  have HDA := Lib.hid (fun k (hk : k < n) => dsL_at (zs := zs) (x := x) (y := y) hk)
  have HYA := Lib.hid (fun k (hk : k < n) => stT_at (zs := zs) (xs := xs) (x := x) (y := y) hk)
  have HID := Lib.hid (fun k (hk : k < n) => ds_in hon hk hp)
  have HIN := Lib.hid (fun k (hk : k < n) => aiT_at hai hk)
  clear h1 h2 hon hp hai
  go_enter Try.func95, Try.ntmps95
  go_wp2_with fail
  generalize w.alloc (.cells #[.int .i64 x, .int .i64 y] 32) = W0 at *
  have AN0 := Lib.hid (Below.refl W0.heap.size W0)
  refine (CL.out W0 (S0.out.1.trans (AN0.out.mono S0.out.1.size))).mono ?_
  rintro e VC ⟨vc, rfl, hoc, hbc⟩
  obtain ⟨g, cg, rfl, hgB, hgl, hcg⟩ := row_some hoc (by omega)
  have ANC := Lib.hid (AN0.out.trans (hbc.mono AN0.out.size))
  have BC := Lib.hid hbc
  have GB := Lib.hid hgB
  have OC := Lib.hid hoc
  have GL := Lib.hid hgl
  have c0_ : VC.cell? ⟨w.heap.size, 0, none⟩ = some (.int .i64 x) := (S0.out.old ANC.out).cell 0
  have c1_ : VC.cell? ⟨w.heap.size, 1, none⟩ = some (.int .i64 y) := (S0.out.old ANC.out).cell 1
  clear hoc hbc hgB hgl CL
  go_wp2_with fail
  clear c0_ c1_
  refine (CC.out VC (S0.out.1.trans (ANC.out.mono S0.out.1.size))).mono ?_
  rintro e VX ⟨v, rfl, ho, hb⟩
  obtain ⟨AX, cX, rfl⟩ := own_sliceZ ho
  have RX := Lib.hid (RdO.of_own ho HDL.out)
  have BW := Lib.hid (S0.out.1.trans (AN0.out.mono S0.out.1.size))
  have LW := Lib.hid (Nat.le_trans S0.out.1.size AN0.out.size)
  have OG := Lib.hid (own_.own_below OC.out hb)
  have BG := Lib.hid (BC.out.trans (hb.mono BC.out.size))
  clear ho hb CC OC BC
  go_wp2_with fail
  go_loopw [16] (fun i wr => ∃ k : Nat, k ≤ n ∧ i = .int .i64 k ∧ Below W0.heap.size W0 wr ∧ wr.ownsRow W0.heap.size 3 1 (.slice (some ⟨g, 0, none⟩) n cg) n (cellsI (mixI (xs) (stT zs xs x y n) k)) ∧ RdO wr VC.heap.size AX n (dsL zs x y n)) (fun i _ => n - (intOf i).toNat)
  case atStart => exact ⟨0, Nat.zero_le _, rfl, BG.out, by rw [mixI_zero]; exact OG.out, RX.out⟩
  case round =>
    obtain ⟨k, hk, rfl, hb, hown, hrx⟩ := hrel
    clear BG OG RX
    by_cases hlt : k < n
    · have hlt2 : (k : Int) < (n : Int) := by omega
      obtain ⟨gX, d', rfl, hgx, hdx, hcd⟩ := hrx.at_ hlt
      obtain rfl : ds zs x y k = d' := Option.some.inj ((HDA.out k hlt).symm.trans hdx)
      obtain ⟨a, hxa⟩ : ∃ a, xs[k]? = some a := ⟨_, List.getElem?_eq_getElem (by rw [HXL.out]; exact hlt)⟩
      obtain ⟨q0, q1⟩ := HIN.out k hlt
      obtain ⟨d0, d1⟩ := HID.out k hlt
      have hyb := HYA.out k hlt
      have hga : xs.getD k 0 = a := by rw [List.getD_eq_getElem?_getD, hxa]; rfl
      rw [hga] at hyb q0 q1
      clear hdx hga
      have s0 := (hown.cellAt k (by omega)).trans (show (cellsI (mixI (xs) (stT zs xs x y n) k))[k]? = some (.int .i64 a) by unfold cellsI; rw [List.getElem?_map, mixI_at HYL.out hlt hxa]; rfl)
      have r0 := hown.frozenAt k
      generalize ds zs x y k = d at *
      have st0 := (hown.stored k (.int .i64 (a - d))).1
      rw [mixI_set HXL.out HYL.out hlt hyb] at st0
      have ST := Lib.hid st0
      have HB3 := Lib.hid (hb.setCell (p := ⟨g, k, none⟩) GB.out (.int .i64 (a - d)))
      have HRX := Lib.hid (hrx.kept (grown_set (grown_refl wr (some g)) k (.int .i64 (a - d))) GL.out)
      clear hown hb st0 hxa hyb hrx
      go_wp2_with fail
      go_roundw
      case rel => exact ⟨k + 1, by omega, by go_num, HB3.out, ST.out, HRX.out⟩
      case measure => simp [intOf]; omega
    · obtain rfl : k = n := by omega
      rw [mixI_all HXL.out HYL.out] at hown
      have HO := Lib.hid hown
      have HB := Lib.hid hb
      clear hown hb hrx
      go_wp2_with fail
      go_ret
      exact ⟨_, rfl, own_.own_base HO.out LW.out, BW.out.trans (HB.out.mono LW.out)⟩

set_option maxRecDepth 100000 in
set_option maxHeartbeats 2000000 in
theorem sendTimes (zs xs : List Int) (x y : Int) (A C : Option Addr) (n c m q : Nat) (w : World) (hc : n ≤ c) (hn : n ≤ 1048576) (hm : m ≤ 1048576) (h1 : RdZ 2 w w.heap.size A n zs) (h2 : RdI w w.heap.size C m xs) :
    Calls Try.prog 48 #[.slice A n c, .agg #[.int .i64 x, .int .i64 y], .slice C m q] w fun e w' => ∃ v, e = .returned (.tuple #[v, .bool (stB zs n xs m x y)]) ∧ w'.ownsRow w.heap.size 3 1 v (stV zs n xs m x y).length (cellsI (stV zs n xs m x y)) ∧ Below w.heap.size w w' := by
  have S0 := Lib.hid (newS 32 #[.int .i64 x, .int .i64 y] w)
  have T0 := Lib.hid (fun (W : World) (hb : Below w.heap.size w W) => areArrivals zs xs A C n c m q W hc (by omega) (by omega) (h1.next hb) (h2.next hb))
  have T1 := Lib.hid (fun W => isOnGround x y W)
  have CO := Lib.hid h1
  have HR := Lib.hid h2
  clear h1 h2
  cases hq0 : arB zs n xs m
  · rw [hq0] at T0
    have HE := Lib.hid (show stB zs n xs m x y = false by unfold stB; rw [hq0]; rfl)
    have HV := Lib.hid (stV_no HE.out)
    clear CO HR hq0
    go_enter Try.func48, Try.ntmps48
    go_wp2_with fail
    generalize w.alloc (.cells #[.int .i64 x, .int .i64 y] 32) = W0 at *
    have AN0 := Lib.hid (Below.refl W0.heap.size W0)
    refine (T0.out W0 (S0.out.1.trans (AN0.out.mono S0.out.1.size))).mono ?_
    rintro e V0 ⟨rfl, hb0⟩
    have AN1 := Lib.hid (AN0.out.trans (hb0.mono AN0.out.size))
    clear hb0 AN0
    have BX := Lib.hid (S0.out.1.trans (AN1.out.mono S0.out.1.size))
    go_wp2_with fail
    go_ret2
    exact ⟨_, by rw [HE.out]; rfl, by rw [HV.out]; exact World.ownsRow_nil _ _ _ _, BX.out⟩
  rw [hq0] at T0
  cases hq1 : onB x y
  · rw [hq1] at T1
    have HE := Lib.hid (show stB zs n xs m x y = false by unfold stB; rw [hq0, hq1]; rfl)
    have HV := Lib.hid (stV_no HE.out)
    clear CO HR hq0 hq1
    go_enter Try.func48, Try.ntmps48
    go_wp2_with fail
    generalize w.alloc (.cells #[.int .i64 x, .int .i64 y] 32) = W0 at *
    have AN0 := Lib.hid (Below.refl W0.heap.size W0)
    refine (T0.out W0 (S0.out.1.trans (AN0.out.mono S0.out.1.size))).mono ?_
    rintro e V0 ⟨rfl, hb0⟩
    have AN1 := Lib.hid (AN0.out.trans (hb0.mono AN0.out.size))
    clear hb0 AN0
    have c0_ : V0.cell? ⟨w.heap.size, 0, none⟩ = some (.int .i64 x) := (S0.out.old AN1.out).cell 0
    have c1_ : V0.cell? ⟨w.heap.size, 1, none⟩ = some (.int .i64 y) := (S0.out.old AN1.out).cell 1
    go_wp2_with fail
    clear c0_ c1_
    refine (T1.out V0).mono ?_
    rintro e V1 ⟨rfl, hb1⟩
    have AN2 := Lib.hid (AN1.out.trans (hb1.mono AN1.out.size))
    clear hb1 AN1
    have BX := Lib.hid (S0.out.1.trans (AN2.out.mono S0.out.1.size))
    go_wp2_with fail
    go_ret2
    exact ⟨_, by rw [HE.out]; rfl, by rw [HV.out]; exact World.ownsRow_nil _ _ _ _, BX.out⟩
  rw [hq1] at T1
  have HE := Lib.hid (show stB zs n xs m x y = true by unfold stB; rw [hq0, hq1]; rfl)
  have HV := Lib.hid (stV_yes HE.out)
  obtain rfl : m = n := (arB_yes hq0).2.2
  have CC := Lib.hid (fun W (hb : Below w.heap.size w W) => sendTimesFrom zs xs x y A C m c q W (siB_yes (arB_yes hq0).2.1).1 hm (siB_yes (arB_yes hq0).2.1).2.2.1 hq1 (arB_yes hq0).1 (CO.out.next hb) (HR.out.next hb))
  have HYL := Lib.hid (stT_length zs xs x y m)
  clear CO HR hq0 hq1
  go_enter Try.func48, Try.ntmps48
  go_wp2_with fail
  generalize w.alloc (.cells #[.int .i64 x, .int .i64 y] 32) = W0 at *
  have AN0 := Lib.hid (Below.refl W0.heap.size W0)
  refine (T0.out W0 (S0.out.1.trans (AN0.out.mono S0.out.1.size))).mono ?_
  rintro e V0 ⟨rfl, hb0⟩
  have AN1 := Lib.hid (AN0.out.trans (hb0.mono AN0.out.size))
  clear hb0 AN0
  have c0_ : V0.cell? ⟨w.heap.size, 0, none⟩ = some (.int .i64 x) := (S0.out.old AN1.out).cell 0
  have c1_ : V0.cell? ⟨w.heap.size, 1, none⟩ = some (.int .i64 y) := (S0.out.old AN1.out).cell 1
  go_wp2_with fail
  clear c0_ c1_
  refine (T1.out V0).mono ?_
  rintro e V1 ⟨rfl, hb1⟩
  have AN2 := Lib.hid (AN1.out.trans (hb1.mono AN1.out.size))
  clear hb1 AN1
  have c0_ : V1.cell? ⟨w.heap.size, 0, none⟩ = some (.int .i64 x) := (S0.out.old AN2.out).cell 0
  have c1_ : V1.cell? ⟨w.heap.size, 1, none⟩ = some (.int .i64 y) := (S0.out.old AN2.out).cell 1
  go_wp2_with fail
  clear c0_ c1_
  refine (CC.out V1 (S0.out.1.trans (AN2.out.mono S0.out.1.size))).mono ?_
  rintro e VX ⟨v, rfl, ho, hb⟩
  have OX := Lib.hid (own_.own_base ho (Nat.le_trans S0.out.1.size AN2.out.size))
  have BX := Lib.hid (S0.out.1.trans ((AN2.out.trans (hb.mono AN2.out.size)).mono S0.out.1.size))
  clear ho hb
  go_wp2_with fail
  go_ret2
  exact ⟨_, by rw [HE.out]; rfl, by rw [HV.out, HYL.out]; exact OX.out, BX.out⟩

end Go.Proofs.Ytpbopiecfnedgab.sitj
