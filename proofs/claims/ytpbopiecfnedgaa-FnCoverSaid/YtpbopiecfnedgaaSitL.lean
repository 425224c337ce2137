/- impl's coverCounts (a slice of slices of numbers) and CoveredPoints. -/
import Derived.Test.YtpbopiecfnedgaaSitJ
namespace Go.Proofs.Ytpbopiecfnedgaa.sitl
open Go.RowKit Go.Proofs.Ytpbopiecfnedgaa.ints Go.Proofs.Ytpbopiecfnedgaa.lst Go.Proofs.Ytpbopiecfnedgaa.sit Go.Proofs.Ytpbopiecfnedgaa.in_ Go.Proofs.Ytpbopiecfnedgaa.ats Go.Proofs.Ytpbopiecfnedgaa.sits Go.Proofs.Ytpbopiecfnedgaa.siti Go.Proofs.Ytpbopiecfnedgaa.sitj Go.Proofs.Ytpbopiecfnedgaa.intc

theorem infoL : (Try.prog.info? 31).map (fun i => (i.zero, i.size, i.bytes)) = some (some (.slice none 0 0), 1, 24) := by kernel_rfl
/-- A row of 31 numbers in block g. -/
def sl (g : Nat) : Value := .slice (some ⟨g, 0, none⟩) 31 31
/-- The cells of the outer slice, whose first rows lie in the blocks gs. -/
def outer (gs : List Nat) : List Value := gs.map sl ++ List.replicate (31 - gs.length) (.slice none 0 0)
theorem outer_length {gs : List Nat} (h : gs.length ≤ 31) : (outer gs).length = 31 := by unfold outer; simp; omega
theorem outer_at {gs : List Nat} {y g : Nat} (h : gs[y]? = some g) : (outer gs)[y]? = some (sl g) := by
  have hl := (List.getElem?_eq_some_iff.1 h).1
  unfold outer
  rw [List.getElem?_append_left (by simpa using hl), List.getElem?_map, h]; rfl
theorem outer_set {gs : List Nat} {g : Nat} (h : gs.length < 31) : (outer gs).set gs.length (sl g) = outer (gs ++ [g]) := by
  unfold outer
  rw [List.set_append, if_neg (by simp), List.length_map, Nat.sub_self]
  obtain ⟨r, hr⟩ : ∃ r, 31 - gs.length = r + 1 := ⟨31 - gs.length - 1, by omega⟩
  rw [hr, List.replicate_succ, List.set_cons_zero, List.length_append, List.map_append]
  simp only [List.length_cons, List.length_nil, List.map_cons, List.map_nil, List.append_assoc, List.cons_append, List.nil_append]
  rw [show 31 - (gs.length + (0 + 1)) = r by omega]
theorem madeL (n : Nat) : (madeCells (Value.cells (.slice none 0 0)) (n * 1)).toList = List.replicate n (.slice none 0 0) := by
  refine List.ext_getElem (by simp [madeCells]) fun i h1 h2 => ?_
  simp [madeCells, Value.cells, Nat.mod_one]
theorem made31 : (madeCells (Value.slice none 0 0).cells (31 * 1)).toList = outer [] := madeL 31
theorem outer_some {gs : List Nat} {y : Nat} (h : gs.length ≤ 31) (hy : y < 31) : ∃ u, (outer gs)[y]? = some u := ⟨_, List.getElem?_eq_getElem (by rw [outer_length h]; exact hy)⟩
/-- The numbers of the row y. -/
def cnts (zs : List Int) (n : Nat) (r : Int) (y : Nat) : List Int := (List.range 31).map fun x => ((cN zs n r x y : Nat) : Int)
theorem cnts_length (zs : List Int) (n : Nat) (r : Int) (y : Nat) : (cnts zs n r y).length = 31 := by simp [cnts]
theorem cnts_at {zs : List Int} {n : Nat} {r : Int} {y x : Nat} (h : x < 31) : (cnts zs n r y)[x]? = some ((cN zs n r x y : Nat) : Int) := by simp [cnts, h]
/-- The rows in the blocks gs hold their numbers; they lie above block B. -/
def Full (zs : List Int) (n : Nat) (r : Int) (B : Nat) (w : World) (gs : List Nat) : Prop :=
  ∀ (j g : Nat), gs[j]? = some g → B < g ∧ g < w.heap.size ∧ ∀ (x : Nat), x < 31 → w.cell? ⟨g, x, none⟩ = some (.int .i64 ((cN zs n r x j : Nat) : Int))
theorem Full.next {zs : List Int} {n : Nat} {r : Int} {B : Nat} {w w' : World} {gs : List Nat} (h : Full zs n r B w gs) (hb : Below w.heap.size w w') : Full zs n r B w' gs := fun j g hj => by
  obtain ⟨h1, h2, h3⟩ := h j g hj
  exact ⟨h1, Nat.lt_of_lt_of_le h2 hb.size, fun x hx => (hb.cell (p := ⟨g, x, none⟩) h2).trans (h3 x hx)⟩
theorem Full.kept {zs : List Int} {n : Nat} {r : Int} {B b : Nat} {w w' : World} {gs : List Nat} (h : Full zs n r B w gs) (hg : w.grownBy w' (some b)) (hb : ∀ g ∈ gs, g ≠ b) : Full zs n r B w' gs := fun j g hj => by
  obtain ⟨h1, h2, h3⟩ := h j g hj
  have hm := hb g (List.mem_of_getElem? hj)
  exact ⟨h1, Nat.lt_of_lt_of_le h2 hg.size, fun x hx => hg.cell (a := ⟨g, x, none⟩) (h3 x hx) (fun e => hm (Option.some.inj e))⟩
theorem Full.lt {zs : List Int} {n : Nat} {r : Int} {B : Nat} {w : World} {gs : List Nat} (h : Full zs n r B w gs) : ∀ g ∈ gs, B < g ∧ g < w.heap.size := fun g hg => by
  obtain ⟨j, hj⟩ := List.mem_iff_getElem?.mp hg
  obtain ⟨h1, h2, _⟩ := h j g hj
  exact ⟨h1, h2⟩
theorem own_kept2 {w w' : World} {B e n b : Nat} {v : Value} {xs : List Value} (h : w.ownsRow B e 1 v n xs) (hg : w.grownBy w' (some b)) (hr : v.ownBlock ≠ some b) : w'.ownsRow B e 1 v n xs :=
  own_kept_at h hg (fun g hv e => hr (by rw [hv, e]))

set_option maxRecDepth 100000 in
set_option maxHeartbeats 4000000 in
theorem coverCounts (zs : List Int) (r : Int) (A : Option Addr) (n c : Nat) (w : World) (hn : n ≤ 5) (hon : onT zs n = true) (h1 : RdZ 2 w w.heap.size A n zs) :
    Calls Try.prog 82 #[.int .i64 r, .slice A n c] w fun e w' => ∃ (gs : List Nat), e = .returned (.slice (some ⟨w.heap.size, 0, none⟩) 31 31) ∧ gs.length = 31 ∧ w'.ownsRow w.heap.size 31 1 (.slice (some ⟨w.heap.size, 0, none⟩) 31 31) 31 (outer gs) ∧ Full zs n r w.heap.size w' gs ∧ Below w.heap.size w w' := by
  have HC := Lib.hid (fun (x y : Nat) (hx : x < 31) (hy : y < 31) (W : World) (hb : Below w.heap.size w W) => sitesWithin zs x y r A n c W (by omega) hon (show onB x y = true by unfold onB isIn; rw [decide_eq_true (by omega), decide_eq_true (by omega)]; rfl) (h1.next hb))
  obtain ⟨i0, hi, hz0, hz1, hz2⟩ := info_parts infoI
  obtain ⟨iL, hiL, hzL0, hzL1, hzL2⟩ := info_parts infoL
  clear h1 hon
  go_enter Try.func82, Try.ntmps82
  go_wp2_with (at_make; refine wpList_make_full _ rfl _ _ 99 rfl w.heap.size 31 iL (.slice none 0 0) 1 Try.underlying99 hiL hzL0 hzL1 _ _ _ _ 31 rfl rfl rfl rfl (by rw [hzL2]; omega) (by unfold maxLen; omega) (Nat.le_refl _) ?_; intro w1 hown hg)
  have O1 := Lib.hid (show w1.ownsRow w.heap.size 31 1 (.slice (some ⟨w.heap.size, 0, none⟩) 31 31) 31 (outer []) by rw [← made31]; exact hown)
  have B1 := Lib.hid ((Below.refl w.heap.size w).grown hg (Nat.le_refl _) (fun k e => by cases e))
  clear hown hg
  go_loopw [11] (fun i wr => ∃ (gs : List Nat) (y : Nat), y ≤ 31 ∧ gs.length = y ∧ i = .int .i64 y ∧ Below w.heap.size w wr ∧ wr.ownsRow w.heap.size 31 1 (.slice (some ⟨w.heap.size, 0, none⟩) 31 31) 31 (outer gs) ∧ Full zs n r w.heap.size wr gs) (fun i _ => 31 - (intOf i).toNat)
  case atStart => exact ⟨[], 0, by omega, rfl, rfl, B1.out, O1.out, fun j g h => by simp at h⟩
  case round =>
    obtain ⟨gs, y, hy, hgs, rfl, hb, hown, hfull⟩ := hrel
    clear B1 O1
    by_cases hlt : y < 31
    · have hlt2 : (y : Int) < 31 := by omega
      have HGS := Lib.hid hgs
      have hBw : w.heap.size < wr.heap.size := own_lt hown
      obtain ⟨u, hu⟩ := outer_some (gs := gs) (by omega) hlt
      have HU := Lib.hid hu
      have HO := Lib.hid hown
      have HF := Lib.hid hfull
      have HB := Lib.hid hb
      clear hgs hu hown hfull hb
      go_wp2_with (at_make; refine wpList_make_full _ rfl _ _ 31 rfl wr.heap.size 3 i0 (.int .i64 0) 1 Try.underlying31 hi hz0 hz1 _ _ _ _ 31 rfl rfl rfl rfl (by rw [hz2]; omega) (by unfold maxLen; omega) (Nat.le_refl _) ?_; intro w2 hown2 hg2; have hb2 : Below wr.heap.size wr w2 := (Below.refl _ _).grown hg2 (Nat.le_refl _) (fun k e => by cases e); have HB2 := Lib.hid hb2; have HO2 := Lib.hid hown2; have HOA := Lib.hid (own_.own_below HO.out hb2); have s0 := (HOA.out.cellAt y (by omega)).trans HU.out; have r0 := HOA.out.frozenAt y; clear hb2 hown2 hg2)
      have hne : ¬ w.heap.size = wr.heap.size := by omega
      have HG := Lib.hid (grown_set (grown_refl w2 (some w.heap.size)) y (.slice (some ⟨wr.heap.size, 0, none⟩) 31 31))
      have st := (HOA.out.stored y (.slice (some ⟨wr.heap.size, 0, none⟩) 31 31)).1
      rw [show (outer gs).set y (.slice (some ⟨wr.heap.size, 0, none⟩) 31 31) = outer (gs ++ [wr.heap.size]) by have := outer_set (gs := gs) (g := wr.heap.size) (by have := HGS.out; omega); rw [HGS.out] at this; exact this] at st
      have OST := Lib.hid st
      have ORW := Lib.hid (own_kept2 (show w2.ownsRow wr.heap.size 3 1 (.slice (some ⟨wr.heap.size, 0, none⟩) 31 31) 31 (fillI (cnts zs n r y) 0 31) by rw [fillI_zero, ← made1 31]; exact HO2.out) HG.out (by simp [Value.ownBlock]; omega))
      have OFU := Lib.hid ((HF.out.next HB2.out).kept HG.out (fun g hg => by have := (HF.out.lt g hg).1; omega))
      have OBL := Lib.hid ((HB.out.trans (HB2.out.mono HB.out.size)).setCell (p := ⟨w.heap.size, y, none⟩) (Nat.le_refl _) (.slice (some ⟨wr.heap.size, 0, none⟩) 31 31))
      have HF2 := Lib.hid (fun g hg => (HF.out.lt g hg).2)
      clear st s0 r0 HG HOA HO2 HB2 HO HF HB HU
      generalize w2.setCell ⟨w.heap.size, y, none⟩ (.slice (some ⟨wr.heap.size, 0, none⟩) 31 31) = w3 at *
      generalize wr.heap.size = G at *
      go_loopw [23] (fun j wr => ∃ x : Nat, x ≤ 31 ∧ j = .int .i64 x ∧ wr.ownsRow G 3 1 (.slice (some ⟨G, 0, none⟩) 31 31) 31 (fillI (cnts zs n r y) x 31) ∧ wr.ownsRow w.heap.size 31 1 (.slice (some ⟨w.heap.size, 0, none⟩) 31 31) 31 (outer (gs ++ [G])) ∧ Full zs n r w.heap.size wr gs ∧ Below w.heap.size w wr) (fun j _ => 31 - (intOf j).toNat)
      case atStart => exact ⟨0, by omega, rfl, ORW.out, OST.out, OFU.out, OBL.out⟩
      case round =>
        obtain ⟨x, hx, rfl, hrow, hout, hful, hbq⟩ := hrel
        clear ORW OST OFU OBL
        by_cases hxt : x < 31
        · have hxt2 : (x : Int) < 31 := by omega
          have q0 : wr.cell? ⟨w.heap.size, y, none⟩ = some (.slice (some ⟨G, 0, none⟩) 31 31) := (hout.cellAt y (by omega)).trans (outer_at (by rw [List.getElem?_append_right (by have := HGS.out; omega), HGS.out, Nat.sub_self]; rfl))
          have hql : w.heap.size < wr.heap.size := own_lt hout
          have CS := Lib.hid (show ∀ WZ : World, Below wr.heap.size wr WZ → WZ.cell? ⟨w.heap.size, y, none⟩ = some (.slice (some ⟨G, 0, none⟩) 31 31) from fun WZ hz => (hz.cell (p := ⟨w.heap.size, y, none⟩) hql).trans q0)
          have CC := Lib.hid (fun (W : World) (hb : Below wr.heap.size wr W) => HC.out x y hxt hlt W (hbq.trans (hb.mono hbq.size)))
          have HRo := Lib.hid hrow
          have HOu := Lib.hid hout
          have HFu := Lib.hid hful
          have HBq := Lib.hid hbq
          have HXA := Lib.hid (cnts_at (zs := zs) (n := n) (r := r) (y := y) hxt)
          have e1 : cN zs n r x y = (cvT zs x y r n).length := rfl
          rw [e1] at HXA
          obtain ⟨v0, hv0⟩ := fillI_at (m := x) (cnts_length zs n r y) hxt (by omega)
          have HV0 := Lib.hid hv0
          clear hrow hout hful hbq q0 hv0 e1
          generalize cvT zs x y r n = L at *
          go_upto_region 9 with fail
          go_region_held3 (fun w' => w'.cell? ⟨w.heap.size, y, none⟩ = some (.slice (some ⟨G, 0, none⟩) 31 31)) (first
            | exact CS.out _ (Below.refl wr.heap.size wr).drew
            | exact CS.out _ (by assumption)
            | exact (grown_set (grown_refl _ (some G)) x (.int .i64 (L.length : Int))).cell (CS.out _ (by assumption)) (fun e => hne (Option.some.inj e))
            | go_keep) (first
            | (go_at_call 81; (with_reducible refine (CC.out _ (by first | exact (Below.refl wr.heap.size wr).drew | assumption)).mono ?_); rintro e w4 ⟨v4, rfl, ho4, hb4⟩
               obtain ⟨A4, c4, rfl⟩ := own_sliceZ ho4
               have hbl := site.bl_next (V := wr) (by first | exact (Below.refl wr.heap.size wr).drew | assumption) hb4
               have hO4 := own_.own_below HRo.out hbl
               have s4 := (hO4.cellAt x (by omega)).trans HV0.out
               have f4 := hO4.frozenAt x
               clear ho4 hb4))
          all_goals (
            have HG := Lib.hid (grown_set (grown_refl w4 (some G)) x (.int .i64 (L.length : Int)))
            have st := (hO4.stored x (.int .i64 (L.length : Int))).1
            rw [fillI_set HXA.out hxt] at st
            have OST := Lib.hid st
            have OO := Lib.hid (own_kept2 (own_.own_below HOu.out hbl) HG.out (by simp [Value.ownBlock]; omega))
            have OF := Lib.hid ((HFu.out.next hbl).kept HG.out (fun g hg => by have := (HF2.out g hg); omega))
            have OB := Lib.hid ((HBq.out.trans (hbl.mono HBq.out.size)).setCell (p := ⟨G, x, none⟩) (Nat.le_of_lt hBw) (.int .i64 (L.length : Int)))
            clear st s4 f4 hO4 hbl HG HOu HFu HBq HRo CS CC
            go_wp2_with fail
            go_roundw
            case rel => exact ⟨x + 1, by omega, by go_num, OST.out, OO.out, OF.out, OB.out⟩
            case measure => simp [intOf]; omega)
        · obtain rfl : x = 31 := by omega
          rw [fillI_all (cnts_length zs n r y)] at hrow
          have HN := Lib.hid (show Full zs n r w.heap.size wr (gs ++ [G]) from by
            intro j g hj
            rcases Nat.lt_or_ge j gs.length with h | h
            · rw [List.getElem?_append_left h] at hj
              exact hful j g hj
            · rw [List.getElem?_append_right h] at hj
              obtain rfl : j = gs.length := by
                have := (List.getElem?_eq_some_iff.1 hj).1
                simp at this; omega
              rw [Nat.sub_self] at hj
              obtain rfl : G = g := by simpa using hj
              refine ⟨hBw, own_lt hrow, fun x hx => ?_⟩
              rw [HGS.out]
              have := (hrow.cellAt x (by omega))
              rw [this]
              unfold cellsI
              rw [List.getElem?_map, cnts_at hx]; rfl)
          have HO := Lib.hid hout
          have HB := Lib.hid hbq
          have HL := Lib.hid (show (gs ++ [G]).length = y + 1 by rw [List.length_append, HGS.out]; rfl)
          clear hrow hful hout hbq
          go_wp2_with fail
          go_roundw
          case rel => exact ⟨gs ++ [G], y + 1, by omega, HL.out, by go_num, HB.out, HO.out, HN.out⟩
          case measure => simp [intOf]; omega
    · obtain rfl : y = 31 := by omega
      have HO := Lib.hid hown
      have HF := Lib.hid hfull
      have HB := Lib.hid hb
      have HGS := Lib.hid hgs
      clear hown hfull hb hgs
      go_wp2_with fail
      go_ret
      exact ⟨gs, rfl, HGS.out, HO.out, HF.out, HB.out⟩

set_option maxRecDepth 100000 in
set_option maxHeartbeats 2000000 in
theorem coveredPoints (zs : List Int) (r c : Int) (A : Option Addr) (n q : Nat) (w : World) (hq : n ≤ q) (hn : n ≤ 1048576) (h1 : RdZ 2 w w.heap.size A n zs) :
    Calls Try.prog 35 #[.slice A n q, .int .i64 r, .int .i64 c] w fun e w' => e = .returned (.tuple #[.int .i64 (cpV zs n r c), .bool (cpB zs n r c)]) ∧ Below w.heap.size w w' := by
  have T := isValidSites zs A n q w hq (by omega) h1
  have T1 := Lib.hid (fun w => isReach r w)
  cases hq0 : siB zs n
  · rw [hq0] at T
    have T := Lib.hid T
    have HE := Lib.hid (show cpB zs n r c = false by unfold cpB; rw [hq0]; rfl)
    have HV := Lib.hid (cpV_no HE.out)
    clear h1 hq0 T1
    go_enter Try.func35, Try.ntmps35
    go_wp2_with fail
    refine T.out.mono ?_
    rintro e w1 ⟨rfl, hb⟩
    go_wp2_with fail
    go_ret2
    exact ⟨by rw [HE.out, HV.out]; rfl, hb⟩
  rw [hq0] at T
  have T := Lib.hid T
  cases hq1 : isIn r 0 60
  · rw [hq1] at T1
    have HE := Lib.hid (show cpB zs n r c = false by unfold cpB; rw [hq0, hq1]; rfl)
    have HV := Lib.hid (cpV_no HE.out)
    clear h1 hq0 hq1
    go_enter Try.func35, Try.ntmps35
    go_wp2_with fail
    refine T.out.mono ?_
    rintro e w1 ⟨rfl, hb⟩
    go_wp2_with fail
    refine (T1.out w1).mono ?_
    rintro e w' ⟨rfl, rfl⟩
    go_wp2_with fail
    go_ret2
    exact ⟨by rw [HE.out, HV.out]; rfl, hb⟩
  rw [hq1] at T1
  by_cases c1 : c < 1
  · have HE := Lib.hid (show cpB zs n r c = false by unfold cpB isIn; rw [hq0, decide_eq_false (show ¬ (1 ≤ c ∧ c ≤ 5) by omega)]; simp)
    have HV := Lib.hid (cpV_no HE.out)
    clear h1 hq0 hq1
    go_enter Try.func35, Try.ntmps35
    go_wp2_with fail
    refine T.out.mono ?_
    rintro e w1 ⟨rfl, hb⟩
    go_wp2_with fail
    refine (T1.out w1).mono ?_
    rintro e w' ⟨rfl, rfl⟩
    go_wp2_with fail
    go_ret2
    exact ⟨by rw [HE.out, HV.out]; rfl, hb⟩
  by_cases c5 : 5 < c
  · have HE := Lib.hid (show cpB zs n r c = false by unfold cpB isIn; rw [hq0, decide_eq_false (show ¬ (1 ≤ c ∧ c ≤ 5) by omega)]; simp)
    have HV := Lib.hid (cpV_no HE.out)
    have c1' : 1 ≤ c := by omega
    clear h1 hq0 hq1
    go_enter Try.func35, Try.ntmps35
    go_wp2_with fail
    refine T.out.mono ?_
    rintro e w1 ⟨rfl, hb⟩
    go_wp2_with fail
    refine (T1.out w1).mono ?_
    rintro e w' ⟨rfl, rfl⟩
    go_wp2_with fail
    go_ret2
    exact ⟨by rw [HE.out, HV.out]; rfl, hb⟩
  have c1' : 1 ≤ c := by omega
  have c5' : c ≤ 5 := by omega
  have HE := Lib.hid (show cpB zs n r c = true by unfold cpB; rw [hq0, hq1, show isIn c 1 5 = true from decide_eq_true (by omega)]; rfl)
  have HV := Lib.hid (cpV_yes HE.out)
  have CO := Lib.hid (fun (W : World) (hb : Below w.heap.size w W) => coverCounts zs r A n q W (siB_yes hq0).2.1 (siB_yes hq0).2.2.1 (h1.next hb))
  have HLX := Lib.hid (fun y x => cpX_le zs n r c y x)
  have HLY := Lib.hid (fun y => cpY_le zs n r c y)
  have HXY := Lib.hid (fun y x h => cpX_yes (zs := zs) (n := n) (r := r) (c := c) (y := y) (x := x) h)
  have HXN := Lib.hid (fun y x h => cpX_no (zs := zs) (n := n) (r := r) (c := c) (y := y) (x := x) h)
  have HYS := Lib.hid (fun y => show cpY zs n r c (y + 1) = cpY zs n r c y + cpX zs n r c y 31 from rfl)
  clear h1 hq0 hq1
  go_enter Try.func35, Try.ntmps35
  go_wp2_with fail
  refine T.out.mono ?_
  rintro e w1 ⟨rfl, hb⟩
  have HB := Lib.hid hb
  clear hb
  go_wp2_with fail
  refine (T1.out w1).mono ?_
  rintro e w' ⟨rfl, rfl⟩
  go_wp2_with fail
  refine (CO.out w1 HB.out).mono ?_
  rintro e w2 ⟨gs, rfl, hgs, hout, hful, hb2⟩
  have HB2 := Lib.hid (HB.out.trans (hb2.mono HB.out.size))
  have HG := Lib.hid (show ∀ y, y < 31 → ∃ g, w2.cell? ⟨w1.heap.size, y, none⟩ = some (.slice (some ⟨g, 0, none⟩) 31 31) ∧ ∀ x, x < 31 → w2.cell? ⟨g, x, none⟩ = some (.int .i64 ((cN zs n r x y : Nat) : Int)) from fun y hy => by
    obtain ⟨g, hg⟩ : ∃ g, gs[y]? = some g := ⟨_, List.getElem?_eq_getElem (by omega)⟩
    exact ⟨g, (hout.cellAt y (by omega)).trans (outer_at hg), (hful y g hg).2.2⟩)
  clear hgs hout hful hb2 HB
  go_wp2_with fail
  go_loop [8, 33] (fun s i => ∃ y : Nat, y ≤ 31 ∧ i = .int .i64 y ∧ s = .int .i64 (cpY zs n r c y : Int)) (fun _ i => 31 - (intOf i).toNat)
  case atStart => exact ⟨0, by omega, rfl, rfl⟩
  case round =>
    obtain ⟨y, hy, rfl, rfl⟩ := hrel
    have hly := HLY.out y
    by_cases hlt : y < 31
    · have hlt2 : (y : Int) < 31 := by omega
      obtain ⟨g, hg, hgx⟩ := HG.out y hlt
      have HGX := Lib.hid hgx
      clear hgx
      go_wp2_with fail
      clear hg
      go_loop [8, 39] (fun s i => ∃ x : Nat, x ≤ 31 ∧ i = .int .i64 x ∧ s = .int .i64 ((cpY zs n r c y + cpX zs n r c y x : Nat) : Int)) (fun _ i => 31 - (intOf i).toNat)
      case atStart => exact ⟨0, by omega, rfl, rfl⟩
      case round =>
        obtain ⟨x, hx, rfl, rfl⟩ := hrel
        have hlx := HLX.out y x
        by_cases hxt : x < 31
        · have hxt2 : (x : Int) < 31 := by omega
          have hcx := HGX.out x hxt
          have HY := Lib.hid (HXY.out y x)
          have HN := Lib.hid (HXN.out y x)
          generalize cN zs n r x y = L at *
          generalize hs : cpX zs n r c y x = s at *
          generalize ht : cpY zs n r c y = t at *
          have hz : ((t + s : Nat) : Int) ≤ 2000 := by omega
          have hz0 : (0 : Int) ≤ ((t + s : Nat) : Int) := by omega
          clear hs ht
          by_cases hc : c ≤ (L : Int)
          · have HX := Lib.hid (HY.out hc)
            have HT := Lib.hid (show ((t + (s + 1) : Nat) : Int) = ((t + s : Nat) : Int) + 1 by omega)
            clear HY HN
            generalize ((t + s : Nat) : Int) = z at *
            go_wp2_with fail
            go_round
            case rel => exact ⟨x + 1, by omega, by go_num, by rw [HX.out, HT.out]⟩
            case measure => simp [intOf]; omega
          · have HX := Lib.hid (HN.out (by omega))
            have hc3 : (L : Int) < c := by omega
            clear HY HN
            generalize hz' : ((t + s : Nat) : Int) = z at *
            have HZ := Lib.hid hz'
            clear hz'
            go_wp2_with fail
            go_round
            case rel => exact ⟨x + 1, by omega, by go_num, by rw [HX.out, HZ.out]⟩
            case measure => simp [intOf]; omega
        · obtain rfl : x = 31 := by omega
          rw [← HYS.out y]
          generalize hz' : cpY zs n r c (y + 1) = z at *
          have HZ := Lib.hid hz'
          clear hz'
          go_wp2_with fail
          go_round
          case rel => exact ⟨y + 1, by omega, by go_num, by rw [HZ.out]⟩
          case measure => simp [intOf]; omega
    · obtain rfl : y = 31 := by omega
      go_wp2_with fail
      go_ret2
      exact ⟨by rw [HE.out, HV.out]; rfl, HB2.out⟩
end Go.Proofs.Ytpbopiecfnedgaa.sitl
