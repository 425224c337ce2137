/- spec's FirstHeard, PossibleArrivals, CoveredPoints, DropSite. -/
import Derived.Test.YtpbopiecfnedgabSitT
namespace Go.Proofs.Ytpbopiecfnedgab.situ
open Go.RowKit Go.Proofs.Ytpbopiecfnedgab.ints Go.Proofs.Ytpbopiecfnedgab.lst Go.Proofs.Ytpbopiecfnedgab.sit Go.Proofs.Ytpbopiecfnedgab.in_ Go.Proofs.Ytpbopiecfnedgab.ats Go.Proofs.Ytpbopiecfnedgab.sits Go.Proofs.Ytpbopiecfnedgab.sitt Go.Proofs.Ytpbopiecfnedgab.post

theorem fhV_no {zs xs : List Int} {n m : Nat} (h : arB zs n xs m = false) : fhV zs n xs m = 0 := by unfold fhV; rw [h]; rfl
theorem fhV_yes {zs xs : List Int} {n m : Nat} (h : arB zs n xs m = true) : fhV zs n xs m = (fhT xs (n - 1) : Int) := by unfold fhV; rw [h]; rfl
set_option maxRecDepth 100000 in
set_option maxHeartbeats 2000000 in
theorem possibleArrivals (zs xs : List Int) (A C : Option Addr) (n c m q : Nat) (w : World) (hn : n ≤ 1048576) (hm : m ≤ 1048576) (h1 : RdZ 2 w w.heap.size A n zs) (h2 : RdI w w.heap.size C m xs) :
    Calls Try.prog 52 #[.slice A n c, .slice C m q] w fun e w' => e = .returned (.tuple #[.bool (paV zs n xs m), .bool (arB zs n xs m)]) ∧ Below w.heap.size w w' := by
  have T := asked10 zs xs A C n c m q w (by omega) (by omega) h1 h2
  cases hq : arB zs n xs m
  · rw [hq] at T
    have T := Lib.hid T
    have HV := Lib.hid (show paV zs n xs m = false by unfold paV; rw [hq]; rfl)
    clear h1 h2 hq
    go_enter Try.func52, Try.ntmps52
    go_wp2_with fail
    refine T.out.mono ?_
    rintro e w1 ⟨rfl, hb⟩
    go_wp2_with fail
    go_ret2
    exact ⟨by rw [HV.out]; rfl, hb⟩
  · rw [hq] at T
    have T := Lib.hid T
    have HV := Lib.hid (show paV zs n xs m = paT zs xs n by unfold paV; rw [hq]; rfl)
    obtain rfl : m = n := (arB_yes hq).2.2
    have hm1 := (siB_yes (arB_yes hq).2.1).1
    have hm2 := (siB_yes (arB_yes hq).2.1).2.1
    have HR := Lib.hid h2
    have HZ := Lib.hid h1
    have HIN := Lib.hid (fun k (hk : k < m) => aiT_at (arB_yes hq).1 hk)
    have HOK := Lib.hid (okL_on (siB_yes (arB_yes hq).2.1).2.2.1)
    clear h1 h2 hq
    go_enter Try.func52, Try.ntmps52
    go_wp2_with fail
    refine T.out.mono ?_
    rintro e w1 ⟨rfl, hb⟩
    have HB := Lib.hid hb
    clear hb
    go_wp2_with fail
    go_loopw [6] (fun i wr => ∃ k : Nat, k ≤ m ∧ i = .int .i64 k ∧ paT zs xs k = true ∧ Below w.heap.size w wr) (fun i _ => m - (intOf i).toNat)
    case atStart => exact ⟨0, Nat.zero_le _, rfl, rfl, HB.out⟩
    case round =>
      obtain ⟨i, hi, rfl, hpa, hb⟩ := hrel
      clear HB
      by_cases hlt : i < m
      · have hlt2 : (i : Int) < (m : Int) := by omega
        have HB := Lib.hid hb
        have HPA := Lib.hid hpa
        have HLT := Lib.hid hlt
        clear hb hpa
        go_wp2_with fail
        go_loopw [7] (fun j wr => ∃ k : Nat, k ≤ i ∧ j = .int .i64 k ∧ apT zs xs i k = true ∧ Below w.heap.size w wr) (fun j _ => i - (intOf j).toNat)
        case atStart => exact ⟨0, Nat.zero_le _, rfl, rfl, HB.out⟩
        case round =>
          obtain ⟨k, hk, rfl, hap, hb⟩ := hrel
          clear HB
          by_cases hki : k < i
          · have hki2 : (k : Int) < (i : Int) := by omega
            have hkm : (k : Int) < (m : Int) := by omega
            obtain ⟨b, o, x, rfl, hbl, hx, hc⟩ := (HR.out.below hb (Nat.le_refl _)).at_ HLT.out
            obtain ⟨b', o', y, eA, hbl', hy, hc'⟩ := (HR.out.below hb (Nat.le_refl _)).at_ (show k < m by omega)
            obtain ⟨rfl, rfl⟩ : b = b' ∧ o = o' := by injection eA with e; injection e with e1 e2; exact ⟨e1, e2⟩
            obtain ⟨g, r, rfl, l2, p0, p1⟩ := cells2 (HZ.out.below hb (Nat.le_refl _)) HLT.out
            obtain ⟨g', r', eB, l3, r0, r1⟩ := cells2 (HZ.out.below hb (Nat.le_refl _)) (show k < m by omega)
            obtain ⟨rfl, rfl⟩ : g = g' ∧ r = r' := by injection eB with e; injection e with e1 e2; exact ⟨e1, e2⟩
            have hxd : xs.getD i 0 = x := by rw [List.getD_eq_getElem?_getD, hx]; rfl
            have hyd : xs.getD k 0 = y := by rw [List.getD_eq_getElem?_getD, hy]; rfl
            have hx1 := HIN.out i HLT.out
            have hy1 := HIN.out k (by omega)
            have HS := Lib.hid (show apT zs xs i (k + 1) = (apT zs xs i k && apB zs xs i k) from rfl)
            rw [hap] at HS
            have HNo := Lib.hid (fun (h : apB zs xs i k = false) => paT_no HLT.out hki h)
            have HAB : apB zs xs i k = decide (((xs.getD i 0 - xs.getD k 0).natAbs : Int) ≤ dist (fld 2 zs k 0) (fld 2 zs k 1) (fld 2 zs i 0) (fld 2 zs i 1)) := rfl
            rw [hxd, hyd, dist_comm] at HAB
            rw [hxd] at hx1
            rw [hyd] at hy1
            obtain ⟨x0, x1⟩ := hx1
            obtain ⟨y0, y1⟩ := hy1
            have G1 := Lib.hid (fun w => abs7 (x - y) w (by omega) (by omega))
            have D := Lib.hid (fun w => distance10 (fld 2 zs i 0) (fld 2 zs i 1) (fld 2 zs k 0) (fld 2 zs k 1) (HOK.out i HLT.out) (HOK.out k (by omega)) w)
            have dr := dist_ok (HOK.out i HLT.out) (HOK.out k (by omega))
            have HB := Lib.hid hb
            have e1 : IntKind.i64.wrap (x - y) = x - y := IntWalk.i64_in _ (by omega)
            have CS := Lib.hid (show ∀ WZ : World, Below wr.heap.size wr WZ → (WZ.cell? ⟨b, o + i, none⟩ = some (.int .i64 x) ∧ WZ.cell? ⟨b, o + k, none⟩ = some (.int .i64 y) ∧ WZ.cell? ⟨g, r + i * 2, none⟩ = some (.int .i64 (fld 2 zs i 0)) ∧ WZ.cell? ⟨g, r + i * 2 + 1, none⟩ = some (.int .i64 (fld 2 zs i 1)) ∧ WZ.cell? ⟨g, r + k * 2, none⟩ = some (.int .i64 (fld 2 zs k 0)) ∧ WZ.cell? ⟨g, r + k * 2 + 1, none⟩ = some (.int .i64 (fld 2 zs k 1))) from fun WZ hz =>
              have lg : g < wr.heap.size := Nat.lt_of_lt_of_le l2 hb.size
              have lb : b < wr.heap.size := Nat.lt_of_lt_of_le hbl hb.size
              And.intro ((hz.cell (p := ⟨b, o + i, none⟩) lb).trans hc) (And.intro ((hz.cell (p := ⟨b, o + k, none⟩) lb).trans hc') (And.intro ((hz.cell (p := ⟨g, r + i * 2, none⟩) lg).trans p0) (And.intro ((hz.cell (p := ⟨g, r + i * 2 + 1, none⟩) lg).trans p1) (And.intro ((hz.cell (p := ⟨g, r + k * 2, none⟩) lg).trans r0) ((hz.cell (p := ⟨g, r + k * 2 + 1, none⟩) lg).trans r1))))))
            clear hb hx hy hxd hyd eA eB hc hc' p0 p1 r0 r1 hap
            generalize dist (fld 2 zs i 0) (fld 2 zs i 1) (fld 2 zs k 0) (fld 2 zs k 1) = d at *
            generalize fld 2 zs i 0 = s at *
            generalize fld 2 zs i 1 = t at *
            generalize fld 2 zs k 0 = u at *
            generalize fld 2 zs k 1 = v at *
            generalize ((x - y).natAbs : Int) = z at *
            go_upto_region 9 with fail
            go_region_held3 (fun w' => w'.cell? ⟨b, o + i, none⟩ = some (.int .i64 x) ∧ w'.cell? ⟨b, o + k, none⟩ = some (.int .i64 y) ∧ w'.cell? ⟨g, r + i * 2, none⟩ = some (.int .i64 s) ∧ w'.cell? ⟨g, r + i * 2 + 1, none⟩ = some (.int .i64 t) ∧ w'.cell? ⟨g, r + k * 2, none⟩ = some (.int .i64 u) ∧ w'.cell? ⟨g, r + k * 2 + 1, none⟩ = some (.int .i64 v)) (first
              | exact CS.out _ (Below.refl wr.heap.size wr).drew
              | exact CS.out _ (by assumption)
              | go_keep) (first
              | (go_at_call 99; (with_reducible refine (G1.out _).mono ?_); rintro e wx ⟨rfl, rfl⟩)
              | (go_at_call 100; (with_reducible refine (D.out _).mono ?_); rintro e wy ⟨rfl, hb⟩
                 have hbl2 : Below wr.heap.size wr wy := (Below.refl wr.heap.size wr).drew.trans (hb.mono (Nat.le_refl _))
                 clear hb))
            all_goals (
              have HB2 := Lib.hid (HB.out.trans ((by assumption : Below wr.heap.size wr _).mono HB.out.size))
              by_cases hd : z ≤ d
              · rw [decide_eq_true hd] at HAB
                have HE := Lib.hid (show apT zs xs i (k + 1) = true by rw [HS.out, HAB]; rfl)
                have hd2 : ¬ d < z := by omega
                clear HS HNo HAB CS
                go_wp2_with fail
                go_roundw
                case rel => exact ⟨k + 1, by omega, by go_num, HE.out, HB2.out⟩
                case measure => simp [intOf]; omega
              · rw [decide_eq_false hd] at HAB
                have HE := Lib.hid (HNo.out HAB)
                have hd2 : d < z := by omega
                clear HS HNo HAB CS
                go_wp2_with fail
                go_ret2
                exact ⟨by rw [HV.out, HE.out]; rfl, HB2.out⟩)
          · obtain rfl : k = i := by omega
            have HE := Lib.hid (show paT zs xs (k + 1) = true by rw [paT, HPA.out, hap]; rfl)
            have HB := Lib.hid hb
            clear hb hap
            go_wp2_with fail
            go_roundw
            case rel => exact ⟨k + 1, by omega, by go_num, HE.out, HB.out⟩
            case measure => simp [intOf]; omega
      · obtain rfl : i = m := by omega
        have HE := Lib.hid hpa
        have HB := Lib.hid hb
        clear HR HZ hpa hb
        go_wp2_with fail
        go_ret2
        exact ⟨by rw [HV.out, HE.out]; rfl, HB.out⟩

end Go.Proofs.Ytpbopiecfnedgab.situ
