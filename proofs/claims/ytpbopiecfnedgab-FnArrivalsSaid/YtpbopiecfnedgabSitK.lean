/- impl's FirstHeard, PossibleArrivals. -/
import Derived.Test.YtpbopiecfnedgabSitJ
import Derived.Test.YtpbopiecfnedgabSitU
namespace Go.Proofs.Ytpbopiecfnedgab.sitk
open Go.RowKit Go.Proofs.Ytpbopiecfnedgab.ints Go.Proofs.Ytpbopiecfnedgab.lst Go.Proofs.Ytpbopiecfnedgab.sit Go.Proofs.Ytpbopiecfnedgab.in_ Go.Proofs.Ytpbopiecfnedgab.ats Go.Proofs.Ytpbopiecfnedgab.sits Go.Proofs.Ytpbopiecfnedgab.siti Go.Proofs.Ytpbopiecfnedgab.sitj Go.Proofs.Ytpbopiecfnedgab.intc Go.Proofs.Ytpbopiecfnedgab.situ

theorem min_fh (xs : List Int) (k : Nat) (hk : k < xs.length) : Lib.minOf (xs.take (k + 1)) = xs.getD (fhT xs k) 0 := by
  induction k with
  | zero => exact Lib.minOf_one xs
  | succ k ih =>
    rw [Lib.minOf_step xs (k + 1) (by omega) hk, ih (by omega)]
    by_cases h : xs.getD (k + 1) 0 < xs.getD (fhT xs k) 0
    · rw [fhT_yes h]; omega
    · rw [fhT_no h]; omega
theorem idx_fh (xs : List Int) (k : Nat) (hk : xs.length = k + 1) : Lib.idxOf xs (xs.getD (fhT xs k) 0) = (fhT xs k : Int) := by
  have hle := fhT_le xs k
  have := Lib.idxFrom_hit (xs.getD (fhT xs k) 0) xs (fhT xs k) 0 (by omega) rfl (fun j hj h => by have := fhT_first hj; omega)
  rw [Nat.zero_add] at this
  exact this
theorem minI (xs : List Int) (A : Option Addr) (n c : Nat) (w : World) (hn : 0 < n) (hn2 : n ≤ 1048576) (h : RdI w w.heap.size A n xs) :
    Calls Try.prog 86 #[.slice A n c] w fun e w' => e = .returned (.int .i64 (xs.getD (fhT xs (n - 1)) 0)) ∧ w' = w := by
  obtain ⟨b, o, rfl, hb, hc⟩ := h.2 hn
  refine (Try.slices_Min_int b o n c xs w hn (Nat.le_of_eq h.1.symm) (by omega) (fun j hj => by
    refine hc j _ ?_
    rw [List.getD_eq_getElem?_getD, List.getElem?_eq_getElem hj]; rfl)).mono ?_
  rintro e w' ⟨rfl, rfl⟩
  refine ⟨?_, rfl⟩
  have := min_fh xs (n - 1) (by have := h.1; omega)
  rw [show n - 1 + 1 = n by omega] at this
  rw [this]
theorem indexI (xs : List Int) (A : Option Addr) (n c : Nat) (w : World) (hn : 0 < n) (hn2 : n ≤ 1048576) (h : RdI w w.heap.size A n xs) :
    Calls Try.prog 96 #[.slice A n c, .int .i64 (xs.getD (fhT xs (n - 1)) 0)] w fun e w' => e = .returned (.int .i64 (fhT xs (n - 1) : Int)) ∧ w' = w := by
  obtain ⟨b, o, rfl, hb, hc⟩ := h.2 hn
  refine (Try.slices_Index_int b o n c xs (xs.getD (fhT xs (n - 1)) 0) w (Nat.le_of_eq h.1.symm) (by omega) (fun j hj => by
    refine hc j _ ?_
    rw [List.getD_eq_getElem?_getD, List.getElem?_eq_getElem hj]; rfl)).mono ?_
  rintro e w' ⟨rfl, rfl⟩
  refine ⟨?_, rfl⟩
  rw [List.take_of_length_le (Nat.le_of_eq h.1), idx_fh xs (n - 1) (by have := h.1; omega)]

set_option maxRecDepth 100000 in
theorem firstHeard (zs xs : List Int) (A C : Option Addr) (n c m q : Nat) (w : World) (hc : n ≤ c) (hn : n ≤ 1048576) (hm : m ≤ 1048576) (h1 : RdZ 2 w w.heap.size A n zs) (h2 : RdI w w.heap.size C m xs) :
    Calls Try.prog 49 #[.slice A n c, .slice C m q] w fun e w' => e = .returned (.tuple #[.int .i64 (fhV zs n xs m), .bool (arB zs n xs m)]) ∧ Below w.heap.size w w' := by
  have T := areArrivals zs xs A C n c m q w hc (by omega) (by omega) h1 h2
  cases hq : arB zs n xs m
  · rw [hq] at T
    have T := Lib.hid T
    have HV := Lib.hid (fhV_no hq)
    clear h1 h2 hq
    go_enter Try.func49, Try.ntmps49
    go_wp2_with fail
    refine T.out.mono ?_
    rintro e w1 ⟨rfl, hb⟩
    go_wp2_with fail
    go_ret2
    exact ⟨by rw [HV.out]; rfl, hb⟩
  · rw [hq] at T
    have T := Lib.hid T
    have HV := Lib.hid (fhV_yes hq)
    obtain rfl : m = n := (arB_yes hq).2.2
    have hm1 := (siB_yes (arB_yes hq).2.1).1
    have M := Lib.hid (fun W (hb : Below w.heap.size w W) => minI xs C m q W (by omega) (by omega) (h2.next hb))
    have I := Lib.hid (fun W (hb : Below w.heap.size w W) => indexI xs C m q W (by omega) (by omega) (h2.next hb))
    clear h1 h2 hq
    generalize xs.getD (fhT xs (m - 1)) 0 = x at *
    generalize (fhT xs (m - 1) : Int) = y at *
    go_enter Try.func49, Try.ntmps49
    go_wp2_with fail
    refine T.out.mono ?_
    rintro e w1 ⟨rfl, hb⟩
    have HB := Lib.hid hb
    clear hb
    go_wp2_with fail
    refine (M.out w1 HB.out).mono ?_
    rintro e w2 ⟨rfl, rfl⟩
    go_wp2_with fail
    refine (I.out w2 HB.out).mono ?_
    rintro e w3 ⟨rfl, rfl⟩
    go_wp2_with fail
    go_ret2
    exact ⟨by rw [HV.out]; rfl, HB.out⟩

set_option maxRecDepth 100000 in
set_option maxHeartbeats 2000000 in
theorem possibleArrivals (zs xs : List Int) (A C : Option Addr) (n c m q : Nat) (w : World) (hc : n ≤ c) (hn : n ≤ 1048576) (hm : m ≤ 1048576) (h1 : RdZ 2 w w.heap.size A n zs) (h2 : RdI w w.heap.size C m xs) :
    Calls Try.prog 47 #[.slice A n c, .slice C m q] w fun e w' => e = .returned (.tuple #[.bool (paV zs n xs m), .bool (arB zs n xs m)]) ∧ Below w.heap.size w w' := by
  have T := areArrivals zs xs A C n c m q w hc (by omega) (by omega) h1 h2
  cases hq : arB zs n xs m
  · rw [hq] at T
    have T := Lib.hid T
    have HV := Lib.hid (show paV zs n xs m = false by unfold paV; rw [hq]; rfl)
    clear h1 h2 hq
    go_enter Try.func47, Try.ntmps47
    go_wp2_with fail
    refine T.out.mono ?_
    rintro e w1 ⟨rfl, hb⟩
    go_wp2_with fail
    go_ret2
    exact ⟨by rw [HV.out]; rfl, hb⟩
  · rw [hq] at T
    have T := Lib.hid T
    have HV := Lib.hid (show paV zs n xs m = paT zs xs n by unfold paV; rw [hq]; rfl)
    obtain rfl : m = n := (arB_yes hq).2.2
    have hm1 := (siB_yes (arB_yes hq).2.1).1
    have hm2 := (siB_yes (arB_yes hq).2.1).2.1
    have HR := Lib.hid h2
    have HZ := Lib.hid h1
    have HIN := Lib.hid (fun k (hk : k < m) => aiT_at (arB_yes hq).1 hk)
    have HON := Lib.hid (siB_yes (arB_yes hq).2.1).2.2.1
    clear h1 h2 hq
    go_enter Try.func47, Try.ntmps47
    go_wp2_with fail
    refine T.out.mono ?_
    rintro e w1 ⟨rfl, hb⟩
    have HB := Lib.hid hb
    clear hb
    go_wp2_with fail
    go_loopw [16] (fun i wr => ∃ k : Nat, k ≤ m ∧ i = .int .i64 k ∧ paT zs xs k = true ∧ Below w.heap.size w wr) (fun i _ => m - (intOf i).toNat)
    case atStart => exact ⟨0, Nat.zero_le _, rfl, rfl, HB.out⟩
    case round =>
      obtain ⟨i, hi, rfl, hpa, hb⟩ := hrel
      clear HB
      by_cases hlt : i < m
      · have hlt2 : (i : Int) < (m : Int) := by omega
        have hic : (i : Int) ≤ (c : Int) := by omega
        obtain ⟨g, r, rfl, l2, p0, p1⟩ := cells2 (HZ.out.below hb (Nat.le_refl _)) hlt
        have S0 := Lib.hid (newS 32 #[.int .i64 (fld 2 zs i 0), .int .i64 (fld 2 zs i 1)] wr)
        have RT := Lib.hid (show RdZ 2 wr wr.heap.size (some ⟨g, r, none⟩) i (zs.take (i * 2)) from rd_take (HZ.out.next hb) hi)
        have HPi := Lib.hid (onT_at HON.out hlt)
        have HOi := Lib.hid (show onT (zs.take (i * 2)) i = true by rw [onT_take (Nat.le_refl _)]; exact onT_le HON.out hi)
        have HDi := Lib.hid (show dsL (zs.take (i * 2)) (fld 2 zs i 0) (fld 2 zs i 1) i = dsL zs (fld 2 zs i 0) (fld 2 zs i 1) i from dsL_take)
        have HLi := Lib.hid (dsL_length zs (fld 2 zs i 0) (fld 2 zs i 1) i)
        have HAi := Lib.hid (fun k (hk : k < i) => dsL_at (zs := zs) (x := fld 2 zs i 0) (y := fld 2 zs i 1) hk)
        have HAB := Lib.hid (fun k => show apB zs xs i k = decide (((xs.getD i 0 - xs.getD k 0).natAbs : Int) ≤ ds zs (fld 2 zs i 0) (fld 2 zs i 1) k) from rfl)
        have HB := Lib.hid hb
        have HPA := Lib.hid hpa
        have HLT := Lib.hid hlt
        clear hb hpa
        generalize fld 2 zs i 0 = s at *
        generalize fld 2 zs i 1 = t at *
        go_upto_region 6 with fail
        generalize wr.alloc (.cells #[.int .i64 s, .int .i64 t] 32) = V at *
        have CS := Lib.hid (show ∀ WZ : World, Below V.heap.size V WZ → WZ.cell? ⟨wr.heap.size, 0, none⟩ = some (.int .i64 s) ∧ WZ.cell? ⟨wr.heap.size, 1, none⟩ = some (.int .i64 t) from fun WZ hz => And.intro (site.at_cell (S0.out.old hz) 0 (.int .i64 s) rfl) (site.at_cell (S0.out.old hz) 1 (.int .i64 t) rfl))
        clear p0 p1
        have KC := fun (w' : World) (hb : Below V.heap.size V w') => distancesTo (zs.take (i * 2)) s t (some ⟨g, r, none⟩) i c w' (by omega) HOi.out HPi.out (RT.out.next (S0.out.1.trans (hb.mono S0.out.1.size)))
        rw [HDi.out] at KC
        have KC := Lib.hid KC
        go_region_held3 (fun w' => w'.cell? ⟨wr.heap.size, 0, none⟩ = some (.int .i64 s) ∧ w'.cell? ⟨wr.heap.size, 1, none⟩ = some (.int .i64 t)) (first
          | exact CS.out _ (Below.refl V.heap.size V).drew
          | exact CS.out _ (by assumption)
          | go_keep) (first
          | (go_at_call 91; (with_reducible refine (KC.out _ (by first | exact (Below.refl V.heap.size V).drew | assumption)).mono ?_); rintro e wx ⟨vx, rfl, hox, hb⟩
             obtain ⟨Ax, cx, rfl⟩ := own_sliceZ hox
             have hbl := site.bl_next (V := V) (by first | exact (Below.refl V.heap.size V).drew | assumption) hb
             clear hb))
        all_goals (
          have RX := Lib.hid (rd_of_own hox HLi.out)
          have BX := Lib.hid (HB.out.trans ((S0.out.1.trans (hbl.mono S0.out.1.size)).mono HB.out.size))
          clear hox hbl KC CS RT
          go_wp2_with fail
          go_loopw [27] (fun j wq => ∃ k : Nat, k ≤ i ∧ j = .int .i64 k ∧ apT zs xs i k = true ∧ Below wx.heap.size wx wq) (fun j _ => i - (intOf j).toNat)
          case atStart => exact ⟨0, Nat.zero_le _, rfl, rfl, Below.refl _ _⟩
          case round =>
            obtain ⟨k, hk, rfl, hap, hbq⟩ := hrel
            have HBQ := Lib.hid hbq
            have BXQ := Lib.hid (BX.out.trans (hbq.mono BX.out.size))
            by_cases hki : k < i
            · have hki2 : (k : Int) < (i : Int) := by omega
              have hkm : (k : Int) < (m : Int) := by omega
              have RXd := RX.out.below hbq (Nat.le_refl _)
              obtain ⟨b3, o3, e3, rfl, l5, he3, ce3⟩ := RXd.at_ hki
              obtain rfl : ds zs s t k = e3 := Option.some.inj ((HAi.out k hki).symm.trans he3)
              have hRd := HR.out.below BXQ.out (Nat.le_refl _)
              clear hbq
              obtain ⟨b, o, x, rfl, hbl, hx, hc'⟩ := hRd.at_ HLT.out
              obtain ⟨b', o', y, eA, hbl', hy, hc''⟩ := hRd.at_ (show k < m by omega)
              obtain ⟨rfl, rfl⟩ : b = b' ∧ o = o' := by injection eA with e; injection e with e1 e2; exact ⟨e1, e2⟩
              have hxd : xs.getD i 0 = x := by rw [List.getD_eq_getElem?_getD, hx]; rfl
              have hyd : xs.getD k 0 = y := by rw [List.getD_eq_getElem?_getD, hy]; rfl
              have hx1 := HIN.out i HLT.out
              have hy1 := HIN.out k (by omega)
              have HS := Lib.hid (show apT zs xs i (k + 1) = (apT zs xs i k && apB zs xs i k) from rfl)
              rw [hap] at HS
              have HNo := Lib.hid (fun (h : apB zs xs i k = false) => paT_no HLT.out hki h)
              have HAk := HAB.out k
              rw [hxd, hyd] at HAk
              rw [hxd] at hx1
              rw [hyd] at hy1
              obtain ⟨x0, x1⟩ := hx1
              obtain ⟨y0, y1⟩ := hy1
              have G1 := Lib.hid (fun w d => aid.quiet_left (absoluteOf (x - y) (World.drewN w d) (by omega) (by omega)))
              have e1 : IntKind.i64.wrap (x - y) = x - y := IntWalk.i64_in _ (by omega)
              clear hx hy hxd hyd eA he3 hap RXd hRd
              generalize ds zs s t k = z3 at *
              generalize ((x - y).natAbs : Int) = z at *
              by_cases hd : z ≤ z3
              · rw [decide_eq_true hd] at HAk
                have HE := Lib.hid (show apT zs xs i (k + 1) = true by rw [HS.out, HAk]; rfl)
                have hd2 : ¬ z3 < z := by omega
                have hd3 : decide (z3 < z) = false := decide_eq_false hd2
                clear HS HNo HAk
                go_wp2_with fail
                go_quiet ((go_at_call 94; with_reducible exact G1.out _ _))
                go_wp2_with fail
                go_roundw
                case rel => exact ⟨k + 1, by omega, by go_num, HE.out, aid.below_drewN HBQ.out _⟩
                case measure => simp [intOf]; omega
              · rw [decide_eq_false hd] at HAk
                have HE := Lib.hid (HNo.out HAk)
                have hd2 : z3 < z := by omega
                clear HS HNo HAk
                go_wp2_with fail
                go_quiet ((go_at_call 94; with_reducible exact G1.out _ _))
                go_wp2_with fail
                go_ret2
                exact ⟨by rw [HV.out, HE.out]; rfl, aid.below_drewN BXQ.out _⟩
            · obtain rfl : k = i := by omega
              have HE := Lib.hid (show paT zs xs (k + 1) = true by rw [paT, HPA.out, hap]; rfl)
              clear hap
              go_wp2_with fail
              go_roundw
              case rel => exact ⟨k + 1, by omega, by go_num, HE.out, BXQ.out⟩
              case measure => simp [intOf]; omega)
      · obtain rfl : i = m := by omega
        have HE := Lib.hid hpa
        have HB := Lib.hid hb
        clear HR HZ hpa hb
        go_wp2_with fail
        go_ret2
        exact ⟨by rw [HV.out, HE.out]; rfl, HB.out⟩

end Go.Proofs.Ytpbopiecfnedgab.sitk
