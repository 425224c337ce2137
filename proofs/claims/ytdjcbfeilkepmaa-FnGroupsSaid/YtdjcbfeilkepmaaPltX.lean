/- impl's rangeOf, SpreadOf, nearestMean. -/
import Derived.Test.YtdjcbfeilkepmaaPltP
import Derived.Test.YtdjcbfeilkepmaaIntC
namespace Go.Proofs.Ytdjcbfeilkepmaa.pltx
open Go.RowKit Go.Proofs.Ytdjcbfeilkepmaa.ints Go.Proofs.Ytdjcbfeilkepmaa.lst Go.Proofs.Ytdjcbfeilkepmaa.in_ Go.Proofs.Ytdjcbfeilkepmaa.ats Go.Proofs.Ytdjcbfeilkepmaa.pos Go.Proofs.Ytdjcbfeilkepmaa.plt Go.Proofs.Ytdjcbfeilkepmaa.pltm Go.Proofs.Ytdjcbfeilkepmaa.plte Go.Proofs.Ytdjcbfeilkepmaa.plti Go.Proofs.Ytdjcbfeilkepmaa.pltj Go.Proofs.Ytdjcbfeilkepmaa.pltk Go.Proofs.Ytdjcbfeilkepmaa.pltp Go.Proofs.Ytdjcbfeilkepmaa.rws Go.Proofs.Ytdjcbfeilkepmaa.loc

theorem max_mx (xs : List Int) (k : Nat) (hk : k < xs.length) : Lib.maxOf (xs.take (k + 1)) = mxT xs k := by
  induction k with
  | zero => exact Lib.maxOf_one xs
  | succ k ih => rw [Lib.maxOf_step xs (k + 1) (by omega) hk, ih (by omega), mxT]
theorem min_mn (xs : List Int) (k : Nat) (hk : k < xs.length) : Lib.minOf (xs.take (k + 1)) = mnT xs k := by
  induction k with
  | zero => exact Lib.minOf_one xs
  | succ k ih => rw [Lib.minOf_step xs (k + 1) (by omega) hk, ih (by omega), mnT]
theorem maxN (xs : List Int) (A : Option Addr) (n c : Nat) (w : World) (hn : 0 < n) (hn2 : n ≤ 1048576) (h : RdI w w.heap.size A n xs) :
    Calls Try.prog 70 #[.slice A n c] w fun e w' => e = .returned (.int .i64 (mxT xs (n - 1))) ∧ w' = w := by
  obtain ⟨b, o, rfl, hb, hc⟩ := h.2 hn
  refine (Try.slices_Max_int b o n c xs w hn (Nat.le_of_eq h.1.symm) (by omega) (fun j hj => by
    refine hc j _ ?_
    rw [List.getD_eq_getElem?_getD, List.getElem?_eq_getElem hj]; rfl)).mono ?_
  rintro e w' ⟨rfl, rfl⟩
  refine ⟨?_, rfl⟩
  have := max_mx xs (n - 1) (by have := h.1; omega)
  rw [show n - 1 + 1 = n by omega] at this
  rw [this]
theorem minN (xs : List Int) (A : Option Addr) (n c : Nat) (w : World) (hn : 0 < n) (hn2 : n ≤ 1048576) (h : RdI w w.heap.size A n xs) :
    Calls Try.prog 71 #[.slice A n c] w fun e w' => e = .returned (.int .i64 (mnT xs (n - 1))) ∧ w' = w := by
  obtain ⟨b, o, rfl, hb, hc⟩ := h.2 hn
  refine (Try.slices_Min_int b o n c xs w hn (Nat.le_of_eq h.1.symm) (by omega) (fun j hj => by
    refine hc j _ ?_
    rw [List.getD_eq_getElem?_getD, List.getElem?_eq_getElem hj]; rfl)).mono ?_
  rintro e w' ⟨rfl, rfl⟩
  refine ⟨?_, rfl⟩
  have := min_mn xs (n - 1) (by have := h.1; omega)
  rw [show n - 1 + 1 = n by omega] at this
  rw [this]

theorem cx_in {zs : List Int} {n j b : Nat} {q : List Nat} (h : ∀ i, i < n → 0 ≤ fld 5 zs i j ∧ fld 5 zs i j ≤ b) (hq : ∀ i ∈ q, i < n) : ∀ k, k < q.length → 0 ≤ (cx zs j q).getD k 0 ∧ (cx zs j q).getD k 0 ≤ b := by
  intro k hk
  have e := List.getElem?_eq_getElem hk
  rw [cx_get e]
  exact h _ (hq _ (List.mem_of_getElem? e))

theorem rangeOf (xs : List Int) (A : Option Addr) (n c : Nat) (w : World) (h0 : 0 < n) (hn : n ≤ 20) (hin : ∀ j, j < n → 0 ≤ xs.getD j 0 ∧ xs.getD j 0 ≤ ((9899 : Nat) : Int)) (h : RdI w w.heap.size A n xs) :
    Calls Try.prog 94 #[.slice A n c] w fun e w' => e = .returned (.int .i64 (sdV xs n)) ∧ w' = w := by
  have M1 := Lib.hid (maxN xs A n c w h0 (by omega) h)
  have M2 := Lib.hid (minN xs A n c w h0 (by omega) h)
  have a1 := mxT_in (k := n - 1) (fun j hj => hin j (by omega))
  have a2 := mnT_in (k := n - 1) (fun j hj => hin j (by omega))
  have e1 : IntKind.i64.wrap (mxT xs (n - 1) - mnT xs (n - 1)) = mxT xs (n - 1) - mnT xs (n - 1) := IntWalk.i64_in _ (by omega)
  unfold sdV
  clear hin h a1 a2
  generalize mxT xs (n - 1) = u at *
  generalize mnT xs (n - 1) = v at *
  go_enter Try.func94, Try.ntmps94
  go_wp2_with fail
  refine M1.out.mono ?_
  rintro e w1 ⟨rfl, rfl⟩
  go_wp2_with fail
  refine M2.out.mono ?_
  rintro e w2 ⟨rfl, rfl⟩
  go_wp2_with fail
  go_ret
  exact ⟨rfl, rfl⟩

set_option maxRecDepth 100000 in
set_option maxHeartbeats 1000000 in
theorem nearestMean (xs : List Int) (A : Option Addr) (n c : Nat) (w : World) (h0 : 0 < n) (hn : n ≤ 20) (hin : ∀ j, j < n → 0 ≤ xs.getD j 0 ∧ xs.getD j 0 ≤ ((9899 : Nat) : Int)) (h : RdI w w.heap.size A n xs) :
    Calls Try.prog 131 #[.slice A n c] w fun e w' => e = .returned (.int .i64 (mean xs n)) ∧ w' = w := by
  have HSM := Lib.hid (fun k (hk : k ≤ n) => smT_in (xs := xs) (b := ((9899 : Nat) : Int)) (k := k) (fun j hj => hin j (by omega)))
  have HIN := Lib.hid hin
  clear hin
  go_enter Try.func131, Try.ntmps131
  go_wp2_with fail
  go_loop [3, 11] (fun s i => ∃ k : Nat, k ≤ n ∧ i = .int .i64 k ∧ s = .int .i64 (smT xs k)) (fun _ i => n - (intOf i).toNat)
  case atStart => exact ⟨0, Nat.zero_le _, rfl, rfl⟩
  case round =>
    obtain ⟨k, hk, rfl, rfl⟩ := hrel
    obtain ⟨s0, s1⟩ := HSM.out k hk
    have s2 : smT xs k ≤ 197980 := by
      have : (k : Int) * ((9899 : Nat) : Int) ≤ 20 * 9899 := by have : (k : Int) ≤ 20 := by omega
                                                                omega
      omega
    clear s1
    by_cases hlt : k < n
    · obtain ⟨b, o, x, rfl, hbl, hx, hc⟩ := h.at_ hlt
      have hlt2 : (k : Int) < (n : Int) := by omega
      have hxd : xs.getD k 0 = x := by rw [List.getD_eq_getElem?_getD, hx]; rfl
      have hx1 := HIN.out k hlt
      rw [hxd] at hx1
      have HS := Lib.hid (show smT xs (k + 1) = smT xs k + x by rw [smT, hxd])
      have e1 : IntKind.i64.wrap (smT xs k + x) = smT xs k + x := IntWalk.i64_in _ (by omega)
      clear hx hxd hx1 h
      generalize smT xs k = s at *
      go_wp2_with fail
      go_round
      case rel => exact ⟨k + 1, by omega, by go_num, by rw [HS.out]⟩
      case measure => simp [intOf]; omega
    · obtain rfl : k = n := by omega
      have HM := Lib.hid (show mean xs k = (2 * smT xs k + (k : Int)) / (2 * (k : Int)) from rfl)
      have hk0 : ¬ (2 * (k : Int)) = 0 := by omega
      have hk1 : ¬ (k : Int) = 0 := by omega
      clear h HIN HSM
      generalize smT xs k = s at *
      have e1 : IntKind.i64.wrap (2 * s) = 2 * s := IntWalk.i64_in _ (by omega)
      have e2 : IntKind.i64.wrap (2 * s + (k : Int)) = 2 * s + (k : Int) := IntWalk.i64_in _ (by omega)
      have e3 : IntKind.i64.wrap (2 * (k : Int)) = 2 * (k : Int) := IntWalk.i64_in _ (by omega)
      go_wp2_with fail
      go_ret
      exact ⟨by rw [HM.out]; rfl, rfl⟩

set_option maxRecDepth 100000 in
set_option maxHeartbeats 2000000 in
theorem spreadOf (zs : List Int) (ww r g : Int) (A : Option Addr) (n c : Nat) (w : World) (hn : n ≤ 1048577) (h1 : RdZ 5 w w.heap.size A n zs) :
    Calls Try.prog 31 #[.slice A n c, .int .i64 ww, .int .i64 r, .int .i64 g] w fun e w' => e = .returned (.tuple #[.int .i64 (spV zs n ww r g 3), .int .i64 (spV zs n ww r g 4), .bool (spB zs n ww r g)]) ∧ Below w.heap.size w w' := by
  have H := groupsOf zs ww r A n c w hn h1
  have HNo := Lib.hid (fun (h : spB zs n ww r g = false) => show spB zs n ww r g = false ∧ spV zs n ww r g 3 = 0 ∧ spV zs n ww r g 4 = 0 from ⟨h, spV_no h, spV_no h⟩)
  cases hq : asB zs n ww r
  · rw [hq] at H
    obtain ⟨e1, e2, e3⟩ := HNo.out (by unfold spB; rw [hq]; rfl)
    have HE := Lib.hid e1
    have HX := Lib.hid e2
    have HY := Lib.hid e3
    have H := Lib.hid H
    clear hq h1 e1 e2 e3 HNo
    go_enter Try.func31, Try.ntmps31
    go_wp2_with fail
    refine H.out.mono ?_
    rintro e w1 ⟨v1, v2, rfl, -, -, hb⟩
    have HB := Lib.hid hb
    clear hb
    go_wp2_with fail
    go_ret3
    exact ⟨by rw [HE.out, HX.out, HY.out]; rfl, HB.out⟩
  rw [hq, ggV_yes hq] at H
  have HN := Lib.hid (svB_yes (asB_yes hq).1)
  have HSV := Lib.hid (fun i (hi : i < n) => sv_at (asB_yes hq).1 hi)
  have HQ := Lib.hid hq
  have H := Lib.hid H
  clear h1 hq
  by_cases g0 : g < 0
  · obtain ⟨e1, e2, e3⟩ := HNo.out (by unfold spB; rw [show isIn g 0 (((grp zs ww r n).length : Int) - 1) = false from decide_eq_false (fun h => by omega), Bool.and_false])
    have HE := Lib.hid e1
    have HX := Lib.hid e2
    have HY := Lib.hid e3
    clear e1 e2 e3 HNo
    go_enter Try.func31, Try.ntmps31
    go_wp2_with fail
    refine H.out.mono ?_
    rintro e w1 ⟨v1, v2, rfl, -, h3, hb⟩
    obtain ⟨A2, c2, rfl⟩ := h3.slice
    have HB := Lib.hid hb
    clear hb h3
    go_wp2_with fail
    go_ret3
    exact ⟨by rw [HE.out, HX.out, HY.out]; rfl, HB.out⟩
  obtain ⟨G, rfl⟩ : ∃ G : Nat, g = (G : Int) := ⟨g.toNat, by omega⟩
  by_cases hG : G < (grp zs ww r n).length
  · have e1 : spB zs n ww r (G : Int) = true := by unfold spB; rw [HQ.out, isIn_of (by omega) (by omega)]; rfl
    obtain ⟨q, hq⟩ : ∃ q, (grp zs ww r n)[G]? = some q := ⟨_, List.getElem?_eq_getElem hG⟩
    have eq : (grp zs ww r n).getD G [] = q := by rw [List.getD_eq_getElem?_getD, hq]; rfl
    have HE := Lib.hid e1
    have HX := Lib.hid (show spV zs n ww r (G : Int) 3 = sdV (cx zs 3 q) q.length by rw [spV_yes e1, Int.toNat_natCast, eq])
    have HY := Lib.hid (show spV zs n ww r (G : Int) 4 = sdV (cx zs 4 q) q.length by rw [spV_yes e1, Int.toNat_natCast, eq])
    have h0 := grp_ne _ _ hq
    have h20 : q.length ≤ 20 := Nat.le_trans (grp_small hq) HN.out.2
    have CI := Lib.hid (cx_in (b := 9899) (j := 3) (fun i hi => (HSV.out i hi).2.2.2.1) (grp_lt hq))
    have CJ := Lib.hid (cx_in (b := 9899) (j := 4) (fun i hi => (HSV.out i hi).2.2.2.2) (grp_lt hq))
    have hG2 : ¬ (((grp zs ww r n).length : Nat) : Int) ≤ (G : Int) := by omega
    have hG3 : (G : Int) < (((grp zs ww r n).length : Nat) : Int) := by omega
    have hG0 : (0 : Int) ≤ (G : Int) := Int.natCast_nonneg _
    have HGQ := Lib.hid hq
    clear e1 eq hq HNo HQ HSV
    go_enter Try.func31, Try.ntmps31
    go_wp2_with fail
    refine H.out.mono ?_
    rintro e w1 ⟨v1, v2, rfl, -, h3, hb⟩
    obtain ⟨ob, oc, Au, uc, rfl, hob, -, q0, -, ow, -⟩ := h3.read HGQ.out
    have HC := Lib.hid (coordinatesOf zs q Au q.length uc w1 rfl h20 (RdZ.of_own ow (flat_length zs q)))
    have HB := Lib.hid hb
    clear hb h3 ow H HN
    generalize (grp zs ww r n).length = gl at *
    generalize hql : q.length = ql at *
    have HQL := Lib.hid hql
    clear hql
    go_wp2_with fail
    refine HC.out.mono ?_
    rintro e w2 ⟨v4, v5, rfl, hT, hb2⟩
    obtain ⟨A4, c4, rfl⟩ := own_sliceZ hT.1
    obtain ⟨A5, c5, rfl⟩ := own_sliceZ hT.2.1
    have HB2 := Lib.hid (HB.out.trans (hb2.mono HB.out.size))
    have R1 := Lib.hid (rangeOf (cx zs 3 q) A4 ql c4 w2 h0 h20 CI.out (intc.rd_of_own hT.1 (by rw [cx_length, HQL.out])))
    have R2 := Lib.hid (rangeOf (cx zs 4 q) A5 ql c5 w2 h0 h20 CJ.out (intc.rd_of_own hT.2.1 (by rw [cx_length, HQL.out])))
    clear hT hb2 q0
    generalize sdV (cx zs 3 q) ql = d3 at *
    generalize sdV (cx zs 4 q) ql = d4 at *
    go_wp2_with fail
    refine R1.out.mono ?_
    rintro e w3 ⟨rfl, rfl⟩
    go_wp2_with fail
    refine R2.out.mono ?_
    rintro e w4 ⟨rfl, rfl⟩
    go_wp2_with fail
    go_ret3
    exact ⟨by rw [HE.out, HX.out, HY.out]; rfl, HB2.out⟩
  · obtain ⟨e1, e2, e3⟩ := HNo.out (by unfold spB; rw [show isIn (G : Int) 0 (((grp zs ww r n).length : Int) - 1) = false from decide_eq_false (fun h => by omega), Bool.and_false])
    have HE := Lib.hid e1
    have HX := Lib.hid e2
    have HY := Lib.hid e3
    have hG2 : (((grp zs ww r n).length : Nat) : Int) ≤ (G : Int) := by omega
    clear e1 e2 e3 HNo
    go_enter Try.func31, Try.ntmps31
    go_wp2_with fail
    refine H.out.mono ?_
    rintro e w1 ⟨v1, v2, rfl, -, h3, hb⟩
    obtain ⟨A2, c2, rfl⟩ := h3.slice
    have HB := Lib.hid hb
    clear hb h3 H
    generalize (grp zs ww r n).length = gl at *
    go_wp2_with fail
    go_ret3
    exact ⟨by rw [HE.out, HX.out, HY.out]; rfl, HB.out⟩
end Go.Proofs.Ytdjcbfeilkepmaa.pltx
