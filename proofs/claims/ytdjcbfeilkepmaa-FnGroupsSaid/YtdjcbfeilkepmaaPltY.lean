/- spec's SpreadOf. -/
import Derived.Test.YtdjcbfeilkepmaaPltG
import Derived.Deep.RegionHeld3
import Derived.OwnWalk
namespace Go.Proofs.Ytdjcbfeilkepmaa.plty
open Go.RowKit Go.Proofs.Ytdjcbfeilkepmaa.ints Go.Proofs.Ytdjcbfeilkepmaa.lst Go.Proofs.Ytdjcbfeilkepmaa.in_ Go.Proofs.Ytdjcbfeilkepmaa.ats Go.Proofs.Ytdjcbfeilkepmaa.pos Go.Proofs.Ytdjcbfeilkepmaa.plt Go.Proofs.Ytdjcbfeilkepmaa.pltm Go.Proofs.Ytdjcbfeilkepmaa.plte Go.Proofs.Ytdjcbfeilkepmaa.plts Go.Proofs.Ytdjcbfeilkepmaa.pltg Go.Proofs.Ytdjcbfeilkepmaa.rws

theorem most11 (a b : Int) (w : World) :
    Calls Try.prog 95 #[.int .i64 a, .int .i64 b] w fun e w' => e = .returned (.int .i64 (max a b)) ∧ w' = w := by
  by_cases h : b < a
  · have e1 : max a b = a := by omega
    rw [e1]
    go_enter Try.func95, Try.ntmps95
    go_wp2_with fail
    go_ret
    exact ⟨rfl, rfl⟩
  · have e1 : max a b = b := by omega
    have h2 : a ≤ b := by omega
    rw [e1]
    go_enter Try.func95, Try.ntmps95
    go_wp2_with fail
    go_ret
    exact ⟨rfl, rfl⟩


set_option maxRecDepth 100000 in
set_option maxHeartbeats 4000000 in
theorem spreadOf (zs : List Int) (ww r g : Int) (A : Option Addr) (n c : Nat) (w : World) (hn : n ≤ 1048577) (h1 : RdZ 5 w w.heap.size A n zs) :
    Calls Try.prog 33 #[.slice A n c, .int .i64 ww, .int .i64 r, .int .i64 g] w fun e w' => e = .returned (.tuple #[.int .i64 (spV zs n ww r g 3), .int .i64 (spV zs n ww r g 4), .bool (spB zs n ww r g)]) ∧ Below w.heap.size w w' := by
  have H := asked13 zs ww r A n c w hn h1
  have HNo := Lib.hid (fun (h : spB zs n ww r g = false) => show spB zs n ww r g = false ∧ spV zs n ww r g 3 = 0 ∧ spV zs n ww r g 4 = 0 from ⟨h, spV_no h, spV_no h⟩)
  cases hq : asB zs n ww r
  · rw [hq] at H
    obtain ⟨e1, e2, e3⟩ := HNo.out (by unfold spB; rw [hq]; rfl)
    have HE := Lib.hid e1
    have HX := Lib.hid e2
    have HY := Lib.hid e3
    have H := Lib.hid H
    clear hq h1 e1 e2 e3 HNo
    go_enter Try.func33, Try.ntmps33
    go_wp2_with fail
    refine H.out.mono ?_
    rintro e w1 ⟨rfl, hb⟩
    have HB := Lib.hid hb
    clear hb
    go_wp2_with fail
    go_ret3
    exact ⟨by rw [HE.out, HX.out, HY.out]; rfl, HB.out⟩
  rw [hq] at H
  have hsv := (asB_yes hq).1
  have hn20 := (svB_yes hsv).2
  have HSV := Lib.hid (fun i (hi : i < n) => sv_at hsv hi)
  have HQ := Lib.hid hq
  have GR := Lib.hid (fun (W : World) (hb : Below w.heap.size w W) => groups13 zs ww r A n c W hsv (h1.next hb))
  have T2 := Lib.hid (fun w => l1In g 0 (((grp zs ww r n).length : Int) - 1) w)
  have HR := Lib.hid h1
  have H := Lib.hid H
  have HG20 := Lib.hid (Nat.le_trans (grp_len zs ww r n) hn20)
  clear h1 hq hsv
  cases hg : isIn g 0 (((grp zs ww r n).length : Int) - 1)
  · obtain ⟨e1, e2, e3⟩ := HNo.out (by unfold spB; rw [hg, Bool.and_false])
    have HE := Lib.hid e1
    have HX := Lib.hid e2
    have HY := Lib.hid e3
    rw [hg] at T2
    clear e1 e2 e3 HNo hg
    go_enter Try.func33, Try.ntmps33
    go_wp2_with fail
    refine H.out.mono ?_
    rintro e w1 ⟨rfl, hb⟩
    have HB1 := Lib.hid hb
    clear hb
    go_wp2_with fail
    refine (GR.out _ HB1.out).mono ?_
    rintro e w2 ⟨v, rfl, hG, hb2⟩
    obtain ⟨A2, c2, rfl⟩ := hG.slice
    have HB := Lib.hid (HB1.out.trans (hb2.mono HB1.out.size))
    have hgl := HG20.out
    clear hb2 hG HB1 GR H
    generalize (grp zs ww r n).length = gl at *
    have e1 : IntKind.i64.wrap ((gl : Int) - 1) = (gl : Int) - 1 := IntWalk.i64_in _ (by omega)
    go_wp2_with fail
    refine (T2.out _).mono ?_
    rintro e w3 ⟨rfl, rfl⟩
    go_wp2_with fail
    go_ret3
    exact ⟨by rw [HE.out, HX.out, HY.out]; rfl, HB.out⟩
  have hgi := isIn_yes hg
  rw [hg] at T2
  obtain ⟨G, rfl⟩ : ∃ G : Nat, g = (G : Int) := ⟨g.toNat, by omega⟩
  have hGl : G < (grp zs ww r n).length := by omega
  have e1 : spB zs n ww r (G : Int) = true := by unfold spB; rw [HQ.out, hg]; rfl
  obtain ⟨q, hq⟩ : ∃ q, (grp zs ww r n)[G]? = some q := ⟨_, List.getElem?_eq_getElem hGl⟩
  have eq : (grp zs ww r n).getD G [] = q := by rw [List.getD_eq_getElem?_getD, hq]; rfl
  have h0 := grp_ne _ _ hq
  have h20 : q.length ≤ 20 := Nat.le_trans (grp_small hq) hn20
  have HE := Lib.hid e1
  have HX := Lib.hid (show spV zs n ww r (G : Int) 3 = allM (cx zs 3 q) q.length by rw [spV_yes e1, Int.toNat_natCast, eq, all_is _ _ h0])
  have HY := Lib.hid (show spV zs n ww r (G : Int) 4 = allM (cx zs 4 q) q.length by rw [spV_yes e1, Int.toNat_natCast, eq, all_is _ _ h0])
  have HM := Lib.hid (fun i hi => grp_lt hq i hi)
  have HGQ := Lib.hid hq
  have hG3 : (G : Int) < (((grp zs ww r n).length : Nat) : Int) := by omega
  have hG0 : (0 : Int) ≤ (G : Int) := Int.natCast_nonneg _
  clear e1 eq hq HNo HQ hg hgi hGl
  go_enter Try.func33, Try.ntmps33
  go_wp2_with fail
  refine H.out.mono ?_
  rintro e w1 ⟨rfl, hb⟩
  have HB1 := Lib.hid hb
  clear hb
  go_wp2_with fail
  refine (GR.out _ HB1.out).mono ?_
  rintro e w2 ⟨v, rfl, hG, hb2⟩
  obtain ⟨ob, oc, gb, uc, rfl, hob, -, q0, -, hgb, qc, -, -⟩ := hG.read HGQ.out h0
  have HB := Lib.hid (HB1.out.trans (hb2.mono HB1.out.size))
  have hgl := HG20.out
  have Q0 := Lib.hid (fun (W : World) (h : Below w2.heap.size w2 W) => (h.cell (p := ⟨ob, G, none⟩) hob).trans q0)
  have QC := Lib.hid (fun (W : World) (h : Below w2.heap.size w2 W) j m hm => (h.cell (p := ⟨gb, j, none⟩) hgb).trans (qc j m hm))
  clear hb2 hG HB1 GR H q0 qc hob hgb
  generalize (grp zs ww r n).length = gl at *
  generalize hql : q.length = ql at *
  have HQL := Lib.hid hql
  clear hql
  have e1 : IntKind.i64.wrap ((gl : Int) - 1) = (gl : Int) - 1 := IntWalk.i64_in _ (by omega)
  go_wp2_with fail
  refine (T2.out _).mono ?_
  rintro e w3 ⟨rfl, rfl⟩
  go_wp2_with fail
  go_loopw [12, 13, 14] (fun x y i wr => ∃ j : Nat, j ≤ ql ∧ i = .int .i64 j ∧ x = .int .i64 (allM (cx zs 3 q) j) ∧ y = .int .i64 (allM (cx zs 4 q) j) ∧ Below w2.heap.size w2 wr) (fun _ _ i _ => ql - (intOf i).toNat)
  case atStart => exact ⟨0, Nat.zero_le _, rfl, rfl, rfl, Below.refl _ _⟩
  case round =>
    obtain ⟨i, hi, rfl, rfl, rfl, hb⟩ := hrel
    have HBi := Lib.hid hb
    have q0 := Q0.out wr hb
    by_cases hil : i < ql
    · have hil2 : (i : Int) < (ql : Int) := by omega
      have hi0 : (0 : Int) ≤ (i : Int) := Int.natCast_nonneg _
      obtain ⟨mi, hmi⟩ : ∃ m, q[i]? = some m := ⟨_, List.getElem?_eq_getElem (by rw [HQL.out]; exact hil)⟩
      have HMI := Lib.hid hmi
      have hmin := HM.out mi (List.mem_of_getElem? hmi)
      have R0 := Lib.hid (show allM (cx zs 3 q) i = rowM (cx zs 3 q) (allM (cx zs 3 q) i) i 0 from rfl)
      have R1 := Lib.hid (show allM (cx zs 4 q) i = rowM (cx zs 4 q) (allM (cx zs 4 q) i) i 0 from rfl)
      clear hb hmi
      go_wp2_with fail
      go_loopw [12, 13, 15] (fun x y j wr' => ∃ k : Nat, k ≤ i ∧ j = .int .i64 k ∧ x = .int .i64 (rowM (cx zs 3 q) (allM (cx zs 3 q) i) i k) ∧ y = .int .i64 (rowM (cx zs 4 q) (allM (cx zs 4 q) i) i k) ∧ Below w2.heap.size w2 wr') (fun _ _ j _ => i - (intOf j).toNat)
      case atStart => exact ⟨0, Nat.zero_le _, rfl, rfl, rfl, HBi.out⟩
      case round =>
        obtain ⟨k, hk, rfl, rfl, rfl, hb⟩ := hrel
        clear q0
        by_cases hki : k < i
        · have hki2 : (k : Int) < (i : Int) := by omega
          have hkl2 : (k : Int) < (ql : Int) := by omega
          have hk0 : (0 : Int) ≤ (k : Int) := Int.natCast_nonneg _
          obtain ⟨mk, hmk⟩ : ∃ m, q[k]? = some m := ⟨_, List.getElem?_eq_getElem (by rw [HQL.out]; omega)⟩
          have hmkn := HM.out mk (List.mem_of_getElem? hmk)
          have hmi2 : (mi : Int) < (n : Int) := by omega
          have hmk2 : (mk : Int) < (n : Int) := by omega
          have hmi0 : (0 : Int) ≤ (mi : Int) := Int.natCast_nonneg _
          have hmk0 : (0 : Int) ≤ (mk : Int) := Int.natCast_nonneg _
          have c0 := Q0.out wr hb
          have c1 := QC.out wr hb i mi HMI.out
          have c2 := QC.out wr hb k mk hmk
          obtain ⟨b1, o1, rfl, -, -, -, -, c3, c4⟩ := cellsE (HR.out.below (HB.out.trans (hb.mono HB.out.size)) (Nat.le_refl _)) hmin
          obtain ⟨b2, o2, eA, -, -, -, -, c5, c6⟩ := cellsE (HR.out.below (HB.out.trans (hb.mono HB.out.size)) (Nat.le_refl _)) hmkn
          obtain ⟨rfl, rfl⟩ : b1 = b2 ∧ o1 = o2 := by injection eA with e; injection e with e1 e2; exact ⟨e1, e2⟩
          have VI := HSV.out mi hmin
          have VK := HSV.out mk hmkn
          have S1 := Lib.hid (show rowM (cx zs 3 q) (allM (cx zs 3 q) i) i (k + 1) = max (rowM (cx zs 3 q) (allM (cx zs 3 q) i) i k) ((fld 5 zs mi 3 - fld 5 zs mk 3).natAbs : Int) by rw [rowM, cx_get HMI.out, cx_get hmk])
          have S2 := Lib.hid (show rowM (cx zs 4 q) (allM (cx zs 4 q) i) i (k + 1) = max (rowM (cx zs 4 q) (allM (cx zs 4 q) i) i k) ((fld 5 zs mi 4 - fld 5 zs mk 4).natAbs : Int) by rw [rowM, cx_get HMI.out, cx_get hmk])
          obtain ⟨-, -, -, VI3, VI4⟩ := VI
          obtain ⟨-, -, -, VK3, VK4⟩ := VK
          have HBk := Lib.hid hb
          clear hb eA hmk
          generalize rowM (cx zs 3 q) (allM (cx zs 3 q) i) i k = x3 at *
          generalize rowM (cx zs 4 q) (allM (cx zs 4 q) i) i k = x4 at *
          generalize fld 5 zs mi 3 = ax at *
          generalize fld 5 zs mi 4 = ay at *
          generalize fld 5 zs mk 3 = bx at *
          generalize fld 5 zs mk 4 = by_ at *
          have G1 := Lib.hid (fun w => size13 (ax - bx) w (by omega) (by omega))
          have G2 := Lib.hid (fun w => size13 (ay - by_) w (by omega) (by omega))
          have w1_ : IntKind.i64.wrap (ax - bx) = ax - bx := IntWalk.i64_in _ (by omega)
          have w2_ : IntKind.i64.wrap (ay - by_) = ay - by_ := IntWalk.i64_in _ (by omega)
          clear VI3 VI4 VK3 VK4
          generalize ((ax - bx).natAbs : Int) = d3 at *
          generalize ((ay - by_).natAbs : Int) = d4 at *
          have L1 := Lib.hid (fun w => most11 x3 d3 w)
          have L2 := Lib.hid (fun w => most11 x4 d4 w)
          have CS := Lib.hid (show ∀ WZ : World, Below wr.heap.size wr WZ → World.cell? WZ ⟨ob, G, none⟩ = some (.slice (some ⟨gb, 0, none⟩) ql uc) ∧ World.cell? WZ ⟨gb, i, none⟩ = some (.int .i64 (mi : Int)) ∧ World.cell? WZ ⟨gb, k, none⟩ = some (.int .i64 (mk : Int)) ∧ World.cell? WZ ⟨b1, o1 + mi * 5 + 3, none⟩ = some (.int .i64 ax) ∧ World.cell? WZ ⟨b1, o1 + mi * 5 + 4, none⟩ = some (.int .i64 ay) ∧ World.cell? WZ ⟨b1, o1 + mk * 5 + 3, none⟩ = some (.int .i64 bx) ∧ World.cell? WZ ⟨b1, o1 + mk * 5 + 4, none⟩ = some (.int .i64 by_) from fun WZ hz => ⟨(hz.cell (World.block_lt_of_cell? _ _ c0)).trans c0, (hz.cell (World.block_lt_of_cell? _ _ c1)).trans c1, (hz.cell (World.block_lt_of_cell? _ _ c2)).trans c2, (hz.cell (World.block_lt_of_cell? _ _ c3)).trans c3, (hz.cell (World.block_lt_of_cell? _ _ c4)).trans c4, (hz.cell (World.block_lt_of_cell? _ _ c5)).trans c5, (hz.cell (World.block_lt_of_cell? _ _ c6)).trans c6⟩)
          clear c0 c1 c2 c3 c4 c5 c6
          go_upto_region 13 with fail
          go_region_held3 (fun w' => World.cell? w' ⟨ob, G, none⟩ = some (.slice (some ⟨gb, 0, none⟩) ql uc) ∧ World.cell? w' ⟨gb, i, none⟩ = some (.int .i64 (mi : Int)) ∧ World.cell? w' ⟨gb, k, none⟩ = some (.int .i64 (mk : Int)) ∧ World.cell? w' ⟨b1, o1 + mi * 5 + 3, none⟩ = some (.int .i64 ax) ∧ World.cell? w' ⟨b1, o1 + mi * 5 + 4, none⟩ = some (.int .i64 ay) ∧ World.cell? w' ⟨b1, o1 + mk * 5 + 3, none⟩ = some (.int .i64 bx) ∧ World.cell? w' ⟨b1, o1 + mk * 5 + 4, none⟩ = some (.int .i64 by_)) (first
            | exact CS.out _ (Below.refl wr.heap.size wr).drew
            | exact CS.out _ ((Below.refl wr.heap.size wr).alloc (Nat.le_refl _) _).drew
            | exact CS.out _ (((Below.refl wr.heap.size wr).alloc (Nat.le_refl _) _).alloc (by rw [World.size_alloc]; omega) _).drew
            | go_keep) (fail)
          · have X := Lib.hid ((newS 48 #[.int .i64 ax, .int .i64 ay] wr).alloc (.cells #[.int .i64 bx, .int .i64 by_] 48)).drew
            have Y := Lib.hid ((newS 48 #[.int .i64 ax, .int .i64 ay] wr).next 48 #[.int .i64 bx, .int .i64 by_]).drew
            rw [World.size_alloc] at Y
            generalize ((wr.alloc (.cells #[.int .i64 ax, .int .i64 ay] 48)).alloc (.cells #[.int .i64 bx, .int .i64 by_] 48)).drew = V at *
            have x0 : V.cell? ⟨wr.heap.size, 0, none⟩ = some (.int .i64 ax) := X.out.cell 0
            have x1 : V.cell? ⟨wr.heap.size, 1, none⟩ = some (.int .i64 ay) := X.out.cell 1
            have y0 : V.cell? ⟨wr.heap.size + 1, 0, none⟩ = some (.int .i64 bx) := Y.out.cell 0
            have y1 : V.cell? ⟨wr.heap.size + 1, 1, none⟩ = some (.int .i64 by_) := Y.out.cell 1
            have BV := Lib.hid (HBk.out.trans (X.out.1.mono HBk.out.size))
            clear X Y CS
            go_wp2_with fail
            refine (G1.out _).mono ?_
            rintro e w5 ⟨rfl, rfl⟩
            go_wp2_with fail
            refine (L1.out _).mono ?_
            rintro e w6 ⟨rfl, rfl⟩
            go_wp2_with fail
            refine (G2.out _).mono ?_
            rintro e w7 ⟨rfl, rfl⟩
            go_wp2_with fail
            refine (L2.out _).mono ?_
            rintro e w8 ⟨rfl, rfl⟩
            go_wp2_with fail
            go_roundw
            case rel => exact ⟨k + 1, by omega, by go_num, by rw [S1.out], by rw [S2.out], BV.out⟩
            case measure => simp [intOf]; omega
            
          · have X := Lib.hid ((newS 48 #[.int .i64 bx, .int .i64 by_] wr).alloc (.cells #[.int .i64 ax, .int .i64 ay] 48)).drew
            have Y := Lib.hid ((newS 48 #[.int .i64 bx, .int .i64 by_] wr).next 48 #[.int .i64 ax, .int .i64 ay]).drew
            rw [World.size_alloc] at Y
            generalize ((wr.alloc (.cells #[.int .i64 bx, .int .i64 by_] 48)).alloc (.cells #[.int .i64 ax, .int .i64 ay] 48)).drew = V at *
            have x0 : V.cell? ⟨wr.heap.size, 0, none⟩ = some (.int .i64 bx) := X.out.cell 0
            have x1 : V.cell? ⟨wr.heap.size, 1, none⟩ = some (.int .i64 by_) := X.out.cell 1
            have y0 : V.cell? ⟨wr.heap.size + 1, 0, none⟩ = some (.int .i64 ax) := Y.out.cell 0
            have y1 : V.cell? ⟨wr.heap.size + 1, 1, none⟩ = some (.int .i64 ay) := Y.out.cell 1
            have BV := Lib.hid (HBk.out.trans (X.out.1.mono HBk.out.size))
            clear X Y CS
            go_wp2_with fail
            refine (G1.out _).mono ?_
            rintro e w5 ⟨rfl, rfl⟩
            go_wp2_with fail
            refine (L1.out _).mono ?_
            rintro e w6 ⟨rfl, rfl⟩
            go_wp2_with fail
            refine (G2.out _).mono ?_
            rintro e w7 ⟨rfl, rfl⟩
            go_wp2_with fail
            refine (L2.out _).mono ?_
            rintro e w8 ⟨rfl, rfl⟩
            go_wp2_with fail
            go_roundw
            case rel => exact ⟨k + 1, by omega, by go_num, by rw [S1.out], by rw [S2.out], BV.out⟩
            case measure => simp [intOf]; omega
            
        · obtain rfl : k = i := by omega
          have HBk := Lib.hid hb
          clear hb
          go_wp2_with fail
          go_roundw
          case rel => exact ⟨k + 1, by omega, by go_num, rfl, rfl, HBk.out⟩
          case measure => simp [intOf]; omega
    · obtain rfl : i = ql := by omega
      have HBk := Lib.hid (HB.out.trans (hb.mono HB.out.size))
      clear hb
      go_wp2_with fail
      go_ret3
      exact ⟨by rw [HE.out, HX.out, HY.out]; rfl, HBk.out⟩
end Go.Proofs.Ytdjcbfeilkepmaa.plty
