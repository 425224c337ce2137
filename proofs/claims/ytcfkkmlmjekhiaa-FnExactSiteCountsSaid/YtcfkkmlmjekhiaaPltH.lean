/- spec's GroupSightings, LonelySightings, SiteCounts. -/
import Derived.Test.YtcfkkmlmjekhiaaPltG
namespace Go.Proofs.Ytcfkkmlmjekhiaa.plth
open Go.RowKit Go.Proofs.Ytcfkkmlmjekhiaa.ints Go.Proofs.Ytcfkkmlmjekhiaa.lst Go.Proofs.Ytcfkkmlmjekhiaa.in_ Go.Proofs.Ytcfkkmlmjekhiaa.ats Go.Proofs.Ytcfkkmlmjekhiaa.pos Go.Proofs.Ytcfkkmlmjekhiaa.plt Go.Proofs.Ytcfkkmlmjekhiaa.pltm Go.Proofs.Ytcfkkmlmjekhiaa.plte Go.Proofs.Ytcfkkmlmjekhiaa.plts Go.Proofs.Ytcfkkmlmjekhiaa.pltg Go.Proofs.Ytcfkkmlmjekhiaa.rws

theorem made_zero (n : Nat) : (madeCells (Value.cells (.int .i64 0)) (n * 1)).toList = cellsI (List.replicate n 0) := by
  refine List.ext_getElem (by simp [madeCells, cellsI]) fun i h1 h2 => ?_
  simp [madeCells, Value.cells, Nat.mod_one, cellsI]

set_option maxRecDepth 100000 in
set_option maxHeartbeats 4000000 in
theorem groupSightings (zs : List Int) (ww r : Int) (A : Option Addr) (n c : Nat) (w : World) (hn : n ≤ 1048577) (h1 : RdZ 5 w w.heap.size A n zs) :
    Calls Try.prog 14 #[.slice A n c, .int .i64 ww, .int .i64 r] w fun e w' => ∃ v, e = .returned (.tuple #[v, .bool (asB zs n ww r)]) ∧ w'.ownsRow w.heap.size 3 1 v (gsV zs n ww r).length (cellsI (gsV zs n ww r)) ∧ Below w.heap.size w w' := by
  have H := asked13 zs ww r A n c w hn h1
  cases hq : asB zs n ww r
  · rw [hq] at H
    have HV := Lib.hid (gsV_no hq)
    have H := Lib.hid H
    clear hq h1
    go_enter Try.func14, Try.ntmps14
    go_wp2_with fail
    refine H.out.mono ?_
    rintro e w1 ⟨rfl, hb⟩
    have HB := Lib.hid hb
    have EO := Lib.hid (own_.own_empty w1 3)
    have EB := Lib.hid (hb.alloc hb.size (.cells #[] 3))
    clear hb
    go_wp2_with fail
    go_ret2
    exact ⟨_, rfl, by rw [HV.out]; exact own_.own_base EO.out HB.out.size, EB.out⟩
  rw [hq] at H
  have HV := Lib.hid (gsV_yes hq)
  have hsv := (asB_yes hq).1
  have hn20 := (svB_yes hsv).2
  have GR := Lib.hid (fun (W : World) (hb : Below w.heap.size w W) => groups13 zs ww r A n c W hsv (h1.next hb))
  obtain ⟨i0, hi, hz0, hz1, hz2⟩ := info_parts infoI
  have H := Lib.hid H
  clear hq h1 hsv
  go_enter Try.func14, Try.ntmps14
  go_wp2_with fail
  refine H.out.mono ?_
  rintro e w2 ⟨rfl, hb⟩
  have HB := Lib.hid hb
  clear hb
  go_wp2_with (at_make; refine wpList_make_full _ rfl _ _ 27 rfl w2.heap.size 3 i0 (.int .i64 0) 1 Try.underlying27 hi hz0 hz1 _ _ _ _ n rfl rfl rfl rfl (by rw [hz2]; omega) (by unfold maxLen; omega) (Nat.le_refl _) ?_; intro w1 hown hg)
  have O1 := Lib.hid (show w1.ownsRow w2.heap.size 3 1 (.slice (some ⟨w2.heap.size, 0, none⟩) n n) n (cellsI (scT zs ww r n 0 0 [])) from by
    have e := made_zero n
    rw [← scT_zero zs ww r n []] at e
    rw [← e]; exact hown)
  have B1 := Lib.hid ((Below.refl w2.heap.size w2).grown hg (Nat.le_refl _) (fun k e => by cases e))
  clear hown hg
  refine (GR.out w1 (HB.out.trans (B1.out.mono HB.out.size))).mono ?_
  rintro e w3 ⟨v3, rfl, hG, hb3⟩
  obtain ⟨A3, c3, rfl⟩ := hG.slice
  have O3 := Lib.hid (own_.own_below O1.out hb3)
  have B3 := Lib.hid (B1.out.trans (hb3.mono B1.out.size))
  have HG := Lib.hid hG
  have HNE := Lib.hid (grp_ne (zs := zs) (w := ww) (r := r) (k := n))
  have HSM := Lib.hid (fun g q (h : (grp zs ww r n)[g]? = some q) => grp_small h)
  have HML := Lib.hid (fun g q (h : (grp zs ww r n)[g]? = some q) => grp_lt h)
  have HGL := Lib.hid (Nat.le_trans (grp_len zs ww r n) hn20)
  have SET := Lib.hid (fun g k i q (h1 : (grp zs ww r n)[g]? = some q) (h2 : q[k]? = some i) => scT_set h1 h2)
  have NXT := Lib.hid (fun g q (h1 : (grp zs ww r n)[g]? = some q) => scT_next [] h1)
  have ALL := Lib.hid (scT_all zs ww r n [])
  have HB3 := Lib.hid hb3
  have hbw := own_lt O1.out
  clear hG O1 B1 hb3 GR
  generalize grp zs ww r n = G at *
  generalize hgl : G.length = gl at *
  have HGE := Lib.hid hgl
  clear hgl
  go_wp2_with fail
  go_loopw [10] (fun i wr => ∃ g : Nat, g ≤ gl ∧ i = .int .i64 g ∧ wr.ownsRow w2.heap.size 3 1 (.slice (some ⟨w2.heap.size, 0, none⟩) n n) n (cellsI (scT zs ww r n g 0 [])) ∧ w3.grownBy wr (some w2.heap.size)) (fun i _ => gl - (intOf i).toNat)
  case atStart => exact ⟨0, Nat.zero_le _, rfl, O3.out, grown_refl _ _⟩
  case round =>
    obtain ⟨g, hg, rfl, hO, hgr⟩ := hrel
    clear O3
    have hgl20 := HGL.out
    by_cases hlt : g < gl
    · have hlt2 : (g : Int) < (gl : Int) := by omega
      obtain ⟨q, hq⟩ : ∃ q, G[g]? = some q := ⟨_, List.getElem?_eq_getElem (by rw [HGE.out]; exact hlt)⟩
      have hq0 := HNE.out g q hq
      have hqs := HSM.out g q hq
      obtain ⟨ob, oc, gb, uc, hv, hob, hBo, q0, -, hgb, qc, ow, -⟩ := HG.out.read hq hq0
      obtain rfl : A3 = some ⟨ob, 0, none⟩ := by injection hv
      have hBg := (ow.lt gb rfl).1
      have Q0 := Lib.hid (fun (W : World) (h : w3.grownBy W (some w2.heap.size)) => h.cell (a := ⟨ob, g, none⟩) q0 (fun e => by injection e with e; simp at e; omega))
      have QC := Lib.hid (fun (W : World) (h : w3.grownBy W (some w2.heap.size)) j m hm => h.cell (a := ⟨gb, j, none⟩) (qc j m hm) (fun e => by injection e with e; simp at e; omega))
      have MQ := Lib.hid (HML.out g q hq)
      have SQ := Lib.hid (fun k i h => SET.out g k i q hq h)
      have NQ := Lib.hid (NXT.out g q hq)
      have O0 := Lib.hid (show wr.ownsRow w2.heap.size 3 1 (.slice (some ⟨w2.heap.size, 0, none⟩) n n) n (cellsI (scT zs ww r n g 0 q)) from hO)
      have GR0 := Lib.hid hgr
      clear hv hob hBo q0 hgb qc ow hBg hq hO hgr
      generalize hql : q.length = ql at *
      have HQE := Lib.hid hql
      clear hql
      go_wp2_with fail
      go_loopw [11] (fun i wr => ∃ j : Nat, j ≤ ql ∧ i = .int .i64 j ∧ wr.ownsRow w2.heap.size 3 1 (.slice (some ⟨w2.heap.size, 0, none⟩) n n) n (cellsI (scT zs ww r n g j q)) ∧ w3.grownBy wr (some w2.heap.size)) (fun i _ => ql - (intOf i).toNat)
      case atStart => exact ⟨0, Nat.zero_le _, rfl, O0.out, GR0.out⟩
      case round =>
        obtain ⟨j, hj, rfl, hO, hgr⟩ := hrel
        clear O0 GR0
        have q0 := Q0.out wr hgr
        by_cases hjl : j < ql
        · have hjl2 : (j : Int) < (ql : Int) := by omega
          obtain ⟨m, hm⟩ : ∃ m, q[j]? = some m := ⟨_, List.getElem?_eq_getElem (by rw [HQE.out]; exact hjl)⟩
          have hmn := MQ.out m (List.mem_of_getElem? hm)
          have hmn2 : (m : Int) < (n : Int) := by omega
          have hm0 : (0 : Int) ≤ (m : Int) := Int.natCast_nonneg _
          have q1 := QC.out wr hgr j m hm
          obtain ⟨x, hx⟩ : ∃ x, (cellsI (scT zs ww r n g j q))[m]? = some x := ⟨_, List.getElem?_eq_getElem (by unfold cellsI; rw [List.length_map, scT_length]; exact hmn)⟩
          have c0 := (hO.cellAt m (by omega)).trans hx
          have r0 := hO.frozenAt m
          have st := (hO.stored m (.int .i64 (g : Int))).1
          have e1 : (cellsI (scT zs ww r n g j q)).set m (.int .i64 (g : Int)) = cellsI (scT zs ww r n g (j + 1) q) := by
            unfold cellsI
            rw [← SQ.out j m hm, List.map_set]
          rw [e1] at st
          have ST := Lib.hid st
          have GS2 := Lib.hid (grown_set hgr m (.int .i64 (g : Int)))
          clear hO hgr st e1 hm hx
          go_wp2_with fail
          go_roundw
          case rel => exact ⟨j + 1, by omega, by go_num, ST.out, GS2.out⟩
          case measure => simp [intOf]; omega
        · obtain rfl : j = ql := by omega
          have O2 := Lib.hid (show wr.ownsRow w2.heap.size 3 1 (.slice (some ⟨w2.heap.size, 0, none⟩) n n) n (cellsI (scT zs ww r n (g + 1) 0 [])) from by rw [← NQ.out]; exact hO)
          have G2 := Lib.hid hgr
          clear hO hgr
          go_wp2_with fail
          go_roundw
          case rel => exact ⟨g + 1, by omega, by go_num, O2.out, G2.out⟩
          case measure => simp [intOf]; omega
    · obtain rfl : g = gl := by omega
      have O6 := Lib.hid (show wr.ownsRow w.heap.size 3 1 (.slice (some ⟨w2.heap.size, 0, none⟩) n n) (gsV zs n ww r).length (cellsI (gsV zs n ww r)) by
        rw [HV.out, gsT_length, ← ALL.out]; exact own_.own_base hO HB.out.size)
      have B6 := Lib.hid ((HB.out.trans (B3.out.mono HB.out.size)).grown hgr (Nat.le_trans HB.out.size B3.out.size) (fun k e => by injection e with e; rw [← e]; exact HB.out.size))
      clear hO hgr
      go_wp2_with fail
      go_ret2
      exact ⟨_, rfl, O6.out, B6.out⟩

set_option maxRecDepth 100000 in
set_option maxHeartbeats 4000000 in
theorem lonelySightings (zs : List Int) (ww r : Int) (A : Option Addr) (n c : Nat) (w : World) (hn : n ≤ 1048577) (h1 : RdZ 5 w w.heap.size A n zs) :
    Calls Try.prog 41 #[.slice A n c, .int .i64 ww, .int .i64 r] w fun e w' => ∃ v, e = .returned (.tuple #[v, .bool (asB zs n ww r)]) ∧ w'.ownsRow w.heap.size 3 1 v (loV zs n ww r).length (cellsI (loV zs n ww r)) ∧ Below w.heap.size w w' := by
  have H := fun (W : World) (hb : Below w.heap.size w W) => asked13 zs ww r A n c W hn (h1.next hb)
  have EB := (Below.refl w.heap.size w).alloc (Nat.le_refl _) (.cells #[] 3)
  have EO := own_.own_empty w 3
  have hbo : w.heap.size < (w.alloc (.cells #[] 3)).heap.size := by rw [World.size_alloc]; omega
  cases hq : asB zs n ww r
  · rw [hq] at H
    have HV := Lib.hid (loV_no hq)
    have H := Lib.hid (H _ EB)
    have HEB := Lib.hid EB
    have HEO := Lib.hid EO
    clear hq h1 EB EO
    go_enter Try.func41, Try.ntmps41
    go_upto_region 2 with fail
    generalize w.alloc (.cells #[] 3) = W0 at *
    go_wp2_with fail
    refine H.out.mono ?_
    rintro e w1 ⟨rfl, hb⟩
    have HB := Lib.hid (HEB.out.trans (hb.mono HEB.out.size))
    have HO := Lib.hid (own_.own_below HEO.out hb)
    clear hb
    go_wp2_with fail
    go_ret2
    exact ⟨_, rfl, by rw [HV.out]; exact HO.out, HB.out⟩
  rw [hq] at H
  have HV := Lib.hid (loV_yes hq)
  have hsv := (asB_yes hq).1
  have hn20 := (svB_yes hsv).2
  have GR := Lib.hid (fun (W : World) (hb : Below w.heap.size w W) => groups13 zs ww r A n c W hsv (h1.next hb))
  obtain ⟨iI, hiI, hzI0, hzI1, hzI2⟩ := info_parts infoI
  have H := Lib.hid (H _ EB)
  have HEB := Lib.hid EB
  have HEO := Lib.hid EO
  clear hq h1 hsv EB EO
  go_enter Try.func41, Try.ntmps41
  go_upto_region 2 with fail
  generalize w.alloc (.cells #[] 3) = W0 at *
  go_wp2_with fail
  refine H.out.mono ?_
  rintro e w2 ⟨rfl, hb⟩
  have HB2 := Lib.hid (HEB.out.trans (hb.mono HEB.out.size))
  have HO2 := Lib.hid (own_.own_below HEO.out hb)
  have hbo2 : w.heap.size < w2.heap.size := Nat.lt_of_lt_of_le hbo hb.size
  clear hb
  go_wp2_with fail
  refine (GR.out w2 HB2.out).mono ?_
  rintro e w3 ⟨v3, rfl, hG, hb3⟩
  obtain ⟨A3, c3, rfl⟩ := hG.slice
  have O3 := Lib.hid (own_.own_below HO2.out hb3)
  have B3 := Lib.hid (HB2.out.trans (hb3.mono HB2.out.size))
  have HG := Lib.hid hG
  have HNE := Lib.hid (grp_ne (zs := zs) (w := ww) (r := r) (k := n))
  have HGL := Lib.hid (Nat.le_trans (grp_len zs ww r n) hn20)
  have ALL := Lib.hid (lo_is zs n ww r)
  have hw3 : w.heap.size < w3.heap.size := Nat.lt_of_lt_of_le hbo2 hb3.size
  clear hG hb3 GR HB2 HO2 HEB HEO H
  generalize grp zs ww r n = G at *
  generalize hgl : G.length = gl at *
  have HGE := Lib.hid hgl
  clear hgl
  go_wp2_with fail
  go_loopw [8, 10] (fun v i wr => ∃ g : Nat, g ≤ gl ∧ i = .int .i64 g ∧ wr.ownsRow w.heap.size 3 1 v (lsT G g).length (cellsI (lsT G g)) ∧ w3.grownBy wr (some w.heap.size) ∧ (∀ x, v.ownBlock = some x → x = w.heap.size ∨ w3.heap.size ≤ x) ∧ Below w.heap.size w wr) (fun _ i _ => gl - (intOf i).toNat)
  case atStart => exact ⟨0, Nat.zero_le _, rfl, O3.out, grown_refl _ _, fun x hx => .inl (by injection hx with hx; exact hx.symm), B3.out⟩
  case round =>
    obtain ⟨g, hg, rfl, hO, hgr, hbl, hb⟩ := hrel
    clear O3
    have hgl20 := HGL.out
    by_cases hlt : g < gl
    · have hlt2 : (g : Int) < (gl : Int) := by omega
      obtain ⟨q, hq⟩ : ∃ q, G[g]? = some q := ⟨_, List.getElem?_eq_getElem (by rw [HGE.out]; exact hlt)⟩
      have hq0 := HNE.out g q hq
      obtain ⟨ob, oc, gb, uc, hv, hob, hBo, q0', -, hgb, qc, ow, -⟩ := HG.out.read hq hq0
      obtain rfl : A3 = some ⟨ob, 0, none⟩ := by injection hv
      have hBg := (ow.lt gb rfl).1
      have q0 := hgr.cell (a := ⟨ob, g, none⟩) q0' (fun e => by injection e with e; simp at e; omega)
      have hq00 : q[0]? = some (q.headD 0) := by cases q with
        | nil => simp at hq0
        | cons a l => rfl
      have q1 := hgr.cell (a := ⟨gb, 0, none⟩) (qc 0 _ hq00) (fun e => by injection e with e; simp at e; omega)
      obtain ⟨A5, c5, rfl⟩ := own_sliceZ hO
      have HS := Lib.hid (show lsT G (g + 1) = if q.length = 1 then lsT G g ++ [((q.headD 0 : Nat) : Int)] else lsT G g by rw [lsT, List.getD_eq_getElem?_getD, hq]; rfl)
      have HLL := Lib.hid (lsT_len G g)
      have HOk := Lib.hid hO
      have HGR := Lib.hid hgr
      have HBL := Lib.hid hbl
      have HBk := Lib.hid hb
      have hwr := hb.size
      have hql1 : (0 : Int) < (q.length : Int) := by omega
      clear hv hob hBo q0' hgb qc ow hBg hq hO hgr hbl hb hq00
      generalize q.headD 0 = m at *
      generalize hql : q.length = ql at *
      clear hql
      generalize lsT G g = L at *
      by_cases he : ql = 1
      · have g1 : ((ql : Int) == 1) = true := by rw [he]; rfl
        have HL := Lib.hid (show lsT G (g + 1) = L ++ [(m : Int)] by rw [HS.out, if_pos he])
        subst he
        clear HS
        have O5 := Lib.hid (HOk.out.alloc (.cells #[.int .i64 (m : Int)] 3))
        go_wp2_with (at_builtin; refine wpList_append_any rfl (.tmp 34) (.tmp 41) 27 rfl w.heap.size 3 iI (.int .i64 0) 1 8 Try.underlying27 hiI hzI0 hzI1 hzI2 rfl (by decide) _ L.length (cellsI L) rfl O5.out ⟨wr.heap.size, 0, none⟩ 1 1 [.int .i64 (m : Int)] rfl rfl (cell_one_new _ _ _) (own_.one_cell _ rfl) (by unfold maxLen; have := HLL.out; omega) (by have := HLL.out; omega) (by rw [World.size_alloc]; omega) ?_; intro v6 w6 o6 g6 n6; obtain ⟨A6, c6, rfl⟩ := own_sliceZ o6)
        have O6 := Lib.hid (show w6.ownsRow w.heap.size 3 1 (.slice A6 (L.length + 1) c6) (lsT G (g + 1)).length (cellsI (lsT G (g + 1))) by rw [HL.out]; exact own_growI o6)
        have B6 := Lib.hid ((HBk.out.alloc HBk.out.size (.cells #[.int .i64 (m : Int)] 3)).grown g6 (by rw [World.size_alloc]; omega) (own_.row_ge O5.out))
        have GR6 := Lib.hid (grown_far (grown_far HGR.out (grown_allocZ wr (.cells #[.int .i64 (m : Int)] 3) (some w.heap.size)) (fun x e => .inl (by injection e with e; exact e.symm))) g6 (fun x e => HBL.out x e))
        have N6 := Lib.hid (show ∀ x, (Value.slice A6 (L.length + 1) c6).ownBlock = some x → x = w.heap.size ∨ w3.heap.size ≤ x from fun x e => by
          rcases n6 with h | h
          · exact HBL.out x (h.symm.trans e)
          · rw [h] at e
            injection e with e
            have := HGR.out.size
            rw [World.size_alloc] at e
            right; omega)
        clear o6 g6 n6 O5 q0 q1 HBL HGR
        go_wp2_with fail
        go_roundw
        case rel => exact ⟨g + 1, by omega, by go_num, O6.out, GR6.out, N6.out, B6.out⟩
        case measure => simp [intOf]; omega
      · have g1 : ((ql : Int) == 1) = false := beq_eq_false_iff_ne.mpr (by omega)
        have HL := Lib.hid (show lsT G (g + 1) = L by rw [HS.out, if_neg he])
        clear HS he
        go_wp2_with fail
        go_roundw
        case rel => exact ⟨g + 1, by omega, by go_num, by rw [HL.out]; exact HOk.out, HGR.out, HBL.out, HBk.out⟩
        case measure => simp [intOf]; omega
    · obtain rfl : g = gl := by omega
      obtain ⟨A5, c5, rfl⟩ := own_sliceZ hO
      have O6 := Lib.hid (show wr.ownsRow w.heap.size 3 1 (.slice A5 (lsT G g).length c5) (loV zs n ww r).length (cellsI (loV zs n ww r)) by rw [HV.out, ← ALL.out]; exact hO)
      have B6 := Lib.hid hb
      clear hO hb hgr hbl
      generalize (lsT G g).length = l at *
      go_wp2_with fail
      go_ret2
      exact ⟨_, rfl, O6.out, B6.out⟩

set_option maxRecDepth 100000 in
set_option maxHeartbeats 2000000 in
theorem siteCounts (zs : List Int) (A : Option Addr) (n c : Nat) (w : World) (hn : n ≤ 1048577) (h1 : RdZ 5 w w.heap.size A n zs) :
    Calls Try.prog 39 #[.slice A n c] w fun e w' => ∃ v, e = .returned (.tuple #[v, .bool (svB zs n)]) ∧ w'.ownsRow w.heap.size 3 1 v (cnV zs n).length (cellsI (cnV zs n)) ∧ Below w.heap.size w w' := by
  have H := good13 zs A n c w hn h1
  cases hq : svB zs n
  · rw [hq] at H
    have HV := Lib.hid (cnV_no hq)
    have H := Lib.hid H
    clear hq h1
    go_enter Try.func39, Try.ntmps39
    go_wp2_with fail
    refine H.out.mono ?_
    rintro e w1 ⟨rfl, hb⟩
    have HB := Lib.hid hb
    have EO := Lib.hid (own_.own_empty w1 3)
    have EB := Lib.hid (hb.alloc hb.size (.cells #[] 3))
    clear hb
    go_wp2_with fail
    go_ret2
    exact ⟨_, rfl, by rw [HV.out]; exact own_.own_base EO.out HB.out.size, EB.out⟩
  rw [hq] at H
  have HV := Lib.hid (cnV_yes hq)
  have HS := Lib.hid hq
  have hn20 := (svB_yes hq).2
  obtain ⟨i0, hi, hz0, hz1, hz2⟩ := info_parts infoI
  have HR := Lib.hid h1
  have H := Lib.hid H
  clear hq h1
  go_enter Try.func39, Try.ntmps39
  go_wp2_with fail
  refine H.out.mono ?_
  rintro e w2 ⟨rfl, hb⟩
  have HB := Lib.hid hb
  clear hb
  go_wp2_with (at_make; refine wpList_make_full _ rfl _ _ 27 rfl w2.heap.size 3 i0 (.int .i64 0) 1 Try.underlying27 hi hz0 hz1 _ _ _ _ 9 rfl rfl rfl rfl (by rw [hz2]; omega) (by unfold maxLen; omega) (Nat.le_refl _) ?_; intro w1 hown hg)
  have O1 := Lib.hid (show w1.ownsRow w2.heap.size 3 1 (.slice (some ⟨w2.heap.size, 0, none⟩) 9 9) 9 (cellsI (cnT zs 0)) from by rw [cnT_zero, ← made_zero 9]; exact hown)
  have B1 := Lib.hid ((Below.refl w2.heap.size w2).grown hg (Nat.le_refl _) (fun k e => by cases e))
  clear hown hg
  go_loopw [5] (fun i wr => ∃ k : Nat, k ≤ n ∧ i = .int .i64 k ∧ wr.ownsRow w2.heap.size 3 1 (.slice (some ⟨w2.heap.size, 0, none⟩) 9 9) 9 (cellsI (cnT zs k)) ∧ Below w2.heap.size w2 wr) (fun i _ => n - (intOf i).toNat)
  case atStart => exact ⟨0, Nat.zero_le _, rfl, O1.out, B1.out⟩
  case round =>
    obtain ⟨k, hk, rfl, hO, hb⟩ := hrel
    clear O1 B1
    by_cases hlt : k < n
    · have hlt2 : (k : Int) < (n : Int) := by omega
      obtain ⟨b1, o1, rfl, -, p0, p1, p2, p3, p4⟩ := cellsE (HR.out.below (HB.out.trans (hb.mono HB.out.size)) (Nat.le_refl _)) hlt
      obtain ⟨-, ⟨t1, t9⟩, -⟩ := sv_at HS.out hlt
      obtain ⟨s, hs⟩ : ∃ s : Nat, fld 5 zs k 1 = ((s + 1 : Nat) : Int) := ⟨(fld 5 zs k 1 - 1).toNat, by omega⟩
      have hs9 : s < 9 := by omega
      obtain ⟨v, hv, v0, v1, hset⟩ := cnT_get (zs := zs) (k := k) hs9
      have CG := Lib.hid (show (cellsI (cnT zs k))[s]? = some (.int .i64 v) by unfold cellsI; rw [List.getElem?_map, hv]; rfl)
      have HSET := Lib.hid (show (cellsI (cnT zs k)).set s (.int .i64 (v + 1)) = cellsI (cnT zs (k + 1)) by unfold cellsI; rw [← hset hs, List.map_set])
      have hs0 : (0 : Int) ≤ (s : Int) := Int.natCast_nonneg _
      have hs8 : (s : Int) < 9 := by omega
      have e1 : IntKind.i64.wrap (fld 5 zs k 1 - 1) = (s : Int) := by rw [IntWalk.i64_in _ (by omega)]; omega
      have e2 : IntKind.i64.wrap (v + 1) = v + 1 := IntWalk.i64_in _ (by omega)
      clear hset hv t1 t9 hs hs9
      generalize fld 5 zs k 0 = u0 at *
      generalize fld 5 zs k 1 = u1 at *
      generalize fld 5 zs k 2 = u2 at *
      generalize fld 5 zs k 3 = u3 at *
      generalize fld 5 zs k 4 = u4 at *
      have hs9 : s < 9 := by omega
      have OB := Lib.hid hO
      have c0 := (OB.out.cellAt s (by omega)).trans (CG.out)
      have r0 := OB.out.frozenAt s
      have HB2 := Lib.hid (hb.setCell (p := ⟨w2.heap.size, s, none⟩) (Nat.le_refl _) (.int .i64 (v + 1)))
      have st := (OB.out.stored s (.int .i64 (v + 1))).1
      rw [HSET.out] at st
      have ST := Lib.hid st
      clear st hO hb CG HSET
      go_wp2_with fail
      go_roundw
      case rel => exact ⟨k + 1, by omega, by go_num, ST.out, HB2.out⟩
      case measure => simp [intOf]; omega
    · obtain rfl : k = n := by omega
      have O6 := Lib.hid (show wr.ownsRow w.heap.size 3 1 (.slice (some ⟨w2.heap.size, 0, none⟩) 9 9) (cnV zs k).length (cellsI (cnV zs k)) by rw [HV.out, cnT_length]; exact own_.own_base hO HB.out.size)
      have B6 := Lib.hid (HB.out.trans (hb.mono HB.out.size))
      clear hO hb
      go_wp2_with fail
      go_ret2
      exact ⟨_, rfl, O6.out, B6.out⟩
end Go.Proofs.Ytcfkkmlmjekhiaa.plth
