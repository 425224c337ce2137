/- spec's GroupSightings, LonelySightings, SiteCounts. -/
import Derived.Test.YtdjcbfeilkepmaaPltG
namespace Go.Proofs.Ytdjcbfeilkepmaa.plth
open Go.RowKit Go.Proofs.Ytdjcbfeilkepmaa.ints Go.Proofs.Ytdjcbfeilkepmaa.lst Go.Proofs.Ytdjcbfeilkepmaa.in_ Go.Proofs.Ytdjcbfeilkepmaa.ats Go.Proofs.Ytdjcbfeilkepmaa.pos Go.Proofs.Ytdjcbfeilkepmaa.plt Go.Proofs.Ytdjcbfeilkepmaa.pltm Go.Proofs.Ytdjcbfeilkepmaa.plte Go.Proofs.Ytdjcbfeilkepmaa.plts Go.Proofs.Ytdjcbfeilkepmaa.pltg Go.Proofs.Ytdjcbfeilkepmaa.rws

theorem made_zero (n : Nat) : (madeCells (Value.cells (.int .i64 0)) (n * 1)).toList = cellsI (List.replicate n 0) := by
  refine List.ext_getElem (by simp [madeCells, cellsI]) fun i h1 h2 => ?_
  simp [madeCells, Value.cells, Nat.mod_one, cellsI]

set_option maxRecDepth 100000 in
set_option maxHeartbeats 4000000 in
theorem groupSightings (zs : List Int) (ww r : Int) (A : Option Addr) (n c : Nat) (w : World) (hn : n ≤ 1048577) (h1 : RdZ 5 w w.heap.size A n zs) :
    Calls Try.prog 25 #[.slice A n c, .int .i64 ww, .int .i64 r] w fun e w' => ∃ v, e = .returned (.tuple #[v, .bool (asB zs n ww r)]) ∧ w'.ownsRow w.heap.size 3 1 v (gsV zs n ww r).length (cellsI (gsV zs n ww r)) ∧ Below w.heap.size w w' := by
  have H := asked13 zs ww r A n c w hn h1
  cases hq : asB zs n ww r
  · rw [hq] at H
    have HV := Lib.hid (gsV_no hq)
    have H := Lib.hid H
    clear hq h1
    go_enter Try.func25, Try.ntmps25
    go_wp2_with fail
    refine H.out.mono ?_
    rintro e w1 ⟨rfl, hb⟩
    have HB := Lib.hid hb
    have EO := Lib.hid (own_.own_empty w1 3)
    have EB := Lib.hid (hb.alloc hb.size (.cells #[] 3))
    clear hb
    go_wp2_with fail
    go_ret2
    exact ⟨_, rfl, by rw [HV.out]; exact own_.own_base EO.out HB.out.size, EB.out⟩
  rw [hq] at H
  have HV := Lib.hid (gsV_yes hq)
  have hsv := (asB_yes hq).1
  have hn20 := (svB_yes hsv).2
  have GR := Lib.hid (fun (W : World) (hb : Below w.heap.size w W) => groups13 zs ww r A n c W hsv (h1.next hb))
  obtain ⟨i0, hi, hz0, hz1, hz2⟩ := info_parts infoI
  have H := Lib.hid H
  clear hq h1 hsv
  go_enter Try.func25, Try.ntmps25
  go_wp2_with fail
  refine H.out.mono ?_
  rintro e w2 ⟨rfl, hb⟩
  have HB := Lib.hid hb
  clear hb
  go_wp2_with (at_make; refine wpList_make_full _ rfl _ _ 28 rfl w2.heap.size 3 i0 (.int .i64 0) 1 Try.underlying28 hi hz0 hz1 _ _ _ _ n rfl rfl rfl rfl (by rw [hz2]; omega) (by unfold maxLen; omega) (Nat.le_refl _) ?_; intro w1 hown hg)
  have O1 := Lib.hid (show w1.ownsRow w2.heap.size 3 1 (.slice (some ⟨w2.heap.size, 0, none⟩) n n) n (cellsI (scT zs ww r n 0 0 [])) from by
    have e := made_zero n
    rw [← scT_zero zs ww r n []] at e
    rw [← e]; exact hown)
  have B1 := Lib.hid ((Below.refl w2.heap.size w2).grown hg (Nat.le_refl _) (fun k e => by cases e))
  clear hown hg
  refine (GR.out w1 (HB.out.trans (B1.out.mono HB.out.size))).mono ?_
  rintro e w3 ⟨v3, rfl, hG, hb3⟩
  obtain ⟨A3, c3, rfl⟩ := hG.slice
  have O3 := Lib.hid (own_.own_below O1.out hb3)
  have B3 := Lib.hid (B1.out.trans (hb3.mono B1.out.size))
  have HG := Lib.hid hG
  have HNE := Lib.hid (grp_ne (zs := zs) (w := ww) (r := r) (k := n))
  have HSM := Lib.hid (fun g q (h : (grp zs ww r n)[g]? = some q) => grp_small h)
  have HML := Lib.hid (fun g q (h : (grp zs ww r n)[g]? = some q) => grp_lt h)
  have HGL := Lib.hid (Nat.le_trans (grp_len zs ww r n) hn20)
  have SET := Lib.hid (fun g k i q (h1 : (grp zs ww r n)[g]? = some q) (h2 : q[k]? = some i) => scT_set h1 h2)
  have NXT := Lib.hid (fun g q (h1 : (grp zs ww r n)[g]? = some q) => scT_next [] h1)
  have ALL := Lib.hid (scT_all zs ww r n [])
  have HB3 := Lib.hid hb3
  have hbw := own_lt O1.out
  clear hG O1 B1 hb3 GR
  generalize grp zs ww r n = G at *
  generalize hgl : G.length = gl at *
  have HGE := Lib.hid hgl
  clear hgl
  go_wp2_with fail
  go_loopw [10] (fun i wr => ∃ g : Nat, g ≤ gl ∧ i = .int .i64 g ∧ wr.ownsRow w2.heap.size 3 1 (.slice (some ⟨w2.heap.size, 0, none⟩) n n) n (cellsI (scT zs ww r n g 0 [])) ∧ w3.grownBy wr (some w2.heap.size)) (fun i _ => gl - (intOf i).toNat)
  case atStart => exact ⟨0, Nat.zero_le _, rfl, O3.out, grown_refl _ _⟩
  case round =>
    obtain ⟨g, hg, rfl, hO, hgr⟩ := hrel
    clear O3
    have hgl20 := HGL.out
    by_cases hlt : g < gl
    · have hlt2 : (g : Int) < (gl : Int) := by omega
      obtain ⟨q, hq⟩ : ∃ q, G[g]? = some q := ⟨_, List.getElem?_eq_getElem (by rw [HGE.out]; exact hlt)⟩
      have hq0 := HNE.out g q hq
      have hqs := HSM.out g q hq
      obtain ⟨ob, oc, gb, uc, hv, hob, hBo, q0, -, hgb, qc, ow, -⟩ := HG.out.read hq hq0
      obtain rfl : A3 = some ⟨ob, 0, none⟩ := by injection hv
      have hBg := (ow.lt gb rfl).1
      have Q0 := Lib.hid (fun (W : World) (h : w3.grownBy W (some w2.heap.size)) => h.cell (a := ⟨ob, g, none⟩) q0 (fun e => by injection e with e; simp at e; omega))
      have QC := Lib.hid (fun (W : World) (h : w3.grownBy W (some w2.heap.size)) j m hm => h.cell (a := ⟨gb, j, none⟩) (qc j m hm) (fun e => by injection e with e; simp at e; omega))
      have MQ := Lib.hid (HML.out g q hq)
      have SQ := Lib.hid (fun k i h => SET.out g k i q hq h)
      have NQ := Lib.hid (NXT.out g q hq)
      have O0 := Lib.hid (show wr.ownsRow w2.heap.size 3 1 (.slice (some ⟨w2.heap.size, 0, none⟩) n n) n (cellsI (scT zs ww r n g 0 q)) from hO)
      have GR0 := Lib.hid hgr
      clear hv hob hBo q0 hgb qc ow hBg hq hO hgr
      generalize hql : q.length = ql at *
      have HQE := Lib.hid hql
      clear hql
      go_wp2_with fail
      go_loopw [11] (fun i wr => ∃ j : Nat, j ≤ ql ∧ i = .int .i64 j ∧ wr.ownsRow w2.heap.size 3 1 (.slice (some ⟨w2.heap.size, 0, none⟩) n n) n (cellsI (scT zs ww r n g j q)) ∧ w3.grownBy wr (some w2.heap.size)) (fun i _ => ql - (intOf i).toNat)
      case atStart => exact ⟨0, Nat.zero_le _, rfl, O0.out, GR0.out⟩
      case round =>
        obtain ⟨j, hj, rfl, hO, hgr⟩ := hrel
        clear O0 GR0
        have q0 := Q0.out wr hgr
        by_cases hjl : j < ql
        · have hjl2 : (j : Int) < (ql : Int) := by omega
          obtain ⟨m, hm⟩ : ∃ m, q[j]? = some m := ⟨_, List.getElem?_eq_getElem (by rw [HQE.out]; exact hjl)⟩
          have hmn := MQ.out m (List.mem_of_getElem? hm)
          have hmn2 : (m : Int) < (n : Int) := by omega
          have hm0 : (0 : Int) ≤ (m : Int) := Int.natCast_nonneg _
          have q1 := QC.out wr hgr j m hm
          obtain ⟨x, hx⟩ : ∃ x, (cellsI (scT zs ww r n g j q))[m]? = some x := ⟨_, List.getElem?_eq_getElem (by unfold cellsI; rw [List.length_map, scT_length]; exact hmn)⟩
          have c0 := (hO.cellAt m (by omega)).trans hx
          have r0 := hO.frozenAt m
          have st := (hO.stored m (.int .i64 (g : Int))).1
          have e1 : (cellsI (scT zs ww r n g j q)).set m (.int .i64 (g : Int)) = cellsI (scT zs ww r n g (j + 1) q) := by
            unfold cellsI
            rw [← SQ.out j m hm, List.map_set]
          rw [e1] at st
          have ST := Lib.hid st
          have GS2 := Lib.hid (grown_set hgr m (.int .i64 (g : Int)))
          clear hO hgr st e1 hm hx
          go_wp2_with fail
          go_roundw
          case rel => exact ⟨j + 1, by omega, by go_num, ST.out, GS2.out⟩
          case measure => simp [intOf]; omega
        · obtain rfl : j = ql := by omega
          have O2 := Lib.hid (show wr.ownsRow w2.heap.size 3 1 (.slice (some ⟨w2.heap.size, 0, none⟩) n n) n (cellsI (scT zs ww r n (g + 1) 0 [])) from by rw [← NQ.out]; exact hO)
          have G2 := Lib.hid hgr
          clear hO hgr
          go_wp2_with fail
          go_roundw
          case rel => exact ⟨g + 1, by omega, by go_num, O2.out, G2.out⟩
          case measure => simp [intOf]; omega
    · obtain rfl : g = gl := by omega
      have O6 := Lib.hid (show wr.ownsRow w.heap.size 3 1 (.slice (some ⟨w2.heap.size, 0, none⟩) n n) (gsV zs n ww r).length (cellsI (gsV zs n ww r)) by
        rw [HV.out, gsT_length, ← ALL.out]; exact own_.own_base hO HB.out.size)
      have B6 := Lib.hid ((HB.out.trans (B3.out.mono HB.out.size)).grown hgr (Nat.le_trans HB.out.size B3.out.size) (fun k e => by injection e with e; rw [← e]; exact HB.out.size))
      clear hO hgr
      go_wp2_with fail
      go_ret2
      exact ⟨_, rfl, O6.out, B6.out⟩

end Go.Proofs.Ytdjcbfeilkepmaa.plth
