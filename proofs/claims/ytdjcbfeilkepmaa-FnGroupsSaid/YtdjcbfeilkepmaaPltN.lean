/- impl's PlotsOf. -/
import Derived.Test.YtdjcbfeilkepmaaPltQ
import Derived.Test.YtdjcbfeilkepmaaPltN0
namespace Go.Proofs.Ytdjcbfeilkepmaa.pltn
open Go.RowKit Go.Proofs.Ytdjcbfeilkepmaa.ints Go.Proofs.Ytdjcbfeilkepmaa.lst Go.Proofs.Ytdjcbfeilkepmaa.in_ Go.Proofs.Ytdjcbfeilkepmaa.ats Go.Proofs.Ytdjcbfeilkepmaa.pos Go.Proofs.Ytdjcbfeilkepmaa.plt Go.Proofs.Ytdjcbfeilkepmaa.pltm Go.Proofs.Ytdjcbfeilkepmaa.plte Go.Proofs.Ytdjcbfeilkepmaa.plti Go.Proofs.Ytdjcbfeilkepmaa.pltj Go.Proofs.Ytdjcbfeilkepmaa.pltk Go.Proofs.Ytdjcbfeilkepmaa.pltq Go.Proofs.Ytdjcbfeilkepmaa.pltn0 Go.Proofs.Ytdjcbfeilkepmaa.rws

set_option maxRecDepth 100000 in
set_option maxHeartbeats 4000000 in
theorem plotsOf (zs : List Int) (ww r : Int) (A : Option Addr) (n c : Nat) (w : World) (hn : n ≤ 1048577) (h1 : RdZ 5 w w.heap.size A n zs) :
    Calls Try.prog 27 #[.slice A n c, .int .i64 ww, .int .i64 r] w fun e w' => ∃ v, e = .returned (.tuple #[v, .bool (asB zs n ww r)]) ∧ GP zs w.heap.size w' v (ggV zs n ww r) ∧ Below w.heap.size w w' := by
  have H := groupsOf zs ww r A n c w hn h1
  cases hq : asB zs n ww r
  · rw [hq] at H
    have HV := Lib.hid (ggV_no hq)
    have H := Lib.hid H
    clear hq h1
    go_enter Try.func27, Try.ntmps27
    go_wp2_with fail
    refine H.out.mono ?_
    rintro e w1 ⟨v1, v2, rfl, -, -, hb⟩
    have HB := Lib.hid hb
    clear hb
    go_wp2_with fail
    go_ret2
    exact ⟨_, rfl, by rw [HV.out]; exact GP.nil (World.ownsRow_nil w1 _ _ _), HB.out⟩
  rw [hq, ggV_yes hq] at H
  have HV := Lib.hid (ggV_yes hq)
  have hsv := (asB_yes hq).1
  have hn20 := (svB_yes hsv).2
  have HS := Lib.hid hsv
  have HG20 := Lib.hid (Nat.le_trans (grp_len zs ww r n) hn20)
  obtain ⟨iP, hiP, hzP0, hzP1, hzP2⟩ := info_parts pltn0.infoP
  have H := Lib.hid H
  clear h1 hq hsv
  go_enter Try.func27, Try.ntmps27
  go_wp2_with fail
  refine H.out.mono ?_
  rintro e w1 ⟨v1, v2, rfl, -, h3, hb⟩
  obtain ⟨A2, c2, rfl⟩ := h3.slice
  have HG := Lib.hid h3
  have HB := Lib.hid hb
  have hgl20 := HG20.out
  have HNE := Lib.hid (grp_ne (zs := zs) (w := ww) (r := r) (k := n))
  have HSM := Lib.hid (fun g q (h : (grp zs ww r n)[g]? = some q) => grp_small h)
  have HML := Lib.hid (fun g q (h : (grp zs ww r n)[g]? = some q) => grp_lt h)
  clear h3 hb H HG20
  generalize grp zs ww r n = G at *
  generalize hgl : G.length = gl at *
  have HGE := Lib.hid hgl
  clear hgl
  go_wp2_with fail
  go_loopw [11, 26] (fun v i wr => ∃ k : Nat, k ≤ gl ∧ i = .int .i64 k ∧ GP zs w1.heap.size wr v (G.take k) ∧ Below w1.heap.size w1 wr) (fun _ i _ => gl - (intOf i).toNat)
  case atStart => exact ⟨0, Nat.zero_le _, rfl, by rw [List.take_zero]; exact GP.nil (World.ownsRow_nil ..), Below.refl _ _⟩
  case round =>
    obtain ⟨k, hk, rfl, hP, hb⟩ := hrel
    by_cases hlt : k < gl
    · have hlt2 : (k : Int) < (gl : Int) := by omega
      obtain ⟨q, hq⟩ : ∃ q, G[k]? = some q := ⟨_, List.getElem?_eq_getElem (by rw [HGE.out]; exact hlt)⟩
      obtain ⟨ob, oc, Au, uc, hv, hob, -, q0, -, ow, -⟩ := (HG.out.below hb).read hq
      obtain rfl : A2 = some ⟨ob, 0, none⟩ := by injection hv
      have PO := Lib.hid (plotOf zs n q Au q.length uc wr rfl (HNE.out k q hq) (Nat.le_trans (HSM.out k q hq) hn20) HS.out (HML.out k q hq) (RdZ.of_own ow (flat_length zs q)))
      have HTK := Lib.hid (show G.take (k + 1) = G.take k ++ [q] by rw [List.take_succ_eq_append_getElem (List.getElem?_eq_some_iff.1 hq).1, (List.getElem?_eq_some_iff.1 hq).2])
      have htl : (G.take k).length = k := by rw [List.length_take, HGE.out]; omega
      obtain ⟨A5, c5, rfl⟩ := hP.slice
      rw [htl] at hP ⊢
      obtain ⟨us, hul, hown, hins⟩ := hP
      rw [htl] at hul
      have HUL := Lib.hid (show us.length = (G.take k).length by rw [htl]; exact hul)
      have HOW := Lib.hid hown
      have HIN := Lib.hid hins
      have HTL := Lib.hid htl
      have hbs := hb.size
      have HBk := Lib.hid hb
      clear hv hob ow hown hins hul htl hb hq
      generalize hql : q.length = ql at *
      clear hql
      generalize hGk : G.take k = Gk at *
      clear hGk
      have HPC := Lib.hid (show plc zs q = fun u => [.int .i64 (plS zs q), .int .i64 (plA zs q), .int .i64 (plX zs q), .int .i64 (plY zs q), u] from rfl)
      go_upto_region 8 with fail
      go_wp2_with fail
      refine PO.out.mono ?_
      rintro e w2 ⟨v, rfl, hov, hb2⟩
      obtain ⟨Av, cv, rfl⟩ := own_sliceZ hov
      have OV := Lib.hid hov
      have B2 := Lib.hid (HBk.out.trans (hb2.mono hbs))
      have HB2 := Lib.hid hb2
      have O2 := Lib.hid ((own_.own_below HOW.out hb2).alloc (.cells #[.int .i64 (plS zs q), .int .i64 (plA zs q), .int .i64 (plX zs q), .int .i64 (plY zs q), .slice Av ql cv] 50))
      have h2s := B2.out.size
      rw [HTL.out] at O2
      clear hov hb2 q0
      go_wp2_with (at_builtin; refine wpList_append_any rfl (.tmp 30) (.tmp 33) 44 rfl w1.heap.size 50 iP (.agg #[.int .i64 0, .int .i64 0, .int .i64 0, .int .i64 0, .slice none 0 0]) 5 56 Try.underlying44 hiP hzP0 hzP1 hzP2 rfl (by decide) _ k (plCells zs Gk us) rfl O2.out ⟨w2.heap.size, 0, none⟩ 1 1 (plc zs q (.slice Av ql cv)) rfl rfl (cells_new w2 50 #[.int .i64 (plS zs q), .int .i64 (plA zs q), .int .i64 (plX zs q), .int .i64 (plY zs q), .slice Av ql cv]) (plc_one zs q Av ql cv) (by unfold maxLen; omega) (by omega) (by rw [World.size_alloc]; omega) ?_; intro v6 w6 o6 g6 n6; obtain ⟨A6, c6, rfl⟩ := own_sliceZ o6)
      have A2' := Lib.hid (HB2.out.trans (((Below.refl w2.heap.size w2).alloc (Nat.le_refl _) (.cells #[.int .i64 (plS zs q), .int .i64 (plA zs q), .int .i64 (plX zs q), .int .i64 (plY zs q), .slice Av ql cv] 50)).mono HB2.out.size))
      have P6 := Lib.hid (show GP zs w1.heap.size w6 (.slice A6 (k + 1) c6) (G.take (k + 1)) by
        rw [HTK.out]
        exact GP.push HUL.out HOW.out HIN.out hbs A2'.out (OV.out.alloc _) g6 (by rw [HTL.out]; exact o6))
      have B6 := Lib.hid ((HBk.out.trans (A2'.out.mono hbs)).grown g6 (by rw [World.size_alloc]; omega) (own_.row_ge O2.out))
      clear o6 g6 n6 O2 A2'
      go_wp2_with fail
      go_roundw
      case rel => exact ⟨k + 1, by omega, by go_num, P6.out, B6.out⟩
      case measure => simp [intOf]; omega
    · obtain rfl : gl = k := by omega
      have hP2 := hP; rw [show gl = G.length from HGE.out.symm, List.take_length] at hP2
      obtain ⟨A5, c5, rfl⟩ := hP2.slice
      have HP := Lib.hid (show GP zs w.heap.size wr (.slice A5 G.length c5) (ggV zs n ww r) by rw [HV.out]; exact hP2.base HB.out.size)
      have BB := Lib.hid (HB.out.trans (hb.mono HB.out.size))
      clear hP hP2 hb
      go_wp2_with fail
      go_ret2
      exact ⟨_, rfl, HP.out, BB.out⟩
end Go.Proofs.Ytdjcbfeilkepmaa.pltn
