/- spec's PlotsOf. -/
import Derived.Test.YtdjcbfeilkepmaaPltN0
import Derived.Test.YtdjcbfeilkepmaaPutN
import Derived.Test.YtdjcbfeilkepmaaPltG
import Derived.Test.YtdjcbfeilkepmaaPltX
import Derived.Deep.RegionHeld3
import Derived.OwnWalk
namespace Go.Proofs.Ytdjcbfeilkepmaa.pltt
open Go.RowKit Go.Proofs.Ytdjcbfeilkepmaa.ints Go.Proofs.Ytdjcbfeilkepmaa.lst Go.Proofs.Ytdjcbfeilkepmaa.in_ Go.Proofs.Ytdjcbfeilkepmaa.ats Go.Proofs.Ytdjcbfeilkepmaa.pos Go.Proofs.Ytdjcbfeilkepmaa.plt Go.Proofs.Ytdjcbfeilkepmaa.pltm Go.Proofs.Ytdjcbfeilkepmaa.plte Go.Proofs.Ytdjcbfeilkepmaa.plts Go.Proofs.Ytdjcbfeilkepmaa.pltg Go.Proofs.Ytdjcbfeilkepmaa.pltn0 Go.Proofs.Ytdjcbfeilkepmaa.rws

theorem putA (B : Nat) (xs : List Int) (y : Int) (u : Value) (m : Nat) (w : World) (hm : xs.length = m) (hn : m ≤ 1048576) (hB : B ≤ w.heap.size) (h : w.ownsRow B 3 1 u m (cellsI xs)) :
    Calls Try.prog 88 #[u, .int .i64 y] w fun e w' => ∃ v, e = .returned v ∧ w'.ownsRow B 3 1 v (putq.put xs y).length (cellsI (putq.put xs y)) ∧ Below w.heap.size w w' := by
  subst hm
  rcases h.2 with ⟨rfl, e0⟩ | ⟨g, cap, cur, rfl, hB', hh, hle, _⟩
  · obtain rfl : xs = [] := List.length_eq_zero_iff.1 e0
    exact (putn.l1Put_nil B y w hB).mono fun e w' ⟨v, h1, h2, h3⟩ => ⟨v, h1, h2, h3⟩
  · exact putr.l1Put B xs y g xs.length cap w hn hB hle h
theorem own_empty5 (w : World) : (w.alloc (.cells #[] 50)).ownsRow w.heap.size 50 5 (.slice (some ⟨w.heap.size, 0, none⟩) 0 0) 0 [] :=
  ⟨rfl, .inr ⟨w.heap.size, 0, #[], rfl, Nat.le_refl _, heap_alloc_new w _, Nat.le_refl _, by unfold maxLen; omega, rfl, rfl⟩⟩
theorem getD_at {q : List Nat} {k m : Nat} (h : q[k]? = some m) : q.getD k 0 = m := by rw [List.getD_eq_getElem?_getD, h]; rfl

set_option maxRecDepth 100000 in
set_option maxHeartbeats 4000000 in
theorem plotsOf (zs : List Int) (ww r : Int) (A : Option Addr) (n c : Nat) (w : World) (hn : n ≤ 1048577) (h1 : RdZ 5 w w.heap.size A n zs) :
    Calls Try.prog 28 #[.slice A n c, .int .i64 ww, .int .i64 r] w fun e w' => ∃ v, e = .returned (.tuple #[v, .bool (asB zs n ww r)]) ∧ GP zs w.heap.size w' v (ggV zs n ww r) ∧ Below w.heap.size w w' := by
  have H0 := Lib.hid (fun (W : World) (hb : Below w.heap.size w W) => asked13 zs ww r A n c W hn (h1.next hb))
  cases hq : asB zs n ww r
  · have H := Lib.hid (fun (W : World) (hb : Below w.heap.size w W) => hq ▸ H0.out W hb)
    have HV := Lib.hid (ggV_no hq)
    clear hq h1 H0
    go_enter Try.func28, Try.ntmps28
    go_wp2_with fail
    refine (H.out _ ((Below.refl w.heap.size w).alloc (Nat.le_refl _) _)).mono ?_
    rintro e w1 ⟨rfl, hb⟩
    have HO := Lib.hid (own_.own_below (own_empty5 w) hb)
    have HB := Lib.hid (((Below.refl w.heap.size w).alloc (Nat.le_refl _) (.cells #[] 50)).trans (hb.mono (by rw [World.size_alloc]; omega)))
    clear hb
    go_wp2_with fail
    go_ret2
    exact ⟨_, rfl, by rw [HV.out]; exact GP.nil HO.out, HB.out⟩
  have H := Lib.hid (fun (W : World) (hb : Below w.heap.size w W) => hq ▸ H0.out W hb)
  have HV := Lib.hid (ggV_yes hq)
  have hsv := (asB_yes hq).1
  have hn20 := (svB_yes hsv).2
  have GR := Lib.hid (fun (W : World) (hb : Below w.heap.size w W) => groups13 zs ww r A n c W hsv (h1.next hb))
  have HR := Lib.hid h1
  have HSV := Lib.hid (fun i (hi : i < n) => sv_at hsv hi)
  have HG20 := Lib.hid (Nat.le_trans (grp_len zs ww r n) hn20)
  have HST := Lib.hid (fun g q (h : (grp zs ww r n)[g]? = some q) => pt_is (grp_site h))
  have HNE := Lib.hid (grp_ne (zs := zs) (w := ww) (r := r) (k := n))
  have HSM := Lib.hid (fun g q (h : (grp zs ww r n)[g]? = some q) => grp_small h)
  have HML := Lib.hid (fun g q (h : (grp zs ww r n)[g]? = some q) => grp_lt h)
  obtain ⟨iP, hiP, hzP0, hzP1, hzP2⟩ := info_parts pltn0.infoP
  clear h1 hq hsv H0
  go_enter Try.func28, Try.ntmps28
  go_wp2_with fail
  refine (H.out _ ((Below.refl w.heap.size w).alloc (Nat.le_refl _) _)).mono ?_
  rintro e w1 ⟨rfl, hb⟩
  have HO := Lib.hid (own_.own_below (own_empty5 w) hb)
  have HB1 := Lib.hid (((Below.refl w.heap.size w).alloc (Nat.le_refl _) (.cells #[] 50)).trans (hb.mono (by rw [World.size_alloc]; omega)))
  have hws : w.heap.size < w1.heap.size := by have := hb.size; rw [World.size_alloc] at this; omega
  clear hb
  go_wp2_with fail
  refine (GR.out _ HB1.out).mono ?_
  rintro e w2 ⟨v, rfl, hG, hb2⟩
  obtain ⟨A2, c2, rfl⟩ := hG.slice
  have HG := Lib.hid hG
  have HB := Lib.hid (HB1.out.trans (hb2.mono HB1.out.size))
  have HO2 := Lib.hid (own_.own_below HO.out hb2)
  have hgl20 := HG20.out
  clear hG hb2 HB1 HO H GR HG20
  generalize grp zs ww r n = G at *
  generalize hgl : G.length = gl at *
  have HGE := Lib.hid hgl
  clear hgl
  go_wp2_with fail
  go_loopw [8, 10] (fun v i wr => ∃ g : Nat, g ≤ gl ∧ i = .int .i64 g ∧ GP zs w.heap.size wr v (G.take g) ∧ GS w1.heap.size wr (.slice A2 gl c2) G ∧ Below w.heap.size w wr) (fun _ i _ => gl - (intOf i).toNat)
  case atStart => exact ⟨0, Nat.zero_le _, rfl, by rw [List.take_zero]; exact GP.nil HO2.out, HG.out, HB.out⟩
  case round =>
    obtain ⟨g, hk, rfl, hP, hG, hb⟩ := hrel
    by_cases hlt : g < gl
    · have hlt2 : (g : Int) < (gl : Int) := by omega
      obtain ⟨q, hq⟩ : ∃ q, G[g]? = some q := ⟨_, List.getElem?_eq_getElem (by rw [HGE.out]; exact hlt)⟩
      have hq1 := HNE.out g q hq
      have hq20 := Nat.le_trans (HSM.out g q hq) hn20
      obtain ⟨A5, c5, rfl⟩ := hP.slice
      obtain ⟨ob0, oc0, gb0, uc0, hv0, hob0, -, q00, -, -, -, -, -⟩ := hG.read hq hq1
      obtain rfl : A2 = some ⟨ob0, 0, none⟩ := by injection hv0
      have CQ := Lib.hid (show ∀ WZ : World, Below wr.heap.size wr WZ → World.cell? WZ ⟨ob0, g, none⟩ = some (.slice (some ⟨gb0, 0, none⟩) q.length uc0) from fun WZ hz => (hz.cell (p := ⟨ob0, g, none⟩) hob0).trans q00)
      clear hv0 hob0 q00
      have hg0 : (0 : Int) ≤ (g : Int) := Int.natCast_nonneg _
      have htl : (G.take g).length = g := by rw [List.length_take, HGE.out]; omega
      rw [htl] at hP ⊢
      have HP0 := Lib.hid hP
      have HBk0 := Lib.hid hb
      have HG0 := Lib.hid hG
      clear hP hb hG
      go_upto_region 8 with fail
      go_region_held3 (fun w' => World.cell? w' ⟨ob0, g, none⟩ = some (.slice (some ⟨gb0, 0, none⟩) q.length uc0)) (first
        | exact CQ.out _ (Below.refl wr.heap.size wr).drew
        | go_keep) (fail)
      have hP := HP0.out.below (Below.refl wr.heap.size wr).drew
      have hb := HBk0.out.trans ((Below.refl wr.heap.size wr).drew.mono HBk0.out.size)
      have hG := HG0.out.below (Below.refl wr.heap.size wr).drew
      clear HP0 HBk0 CQ HG0
      generalize wr.drew = ws at *
      obtain ⟨ob, oc, gb, uc, hv, hob, -, q0, -, hgb, qc, -, -⟩ := hG.read hq hq1
      obtain rfl : ob0 = ob := by injection hv with e; injection e with e; injection e
      have HTK := Lib.hid (show G.take (g + 1) = G.take g ++ [q] by rw [List.take_succ_eq_append_getElem (List.getElem?_eq_some_iff.1 hq).1, (List.getElem?_eq_some_iff.1 hq).2])
      obtain ⟨us, hul, hown, hins⟩ := hP
      rw [htl] at hul
      have HUL := Lib.hid (show us.length = (G.take g).length by rw [htl]; exact hul)
      have HOW := Lib.hid hown
      have HIN := Lib.hid hins
      have HTL := Lib.hid htl
      have hbs : w.heap.size ≤ ws.heap.size := hb.size
      have HGS := Lib.hid hG
      have HBk := Lib.hid hb
      have HRr := Lib.hid (HR.out.below hb (Nat.le_refl _))
      have HPT := Lib.hid (HST.out g q hq)
      have HMQ := Lib.hid (HML.out g q hq)
      have CI := Lib.hid (pltx.cx_in (b := 9899) (j := 3) (fun i hi => (HSV.out i hi).2.2.2.1) (HML.out g q hq))
      have CJ := Lib.hid (pltx.cx_in (b := 9899) (j := 4) (fun i hi => (HSV.out i hi).2.2.2.2) (HML.out g q hq))
      have HQC := Lib.hid (fun (W : World) (h : Below ws.heap.size ws W) => (show World.cell? W ⟨ob0, g, none⟩ = some (.slice (some ⟨gb, 0, none⟩) q.length uc) ∧ ∀ j m, q[j]? = some m → W.cell? ⟨gb, j, none⟩ = some (.int .i64 ((m : Nat) : Int)) from ⟨(h.cell (p := ⟨ob0, g, none⟩) hob).trans q0, fun j m hm => (h.cell (p := ⟨gb, j, none⟩) hgb).trans (qc j m hm)⟩))
      have hqh : q[0]? = some (q.headD 0) := by cases q with
        | nil => simp at hq1
        | cons a l => rfl
      obtain ⟨b1, o1, eA, lb, p0, -, p2, -, -⟩ := cellsE HRr.out (HMQ.out _ (List.mem_of_getElem? hqh))
      have hm0n := HMQ.out _ (List.mem_of_getElem? hqh)
      have c0 := qc 0 _ hqh
      have HPS := Lib.hid (show plS zs q = fld 5 zs (q.headD 0) 0 ∧ plA zs q = fld 5 zs (q.headD 0) 2 from ⟨rfl, rfl⟩)
      have HPX := Lib.hid (show plX zs q = mean (cx zs 3 q) q.length ∧ plY zs q = mean (cx zs 4 q) q.length from ⟨rfl, rfl⟩)
      clear hG hv hob hown hins hul htl hb hq HST HNE HSM HML hqh qc
      generalize hql : q.length = ql at *
      have HQL := Lib.hid hql
      clear hql
      generalize hGk : G.take g = Gk at *
      clear hGk
      have HPC := Lib.hid (show plc zs q = fun u => [.int .i64 (plS zs q), .int .i64 (plA zs q), .int .i64 (plX zs q), .int .i64 (plY zs q), u] from rfl)
      generalize q.headD 0 = m0 at *
      rw [← HPS.out.1] at p0
      rw [← HPS.out.2] at p2
      have hm0n2 : (m0 : Int) < (n : Int) := by omega
      have hm00 : (0 : Int) ≤ (m0 : Int) := Int.natCast_nonneg _
      have hql0 : (0 : Int) < (ql : Int) := by omega
      subst eA
      go_upto_region 9 with fail
      have CS := Lib.hid (show ∀ WZ : World, Below ws.heap.size ws WZ → World.cell? WZ ⟨ob0, g, none⟩ = some (.slice (some ⟨gb, 0, none⟩) ql uc) ∧ World.cell? WZ ⟨gb, 0, none⟩ = some (.int .i64 (m0 : Int)) ∧ World.cell? WZ ⟨b1, o1 + m0 * 5, none⟩ = some (.int .i64 (plS zs q)) ∧ World.cell? WZ ⟨b1, o1 + m0 * 5 + 2, none⟩ = some (.int .i64 (plA zs q)) from fun WZ hz => ⟨(hz.cell (World.block_lt_of_cell? _ _ q0)).trans q0, (hz.cell (World.block_lt_of_cell? _ _ c0)).trans c0, (hz.cell (World.block_lt_of_cell? _ _ p0)).trans p0, (hz.cell (World.block_lt_of_cell? _ _ p2)).trans p2⟩)
      clear q0 c0 p0 p2 hgb
      go_region_held3 (fun w' => World.cell? w' ⟨ob0, g, none⟩ = some (.slice (some ⟨gb, 0, none⟩) ql uc) ∧ World.cell? w' ⟨gb, 0, none⟩ = some (.int .i64 (m0 : Int)) ∧ World.cell? w' ⟨b1, o1 + m0 * 5, none⟩ = some (.int .i64 (plS zs q)) ∧ World.cell? w' ⟨b1, o1 + m0 * 5 + 2, none⟩ = some (.int .i64 (plA zs q))) (first
        | exact CS.out _ (Below.refl ws.heap.size ws).drew
        | exact CS.out _ ((Below.refl ws.heap.size ws).alloc (Nat.le_refl _) _).drew
        | go_keep) (fail)
      have HA0 := Lib.hid ((newS 50 #[.int .i64 (plS zs q), .int .i64 (plA zs q), .int .i64 0, .int .i64 0, .slice none 0 0] ws).drew)
      clear CS
      generalize (ws.alloc (.cells #[.int .i64 (plS zs q), .int .i64 (plA zs q), .int .i64 0, .int .i64 0, .slice none 0 0] 50)).drew = V0 at *
      go_wp2_with fail
      go_loopw [11, 12, 15] (fun x y i wr => ∃ k : Nat, k ≤ ql ∧ i = .int .i64 k ∧ x = .int .i64 (smT (cx zs 3 q) k) ∧ y = .int .i64 (smT (cx zs 4 q) k) ∧ ∃ u, AtS 50 #[.int .i64 (plS zs q), .int .i64 (plA zs q), .int .i64 0, .int .i64 0, u] ws wr ws.heap.size ∧ wr.ownsRow (ws.heap.size + 1) 3 1 u (ptT zs q k).length (cellsI (ptT zs q k))) (fun _ _ i _ => ql - (intOf i).toNat)
      case atStart => exact ⟨0, Nat.zero_le _, rfl, rfl, rfl, .slice none 0 0, HA0.out, World.ownsRow_nil ..⟩
      case round =>
        obtain ⟨k, hk, rfl, rfl, rfl, u, hA, hO⟩ := hrel
        obtain ⟨i3, j3⟩ := smT_in (k := k) (fun j hj => CI.out j (by omega))
        obtain ⟨i4, j4⟩ := smT_in (k := k) (fun j hj => CJ.out j (by omega))
        have j3' : smT (cx zs 3 q) k ≤ 197980 := by
          have : (k : Int) ≤ 20 := by omega
          omega
        have j4' : smT (cx zs 4 q) k ≤ 197980 := by
          have : (k : Int) ≤ 20 := by omega
          omega
        clear j3 j4
        by_cases hkl : k < ql
        · have hkl2 : (k : Int) < (ql : Int) := by omega
          have hk0 : (0 : Int) ≤ (k : Int) := Int.natCast_nonneg _
          obtain ⟨mk, hmk⟩ : ∃ m, q[k]? = some m := ⟨_, List.getElem?_eq_getElem (by rw [HQL.out]; exact hkl)⟩
          have hmkn := HMQ.out mk (List.mem_of_getElem? hmk)
          have hmk2 : (mk : Int) < (n : Int) := by omega
          have hmk0 : (0 : Int) ≤ (mk : Int) := Int.natCast_nonneg _
          obtain ⟨q0, qc⟩ := HQC.out wr hA.1
          have c1 := qc k mk hmk
          obtain ⟨b2, o2, eA, -, p0, p1, p2, p3, p4⟩ := cellsE (HRr.out.below hA.1 hbs) hmkn
          obtain ⟨rfl, rfl⟩ : b1 = b2 ∧ o1 = o2 := by injection eA with e; injection e with e1 e2; exact ⟨e1, e2⟩
          obtain ⟨-, -, -, VI3, VI4⟩ := HSV.out mk hmkn
          have S1 := Lib.hid (show smT (cx zs 3 q) (k + 1) = smT (cx zs 3 q) k + fld 5 zs mk 3 by rw [smT, cx_get hmk])
          have S2 := Lib.hid (show smT (cx zs 4 q) (k + 1) = smT (cx zs 4 q) k + fld 5 zs mk 4 by rw [smT, cx_get hmk])
          have T1 := Lib.hid (show ptT zs q (k + 1) = putq.put (ptT zs q k) (fld 5 zs mk 1) by rw [ptT, getD_at hmk])
          have hpl := ptT_len zs q k
          have HA := Lib.hid hA
          have HO := Lib.hid hO
          clear eA qc hA hO hmk
          generalize fld 5 zs mk 0 = u0 at *
          generalize fld 5 zs mk 1 = u1 at *
          generalize fld 5 zs mk 2 = u2 at *
          generalize fld 5 zs mk 3 = u3 at *
          generalize fld 5 zs mk 4 = u4 at *
          generalize smT (cx zs 3 q) k = s3 at *
          generalize smT (cx zs 4 q) k = s4 at *
          generalize ptT zs q k = xs at *
          have e3 : IntKind.i64.wrap (s3 + u3) = s3 + u3 := IntWalk.i64_in _ (by omega)
          have e4 : IntKind.i64.wrap (s4 + u4) = s4 + u4 := IntWalk.i64_in _ (by omega)
          go_upto_region 14 with fail
          clear q0 c1 p0 p1 p2 p3 p4
          have X := Lib.hid (newS 53 #[.int .i64 u0, .int .i64 u1, .int .i64 u2, .int .i64 u3, .int .i64 u4] wr)
          have HA1 := Lib.hid (HA.out.alloc (.cells #[.int .i64 u0, .int .i64 u1, .int .i64 u2, .int .i64 u3, .int .i64 u4] 53))
          have HO1 := Lib.hid (own_.own_below HO.out ((Below.refl wr.heap.size wr).alloc (Nat.le_refl _) (.cells #[.int .i64 u0, .int .i64 u1, .int .i64 u2, .int .i64 u3, .int .i64 u4] 53)))
          clear HA HO
          generalize hwb : wr.heap.size = bx at *
          generalize wr.alloc (.cells #[.int .i64 u0, .int .i64 u1, .int .i64 u2, .int .i64 u3, .int .i64 u4] 53) = V at *
          have x1 : V.cell? ⟨bx, 1, none⟩ = some (.int .i64 u1) := X.out.cell 1
          have x3 : V.cell? ⟨bx, 3, none⟩ = some (.int .i64 u3) := X.out.cell 3
          have x4 : V.cell? ⟨bx, 4, none⟩ = some (.int .i64 u4) := X.out.cell 4
          have z4 : V.cell? ⟨ws.heap.size, 4, none⟩ = some u := HA1.out.cell 4
          have PU := Lib.hid (putA (ws.heap.size + 1) xs u1 u xs.length V rfl (by omega) (HA1.out.2.2.1) HO1.out)
          clear X HO1 hwb
          go_wp2_with fail
          refine PU.out.mono ?_
          rintro e w3 ⟨v, rfl, ho, hb3⟩
          obtain ⟨Av, cv, rfl⟩ := own_sliceZ ho
          have HA3 := HA1.out.old hb3
          have y4 : w3.cell? ⟨ws.heap.size, 4, none⟩ = some u := HA3.cell 4
          have f4 := HA3.frozen 4
          have HA4 := Lib.hid (HA3.set 4 (.slice Av (putq.put xs u1).length cv))
          have HO4 := Lib.hid (own_kept ho (grown_set (grown_refl w3 (some ws.heap.size)) 4 (.slice Av (putq.put xs u1).length cv)) (fun q e => by injection e with e; omega))
          clear HA3 ho hb3 PU x1 x3 x4 z4 HA1
          go_wp2_with fail
          go_roundw
          case rel => exact ⟨k + 1, by omega, by go_num, by rw [S1.out], by rw [S2.out], _, HA4.out, by rw [T1.out]; exact HO4.out⟩
          case measure => simp [intOf]; omega
        · obtain rfl : ql = k := by omega
          have hpl : (ptT zs q ql).length = ql := by rw [HPT.out, plL_length, HQL.out]
          rw [hpl, HPT.out] at hO
          obtain ⟨Av, cv, rfl⟩ := own_sliceZ hO
          have HX := Lib.hid (show plX zs q = (2 * smT (cx zs 3 q) ql + (ql : Int)) / (2 * (ql : Int)) from HPX.out.1)
          have HY := Lib.hid (show plY zs q = (2 * smT (cx zs 4 q) ql + (ql : Int)) / (2 * (ql : Int)) from HPX.out.2)
          obtain ⟨k3, l3⟩ := mean_in hq1 (fun j hj => CI.out j hj)
          obtain ⟨k4, l4⟩ := mean_in hq1 (fun j hj => CJ.out j hj)
          rw [← HPX.out.1] at k3 l3
          rw [← HPX.out.2] at k4 l4
          have HO := Lib.hid hO
          have HA := Lib.hid hA
          have z2 : wr.cell? ⟨ws.heap.size, 2, none⟩ = some (.int .i64 0) := hA.cell 2
          have z3 : wr.cell? ⟨ws.heap.size, 3, none⟩ = some (.int .i64 0) := hA.cell 3
          have f2 := hA.frozen 2
          have f3 := hA.frozen 3
          clear hO hA hpl CI CJ HPT HPX
          generalize smT (cx zs 3 q) ql = s3 at *
          generalize smT (cx zs 4 q) ql = s4 at *
          have e1 : IntKind.i64.wrap (2 * s3) = 2 * s3 := IntWalk.i64_in _ (by omega)
          have e2 : IntKind.i64.wrap (2 * s3 + (ql : Int)) = 2 * s3 + (ql : Int) := IntWalk.i64_in _ (by omega)
          have e3 : IntKind.i64.wrap (2 * (ql : Int)) = 2 * (ql : Int) := IntWalk.i64_in _ (by omega)
          have e4 : IntKind.i64.wrap (2 * s4) = 2 * s4 := IntWalk.i64_in _ (by omega)
          have e5 : IntKind.i64.wrap (2 * s4 + (ql : Int)) = 2 * s4 + (ql : Int) := IntWalk.i64_in _ (by omega)
          have hk0 : ¬ (2 * (ql : Int)) = 0 := by omega
          have hk1 : ¬ (ql : Int) = 0 := by omega
          have EX : IntKind.i64.wrap ((2 * s3 + (ql : Int)).tdiv (2 * (ql : Int))) = plX zs q := by
            rw [Int.tdiv_eq_ediv_of_nonneg (by omega), ← HX.out]
            exact IntWalk.i64_in _ (by omega)
          have EY : IntKind.i64.wrap ((2 * s4 + (ql : Int)).tdiv (2 * (ql : Int))) = plY zs q := by
            rw [Int.tdiv_eq_ediv_of_nonneg (by omega), ← HY.out]
            exact IntWalk.i64_in _ (by omega)
          go_upto_region 17 with fail
          go_region_held3 (fun w' => True) (first
            | trivial
            | go_keep) (fail)
          have HA5 := Lib.hid (((HA.out.set 2 (.int .i64 (plX zs q))).set 3 (.int .i64 (plY zs q))).drew)
          have HO5 := Lib.hid (own_.own_below (own_kept (own_kept HO.out (grown_set (grown_refl wr (some ws.heap.size)) 2 (.int .i64 (plX zs q))) (fun q e => by injection e with e; omega)) (grown_set (grown_refl _ (some ws.heap.size)) 3 (.int .i64 (plY zs q))) (fun q e => by injection e with e; omega)) (Below.refl _ _).drew)
          clear HA HO z2 z3 f2 f3 e1 e2 e3 e4 e5 EX EY
          generalize ((wr.setCell ⟨ws.heap.size, 2, none⟩ (.int .i64 (plX zs q))).setCell ⟨ws.heap.size, 3, none⟩ (.int .i64 (plY zs q))).drew = V at *
          have y0 : V.cell? ⟨ws.heap.size, 0, none⟩ = some (.int .i64 (plS zs q)) := HA5.out.cell 0
          have y1 : V.cell? ⟨ws.heap.size, 1, none⟩ = some (.int .i64 (plA zs q)) := HA5.out.cell 1
          have y2 : V.cell? ⟨ws.heap.size, 2, none⟩ = some (.int .i64 (plX zs q)) := HA5.out.cell 2
          have y3 : V.cell? ⟨ws.heap.size, 3, none⟩ = some (.int .i64 (plY zs q)) := HA5.out.cell 3
          have y4 : V.cell? ⟨ws.heap.size, 4, none⟩ = some (.slice Av ql cv) := HA5.out.cell 4
          have h5s := HA5.out.1.size
          have O2 := Lib.hid ((own_.own_below HOW.out HA5.out.1).alloc (.cells #[.int .i64 (plS zs q), .int .i64 (plA zs q), .int .i64 (plX zs q), .int .i64 (plY zs q), .slice Av ql cv] 50))
          rw [HTL.out] at O2
          go_wp2_with (at_builtin; refine wpList_append_any rfl (.tmp 107) (.tmp 109) 44 rfl w.heap.size 50 iP (.agg #[.int .i64 0, .int .i64 0, .int .i64 0, .int .i64 0, .slice none 0 0]) 5 56 Try.underlying44 hiP hzP0 hzP1 hzP2 rfl (by decide) _ g (plCells zs Gk us) rfl O2.out ⟨V.heap.size, 0, none⟩ 1 1 (plc zs q (.slice Av ql cv)) rfl rfl (cells_new V 50 #[.int .i64 (plS zs q), .int .i64 (plA zs q), .int .i64 (plX zs q), .int .i64 (plY zs q), .slice Av ql cv]) (plc_one zs q Av ql cv) (by unfold maxLen; omega) (by omega) (by rw [World.size_alloc]; omega) ?_; intro v6 w6 o6 g6 n6; obtain ⟨A6, c6, rfl⟩ := own_sliceZ o6)
          have A2' := Lib.hid (HA5.out.1.alloc HA5.out.1.size (.cells #[.int .i64 (plS zs q), .int .i64 (plA zs q), .int .i64 (plX zs q), .int .i64 (plY zs q), .slice Av ql cv] 50))
          have P6 := Lib.hid (show GP zs w.heap.size w6 (.slice A6 (g + 1) c6) (G.take (g + 1)) by
            rw [HTK.out]
            exact GP.push HUL.out HOW.out HIN.out hbs A2'.out ((own_.own_base HO5.out (Nat.le_succ _)).alloc _) g6 (by rw [HTL.out]; exact o6))
          have G6 := Lib.hid (show GS w1.heap.size w6 (.slice (some ⟨ob0, 0, none⟩) gl c2) G from Gr.kept (HGS.out.below A2'.out) O2.out (by decide) (by decide) g6)
          have B6 := Lib.hid ((HBk.out.trans (A2'.out.mono hbs)).grown g6 (by rw [World.size_alloc]; omega) (own_.row_ge O2.out))
          clear o6 g6 n6 O2 A2' y0 y1 y2 y3 y4
          go_wp2_with fail
          go_roundw
          case rel => exact ⟨g + 1, by omega, by go_num, P6.out, G6.out, B6.out⟩
          case measure => simp [intOf]; omega
    · obtain rfl : gl = g := by omega
      have hP2 := hP
      rw [show gl = G.length from HGE.out.symm, List.take_length] at hP2
      obtain ⟨A5, c5, rfl⟩ := hP2.slice
      have HP := Lib.hid (show GP zs w.heap.size wr (.slice A5 G.length c5) (ggV zs n ww r) by rw [HV.out]; exact hP2)
      have BB := Lib.hid hb
      clear hP hP2 hb hG
      go_wp2_with fail
      go_ret2
      exact ⟨_, rfl, HP.out, BB.out⟩
end Go.Proofs.Ytdjcbfeilkepmaa.pltt
