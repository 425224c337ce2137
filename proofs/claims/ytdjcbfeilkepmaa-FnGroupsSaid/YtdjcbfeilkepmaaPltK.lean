/- impl's groupsOf. -/
import Derived.Test.YtdjcbfeilkepmaaPltJ
import Derived.Test.YtdjcbfeilkepmaaTailH
import Derived.OwnWalk
namespace Go.Proofs.Ytdjcbfeilkepmaa.pltk
open Go.RowKit Go.Proofs.Ytdjcbfeilkepmaa.ints Go.Proofs.Ytdjcbfeilkepmaa.lst Go.Proofs.Ytdjcbfeilkepmaa.in_ Go.Proofs.Ytdjcbfeilkepmaa.ats Go.Proofs.Ytdjcbfeilkepmaa.pos Go.Proofs.Ytdjcbfeilkepmaa.plt Go.Proofs.Ytdjcbfeilkepmaa.pltm Go.Proofs.Ytdjcbfeilkepmaa.plte Go.Proofs.Ytdjcbfeilkepmaa.plti Go.Proofs.Ytdjcbfeilkepmaa.pltj Go.Proofs.Ytdjcbfeilkepmaa.rws Go.Proofs.Ytdjcbfeilkepmaa.tailh

theorem infoG : (Try.prog.info? 53).map (fun i => (i.zero, i.size, i.bytes)) = some (some (.agg #[.int .i64 0, .int .i64 0, .int .i64 0, .int .i64 0, .int .i64 0]), 5, 40) := by kernel_rfl
theorem infoGS : (Try.prog.info? 40).map (fun i => (i.zero, i.size, i.bytes)) = some (some (.slice none 0 0), 1, 24) := by kernel_rfl
theorem five_cells (a b c d e : Int) : ∀ u ∈ [Value.int .i64 a, .int .i64 b, .int .i64 c, .int .i64 d, .int .i64 e], u.oneCell' = true := by
  intro u hu
  simp at hu
  rcases hu with rfl | rfl | rfl | rfl | rfl <;> rfl
theorem put_grown {G : List (List Nat)} {p k : Nat} (hp : ¬ p < G.length) (hl : p ≤ G.length) : (G ++ [[]])[p]? = some [] ∧ put G p k = (G ++ [[]]).set p ([] ++ [k]) := by
  obtain rfl : p = G.length := by omega
  refine ⟨by simp, ?_⟩
  rw [put_end, List.set_append, if_neg (Nat.lt_irrefl _), Nat.sub_self]; rfl

set_option maxRecDepth 100000 in
set_option maxHeartbeats 8000000 in
theorem groupsOf (zs : List Int) (ww r : Int) (A : Option Addr) (n c : Nat) (w : World) (hn : n ≤ 1048577) (h1 : RdZ 5 w w.heap.size A n zs) :
    Calls Try.prog 84 #[.slice A n c, .int .i64 ww, .int .i64 r] w fun e w' => ∃ v1 v2, e = .returned (.tuple #[v1, v2, .bool (asB zs n ww r)]) ∧ w'.ownsRow w.heap.size 3 1 v1 (gsV zs n ww r).length (cellsI (gsV zs n ww r)) ∧ GI zs w.heap.size w' v2 (ggV zs n ww r) ∧ Below w.heap.size w w' := by
  have H := fun (W : World) (hb : Below w.heap.size w W) => isValidSightings zs A n c W hn (h1.next hb)
  have S1 := Lib.hid ((newS 3 #[.int .i64 ww] w).alloc (.cells #[.int .i64 r] 3))
  have S2 := Lib.hid ((newS 3 #[.int .i64 ww] w).next 3 #[.int .i64 r])
  rw [World.size_alloc] at S2
  have HR := Lib.hid h1
  have HNo := Lib.hid (fun (h : asB zs n ww r = false) (W : World) => show W.ownsRow w.heap.size 3 1 (.slice none 0 0) (gsV zs n ww r).length (cellsI (gsV zs n ww r)) ∧ GI zs w.heap.size W (.slice none 0 0) (ggV zs n ww r) from by
    rw [gsV_no h, ggV_no h]
    exact ⟨World.ownsRow_nil .., Gr.nil (World.ownsRow_nil ..)⟩)
  clear h1
  cases hs : svB zs n
  · rw [hs] at H
    have HE := Lib.hid (show asB zs n ww r = false by unfold asB; rw [hs]; rfl)
    have HX := Lib.hid (HNo.out HE.out)
    have H := Lib.hid H
    clear HNo HR
    go_enter Try.func84, Try.ntmps84
    go_upto_region 1 with fail
    generalize (w.alloc (.cells #[.int .i64 ww] 3)).alloc (.cells #[.int .i64 r] 3) = W0 at *
    go_wp2_with fail
    refine (H.out W0 S1.out.1).mono ?_
    rintro e w1 ⟨rfl, hb⟩
    have S3 := Lib.hid (S1.out.old hb)
    have S4 := Lib.hid (S2.out.old hb)
    clear hb S1 S2
    have b0 : w1.cell? ⟨w.heap.size, 0, none⟩ = some (.int .i64 ww) := S3.out.cell 0
    have b1 : w1.cell? ⟨w.heap.size + 1, 0, none⟩ = some (.int .i64 r) := S4.out.cell 0
    go_wp2_with fail
    go_ret3
    exact ⟨_, _, by rw [HE.out]; rfl, (HX.out _).1, (HX.out _).2, S3.out.1⟩
  rw [hs] at H
  by_cases w0 : ww < 0
  · have HE := Lib.hid (show asB zs n ww r = false by unfold asB; rw [show isIn ww 0 60 = false from decide_eq_false (fun h => by omega), Bool.false_and, Bool.and_false])
    have HX := Lib.hid (HNo.out HE.out)
    have H := Lib.hid H
    clear HNo HR
    go_enter Try.func84, Try.ntmps84
    go_upto_region 1 with fail
    generalize (w.alloc (.cells #[.int .i64 ww] 3)).alloc (.cells #[.int .i64 r] 3) = W0 at *
    go_wp2_with fail
    refine (H.out W0 S1.out.1).mono ?_
    rintro e w1 ⟨rfl, hb⟩
    have S3 := Lib.hid (S1.out.old hb)
    have S4 := Lib.hid (S2.out.old hb)
    clear hb S1 S2
    have b0 : w1.cell? ⟨w.heap.size, 0, none⟩ = some (.int .i64 ww) := S3.out.cell 0
    have b1 : w1.cell? ⟨w.heap.size + 1, 0, none⟩ = some (.int .i64 r) := S4.out.cell 0
    go_wp2_with fail
    go_ret3
    exact ⟨_, _, by rw [HE.out]; rfl, (HX.out _).1, (HX.out _).2, S3.out.1⟩
    
  by_cases w60 : 60 < ww
  · have HE := Lib.hid (show asB zs n ww r = false by unfold asB; rw [show isIn ww 0 60 = false from decide_eq_false (fun h => by omega), Bool.false_and, Bool.and_false])
    have HX := Lib.hid (HNo.out HE.out)
    have H := Lib.hid H
    clear HNo HR
    go_enter Try.func84, Try.ntmps84
    go_upto_region 1 with fail
    generalize (w.alloc (.cells #[.int .i64 ww] 3)).alloc (.cells #[.int .i64 r] 3) = W0 at *
    go_wp2_with fail
    refine (H.out W0 S1.out.1).mono ?_
    rintro e w1 ⟨rfl, hb⟩
    have S3 := Lib.hid (S1.out.old hb)
    have S4 := Lib.hid (S2.out.old hb)
    clear hb S1 S2
    have b0 : w1.cell? ⟨w.heap.size, 0, none⟩ = some (.int .i64 ww) := S3.out.cell 0
    have b1 : w1.cell? ⟨w.heap.size + 1, 0, none⟩ = some (.int .i64 r) := S4.out.cell 0
    go_wp2_with fail
    go_ret3
    exact ⟨_, _, by rw [HE.out]; rfl, (HX.out _).1, (HX.out _).2, S3.out.1⟩
    
  by_cases r0 : r < 0
  · have HE := Lib.hid (show asB zs n ww r = false by unfold asB; rw [show isIn r 0 1000 = false from decide_eq_false (fun h => by omega), Bool.and_false, Bool.and_false])
    have HX := Lib.hid (HNo.out HE.out)
    have H := Lib.hid H
    clear HNo HR
    go_enter Try.func84, Try.ntmps84
    go_upto_region 1 with fail
    generalize (w.alloc (.cells #[.int .i64 ww] 3)).alloc (.cells #[.int .i64 r] 3) = W0 at *
    go_wp2_with fail
    refine (H.out W0 S1.out.1).mono ?_
    rintro e w1 ⟨rfl, hb⟩
    have S3 := Lib.hid (S1.out.old hb)
    have S4 := Lib.hid (S2.out.old hb)
    clear hb S1 S2
    have b0 : w1.cell? ⟨w.heap.size, 0, none⟩ = some (.int .i64 ww) := S3.out.cell 0
    have b1 : w1.cell? ⟨w.heap.size + 1, 0, none⟩ = some (.int .i64 r) := S4.out.cell 0
    go_wp2_with fail
    go_ret3
    exact ⟨_, _, by rw [HE.out]; rfl, (HX.out _).1, (HX.out _).2, S3.out.1⟩
    
  by_cases r1000 : 1000 < r
  · have HE := Lib.hid (show asB zs n ww r = false by unfold asB; rw [show isIn r 0 1000 = false from decide_eq_false (fun h => by omega), Bool.and_false, Bool.and_false])
    have HX := Lib.hid (HNo.out HE.out)
    have H := Lib.hid H
    clear HNo HR
    go_enter Try.func84, Try.ntmps84
    go_upto_region 1 with fail
    generalize (w.alloc (.cells #[.int .i64 ww] 3)).alloc (.cells #[.int .i64 r] 3) = W0 at *
    go_wp2_with fail
    refine (H.out W0 S1.out.1).mono ?_
    rintro e w1 ⟨rfl, hb⟩
    have S3 := Lib.hid (S1.out.old hb)
    have S4 := Lib.hid (S2.out.old hb)
    clear hb S1 S2
    have b0 : w1.cell? ⟨w.heap.size, 0, none⟩ = some (.int .i64 ww) := S3.out.cell 0
    have b1 : w1.cell? ⟨w.heap.size + 1, 0, none⟩ = some (.int .i64 r) := S4.out.cell 0
    go_wp2_with fail
    go_ret3
    exact ⟨_, _, by rw [HE.out]; rfl, (HX.out _).1, (HX.out _).2, S3.out.1⟩
    
  have HE := Lib.hid (show asB zs n ww r = true by unfold asB; rw [hs, isIn_of (by omega) (by omega), isIn_of (by omega) (by omega)]; rfl)
  have HS := Lib.hid hs
  have hn20 : n ≤ 20 := (svB_yes hs).2
  have HV := Lib.hid (gsV_yes HE.out)
  have HGV := Lib.hid (ggV_yes HE.out)
  obtain ⟨iI, hiI, hzI0, hzI1, hzI2⟩ := info_parts infoI
  obtain ⟨iG, hiG, hzG0, hzG1, hzG2⟩ := info_parts infoG
  obtain ⟨iS, hiS, hzS0, hzS1, hzS2⟩ := info_parts infoGS
  have H := Lib.hid H
  clear HNo hs
  go_enter Try.func84, Try.ntmps84
  go_upto_region 1 with fail
  generalize (w.alloc (.cells #[.int .i64 ww] 3)).alloc (.cells #[.int .i64 r] 3) = W0 at *
  go_wp2_with fail
  refine (H.out W0 S1.out.1).mono ?_
  rintro e w1 ⟨rfl, hb⟩
  have S3 := Lib.hid (S1.out.old hb)
  have S4 := Lib.hid (S2.out.old hb)
  clear hb S1 S2
  have b0 : w1.cell? ⟨w.heap.size, 0, none⟩ = some (.int .i64 ww) := S3.out.cell 0
  have b1 : w1.cell? ⟨w.heap.size + 1, 0, none⟩ = some (.int .i64 r) := S4.out.cell 0
  go_wp2_with fail
  clear b0 b1
  go_loopw [9, 10, 35] (fun v9 v10 i wr => ∃ k : Nat, k ≤ n ∧ i = .int .i64 k ∧ wr.ownsRow w1.heap.size 3 1 v9 k (cellsI (gsT zs ww r k)) ∧ GI zs w1.heap.size wr v10 (grp zs ww r k) ∧ Below w1.heap.size w1 wr) (fun _ _ i _ => n - (intOf i).toNat)
  case atStart => exact ⟨0, Nat.zero_le _, rfl, World.ownsRow_nil .., Gr.nil (World.ownsRow_nil ..), Below.refl _ _⟩
  case round =>
    obtain ⟨k, hk, rfl, hO, hG, hb⟩ := hrel
    by_cases hlt : k < n
    · have hlt2 : (k : Int) < (n : Int) := by omega
      obtain ⟨b1, o1, rfl, lb1, p0, p1, p2, p3, p4⟩ := cellsE (HR.out.below (S3.out.1.trans (hb.mono S3.out.1.size)) (Nat.le_refl _)) hlt
      obtain ⟨A9, c9, rfl⟩ := own_sliceZ hO
      obtain ⟨A10, c10, rfl⟩ := hG.slice
      have ASK : ∀ q ∈ grp zs ww r k, Asks zs n k q := fun q hq => by
        obtain ⟨i, hi⟩ := List.mem_iff_getElem?.1 hq
        exact ⟨HS.out, hlt, fun j hj => by have := grp_lt hi j hj; omega, grp_ne _ _ hi, by have := grp_small hi; omega⟩
      have A0 := (Below.refl wr.heap.size wr).alloc (Nat.le_refl _) (.cells #[.int .i64 (fld 5 zs k 0), .int .i64 (fld 5 zs k 1), .int .i64 (fld 5 zs k 2), .int .i64 (fld 5 zs k 3), .int .i64 (fld 5 zs k 4)] 53)
      have hw1 := hb.size
      have N0 := newS 53 #[.int .i64 (fld 5 zs k 0), .int .i64 (fld 5 zs k 1), .int .i64 (fld 5 zs k 2), .int .i64 (fld 5 zs k 3), .int .i64 (fld 5 zs k 4)] wr
      have bw : wr.cell? ⟨w.heap.size, 0, none⟩ = some (.int .i64 ww) := (hb.cell (p := ⟨w.heap.size, 0, none⟩) S3.out.2.2.1).trans (S3.out.cell 0)
      have br : wr.cell? ⟨w.heap.size + 1, 0, none⟩ = some (.int .i64 r) := (hb.cell (p := ⟨w.heap.size + 1, 0, none⟩) S4.out.2.2.1).trans (S4.out.cell 0)
      have IG := Lib.hid (indexGroup zs ww r n k w1.heap.size (grp zs ww r k) A10 (grp zs ww r k).length c10 wr.heap.size w.heap.size (w.heap.size + 1) (wr.alloc (.cells #[.int .i64 (fld 5 zs k 0), .int .i64 (fld 5 zs k 1), .int .i64 (fld 5 zs k 2), .int .i64 (fld 5 zs k 3), .int .i64 (fld 5 zs k 4)] 53)) rfl (Nat.le_trans (grp_len ..) (by omega)) ASK (N0.cell 0) (N0.cell 1) (N0.cell 2) (N0.cell 3) (N0.cell 4) ((A0.cell (World.block_lt_of_cell? _ _ bw)).trans bw) ((A0.cell (World.block_lt_of_cell? _ _ br)).trans br) (hG.below A0))
      have HO := Lib.hid hO
      have HG := Lib.hid hG
      have HB := Lib.hid hb
      have HGL := Lib.hid (show (grp zs ww r k).length ≤ 20 from Nat.le_trans (grp_len ..) (by omega))
      have HSM := Lib.hid (fun g q (h : (grp zs ww r k)[g]? = some q) => grp_small h)
      have HPL := Lib.hid (pos_le zs ww r k (grp zs ww r k))
      have HGK := Lib.hid (show grp zs ww r (k + 1) = put (grp zs ww r k) (pos zs ww r k (grp zs ww r k)) k from rfl)
      have HGT := Lib.hid (show gsT zs ww r (k + 1) = gsT zs ww r k ++ [((pos zs ww r k (grp zs ww r k) : Nat) : Int)] from gsT_succ ..)
      have HLT := Lib.hid (gsT_length zs ww r k)
      have HGX := Lib.hid (show gix zs ww r k (grp zs ww r k) = if pos zs ww r k (grp zs ww r k) < (grp zs ww r k).length then ((pos zs ww r k (grp zs ww r k) : Nat) : Int) else -1 from rfl)
      clear hO hG hb ASK A0 N0 bw br
      generalize grp zs ww r k = G at *
      generalize pos zs ww r k G = p at *
      generalize gix zs ww r k G = gx at *
      generalize gsT zs ww r k = L at *
      generalize hgl : G.length = gl at *
      have HGE := Lib.hid hgl
      clear hgl
      go_upto_region 8 with fail
      have hpr : w.heap.size < wr.heap.size := Nat.lt_of_lt_of_le S3.out.2.2.1 hw1
      generalize hW2 : wr.alloc (.cells #[.int .i64 (fld 5 zs k 0), .int .i64 (fld 5 zs k 1), .int .i64 (fld 5 zs k 2), .int .i64 (fld 5 zs k 3), .int .i64 (fld 5 zs k 4)] 53) = W2 at *
      have N2 := Lib.hid (show AtS 53 #[.int .i64 (fld 5 zs k 0), .int .i64 (fld 5 zs k 1), .int .i64 (fld 5 zs k 2), .int .i64 (fld 5 zs k 3), .int .i64 (fld 5 zs k 4)] wr W2 wr.heap.size from hW2 ▸ newS 53 #[.int .i64 (fld 5 zs k 0), .int .i64 (fld 5 zs k 1), .int .i64 (fld 5 zs k 2), .int .i64 (fld 5 zs k 3), .int .i64 (fld 5 zs k 4)] wr)
      clear hW2 p0 p1 p2 p3 p4 HR H
      go_wp2_with fail
      refine IG.out.mono ?_
      rintro e w3 ⟨rfl, hb3⟩
      have N3 := Lib.hid (N2.out.old hb3)
      have B3 := Lib.hid (HB.out.trans (N3.out.1.mono HB.out.size))
      clear hb3 N2 IG
      by_cases hp : p < gl
      · have hgx : gx = (p : Int) := by rw [HGX.out, if_pos hp]
        subst hgx
        obtain ⟨q, hq⟩ : ∃ q, G[p]? = some q := ⟨_, List.getElem?_eq_getElem (by rw [HGE.out]; exact hp)⟩
        have hqs := HSM.out p q hq
        have HPT := Lib.hid (put_old (k := k) hq)
        have HQx := Lib.hid hq
        have HPX := Lib.hid hp
        have HGx := HGE
        have GIx := Lib.hid (HG.out.below N3.out.1)
        have HOx := Lib.hid (own_.own_below HO.out N3.out.1)
        have HUB := Lib.hid (show ∀ ob (u : Value), w3.cell? ⟨ob, p, none⟩ = some u → A10 = some ⟨ob, 0, none⟩ → ∀ gb, u.ownBlock = some gb → gb ≠ wr.heap.size from fun ob u hu e1 gb hgb => by
          obtain ⟨ob2, oc2, Au, uc, hv, hob, -, q0, -, own, -⟩ := HG.out.read hq
          injection hv with hv1 hv2 hv3
          have e4 : ob2 = ob := by rw [hv1] at e1; injection e1 with e1; injection e1
          subst e4
          have := ((N3.out.1.cell (p := ⟨ob2, p, none⟩) hob).trans q0).symm.trans hu
          injection this with this
          rw [← this] at hgb
          have := (own.lt gb hgb).2
          omega)
        have NX := Lib.hid (show ∀ WZ : World, Below w3.heap.size w3 WZ → ∀ (i : Nat) (v : Value), (#[.int .i64 (fld 5 zs k 0), .int .i64 (fld 5 zs k 1), .int .i64 (fld 5 zs k 2), .int .i64 (fld 5 zs k 3), .int .i64 (fld 5 zs k 4)] : Array Value)[i]? = some v → WZ.cell? ⟨wr.heap.size, i, none⟩ = some v from fun WZ hz i v hv => ((N3.out.old hz).cell i).trans hv)
        have BX := B3
        clear hq N3 B3 HO HG HGX HB
        have hm0 : ¬ (p : Int) < 0 := by omega
        obtain ⟨ob, oc, Au, uc, hv, hob, hBo, q0, fr0, ownu, hne⟩ := GIx.out.read HQx.out
        rw [HGx.out] at hv
        obtain ⟨rfl, rfl⟩ : A10 = some ⟨ob, 0, none⟩ ∧ c10 = oc := by injection hv with e1 e2 e3; exact ⟨e1, e3⟩
        have HUX := Lib.hid (fun gb (h : (Value.slice Au q.length uc).ownBlock = some gb) => show gb ≠ ob ∧ gb ≠ wr.heap.size from ⟨hne gb h, HUB.out _ _ q0 rfl gb h⟩)
        have OU := Lib.hid ownu
        have HQL := Lib.hid hqs
        have HBO := Lib.hid hBo
        have HOB := Lib.hid hob
        have FR := Lib.hid fr0
        have Q0 := Lib.hid q0
        clear hv hob hBo q0 fr0 ownu hne
        generalize hql : q.length = ql at *
        have HQE := Lib.hid hql
        clear hql
        have hpg := HPX.out
        have hpg2 : (p : Int) < (gl : Int) := by omega
        have hp0 : (0 : Int) ≤ (p : Int) := Int.natCast_nonneg _
        have CS := Lib.hid (show ∀ WZ : World, Below w3.heap.size w3 WZ → (World.cell? WZ ⟨wr.heap.size, 0, none⟩ = some (.int .i64 (fld 5 zs k 0)) ∧ World.cell? WZ ⟨wr.heap.size, 1, none⟩ = some (.int .i64 (fld 5 zs k 1)) ∧ World.cell? WZ ⟨wr.heap.size, 2, none⟩ = some (.int .i64 (fld 5 zs k 2)) ∧ World.cell? WZ ⟨wr.heap.size, 3, none⟩ = some (.int .i64 (fld 5 zs k 3)) ∧ World.cell? WZ ⟨wr.heap.size, 4, none⟩ = some (.int .i64 (fld 5 zs k 4))) ∧ World.cell? WZ ⟨ob, p, none⟩ = some (.slice Au ql uc) from fun WZ hz => ⟨⟨NX.out WZ hz 0 _ rfl, NX.out WZ hz 1 _ rfl, NX.out WZ hz 2 _ rfl, NX.out WZ hz 3 _ rfl, NX.out WZ hz 4 _ rfl⟩, (hz.cell (p := ⟨ob, p, none⟩) HOB.out).trans Q0.out⟩)
        go_upto_region 12 with fail
        have HS0 := Lib.hid (CS.out _ (Below.refl w3.heap.size w3).drew)
        refine wp_region_tail (S := fun w' => (World.cell? w' ⟨wr.heap.size, 0, none⟩ = some (.int .i64 (fld 5 zs k 0)) ∧ World.cell? w' ⟨wr.heap.size, 1, none⟩ = some (.int .i64 (fld 5 zs k 1)) ∧ World.cell? w' ⟨wr.heap.size, 2, none⟩ = some (.int .i64 (fld 5 zs k 2)) ∧ World.cell? w' ⟨wr.heap.size, 3, none⟩ = some (.int .i64 (fld 5 zs k 3)) ∧ World.cell? w' ⟨wr.heap.size, 4, none⟩ = some (.int .i64 (fld 5 zs k 4))) ∧ World.cell? w' ⟨ob, p, none⟩ = some (.slice Au ql uc)) 10 (by kernel_rfl) HS0.out (fun hHeld => ?_)
        try simp only [Act.put]
        refine wpAnyE_take (i := 0) (v := ?vqA0) rfl (by decide +kernel) (fun _ _ _ h => h) (Or.inl ⟨by rfl, ?hqA0⟩) (by assumption) ?rqA0
        case hqA0 =>
          intro wS hSw
          obtain ⟨⟨h0, h1, h2, h3, h4⟩, hx⟩ := hSw
          go_simp
          try with_reducible rfl
        try simp only [Act.put]
        refine wpAnyE_take (i := 1) (v := ?vqA1) rfl (by decide +kernel) (fun _ _ _ h => h) (Or.inl ⟨by rfl, ?hqA1⟩) (by assumption) ?rqA1
        case hqA1 =>
          intro wS hSw
          obtain ⟨⟨h0, h1, h2, h3, h4⟩, hx⟩ := hSw
          go_simp
          try with_reducible rfl
        try simp only [Act.put]
        refine wpAnyE_take (i := 2) (v := ?vqA2) rfl (by decide +kernel) (fun _ _ _ h => h) (Or.inl ⟨by rfl, ?hqA2⟩) (by assumption) ?rqA2
        case hqA2 =>
          intro wS hSw
          obtain ⟨⟨h0, h1, h2, h3, h4⟩, hx⟩ := hSw
          go_simp
          try with_reducible rfl
        try simp only [Act.put]
        refine wpAnyE_take (i := 3) (v := ?vqA3) rfl (by decide +kernel) (fun _ _ _ h => h) (Or.inl ⟨by rfl, ?hqA3⟩) (by assumption) ?rqA3
        case hqA3 =>
          intro wS hSw
          obtain ⟨⟨h0, h1, h2, h3, h4⟩, hx⟩ := hSw
          go_simp
          try with_reducible rfl
        try simp only [Act.put]
        refine wpAnyE_take (i := 4) (v := ?vqA4) rfl (by decide +kernel) (fun _ _ _ h => h) (Or.inl ⟨by rfl, ?hqA4⟩) (by assumption) ?rqA4
        case hqA4 =>
          intro wS hSw
          obtain ⟨⟨h0, h1, h2, h3, h4⟩, hx⟩ := hSw
          go_simp
          try with_reducible rfl
        try simp only [Act.put]
        refine wpAnyE_take (i := 5) (v := ?vqA5) rfl (by decide +kernel) (fun _ _ _ h => h) (Or.inl ⟨by rfl, ?hqA5⟩) (by assumption) ?rqA5
        case hqA5 =>
          intro wS hSw
          obtain ⟨⟨h0, h1, h2, h3, h4⟩, hx⟩ := hSw
          go_simp
          try with_reducible rfl
        try simp only [Act.put]
        refine wpAnyE_take (i := 6) (v := ?vqA6) rfl (by decide +kernel) (fun _ _ _ h => h) (Or.inl ⟨by rfl, ?hqA6⟩) (by assumption) ?rqA6
        case hqA6 =>
          intro wS hSw
          obtain ⟨⟨h0, h1, h2, h3, h4⟩, hx⟩ := hSw
          go_simp
          try with_reducible rfl
        try simp only [Act.put]
        refine wpAnyE_ready (rs := [7]) (by kernel_rfl) (by simp) ?_
        refine AllReadyE.cons (i := 7) rfl (by decide) (fun K hK => ?_) AllReadyE.nil
        go_simp
        refine hK.out _ _ (CS.out _ ((Below.refl w3.heap.size w3).drew.alloc (Nat.le_refl _) _)) (fun hHeld => ?_)
        clear hK K
        try simp only [Act.put]
        refine wpAnyE_ready (rs := [8]) (by kernel_rfl) (by simp) ?_
        refine AllReadyE.cons (i := 8) rfl (by decide) (fun K hK => ?_) AllReadyE.nil
        refine step_append_sz rfl (.tmp 54) (.tmp 56) 40 rfl w1.heap.size 53 iG (.agg #[.int .i64 0, .int .i64 0, .int .i64 0, .int .i64 0, .int .i64 0]) 5 40 Try.underlying40 hiG hzG0 hzG1 hzG2 rfl (by decide) (.slice Au ql uc) ql (rowI zs q) rfl (own_.own_below OU.out ((Below.refl w3.heap.size w3).drew.alloc (Nat.le_refl _) (.cells #[.int .i64 (fld 5 zs k 0), .int .i64 (fld 5 zs k 1), .int .i64 (fld 5 zs k 2), .int .i64 (fld 5 zs k 3), .int .i64 (fld 5 zs k 4)] 53))) _ 1 1 [.int .i64 (fld 5 zs k 0), .int .i64 (fld 5 zs k 1), .int .i64 (fld 5 zs k 2), .int .i64 (fld 5 zs k 3), .int .i64 (fld 5 zs k 4)] rfl rfl (cells_new w3.drew 53 #[.int .i64 (fld 5 zs k 0), .int .i64 (fld 5 zs k 1), .int .i64 (fld 5 zs k 2), .int .i64 (fld 5 zs k 3), .int .i64 (fld 5 zs k 4)]) (five_cells _ _ _ _ _) (by unfold maxLen; have := HQL.out; omega) (by have := HQL.out; omega) (by have := BX.out.size; show w1.heap.size ≤ (w3.alloc _).heap.size; rw [World.size_alloc]; omega) ?_
        intro vz4 wz4 oz4 gz4 rz4
        obtain ⟨Az4, cz4, rfl⟩ := own_sliceZ oz4
        have A1 : Below w3.heap.size w3 (w3.drew.alloc (.cells #[.int .i64 (fld 5 zs k 0), .int .i64 (fld 5 zs k 1), .int .i64 (fld 5 zs k 2), .int .i64 (fld 5 zs k 3), .int .i64 (fld 5 zs k 4)] 53)) := (Below.refl w3.heap.size w3).drew.alloc (Nat.le_refl _) _
        have NEW := Lib.hid (show (World.cell? wz4 ⟨wr.heap.size, 0, none⟩ = some (.int .i64 (fld 5 zs k 0)) ∧ World.cell? wz4 ⟨wr.heap.size, 1, none⟩ = some (.int .i64 (fld 5 zs k 1)) ∧ World.cell? wz4 ⟨wr.heap.size, 2, none⟩ = some (.int .i64 (fld 5 zs k 2)) ∧ World.cell? wz4 ⟨wr.heap.size, 3, none⟩ = some (.int .i64 (fld 5 zs k 3)) ∧ World.cell? wz4 ⟨wr.heap.size, 4, none⟩ = some (.int .i64 (fld 5 zs k 4))) ∧ World.cell? wz4 ⟨ob, p, none⟩ = some (.slice Au ql uc) from ⟨⟨gz4.cell (NX.out _ A1 0 _ rfl) (fun e => (HUX.out _ e.symm).2 rfl), gz4.cell (NX.out _ A1 1 _ rfl) (fun e => (HUX.out _ e.symm).2 rfl), gz4.cell (NX.out _ A1 2 _ rfl) (fun e => (HUX.out _ e.symm).2 rfl), gz4.cell (NX.out _ A1 3 _ rfl) (fun e => (HUX.out _ e.symm).2 rfl), gz4.cell (NX.out _ A1 4 _ rfl) (fun e => (HUX.out _ e.symm).2 rfl)⟩, gz4.cell ((A1.cell (p := ⟨ob, p, none⟩) HOB.out).trans Q0.out) (fun e => (HUX.out _ e.symm).1 rfl)⟩)
        have sz4 : wz4.cell? ⟨ob, p, none⟩ = some (.slice Au ql uc) := NEW.out.2
        have fz4 : wz4.frozen? ⟨ob, p, none⟩ = false := (World.frozen?_of_block (a := ⟨ob, p, none⟩) (gz4.block ob (Nat.lt_of_lt_of_le HOB.out A1.size) (fun e => (HUX.out _ e.symm).1 rfl))).trans ((A1.frozen (p := ⟨ob, p, none⟩) HOB.out).trans FR.out)
        have OU1 := own_.own_below OU.out A1
        have G4 := Lib.hid ((GIx.out.below A1).app (k := k) HQx.out (by rw [HGx.out]) ((A1.cell (p := ⟨ob, p, none⟩) HOB.out).trans Q0.out) gz4 (by rw [HQE.out]; exact oz4) rz4)
        have O9 := Lib.hid (own_kept_at (kept_row (own_.own_below HOx.out A1) OU1 (by decide) gz4) (grown_set (grown_refl wz4 (some ob)) p (.slice Az4 (ql + 1) cz4)) (fun g hg e => by
          injection e with e
          obtain ⟨us, hus, _⟩ := GIx.out
          exact rws.apart HOx.out hus (by decide) hg (by rw [e]; rfl)))
        have B4 := Lib.hid (((BX.out.trans (A1.mono BX.out.size)).grown gz4 (Nat.le_trans BX.out.size A1.size) (own_.row_ge OU1)).setCell (p := ⟨ob, p, none⟩) HBO.out (.slice Az4 (ql + 1) cz4))
        clear A1 OU1 oz4 gz4 rz4
        refine hK.out _ _ (NEW.out) (fun hHeld => ?_)
        clear hK K
        try simp only [Act.put]
        refine wpAnyE_take (i := 9) (v := ?vqA9) rfl (by decide +kernel) (fun _ _ _ h => h) (Or.inl ⟨by rfl, ?hqA9⟩) (by assumption) ?rqA9
        case hqA9 =>
          intro wS hSw
          obtain ⟨⟨h0, h1, h2, h3, h4⟩, hx⟩ := hSw
          go_simp
          try with_reducible rfl
        try simp only [Act.put]
        refine wpAnyE_ready (rs := [10]) (by kernel_rfl) (by simp) ?_
        refine AllReadyE.last (i := 10) rfl rfl (fun K hK => ?_)
        go_simp
        refine hK.out _ _ ?_
        clear hK K
        try simp only [Act.put]
        refine wpAnyE_done (by kernel_rfl) ?_ _
        try simp only [List.getElem_toArray, List.getElem_cons_succ, List.getElem_cons_zero, List.setIfInBounds_toArray, List.set_cons_succ, List.set_cons_zero]
        clear sz4 fz4 NEW CS HS0 hHeld
        generalize wz4.setCell ⟨ob, p, none⟩ (.slice Az4 (ql + 1) cz4) = w5 at *
        have h5 := B4.out.size
        have A5 := (Below.refl w5.heap.size w5).alloc (Nat.le_refl _) (.cells #[.int .i64 (p : Int)] 3)
        have O9a := Lib.hid (O9.out.alloc (.cells #[.int .i64 (p : Int)] 3))
        have G5 := Lib.hid (G4.out.below A5)
        have B5 := Lib.hid (B4.out.trans (A5.mono h5))
        clear A5 G4 B4 O9
        go_wp2_with (at_builtin; refine wpList_append_any rfl (.tmp 59) (.tmp 61) 28 rfl w1.heap.size 3 iI (.int .i64 0) 1 8 Try.underlying28 hiI hzI0 hzI1 hzI2 rfl (by decide) _ k (cellsI L) rfl O9a.out ⟨w5.heap.size, 0, none⟩ 1 1 [.int .i64 (p : Int)] rfl rfl (cell_one_new _ _ _) (own_.one_cell _ rfl) (by unfold maxLen; omega) (by omega) (by rw [World.size_alloc]; omega) ?_; intro v6 w6 o6 g6 n6; obtain ⟨A6, c6, rfl⟩ := own_sliceZ o6)
        have HG6 := Lib.hid (show GI zs w1.heap.size w6 (.slice (some ⟨ob, 0, none⟩) gl c10) (grp zs ww r (k + 1)) by rw [HGK.out, HPT.out]; exact Gr.kept G5.out O9a.out (by decide) (by decide) g6)
        have HO6 := Lib.hid (show w6.ownsRow w1.heap.size 3 1 (.slice A6 (k + 1) c6) (k + 1) (cellsI (gsT zs ww r (k + 1))) by rw [HGT.out]; unfold cellsI; rw [List.map_append]; exact o6)
        have B6 := Lib.hid (B5.out.grown g6 (by rw [World.size_alloc]; omega) (own_.row_ge O9a.out))
        clear o6 g6 n6 O9a G5 B5
        go_wp2_with fail
        go_roundw
        case rel => exact ⟨k + 1, by omega, by go_num, HO6.out, HG6.out, B6.out⟩
        case measure => simp [intOf]; omega
      · have hgx : gx = -1 := by rw [HGX.out, if_neg hp]
        subst hgx
        obtain rfl : p = gl := by have := HPL.out; omega
        obtain ⟨us, hus, hins⟩ := HG.out.below N3.out.1
        rw [List.length_map] at hus
        have hub : us.length = p := by have := hus.1; have := HGE.out; omega
        have HUS := Lib.hid hus
        rw [HGE.out] at hus
        have hb3 := B3.out.size
        have A3 := (Below.refl w3.heap.size w3).alloc (Nat.le_refl _) (.cells #[.slice none 0 0] 40)
        have OWN := Lib.hid (own_.own_below hus A3)
        have HIN := Lib.hid hins
        have HA3 := Lib.hid A3
        have HUL := Lib.hid hub
        have hpl := HGL.out
        clear hus hins A3 hub
        go_wp2_with (at_builtin; refine wpList_append_any rfl (.tmp 46) (.tmp 47) 112 rfl w1.heap.size 40 iS (.slice none 0 0) 1 24 Try.underlying112 hiS hzS0 hzS1 hzS2 rfl (by decide) _ p us rfl OWN.out ⟨w3.heap.size, 0, none⟩ 1 1 [.slice none 0 0] rfl rfl (cell_one_new _ _ _) (own_.one_cell _ rfl) (by unfold maxLen; omega) (by omega) (by rw [World.size_alloc]; omega) ?_; intro v4 w4 o4 g4 n4; obtain ⟨A4, c4, rfl⟩ := own_sliceZ o4)
        have PG := put_grown (G := G) (p := p) (k := k) (by rw [HGE.out]; omega) (by rw [HGE.out]; omega)
        obtain ⟨q, hqs, PG1, PG2⟩ : ∃ q : List Nat, q.length ≤ k ∧ (G ++ [[]])[p]? = some q ∧ put G p k = (G ++ [[]]).set p (q ++ [k]) := ⟨[], Nat.zero_le _, PG.1, PG.2⟩
        have HPT := Lib.hid PG2
        have HQx := Lib.hid PG1
        have HPX := Lib.hid (Nat.lt_succ_self p)
        have HGx := Lib.hid (show (G ++ [[]]).length = p + 1 by rw [List.length_append, HGE.out]; rfl)
        have GIx := Lib.hid (GI.push HUS.out HIN.out HA3.out g4 (by rw [HGE.out]; exact o4))
        have HOx := Lib.hid (kept_row (own_.own_below (own_.own_below HO.out N3.out.1) HA3.out) OWN.out (by decide) g4)
        have HUB := Lib.hid (show ∀ ob (u : Value), w4.cell? ⟨ob, p, none⟩ = some u → A4 = some ⟨ob, 0, none⟩ → ∀ gb, u.ownBlock = some gb → gb ≠ wr.heap.size from fun ob u hu e1 gb hgb => by
          rw [e1] at o4
          have e2 := (o4.cellAt p (by omega)).symm.trans hu
          rw [List.getElem?_append_right (by rw [HUL.out]; exact Nat.le_refl _), HUL.out, Nat.sub_self] at e2
          injection e2 with e2
          rw [← e2] at hgb
          cases hgb)
        have NX := Lib.hid (show ∀ WZ : World, Below w4.heap.size w4 WZ → ∀ (i : Nat) (v : Value), (#[.int .i64 (fld 5 zs k 0), .int .i64 (fld 5 zs k 1), .int .i64 (fld 5 zs k 2), .int .i64 (fld 5 zs k 3), .int .i64 (fld 5 zs k 4)] : Array Value)[i]? = some v → WZ.cell? ⟨wr.heap.size, i, none⟩ = some v from fun WZ hz i v hv => by
          have h0 : wr.heap.size < w4.heap.size := Nat.lt_of_lt_of_le N3.out.2.2.1 (Nat.le_trans HA3.out.size g4.size)
          rw [hz.cell (p := ⟨wr.heap.size, i, none⟩) h0]
          refine g4.cell (((N3.out.old HA3.out).cell i).trans hv) (fun e => ?_)
          have := (HG.out.lt wr.heap.size e.symm).2
          omega)
        have BX := Lib.hid ((B3.out.trans (HA3.out.mono hb3)).grown g4 (by rw [World.size_alloc]; omega) (own_.row_ge OWN.out))
        clear PG PG1 PG2 o4 g4 n4 OWN HIN HA3 HUS N3 B3 HO HG HGX HB hb3
        generalize hgg : G ++ [[]] = Gx at *
        have hgg := Lib.hid hgg
        obtain ⟨ob, oc, Au, uc, hv, hob, hBo, q0, fr0, ownu, hne⟩ := GIx.out.read HQx.out
        rw [HGx.out] at hv
        obtain ⟨rfl, rfl⟩ : A4 = some ⟨ob, 0, none⟩ ∧ c4 = oc := by injection hv with e1 e2 e3; exact ⟨e1, e3⟩
        have HUX := Lib.hid (fun gb (h : (Value.slice Au q.length uc).ownBlock = some gb) => show gb ≠ ob ∧ gb ≠ wr.heap.size from ⟨hne gb h, HUB.out _ _ q0 rfl gb h⟩)
        have OU := Lib.hid ownu
        have HQL := Lib.hid hqs
        have HBO := Lib.hid hBo
        have HOB := Lib.hid hob
        have FR := Lib.hid fr0
        have Q0 := Lib.hid q0
        clear hv hob hBo q0 fr0 ownu hne
        generalize hql : q.length = ql at *
        have HQE := Lib.hid hql
        clear hql
        have hpg := HPX.out
        have hpg2 : (p : Int) < ((p + 1) : Int) := by omega
        have hp0 : (0 : Int) ≤ (p : Int) := Int.natCast_nonneg _
        have CS := Lib.hid (show ∀ WZ : World, Below w4.heap.size w4 WZ → (World.cell? WZ ⟨wr.heap.size, 0, none⟩ = some (.int .i64 (fld 5 zs k 0)) ∧ World.cell? WZ ⟨wr.heap.size, 1, none⟩ = some (.int .i64 (fld 5 zs k 1)) ∧ World.cell? WZ ⟨wr.heap.size, 2, none⟩ = some (.int .i64 (fld 5 zs k 2)) ∧ World.cell? WZ ⟨wr.heap.size, 3, none⟩ = some (.int .i64 (fld 5 zs k 3)) ∧ World.cell? WZ ⟨wr.heap.size, 4, none⟩ = some (.int .i64 (fld 5 zs k 4))) ∧ World.cell? WZ ⟨ob, p, none⟩ = some (.slice Au ql uc) from fun WZ hz => ⟨⟨NX.out WZ hz 0 _ rfl, NX.out WZ hz 1 _ rfl, NX.out WZ hz 2 _ rfl, NX.out WZ hz 3 _ rfl, NX.out WZ hz 4 _ rfl⟩, (hz.cell (p := ⟨ob, p, none⟩) HOB.out).trans Q0.out⟩)
        go_upto_region 12 with fail
        have HS0 := Lib.hid (CS.out _ (Below.refl w4.heap.size w4).drew)
        refine wp_region_tail (S := fun w' => (World.cell? w' ⟨wr.heap.size, 0, none⟩ = some (.int .i64 (fld 5 zs k 0)) ∧ World.cell? w' ⟨wr.heap.size, 1, none⟩ = some (.int .i64 (fld 5 zs k 1)) ∧ World.cell? w' ⟨wr.heap.size, 2, none⟩ = some (.int .i64 (fld 5 zs k 2)) ∧ World.cell? w' ⟨wr.heap.size, 3, none⟩ = some (.int .i64 (fld 5 zs k 3)) ∧ World.cell? w' ⟨wr.heap.size, 4, none⟩ = some (.int .i64 (fld 5 zs k 4))) ∧ World.cell? w' ⟨ob, p, none⟩ = some (.slice Au ql uc)) 10 (by kernel_rfl) HS0.out (fun hHeld => ?_)
        try simp only [Act.put]
        refine wpAnyE_take (i := 0) (v := ?vqB0) rfl (by decide +kernel) (fun _ _ _ h => h) (Or.inl ⟨by rfl, ?hqB0⟩) (by assumption) ?rqB0
        case hqB0 =>
          intro wS hSw
          obtain ⟨⟨h0, h1, h2, h3, h4⟩, hx⟩ := hSw
          go_simp
          try with_reducible rfl
        try simp only [Act.put]
        refine wpAnyE_take (i := 1) (v := ?vqB1) rfl (by decide +kernel) (fun _ _ _ h => h) (Or.inl ⟨by rfl, ?hqB1⟩) (by assumption) ?rqB1
        case hqB1 =>
          intro wS hSw
          obtain ⟨⟨h0, h1, h2, h3, h4⟩, hx⟩ := hSw
          go_simp
          try with_reducible rfl
        try simp only [Act.put]
        refine wpAnyE_take (i := 2) (v := ?vqB2) rfl (by decide +kernel) (fun _ _ _ h => h) (Or.inl ⟨by rfl, ?hqB2⟩) (by assumption) ?rqB2
        case hqB2 =>
          intro wS hSw
          obtain ⟨⟨h0, h1, h2, h3, h4⟩, hx⟩ := hSw
          go_simp
          try with_reducible rfl
        try simp only [Act.put]
        refine wpAnyE_take (i := 3) (v := ?vqB3) rfl (by decide +kernel) (fun _ _ _ h => h) (Or.inl ⟨by rfl, ?hqB3⟩) (by assumption) ?rqB3
        case hqB3 =>
          intro wS hSw
          obtain ⟨⟨h0, h1, h2, h3, h4⟩, hx⟩ := hSw
          go_simp
          try with_reducible rfl
        try simp only [Act.put]
        refine wpAnyE_take (i := 4) (v := ?vqB4) rfl (by decide +kernel) (fun _ _ _ h => h) (Or.inl ⟨by rfl, ?hqB4⟩) (by assumption) ?rqB4
        case hqB4 =>
          intro wS hSw
          obtain ⟨⟨h0, h1, h2, h3, h4⟩, hx⟩ := hSw
          go_simp
          try with_reducible rfl
        try simp only [Act.put]
        refine wpAnyE_take (i := 5) (v := ?vqB5) rfl (by decide +kernel) (fun _ _ _ h => h) (Or.inl ⟨by rfl, ?hqB5⟩) (by assumption) ?rqB5
        case hqB5 =>
          intro wS hSw
          obtain ⟨⟨h0, h1, h2, h3, h4⟩, hx⟩ := hSw
          go_simp
          try with_reducible rfl
        try simp only [Act.put]
        refine wpAnyE_take (i := 6) (v := ?vqB6) rfl (by decide +kernel) (fun _ _ _ h => h) (Or.inl ⟨by rfl, ?hqB6⟩) (by assumption) ?rqB6
        case hqB6 =>
          intro wS hSw
          obtain ⟨⟨h0, h1, h2, h3, h4⟩, hx⟩ := hSw
          go_simp
          try with_reducible rfl
        try simp only [Act.put]
        refine wpAnyE_ready (rs := [7]) (by kernel_rfl) (by simp) ?_
        refine AllReadyE.cons (i := 7) rfl (by decide) (fun K hK => ?_) AllReadyE.nil
        go_simp
        refine hK.out _ _ (CS.out _ ((Below.refl w4.heap.size w4).drew.alloc (Nat.le_refl _) _)) (fun hHeld => ?_)
        clear hK K
        try simp only [Act.put]
        refine wpAnyE_ready (rs := [8]) (by kernel_rfl) (by simp) ?_
        refine AllReadyE.cons (i := 8) rfl (by decide) (fun K hK => ?_) AllReadyE.nil
        refine step_append_sz rfl (.tmp 54) (.tmp 56) 40 rfl w1.heap.size 53 iG (.agg #[.int .i64 0, .int .i64 0, .int .i64 0, .int .i64 0, .int .i64 0]) 5 40 Try.underlying40 hiG hzG0 hzG1 hzG2 rfl (by decide) (.slice Au ql uc) ql (rowI zs q) rfl (own_.own_below OU.out ((Below.refl w4.heap.size w4).drew.alloc (Nat.le_refl _) (.cells #[.int .i64 (fld 5 zs k 0), .int .i64 (fld 5 zs k 1), .int .i64 (fld 5 zs k 2), .int .i64 (fld 5 zs k 3), .int .i64 (fld 5 zs k 4)] 53))) _ 1 1 [.int .i64 (fld 5 zs k 0), .int .i64 (fld 5 zs k 1), .int .i64 (fld 5 zs k 2), .int .i64 (fld 5 zs k 3), .int .i64 (fld 5 zs k 4)] rfl rfl (cells_new w4.drew 53 #[.int .i64 (fld 5 zs k 0), .int .i64 (fld 5 zs k 1), .int .i64 (fld 5 zs k 2), .int .i64 (fld 5 zs k 3), .int .i64 (fld 5 zs k 4)]) (five_cells _ _ _ _ _) (by unfold maxLen; have := HQL.out; omega) (by have := HQL.out; omega) (by have := BX.out.size; show w1.heap.size ≤ (w4.alloc _).heap.size; rw [World.size_alloc]; omega) ?_
        intro vz4 wz4 oz4 gz4 rz4
        obtain ⟨Az4, cz4, rfl⟩ := own_sliceZ oz4
        have A1 : Below w4.heap.size w4 (w4.drew.alloc (.cells #[.int .i64 (fld 5 zs k 0), .int .i64 (fld 5 zs k 1), .int .i64 (fld 5 zs k 2), .int .i64 (fld 5 zs k 3), .int .i64 (fld 5 zs k 4)] 53)) := (Below.refl w4.heap.size w4).drew.alloc (Nat.le_refl _) _
        have NEW := Lib.hid (show (World.cell? wz4 ⟨wr.heap.size, 0, none⟩ = some (.int .i64 (fld 5 zs k 0)) ∧ World.cell? wz4 ⟨wr.heap.size, 1, none⟩ = some (.int .i64 (fld 5 zs k 1)) ∧ World.cell? wz4 ⟨wr.heap.size, 2, none⟩ = some (.int .i64 (fld 5 zs k 2)) ∧ World.cell? wz4 ⟨wr.heap.size, 3, none⟩ = some (.int .i64 (fld 5 zs k 3)) ∧ World.cell? wz4 ⟨wr.heap.size, 4, none⟩ = some (.int .i64 (fld 5 zs k 4))) ∧ World.cell? wz4 ⟨ob, p, none⟩ = some (.slice Au ql uc) from ⟨⟨gz4.cell (NX.out _ A1 0 _ rfl) (fun e => (HUX.out _ e.symm).2 rfl), gz4.cell (NX.out _ A1 1 _ rfl) (fun e => (HUX.out _ e.symm).2 rfl), gz4.cell (NX.out _ A1 2 _ rfl) (fun e => (HUX.out _ e.symm).2 rfl), gz4.cell (NX.out _ A1 3 _ rfl) (fun e => (HUX.out _ e.symm).2 rfl), gz4.cell (NX.out _ A1 4 _ rfl) (fun e => (HUX.out _ e.symm).2 rfl)⟩, gz4.cell ((A1.cell (p := ⟨ob, p, none⟩) HOB.out).trans Q0.out) (fun e => (HUX.out _ e.symm).1 rfl)⟩)
        have sz4 : wz4.cell? ⟨ob, p, none⟩ = some (.slice Au ql uc) := NEW.out.2
        have fz4 : wz4.frozen? ⟨ob, p, none⟩ = false := (World.frozen?_of_block (a := ⟨ob, p, none⟩) (gz4.block ob (Nat.lt_of_lt_of_le HOB.out A1.size) (fun e => (HUX.out _ e.symm).1 rfl))).trans ((A1.frozen (p := ⟨ob, p, none⟩) HOB.out).trans FR.out)
        have OU1 := own_.own_below OU.out A1
        have G4 := Lib.hid ((GIx.out.below A1).app (k := k) HQx.out (by rw [HGx.out]) ((A1.cell (p := ⟨ob, p, none⟩) HOB.out).trans Q0.out) gz4 (by rw [HQE.out]; exact oz4) rz4)
        have O9 := Lib.hid (own_kept_at (kept_row (own_.own_below HOx.out A1) OU1 (by decide) gz4) (grown_set (grown_refl wz4 (some ob)) p (.slice Az4 (ql + 1) cz4)) (fun g hg e => by
          injection e with e
          obtain ⟨us, hus, _⟩ := GIx.out
          exact rws.apart HOx.out hus (by decide) hg (by rw [e]; rfl)))
        have B4 := Lib.hid (((BX.out.trans (A1.mono BX.out.size)).grown gz4 (Nat.le_trans BX.out.size A1.size) (own_.row_ge OU1)).setCell (p := ⟨ob, p, none⟩) HBO.out (.slice Az4 (ql + 1) cz4))
        clear A1 OU1 oz4 gz4 rz4
        refine hK.out _ _ (NEW.out) (fun hHeld => ?_)
        clear hK K
        try simp only [Act.put]
        refine wpAnyE_take (i := 9) (v := ?vqB9) rfl (by decide +kernel) (fun _ _ _ h => h) (Or.inl ⟨by rfl, ?hqB9⟩) (by assumption) ?rqB9
        case hqB9 =>
          intro wS hSw
          obtain ⟨⟨h0, h1, h2, h3, h4⟩, hx⟩ := hSw
          go_simp
          try with_reducible rfl
        try simp only [Act.put]
        refine wpAnyE_ready (rs := [10]) (by kernel_rfl) (by simp) ?_
        refine AllReadyE.last (i := 10) rfl rfl (fun K hK => ?_)
        go_simp
        refine hK.out _ _ ?_
        clear hK K
        try simp only [Act.put]
        refine wpAnyE_done (by kernel_rfl) ?_ _
        try simp only [List.getElem_toArray, List.getElem_cons_succ, List.getElem_cons_zero, List.setIfInBounds_toArray, List.set_cons_succ, List.set_cons_zero]
        clear sz4 fz4 NEW CS HS0 hHeld
        generalize wz4.setCell ⟨ob, p, none⟩ (.slice Az4 (ql + 1) cz4) = w5 at *
        have h5 := B4.out.size
        have A5 := (Below.refl w5.heap.size w5).alloc (Nat.le_refl _) (.cells #[.int .i64 (p : Int)] 3)
        have O9a := Lib.hid (O9.out.alloc (.cells #[.int .i64 (p : Int)] 3))
        have G5 := Lib.hid (G4.out.below A5)
        have B5 := Lib.hid (B4.out.trans (A5.mono h5))
        clear A5 G4 B4 O9
        go_wp2_with (at_builtin; refine wpList_append_any rfl (.tmp 59) (.tmp 61) 28 rfl w1.heap.size 3 iI (.int .i64 0) 1 8 Try.underlying28 hiI hzI0 hzI1 hzI2 rfl (by decide) _ k (cellsI L) rfl O9a.out ⟨w5.heap.size, 0, none⟩ 1 1 [.int .i64 (p : Int)] rfl rfl (cell_one_new _ _ _) (own_.one_cell _ rfl) (by unfold maxLen; omega) (by omega) (by rw [World.size_alloc]; omega) ?_; intro v6 w6 o6 g6 n6; obtain ⟨A6, c6, rfl⟩ := own_sliceZ o6)
        have HG6 := Lib.hid (show GI zs w1.heap.size w6 (.slice (some ⟨ob, 0, none⟩) (p + 1) c4) (grp zs ww r (k + 1)) by rw [HGK.out, HPT.out]; exact Gr.kept G5.out O9a.out (by decide) (by decide) g6)
        have HO6 := Lib.hid (show w6.ownsRow w1.heap.size 3 1 (.slice A6 (k + 1) c6) (k + 1) (cellsI (gsT zs ww r (k + 1))) by rw [HGT.out]; unfold cellsI; rw [List.map_append]; exact o6)
        have B6 := Lib.hid (B5.out.grown g6 (by rw [World.size_alloc]; omega) (own_.row_ge O9a.out))
        clear o6 g6 n6 O9a G5 B5
        go_wp2_with fail
        go_roundw
        case rel => exact ⟨k + 1, by omega, by go_num, HO6.out, HG6.out, B6.out⟩
        case measure => simp [intOf]; omega
    · obtain rfl : k = n := by omega
      obtain ⟨A9, c9, rfl⟩ := own_sliceZ hO
      obtain ⟨A10, c10, rfl⟩ := hG.slice
      have HO := Lib.hid (show wr.ownsRow w.heap.size 3 1 (.slice A9 k c9) (gsV zs k ww r).length (cellsI (gsV zs k ww r)) by rw [HV.out, gsT_length]; exact own_.own_base hO S3.out.1.size)
      have HG := Lib.hid (show GI zs w.heap.size wr (.slice A10 (grp zs ww r k).length c10) (ggV zs k ww r) by rw [HGV.out]; exact Gr.base hG S3.out.1.size)
      have HB := Lib.hid (S3.out.1.trans (hb.mono S3.out.1.size))
      clear hO hG hb
      generalize (grp zs ww r k).length = gl at *
      go_wp2_with fail
      go_ret3
      exact ⟨_, _, by rw [HE.out]; rfl, HO.out, HG.out, HB.out⟩
end Go.Proofs.Ytdjcbfeilkepmaa.pltk
