/- impl's GroupSightings, LonelySightings, SiteCounts. -/
import Derived.Test.YtcfkkmlmjekhiaaPltK
namespace Go.Proofs.Ytcfkkmlmjekhiaa.pltl
open Go.RowKit Go.Proofs.Ytcfkkmlmjekhiaa.ints Go.Proofs.Ytcfkkmlmjekhiaa.lst Go.Proofs.Ytcfkkmlmjekhiaa.in_ Go.Proofs.Ytcfkkmlmjekhiaa.ats Go.Proofs.Ytcfkkmlmjekhiaa.pos Go.Proofs.Ytcfkkmlmjekhiaa.plt Go.Proofs.Ytcfkkmlmjekhiaa.pltm Go.Proofs.Ytcfkkmlmjekhiaa.plte Go.Proofs.Ytcfkkmlmjekhiaa.plti Go.Proofs.Ytcfkkmlmjekhiaa.pltj Go.Proofs.Ytcfkkmlmjekhiaa.pltk Go.Proofs.Ytcfkkmlmjekhiaa.rws

theorem made_zero (n : Nat) : (madeCells (Value.cells (.int .i64 0)) (n * 1)).toList = cellsI (List.replicate n 0) := by
  refine List.ext_getElem (by simp [madeCells, cellsI]) fun i h1 h2 => ?_
  simp [madeCells, Value.cells, Nat.mod_one, cellsI]

set_option maxRecDepth 100000 in
theorem groupSightings (zs : List Int) (ww r : Int) (A : Option Addr) (n c : Nat) (w : World) (hn : n ≤ 1048577) (h1 : RdZ 5 w w.heap.size A n zs) :
    Calls Try.prog 13 #[.slice A n c, .int .i64 ww, .int .i64 r] w fun e w' => ∃ v, e = .returned (.tuple #[v, .bool (asB zs n ww r)]) ∧ w'.ownsRow w.heap.size 3 1 v (gsV zs n ww r).length (cellsI (gsV zs n ww r)) ∧ Below w.heap.size w w' := by
  have H := Lib.hid (groupsOf zs ww r A n c w hn h1)
  clear h1
  go_enter Try.func13, Try.ntmps13
  go_wp2_with fail
  refine H.out.mono ?_
  rintro e w1 ⟨v1, v2, rfl, h2, -, hb⟩
  have O := Lib.hid h2
  clear h2
  go_wp2_with fail
  go_ret2
  exact ⟨_, rfl, O.out, hb⟩

set_option maxRecDepth 100000 in
set_option maxHeartbeats 2000000 in
theorem lonelySightings (zs : List Int) (ww r : Int) (A : Option Addr) (n c : Nat) (w : World) (hn : n ≤ 1048577) (h1 : RdZ 5 w w.heap.size A n zs) :
    Calls Try.prog 42 #[.slice A n c, .int .i64 ww, .int .i64 r] w fun e w' => ∃ v, e = .returned (.tuple #[v, .bool (asB zs n ww r)]) ∧ w'.ownsRow w.heap.size 3 1 v (loV zs n ww r).length (cellsI (loV zs n ww r)) ∧ Below w.heap.size w w' := by
  have H := groupsOf zs ww r A n c w hn h1
  cases hq : asB zs n ww r
  · rw [hq] at H
    have HV := Lib.hid (loV_no hq)
    have H := Lib.hid H
    clear hq h1
    go_enter Try.func42, Try.ntmps42
    go_wp2_with fail
    refine H.out.mono ?_
    rintro e w1 ⟨v1, v2, rfl, -, -, hb⟩
    have HB := Lib.hid hb
    clear hb
    go_wp2_with fail
    go_ret2
    exact ⟨_, rfl, by rw [HV.out]; exact World.ownsRow_nil w1 _ _ _, HB.out⟩
  rw [hq, gsV_yes hq, ggV_yes hq, gsT_length] at H
  have HV := Lib.hid (loV_yes hq)
  have HN := Lib.hid (svB_yes (asB_yes hq).1)
  obtain ⟨iI, hiI, hzI0, hzI1, hzI2⟩ := info_parts infoI
  have H := Lib.hid H
  have hn20 := HN.out.2
  clear h1 hq
  go_enter Try.func42, Try.ntmps42
  go_wp2_with fail
  refine H.out.mono ?_
  rintro e w1 ⟨v1, v2, rfl, h2, h3, hb⟩
  obtain ⟨A1, c1, rfl⟩ := own_sliceZ h2
  obtain ⟨A2, c2, rfl⟩ := h3.slice
  have HO := Lib.hid h2
  have HG := Lib.hid h3
  have HB := Lib.hid hb
  have HNL := Lib.hid (fun k (hk : k < n) => num_lt (zs := zs) (w := ww) (r := r) k hk)
  clear h2 h3 hb
  generalize hgl : (grp zs ww r n).length = gl at *
  clear hgl
  go_wp2_with fail
  go_loopw [11, 26] (fun v i wr => ∃ k : Nat, k ≤ n ∧ i = .int .i64 k ∧ wr.ownsRow w1.heap.size 3 1 v (loT zs n ww r k).length (cellsI (loT zs n ww r k)) ∧ Below w1.heap.size w1 wr) (fun _ i _ => n - (intOf i).toNat)
  case atStart => exact ⟨0, Nat.zero_le _, rfl, World.ownsRow_nil .., Below.refl _ _⟩
  case round =>
    obtain ⟨k, hk, rfl, hO, hb⟩ := hrel
    by_cases hlt : k < n
    · have hlt2 : (k : Int) < (n : Int) := by omega
      have hnl := HNL.out k hlt
      obtain ⟨q, hq⟩ : ∃ q, (grp zs ww r n)[num zs ww r k]? = some q := by
        obtain ⟨-, h3⟩ : True ∧ num zs ww r k < (grp zs ww r n).length := ⟨trivial, num_lt k hlt⟩
        exact ⟨_, List.getElem?_eq_getElem h3⟩
      obtain ⟨ob, oc, Au, uc, hv, hob, -, q0, -⟩ := (HG.out.below hb).read hq
      obtain rfl : A2 = some ⟨ob, 0, none⟩ := by injection hv
      have OWr := own_.own_below HO.out hb
      obtain ⟨gn, rfl⟩ : ∃ gn, A1 = some ⟨gn, 0, none⟩ := by
        rcases OWr.2 with ⟨_, h0⟩ | ⟨g, cap, cur, hv, _⟩
        · omega
        · exact ⟨g, by injection hv⟩
      have n0 : wr.cell? ⟨gn, k, none⟩ = some (.int .i64 ((num zs ww r k : Nat) : Int)) := by
        rw [OWr.cellAt k (by omega)]
        unfold gsT cellsI
        rw [List.map_map, List.getElem?_map, List.getElem?_range hlt]; rfl
      obtain ⟨A5, c5, rfl⟩ := own_sliceZ hO
      have HLT := Lib.hid (loT_len zs n ww r k)
      have HS := Lib.hid (show loT zs n ww r (k + 1) = if q.length = 1 then loT zs n ww r k ++ [(k : Int)] else loT zs n ww r k by rw [loT, List.getD_eq_getElem?_getD, hq]; rfl)
      have O5 := Lib.hid (hO.alloc (.cells #[.int .i64 (k : Int)] 3))
      have HOk := Lib.hid hO
      have HBk := Lib.hid hb
      have h1w := hb.size
      have hnl2 : ((num zs ww r k : Nat) : Int) < (gl : Int) := by omega
      have hnn : (0 : Int) ≤ ((num zs ww r k : Nat) : Int) := Int.natCast_nonneg _
      clear hO hb OWr hq hv
      generalize num zs ww r k = p at *
      generalize q.length = ql at *
      generalize loT zs n ww r k = L at *
      by_cases he : ql = 1
      · have g1 : ((ql : Int) == 1) = true := by rw [he]; rfl
        have HL := Lib.hid (show loT zs n ww r (k + 1) = L ++ [(k : Int)] by rw [HS.out, if_pos he])
        subst he
        clear HS
        go_wp2_with (at_builtin; refine wpList_append_any rfl (.tmp 37) (.tmp 39) 27 rfl w1.heap.size 3 iI (.int .i64 0) 1 8 Try.underlying27 hiI hzI0 hzI1 hzI2 rfl (by decide) _ L.length (cellsI L) rfl O5.out ⟨wr.heap.size, 0, none⟩ 1 1 [.int .i64 (k : Int)] rfl rfl (cell_one_new _ _ _) (own_.one_cell _ rfl) (by unfold maxLen; have := HLT.out; omega) (by have := HLT.out; omega) (by rw [World.size_alloc]; omega) ?_; intro v6 w6 o6 g6 n6; obtain ⟨A6, c6, rfl⟩ := own_sliceZ o6)
        have O6 := Lib.hid (show w6.ownsRow w1.heap.size 3 1 (.slice A6 (L.length + 1) c6) (loT zs n ww r (k + 1)).length (cellsI (loT zs n ww r (k + 1))) by rw [HL.out]; exact own_growI o6)
        have B6 := Lib.hid ((HBk.out.trans (((Below.refl wr.heap.size wr).alloc (Nat.le_refl _) (.cells #[.int .i64 (k : Int)] 3)).mono h1w)).grown g6 (by rw [World.size_alloc]; omega) (own_.row_ge O5.out))
        clear o6 g6 n6 O5 n0 q0
        go_wp2_with fail
        go_roundw
        case rel => exact ⟨k + 1, by omega, by go_num, O6.out, B6.out⟩
        case measure => simp [intOf]; omega
      · have g1 : ((ql : Int) == 1) = false := beq_eq_false_iff_ne.mpr (by omega)
        have HL := Lib.hid (show loT zs n ww r (k + 1) = L by rw [HS.out, if_neg he])
        clear HS he
        go_wp2_with fail
        go_roundw
        case rel => exact ⟨k + 1, by omega, by go_num, by rw [HL.out]; exact HOk.out, HBk.out⟩
        case measure => simp [intOf]; omega
    · obtain rfl : k = n := by omega
      obtain ⟨A5, c5, rfl⟩ := own_sliceZ hO
      have O6 := Lib.hid (show wr.ownsRow w.heap.size 3 1 (.slice A5 (loT zs k ww r k).length c5) (loV zs k ww r).length (cellsI (loV zs k ww r)) by rw [HV.out]; exact own_.own_base hO HB.out.size)
      have B6 := Lib.hid (HB.out.trans (hb.mono HB.out.size))
      clear hO hb
      generalize (loT zs k ww r k).length = l at *
      go_wp2_with fail
      go_ret2
      exact ⟨_, rfl, O6.out, B6.out⟩

set_option maxRecDepth 100000 in
set_option maxHeartbeats 2000000 in
theorem siteCounts (zs : List Int) (A : Option Addr) (n c : Nat) (w : World) (hn : n ≤ 1048577) (h1 : RdZ 5 w w.heap.size A n zs) :
    Calls Try.prog 40 #[.slice A n c] w fun e w' => ∃ v, e = .returned (.tuple #[v, .bool (svB zs n)]) ∧ w'.ownsRow w.heap.size 3 1 v (cnV zs n).length (cellsI (cnV zs n)) ∧ Below w.heap.size w w' := by
  have H := isValidSightings zs A n c w hn h1
  cases hq : svB zs n
  · rw [hq] at H
    have HV := Lib.hid (cnV_no hq)
    have H := Lib.hid H
    clear hq h1
    go_enter Try.func40, Try.ntmps40
    go_wp2_with fail
    refine H.out.mono ?_
    rintro e w1 ⟨rfl, hb⟩
    have HB := Lib.hid hb
    skip
    skip
    clear hb
    go_wp2_with fail
    go_ret2
    exact ⟨_, rfl, by rw [HV.out]; exact World.ownsRow_nil w1 _ _ _, HB.out⟩
  rw [hq] at H
  have HV := Lib.hid (cnV_yes hq)
  have HS := Lib.hid hq
  have hn20 := (svB_yes hq).2
  obtain ⟨i0, hi, hz0, hz1, hz2⟩ := info_parts infoI
  have HR := Lib.hid h1
  have H := Lib.hid H
  clear hq h1
  go_enter Try.func40, Try.ntmps40
  go_wp2_with fail
  refine H.out.mono ?_
  rintro e w2 ⟨rfl, hb⟩
  have HB := Lib.hid hb
  clear hb
  go_wp2_with (at_make; refine wpList_make_full _ rfl _ _ 27 rfl w2.heap.size 3 i0 (.int .i64 0) 1 Try.underlying27 hi hz0 hz1 _ _ _ _ 9 rfl rfl rfl rfl (by rw [hz2]; omega) (by unfold maxLen; omega) (Nat.le_refl _) ?_; intro w1 hown hg)
  have O1 := Lib.hid (show w1.ownsRow w2.heap.size 3 1 (.slice (some ⟨w2.heap.size, 0, none⟩) 9 9) 9 (cellsI (cnT zs 0)) from by rw [cnT_zero, ← made_zero 9]; exact hown)
  have B1 := Lib.hid ((Below.refl w2.heap.size w2).grown hg (Nat.le_refl _) (fun k e => by cases e))
  clear hown hg
  go_loopw [13] (fun i wr => ∃ k : Nat, k ≤ n ∧ i = .int .i64 k ∧ wr.ownsRow w2.heap.size 3 1 (.slice (some ⟨w2.heap.size, 0, none⟩) 9 9) 9 (cellsI (cnT zs k)) ∧ Below w2.heap.size w2 wr) (fun i _ => n - (intOf i).toNat)
  case atStart => exact ⟨0, Nat.zero_le _, rfl, O1.out, B1.out⟩
  case round =>
    obtain ⟨k, hk, rfl, hO, hb⟩ := hrel
    clear O1 B1
    by_cases hlt : k < n
    · have hlt2 : (k : Int) < (n : Int) := by omega
      obtain ⟨b1, o1, rfl, -, p0, p1, p2, p3, p4⟩ := cellsE (HR.out.below (HB.out.trans (hb.mono HB.out.size)) (Nat.le_refl _)) hlt
      obtain ⟨-, ⟨t1, t9⟩, -⟩ := sv_at HS.out hlt
      obtain ⟨s, hs⟩ : ∃ s : Nat, fld 5 zs k 1 = ((s + 1 : Nat) : Int) := ⟨(fld 5 zs k 1 - 1).toNat, by omega⟩
      have hs9 : s < 9 := by omega
      obtain ⟨v, hv, v0, v1, hset⟩ := cnT_get (zs := zs) (k := k) hs9
      have CG := Lib.hid (show (cellsI (cnT zs k))[s]? = some (.int .i64 v) by unfold cellsI; rw [List.getElem?_map, hv]; rfl)
      have HSET := Lib.hid (show (cellsI (cnT zs k)).set s (.int .i64 (v + 1)) = cellsI (cnT zs (k + 1)) by unfold cellsI; rw [← hset hs, List.map_set])
      have hs0 : (0 : Int) ≤ (s : Int) := Int.natCast_nonneg _
      have hs8 : (s : Int) < 9 := by omega
      have e1 : IntKind.i64.wrap (fld 5 zs k 1 - 1) = (s : Int) := by rw [IntWalk.i64_in _ (by omega)]; omega
      have e2 : IntKind.i64.wrap (v + 1) = v + 1 := IntWalk.i64_in _ (by omega)
      clear hset hv t1 t9 hs hs9
      generalize fld 5 zs k 0 = u0 at *
      generalize fld 5 zs k 1 = u1 at *
      generalize fld 5 zs k 2 = u2 at *
      generalize fld 5 zs k 3 = u3 at *
      generalize fld 5 zs k 4 = u4 at *
      have hs9 : s < 9 := by omega
      have BX := (Below.refl wr.heap.size wr).alloc (Nat.le_refl _) (.cells #[.int .i64 u0, .int .i64 u1, .int .i64 u2, .int .i64 u3, .int .i64 u4] 41)
      have OB := Lib.hid (own_.own_below hO BX)
      have c0 := (OB.out.cellAt s (by omega)).trans (CG.out)
      have r0 := OB.out.frozenAt s
      have HB2 := Lib.hid ((hb.trans (BX.mono hb.size)).setCell (p := ⟨w2.heap.size, s, none⟩) (Nat.le_refl _) (.int .i64 (v + 1)))
      have st := (OB.out.stored s (.int .i64 (v + 1))).1
      rw [HSET.out] at st
      have ST := Lib.hid st
      clear st hO hb CG HSET
      go_wp2_with fail
      go_roundw
      case rel => exact ⟨k + 1, by omega, by go_num, ST.out, HB2.out⟩
      case measure => simp [intOf]; omega
    · obtain rfl : k = n := by omega
      have O6 := Lib.hid (show wr.ownsRow w.heap.size 3 1 (.slice (some ⟨w2.heap.size, 0, none⟩) 9 9) (cnV zs k).length (cellsI (cnV zs k)) by rw [HV.out, cnT_length]; exact own_.own_base hO HB.out.size)
      have B6 := Lib.hid (HB.out.trans (hb.mono HB.out.size))
      clear hO hb
      go_wp2_with fail
      go_ret2
      exact ⟨_, rfl, O6.out, B6.out⟩
end Go.Proofs.Ytcfkkmlmjekhiaa.pltl
