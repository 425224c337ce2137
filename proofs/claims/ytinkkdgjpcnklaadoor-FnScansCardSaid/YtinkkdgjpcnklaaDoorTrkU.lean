/- spec's HitTrack and MissTrack. -/
import Derived.Test.YtinkkdgjpcnklaaDoorTrkT
import Derived.Test.YtinkkdgjpcnklaaDoorRws
import Derived.Test.YtinkkdgjpcnklaaDoorTailH
import Derived.OwnWalk
namespace Go.Proofs.YtinkkdgjpcnklaaDoor.trku
open Go.RowKit Go.Proofs.YtinkkdgjpcnklaaDoor.ints Go.Proofs.YtinkkdgjpcnklaaDoor.lst Go.Proofs.YtinkkdgjpcnklaaDoor.in_ Go.Proofs.YtinkkdgjpcnklaaDoor.ats Go.Proofs.YtinkkdgjpcnklaaDoor.pos Go.Proofs.YtinkkdgjpcnklaaDoor.trk Go.Proofs.YtinkkdgjpcnklaaDoor.trkm Go.Proofs.YtinkkdgjpcnklaaDoor.trke Go.Proofs.YtinkkdgjpcnklaaDoor.intc Go.Proofs.YtinkkdgjpcnklaaDoor.rws Go.Proofs.YtinkkdgjpcnklaaDoor.trks Go.Proofs.YtinkkdgjpcnklaaDoor.trkt Go.Proofs.YtinkkdgjpcnklaaDoor.tailh
set_option linter.unusedSimpArgs false

theorem cellsI_at {xs : List Int} {j : Nat} {u : Value} (h : (cellsI xs)[j]? = some u) : ∃ x, xs[j]? = some x ∧ u = .int .i64 x := by
  unfold cellsI at h
  rw [List.getElem?_map] at h
  cases hx : xs[j]? with
  | none => rw [hx] at h; cases h
  | some x => rw [hx] at h; exact ⟨x, rfl, by simpa using h.symm⟩
theorem ints_one (xs : List Int) : ∀ u ∈ cellsI xs, u.oneCell' = true := by
  intro u hu
  unfold cellsI at hu
  obtain ⟨x, _, rfl⟩ := List.mem_map.mp hu
  rfl
/-- The cells of a list, from number m on. -/
theorem src_at {w : World} {B n m b o : Nat} {zs : List Int} (h : RdZ 6 w B (some ⟨b, o, none⟩) n zs) (hn : 0 < n) : ∀ j u, (cellsI (zs.drop m))[j]? = some u → w.cell? ((⟨b, o + m, none⟩ : Addr).add j) = some u := by
  intro j u hu
  obtain ⟨x, hx, rfl⟩ := cellsI_at hu
  obtain ⟨b', o', e, hlt, hc⟩ := h.2 hn
  obtain ⟨rfl, rfl⟩ : b = b' ∧ o = o' := by injection e with e; injection e with e1 e2; exact ⟨e1, e2⟩
  rw [List.getElem?_drop] at hx
  rw [Addr.add_lit, Nat.add_assoc]
  exact hc _ x hx
theorem src_take {w : World} {B n b o : Nat} {zs : List Int} (k : Nat) (h : RdZ 6 w B (some ⟨b, o, none⟩) n zs) (hn : 0 < n) : ∀ j u, (cellsI (zs.take k))[j]? = some u → w.cell? ((⟨b, o, none⟩ : Addr).add j) = some u := by
  intro j u hu
  obtain ⟨x, hx, rfl⟩ := cellsI_at hu
  rw [List.getElem?_take] at hx
  split at hx
  · have := src_at (m := 0) h hn j (.int .i64 x) (by rw [List.drop_zero]; unfold cellsI; rw [List.getElem?_map, hx]; rfl)
    exact this
  · cases hx
theorem cells_len (zs : List Int) : (cellsI zs).length = zs.length := by unfold cellsI; rw [List.length_map]
theorem cell_fld {zs : List Int} {n k i : Nat} (hl : zs.length = n * 6) (hk : k < n) (hi : i < 6) : (cellsI zs)[k * 6 + i]? = some (.int .i64 (fld 6 zs k i)) := by
  unfold cellsI fld
  rw [List.getElem?_map, List.getD_eq_getElem?_getD, List.getElem?_eq_getElem (show k * 6 + i < zs.length by omega)]; rfl
/-- Six cells are written anew. -/
theorem set_six {zs : List Int} {n k : Nat} (a b d f g q : Int) (hl : zs.length = n * 6) (hk : k < n) :
    ((((((cellsI zs).set (k * 6) (.int .i64 a)).set (k * 6 + 1) (.int .i64 b)).set (k * 6 + 2) (.int .i64 d)).set (k * 6 + 3) (.int .i64 f)).set (k * 6 + 4) (.int .i64 g)).set (k * 6 + 5) (.int .i64 q) = cellsI (putR zs k (six a b d f g q)) := by
  unfold cellsI putR
  refine List.ext_getElem? fun i => ?_
  simp only [List.getElem?_set, List.length_set, List.length_map, List.getElem?_map]
  rcases Nat.lt_or_ge i (k * 6) with h | h
  · rw [if_neg (by omega), if_neg (by omega), if_neg (by omega), if_neg (by omega), if_neg (by omega), if_neg (by omega), List.append_assoc, List.getElem?_append_left (by rw [List.length_take]; omega), List.getElem?_take, if_pos h]
  · rcases Nat.lt_or_ge i (k * 6 + 6) with h2 | h2
    · obtain ⟨j, rfl⟩ : ∃ j, i = k * 6 + j := ⟨i - k * 6, by omega⟩
      rw [List.append_assoc, List.getElem?_append_right (by rw [List.length_take]; omega), List.length_take, Nat.min_eq_left (by omega), Nat.add_sub_cancel_left, List.getElem?_append_left (by rw [six_length]; omega)]
      have : j = 0 ∨ j = 1 ∨ j = 2 ∨ j = 3 ∨ j = 4 ∨ j = 5 := by omega
      rcases this with h | h | h | h | h | h <;> subst h <;> (repeat (first | rw [if_pos (by omega)] | rw [if_neg (by omega)])) <;> first | rfl | (rw [if_pos (by omega)]; rfl) | (simp; omega)
    · rw [if_neg (by omega), if_neg (by omega), if_neg (by omega), if_neg (by omega), if_neg (by omega), if_neg (by omega), List.getElem?_append_right (by rw [List.length_append, List.length_take, six_length]; omega), List.length_append, List.length_take, six_length, List.getElem?_drop]
      congr 2
      omega
theorem put_length {zs : List Int} {n k : Nat} (a b d f g q : Int) (hl : zs.length = n * 6) (hk : k < n) : (putR zs k (six a b d f g q)).length = n * 6 := by
  unfold putR
  rw [List.length_append, List.length_append, List.length_take, List.length_drop, six_length, hl]; omega

set_option maxRecDepth 100000 in
set_option maxHeartbeats 4000000 in
theorem missTrack (zs : List Int) (d : Int) (A : Option Addr) (n cp : Nat) (w : World) (hcp : n ≤ cp) (hn : n ≤ 1048577) (h1 : RdZ 6 w w.heap.size A n zs) :
    Calls Tryd.prog 12 #[.slice A n cp, .int .i64 d] w fun e w' => ∃ v, e = .returned (.tuple #[v, .bool (miB zs n d)]) ∧ w'.ownsRow w.heap.size 38 6 v (miN zs n d) (cellsI (miL zs n d)) ∧ Below w.heap.size w w' := by
  have HF := Lib.hid (find14 zs d A n cp w hn h1)
  have HL := Lib.hid (list14 zs A n cp w hn h1)
  cases hz : tvB zs n
  · have HE := Lib.hid (show miB zs n d = false by unfold miB; rw [hz]; rfl)
    rw [hz] at HL
    clear hz h1
    generalize fdV zs n d = fi at *
    go_enter Tryd.func12, Tryd.ntmps12
    go_wp2_with fail
    refine HF.out.mono ?_
    rintro e w' ⟨rfl, hw'⟩
    subst w'
    go_wp2_with fail
    refine HL.out.mono ?_
    rintro e W1 ⟨rfl, hb⟩
    have B1 := Lib.hid hb
    clear hb
    have OX := Lib.hid (own_emptyZ W1 38 6)
    have LX := Lib.hid (B1.out.size)
    have BX := Lib.hid (B1.out.alloc B1.out.size (.cells #[] 38))
    go_wp2_with fail
    go_ret2
    exact ⟨_, by rw [HE.out]; rfl, by rw [(mi_no HE.out).2, (mi_no HE.out).1]; exact own_.own_base OX.out LX.out, BX.out⟩
  rw [hz] at HL
  cases hi : hasId zs n d
  · have HE := Lib.hid (show miB zs n d = false by unfold miB; rw [hi, Bool.and_false])
    rw [fd_no hi] at HF
    clear hz hi h1
    go_enter Tryd.func12, Tryd.ntmps12
    go_wp2_with fail
    refine HF.out.mono ?_
    rintro e w' ⟨rfl, hw'⟩
    subst w'
    go_wp2_with fail
    refine HL.out.mono ?_
    rintro e W1 ⟨rfl, hb⟩
    have B1 := Lib.hid hb
    clear hb
    have OX := Lib.hid (own_emptyZ W1 38 6)
    have LX := Lib.hid (B1.out.size)
    have BX := Lib.hid (B1.out.alloc B1.out.size (.cells #[] 38))
    go_wp2_with fail
    go_ret2
    exact ⟨_, by rw [HE.out]; rfl, by rw [(mi_no HE.out).2, (mi_no HE.out).1]; exact own_.own_base OX.out LX.out, BX.out⟩
  obtain ⟨k, hk, hd, hf⟩ := fd_yes hi
  rw [hf] at HF
  obtain ⟨hB, hyes, hno⟩ := miss_put hz h1.1 hk hd
  have hb4 := tkB_yes (tv_at hz hk)
  have hms := missOk_is hz hk
  have HMY := Lib.hid (fun W h => miss14_yes (fld 6 zs k 0) (fld 6 zs k 1) (fld 6 zs k 2) (fld 6 zs k 3) (fld 6 zs k 4) (fld 6 zs k 5) W (by omega) (by omega) h)
  have HMN := Lib.hid (fun W h => miss14_no (fld 6 zs k 0) (fld 6 zs k 1) (fld 6 zs k 2) (fld 6 zs k 3) (fld 6 zs k 4) (fld 6 zs k 5) W h)
  have HRY := Lib.hid (fun (h : missOk zs k = true) => missR_is hz hk h)
  have HE := Lib.hid hB
  have hn6 := (tvB_yes hz).2
  have HLEN := Lib.hid h1.1
  obtain ⟨b, o, rfl, hbl, -⟩ := h1.2 (by omega)
  have HR := Lib.hid h1
  have HCE := Lib.hid (cellsE h1 hk)
  obtain ⟨iT, hiT, hzT0, hzT1, hzT2⟩ := info_parts trke.infoS
  obtain ⟨p, hp⟩ : ∃ p : Nat, p = k + 1 := ⟨_, rfl⟩
  have e2 : IntKind.i64.wrap ((k : Int) + 1) = (p : Int) := by rw [IntWalk.i64_in _ (by omega)]; omega
  have HP := Lib.hid hp
  have L1 := Lib.hid (show (cellsI (zs.take (k * 6))).length = k * 6 by rw [cells_len, List.length_take, h1.1]; omega)
  have L2 := Lib.hid (show (cellsI (zs.drop (p * 6))).length = (n - p) * 6 by rw [cells_len, List.length_drop, h1.1]; omega)
  have LD := Lib.hid (fun (h : n ≤ p) => show zs.drop (p * 6) = [] from List.drop_eq_nil_of_le (by rw [h1.1]; omega))
  have k0 : (0 : Int) ≤ (k : Int) := Int.natCast_nonneg _
  have k1 : (k : Int) < (n : Int) := by omega
  have kc : (k : Int) ≤ (cp : Int) := by omega
  have k2 : (p : Int) ≤ (n : Int) := by omega
  have k3 : (n : Int) ≤ (cp : Int) := by omega
  have k4 : (0 : Int) ≤ (p : Int) := by omega
  have k5 : (p : Int) ≤ (cp : Int) := by omega
  have hkneg : ¬ (k : Int) < 0 := by omega
  have hcc : cp = p ∨ ¬ cp = p := by omega
  clear hz hi hd hf hB hb4 h1 hp
  by_cases hoo : missOk zs k = true
  · have HV := Lib.hid (hyes hoo)
    have HRR := Lib.hid (HRY.out hoo)
    rw [hoo] at hms
    have HM := Lib.hid (fun W => HMY.out W hms.symm)
    clear hyes hno hms HMY HMN HRY hoo
    rcases hcc with hck | hck
    · have HNP := Lib.hid (show n ≤ p by omega)
      obtain rfl : p = cp := hck.symm
      clear hck
      go_enter Tryd.func12, Tryd.ntmps12
      go_wp2_with fail
      refine HF.out.mono ?_
      rintro e w' ⟨rfl, hw'⟩
      subst w'
      go_wp2_with fail
      refine HL.out.mono ?_
      rintro e W1 ⟨rfl, hb⟩
      have B1 := Lib.hid hb
      clear hb
      obtain ⟨b', o', eA, l2, p0, p1, p2, p3, p4, p5⟩ := HCE.out
      obtain ⟨rfl, rfl⟩ : b = b' ∧ o = o' := by injection eA with e; injection e with e1 e2; exact ⟨e1, e2⟩
      have c0 := (B1.out.cell (p := ⟨b, o + k * 6, none⟩) hbl).trans p0
      have c1 := (B1.out.cell (p := ⟨b, o + k * 6 + 1, none⟩) hbl).trans p1
      have c2 := (B1.out.cell (p := ⟨b, o + k * 6 + 2, none⟩) hbl).trans p2
      have c3 := (B1.out.cell (p := ⟨b, o + k * 6 + 3, none⟩) hbl).trans p3
      have c4 := (B1.out.cell (p := ⟨b, o + k * 6 + 4, none⟩) hbl).trans p4
      have c5 := (B1.out.cell (p := ⟨b, o + k * 6 + 5, none⟩) hbl).trans p5
      clear p0 p1 p2 p3 p4 p5 eA HCE
      generalize fld 6 zs k 0 = u0 at *
      generalize fld 6 zs k 1 = u1 at *
      generalize fld 6 zs k 2 = u2 at *
      generalize fld 6 zs k 3 = u3 at *
      generalize fld 6 zs k 4 = u4 at *
      generalize fld 6 zs k 5 = u5 at *
      go_wp2_with fail
      refine (HM.out _).mono ?_
      rintro e W2 ⟨rfl, hb⟩
      have B2 := Lib.hid (B1.out.trans (hb.mono B1.out.size))
      have C3 := Lib.hid (newS 38 #[.int .i64 u0, .int .i64 3, .int .i64 u2, .int .i64 u3, .int .i64 u4, .int .i64 (u5 + 1)] W2)
      have B3 := Lib.hid (B2.out.alloc B2.out.size (.cells #[.int .i64 u0, .int .i64 3, .int .i64 u2, .int .i64 u3, .int .i64 u4, .int .i64 (u5 + 1)] 38))
      clear hb c0 c1 c2 c3 c4 c5 HM
      go_upto_region 5 with fail
      generalize W2.alloc (.cells #[.int .i64 u0, .int .i64 3, .int .i64 u2, .int .i64 u3, .int .i64 u4, .int .i64 (u5 + 1)] 38) = W3 at *
      generalize W2.heap.size = tb at *
      have SRC1 := Lib.hid (src_take (k * 6) (HR.out.next B3.out) (by omega))
      have BE4 := Lib.hid ((Below.refl W3.heap.size W3).alloc (Nat.le_refl _) (.cells #[] 38))
      go_wp2_with (first
        | (at_builtin; refine wpList_append_any rfl (.tmp 29) (.tmp 32) 24 rfl W3.heap.size 38 iT (.agg #[.int .i64 0, .int .i64 0, .int .i64 0, .int .i64 0, .int .i64 0, .int .i64 0]) 6 48 Tryd.underlying24 hiT hzT0 hzT1 hzT2 rfl (by decide) _ 0 [] rfl (own_emptyZ W3 38 6) ⟨b, o, none⟩ k _ (cellsI (zs.take (k * 6))) rfl L1.out (fun j u hu => (BE4.out.cell (World.block_lt_of_cell? _ _ (SRC1.out j u hu))).trans (SRC1.out j u hu)) (ints_one _) (by unfold maxLen; omega) (by omega) (by rw [World.size_alloc]; omega) ?_; intro v6 w6 o6 g6 n6; rw [Nat.zero_add, List.nil_append] at o6; obtain ⟨A6, c6, rfl⟩ := own_sliceZ o6; have hb6 := BE4.out.grown g6 BE4.out.size (own_.row_ge (own_emptyZ W3 38 6)); have O6 := Lib.hid o6; have H6 := Lib.hid hb6; clear o6 g6 n6 hb6; have C6 := Lib.hid (C3.out.old H6.out); have r0 : w6.cell? ⟨tb, 0, none⟩ = some (.int .i64 u0) := C6.out.cell 0; have rf0 := C6.out.frozen 0; have r1 : w6.cell? ⟨tb, 1, none⟩ = some (.int .i64 3) := C6.out.cell 1; have rf1 := C6.out.frozen 1; have r2 : w6.cell? ⟨tb, 2, none⟩ = some (.int .i64 u2) := C6.out.cell 2; have rf2 := C6.out.frozen 2; have r3 : w6.cell? ⟨tb, 3, none⟩ = some (.int .i64 u3) := C6.out.cell 3; have rf3 := C6.out.frozen 3; have r4 : w6.cell? ⟨tb, 4, none⟩ = some (.int .i64 u4) := C6.out.cell 4; have rf4 := C6.out.frozen 4; have r5 : w6.cell? ⟨tb, 5, none⟩ = some (.int .i64 (u5 + 1)) := C6.out.cell 5; have rf5 := C6.out.frozen 5)
        | (at_builtin; refine wpList_append_any rfl (.tmp 35) (.tmp 37) 24 rfl W3.heap.size 38 iT (.agg #[.int .i64 0, .int .i64 0, .int .i64 0, .int .i64 0, .int .i64 0, .int .i64 0]) 6 48 Tryd.underlying24 hiT hzT0 hzT1 hzT2 rfl (by decide) _ k (cellsI (zs.take (k * 6))) rfl (O6.out.alloc (.cells #[.int .i64 u0, .int .i64 3, .int .i64 u2, .int .i64 u3, .int .i64 u4, .int .i64 (u5 + 1)] 38)) ⟨w6.heap.size, 0, none⟩ 1 1 [.int .i64 u0, .int .i64 3, .int .i64 u2, .int .i64 u3, .int .i64 u4, .int .i64 (u5 + 1)] rfl rfl (cells_new w6 38 #[.int .i64 u0, .int .i64 3, .int .i64 u2, .int .i64 u3, .int .i64 u4, .int .i64 (u5 + 1)]) (by intro u hu; simp at hu; rcases hu with rfl | rfl | rfl | rfl | rfl | rfl <;> rfl) (by unfold maxLen; omega) (by omega) (by rw [World.size_alloc]; have := H6.out.size; omega) ?_; intro v8 w8 o8 g8 n8; obtain ⟨A8, c8, rfl⟩ := own_sliceZ o8; have O8 := Lib.hid o8; have H8 := Lib.hid ((H6.out.alloc H6.out.size (.cells #[.int .i64 u0, .int .i64 3, .int .i64 u2, .int .i64 u3, .int .i64 u4, .int .i64 (u5 + 1)] 38)).grown g8 (by have := H6.out.size; rw [World.size_alloc]; omega) (own_.row_ge (O6.out.alloc (.cells #[.int .i64 u0, .int .i64 3, .int .i64 u2, .int .i64 u3, .int .i64 u4, .int .i64 (u5 + 1)] 38)))); clear o8 g8 n8)
        | (at_builtin; refine wpList_append_any rfl (.tmp 39) (.tmp 43) 24 rfl W3.heap.size 38 iT (.agg #[.int .i64 0, .int .i64 0, .int .i64 0, .int .i64 0, .int .i64 0, .int .i64 0]) 6 48 Tryd.underlying24 hiT hzT0 hzT1 hzT2 rfl (by decide) _ (k + 1) _ rfl O8.out ⟨b, o, none⟩ 0 _ ([]) rfl rfl (fun j u hu => by simp at hu) (fun u hu => by simp at hu) (by unfold maxLen; omega) (by omega) (H8.out.size) ?_; intro v9 w9 o9 g9 n9; obtain ⟨A9, c9, rfl⟩ := own_sliceZ o9))
      have LB := Lib.hid B3.out.size
      have H9 := Lib.hid (H8.out.grown g9 H8.out.size (own_.row_ge O8.out))
      have O9 := Lib.hid o9
      clear o9 g9 n9
      have OX := Lib.hid ((show ∀ v, w9.ownsRow W3.heap.size 38 6 v ((k + 1) + 0) ((cellsI (zs.take (k * 6)) ++ [Value.int .i64 u0, Value.int .i64 3, Value.int .i64 u2, Value.int .i64 u3, Value.int .i64 u4, Value.int .i64 (u5 + 1)]) ++ []) → w9.ownsRow W3.heap.size 38 6 v (miN zs n d) (cellsI (miL zs n d)) from by
        intro v hx
        have hpp := HP.out
        rw [HV.out.1, HV.out.2, HRR.out]
        unfold putR
        rw [← hpp]
        have hnp := HNP.out
        rw [LD.out hnp]
        have hcnt : (k + 1) + 0 = n := by omega
        rw [hcnt] at hx
        unfold cellsI at hx ⊢
        rw [List.map_append, List.map_append]
        simpa [six] using hx) _ O9.out)
      go_wp2_with fail
      go_ret2
      exact ⟨_, by rw [HE.out]; rfl, own_.own_base OX.out LB.out, B3.out.trans (H9.out.mono LB.out)⟩
    · skip
      go_enter Tryd.func12, Tryd.ntmps12
      go_wp2_with fail
      refine HF.out.mono ?_
      rintro e w' ⟨rfl, hw'⟩
      subst w'
      go_wp2_with fail
      refine HL.out.mono ?_
      rintro e W1 ⟨rfl, hb⟩
      have B1 := Lib.hid hb
      clear hb
      obtain ⟨b', o', eA, l2, p0, p1, p2, p3, p4, p5⟩ := HCE.out
      obtain ⟨rfl, rfl⟩ : b = b' ∧ o = o' := by injection eA with e; injection e with e1 e2; exact ⟨e1, e2⟩
      have c0 := (B1.out.cell (p := ⟨b, o + k * 6, none⟩) hbl).trans p0
      have c1 := (B1.out.cell (p := ⟨b, o + k * 6 + 1, none⟩) hbl).trans p1
      have c2 := (B1.out.cell (p := ⟨b, o + k * 6 + 2, none⟩) hbl).trans p2
      have c3 := (B1.out.cell (p := ⟨b, o + k * 6 + 3, none⟩) hbl).trans p3
      have c4 := (B1.out.cell (p := ⟨b, o + k * 6 + 4, none⟩) hbl).trans p4
      have c5 := (B1.out.cell (p := ⟨b, o + k * 6 + 5, none⟩) hbl).trans p5
      clear p0 p1 p2 p3 p4 p5 eA HCE
      generalize fld 6 zs k 0 = u0 at *
      generalize fld 6 zs k 1 = u1 at *
      generalize fld 6 zs k 2 = u2 at *
      generalize fld 6 zs k 3 = u3 at *
      generalize fld 6 zs k 4 = u4 at *
      generalize fld 6 zs k 5 = u5 at *
      go_wp2_with fail
      refine (HM.out _).mono ?_
      rintro e W2 ⟨rfl, hb⟩
      have B2 := Lib.hid (B1.out.trans (hb.mono B1.out.size))
      have C3 := Lib.hid (newS 38 #[.int .i64 u0, .int .i64 3, .int .i64 u2, .int .i64 u3, .int .i64 u4, .int .i64 (u5 + 1)] W2)
      have B3 := Lib.hid (B2.out.alloc B2.out.size (.cells #[.int .i64 u0, .int .i64 3, .int .i64 u2, .int .i64 u3, .int .i64 u4, .int .i64 (u5 + 1)] 38))
      clear hb c0 c1 c2 c3 c4 c5 HM
      go_upto_region 5 with fail
      generalize W2.alloc (.cells #[.int .i64 u0, .int .i64 3, .int .i64 u2, .int .i64 u3, .int .i64 u4, .int .i64 (u5 + 1)] 38) = W3 at *
      generalize W2.heap.size = tb at *
      have SRC1 := Lib.hid (src_take (k * 6) (HR.out.next B3.out) (by omega))
      have BE4 := Lib.hid ((Below.refl W3.heap.size W3).alloc (Nat.le_refl _) (.cells #[] 38))
      go_wp2_with (first
        | (at_builtin; refine wpList_append_any rfl (.tmp 29) (.tmp 32) 24 rfl W3.heap.size 38 iT (.agg #[.int .i64 0, .int .i64 0, .int .i64 0, .int .i64 0, .int .i64 0, .int .i64 0]) 6 48 Tryd.underlying24 hiT hzT0 hzT1 hzT2 rfl (by decide) _ 0 [] rfl (own_emptyZ W3 38 6) ⟨b, o, none⟩ k _ (cellsI (zs.take (k * 6))) rfl L1.out (fun j u hu => (BE4.out.cell (World.block_lt_of_cell? _ _ (SRC1.out j u hu))).trans (SRC1.out j u hu)) (ints_one _) (by unfold maxLen; omega) (by omega) (by rw [World.size_alloc]; omega) ?_; intro v6 w6 o6 g6 n6; rw [Nat.zero_add, List.nil_append] at o6; obtain ⟨A6, c6, rfl⟩ := own_sliceZ o6; have hb6 := BE4.out.grown g6 BE4.out.size (own_.row_ge (own_emptyZ W3 38 6)); have O6 := Lib.hid o6; have H6 := Lib.hid hb6; clear o6 g6 n6 hb6; have C6 := Lib.hid (C3.out.old H6.out); have r0 : w6.cell? ⟨tb, 0, none⟩ = some (.int .i64 u0) := C6.out.cell 0; have rf0 := C6.out.frozen 0; have r1 : w6.cell? ⟨tb, 1, none⟩ = some (.int .i64 3) := C6.out.cell 1; have rf1 := C6.out.frozen 1; have r2 : w6.cell? ⟨tb, 2, none⟩ = some (.int .i64 u2) := C6.out.cell 2; have rf2 := C6.out.frozen 2; have r3 : w6.cell? ⟨tb, 3, none⟩ = some (.int .i64 u3) := C6.out.cell 3; have rf3 := C6.out.frozen 3; have r4 : w6.cell? ⟨tb, 4, none⟩ = some (.int .i64 u4) := C6.out.cell 4; have rf4 := C6.out.frozen 4; have r5 : w6.cell? ⟨tb, 5, none⟩ = some (.int .i64 (u5 + 1)) := C6.out.cell 5; have rf5 := C6.out.frozen 5)
        | (at_builtin; refine wpList_append_any rfl (.tmp 35) (.tmp 37) 24 rfl W3.heap.size 38 iT (.agg #[.int .i64 0, .int .i64 0, .int .i64 0, .int .i64 0, .int .i64 0, .int .i64 0]) 6 48 Tryd.underlying24 hiT hzT0 hzT1 hzT2 rfl (by decide) _ k (cellsI (zs.take (k * 6))) rfl (O6.out.alloc (.cells #[.int .i64 u0, .int .i64 3, .int .i64 u2, .int .i64 u3, .int .i64 u4, .int .i64 (u5 + 1)] 38)) ⟨w6.heap.size, 0, none⟩ 1 1 [.int .i64 u0, .int .i64 3, .int .i64 u2, .int .i64 u3, .int .i64 u4, .int .i64 (u5 + 1)] rfl rfl (cells_new w6 38 #[.int .i64 u0, .int .i64 3, .int .i64 u2, .int .i64 u3, .int .i64 u4, .int .i64 (u5 + 1)]) (by intro u hu; simp at hu; rcases hu with rfl | rfl | rfl | rfl | rfl | rfl <;> rfl) (by unfold maxLen; omega) (by omega) (by rw [World.size_alloc]; have := H6.out.size; omega) ?_; intro v8 w8 o8 g8 n8; obtain ⟨A8, c8, rfl⟩ := own_sliceZ o8; have O8 := Lib.hid o8; have H8 := Lib.hid ((H6.out.alloc H6.out.size (.cells #[.int .i64 u0, .int .i64 3, .int .i64 u2, .int .i64 u3, .int .i64 u4, .int .i64 (u5 + 1)] 38)).grown g8 (by have := H6.out.size; rw [World.size_alloc]; omega) (own_.row_ge (O6.out.alloc (.cells #[.int .i64 u0, .int .i64 3, .int .i64 u2, .int .i64 u3, .int .i64 u4, .int .i64 (u5 + 1)] 38)))); clear o8 g8 n8)
        | (at_builtin; refine wpList_append_any rfl (.tmp 39) (.tmp 43) 24 rfl W3.heap.size 38 iT (.agg #[.int .i64 0, .int .i64 0, .int .i64 0, .int .i64 0, .int .i64 0, .int .i64 0]) 6 48 Tryd.underlying24 hiT hzT0 hzT1 hzT2 rfl (by decide) _ (k + 1) _ rfl O8.out ⟨b, o + p * 6, none⟩ (n - p) _ (cellsI (zs.drop (p * 6))) rfl L2.out (src_at (m := p * 6) (HR.out.next (B3.out.trans (H8.out.mono B3.out.size))) (by omega)) (ints_one _) (by unfold maxLen; omega) (by omega) (H8.out.size) ?_; intro v9 w9 o9 g9 n9; obtain ⟨A9, c9, rfl⟩ := own_sliceZ o9))
      have LB := Lib.hid B3.out.size
      have H9 := Lib.hid (H8.out.grown g9 H8.out.size (own_.row_ge O8.out))
      have O9 := Lib.hid o9
      clear o9 g9 n9
      have OX := Lib.hid ((show ∀ v, w9.ownsRow W3.heap.size 38 6 v ((k + 1) + (n - p)) ((cellsI (zs.take (k * 6)) ++ [Value.int .i64 u0, Value.int .i64 3, Value.int .i64 u2, Value.int .i64 u3, Value.int .i64 u4, Value.int .i64 (u5 + 1)]) ++ cellsI (zs.drop (p * 6))) → w9.ownsRow W3.heap.size 38 6 v (miN zs n d) (cellsI (miL zs n d)) from by
        intro v hx
        have hpp := HP.out
        rw [HV.out.1, HV.out.2, HRR.out]
        unfold putR
        rw [← hpp]
        skip
        skip
        have hcnt : (k + 1) + (n - p) = n := by omega
        rw [hcnt] at hx
        unfold cellsI at hx ⊢
        rw [List.map_append, List.map_append]
        exact hx) _ O9.out)
      go_wp2_with fail
      go_ret2
      exact ⟨_, by rw [HE.out]; rfl, own_.own_base OX.out LB.out, B3.out.trans (H9.out.mono LB.out)⟩
  · have hof : missOk zs k = false := by simpa using hoo
    clear hoo
    have HV := Lib.hid (hno hof)
    skip
    rw [hof] at hms
    have HM := Lib.hid (fun W => HMN.out W hms.symm)
    clear hyes hno hms HMY HMN HRY hof
    rcases hcc with hck | hck
    · have HNP := Lib.hid (show n ≤ p by omega)
      obtain rfl : p = cp := hck.symm
      clear hck
      go_enter Tryd.func12, Tryd.ntmps12
      go_wp2_with fail
      refine HF.out.mono ?_
      rintro e w' ⟨rfl, hw'⟩
      subst w'
      go_wp2_with fail
      refine HL.out.mono ?_
      rintro e W1 ⟨rfl, hb⟩
      have B1 := Lib.hid hb
      clear hb
      obtain ⟨b', o', eA, l2, p0, p1, p2, p3, p4, p5⟩ := HCE.out
      obtain ⟨rfl, rfl⟩ : b = b' ∧ o = o' := by injection eA with e; injection e with e1 e2; exact ⟨e1, e2⟩
      have c0 := (B1.out.cell (p := ⟨b, o + k * 6, none⟩) hbl).trans p0
      have c1 := (B1.out.cell (p := ⟨b, o + k * 6 + 1, none⟩) hbl).trans p1
      have c2 := (B1.out.cell (p := ⟨b, o + k * 6 + 2, none⟩) hbl).trans p2
      have c3 := (B1.out.cell (p := ⟨b, o + k * 6 + 3, none⟩) hbl).trans p3
      have c4 := (B1.out.cell (p := ⟨b, o + k * 6 + 4, none⟩) hbl).trans p4
      have c5 := (B1.out.cell (p := ⟨b, o + k * 6 + 5, none⟩) hbl).trans p5
      clear p0 p1 p2 p3 p4 p5 eA HCE
      generalize fld 6 zs k 0 = u0 at *
      generalize fld 6 zs k 1 = u1 at *
      generalize fld 6 zs k 2 = u2 at *
      generalize fld 6 zs k 3 = u3 at *
      generalize fld 6 zs k 4 = u4 at *
      generalize fld 6 zs k 5 = u5 at *
      go_wp2_with fail
      refine (HM.out _).mono ?_
      rintro e W2 ⟨rfl, hb⟩
      have B2 := Lib.hid (B1.out.trans (hb.mono B1.out.size))
      have C3 := Lib.hid (newS 38 #[.int .i64 0, .int .i64 0, .int .i64 0, .int .i64 0, .int .i64 0, .int .i64 0] W2)
      have B3 := Lib.hid (B2.out.alloc B2.out.size (.cells #[.int .i64 0, .int .i64 0, .int .i64 0, .int .i64 0, .int .i64 0, .int .i64 0] 38))
      clear hb c0 c1 c2 c3 c4 c5 HM
      go_upto_region 5 with fail
      generalize W2.alloc (.cells #[.int .i64 0, .int .i64 0, .int .i64 0, .int .i64 0, .int .i64 0, .int .i64 0] 38) = W3 at *
      generalize W2.heap.size = tb at *
      have SRC1 := Lib.hid (src_take (k * 6) (HR.out.next B3.out) (by omega))
      have BE4 := Lib.hid ((Below.refl W3.heap.size W3).alloc (Nat.le_refl _) (.cells #[] 38))
      go_wp2_with (first
        | (at_builtin; refine wpList_append_any rfl (.tmp 29) (.tmp 32) 24 rfl W3.heap.size 38 iT (.agg #[.int .i64 0, .int .i64 0, .int .i64 0, .int .i64 0, .int .i64 0, .int .i64 0]) 6 48 Tryd.underlying24 hiT hzT0 hzT1 hzT2 rfl (by decide) _ 0 [] rfl (own_emptyZ W3 38 6) ⟨b, o, none⟩ k _ (cellsI (zs.take (k * 6))) rfl L1.out (fun j u hu => (BE4.out.cell (World.block_lt_of_cell? _ _ (SRC1.out j u hu))).trans (SRC1.out j u hu)) (ints_one _) (by unfold maxLen; omega) (by omega) (by rw [World.size_alloc]; omega) ?_; intro v6 w6 o6 g6 n6; rw [Nat.zero_add, List.nil_append] at o6; obtain ⟨A6, c6, rfl⟩ := own_sliceZ o6; have hb6 := BE4.out.grown g6 BE4.out.size (own_.row_ge (own_emptyZ W3 38 6)); have O6 := Lib.hid o6; have H6 := Lib.hid hb6; clear o6 g6 n6 hb6)
        | (at_builtin; refine wpList_append_any rfl (.tmp 39) (.tmp 43) 24 rfl W3.heap.size 38 iT (.agg #[.int .i64 0, .int .i64 0, .int .i64 0, .int .i64 0, .int .i64 0, .int .i64 0]) 6 48 Tryd.underlying24 hiT hzT0 hzT1 hzT2 rfl (by decide) _ k _ rfl O6.out ⟨b, o, none⟩ 0 _ ([]) rfl rfl (fun j u hu => by simp at hu) (fun u hu => by simp at hu) (by unfold maxLen; omega) (by omega) (H6.out.size) ?_; intro v9 w9 o9 g9 n9; obtain ⟨A9, c9, rfl⟩ := own_sliceZ o9))
      have LB := Lib.hid B3.out.size
      have H9 := Lib.hid (H6.out.grown g9 H6.out.size (own_.row_ge O6.out))
      have O9 := Lib.hid o9
      clear o9 g9 n9
      have OX := Lib.hid ((show ∀ v, w9.ownsRow W3.heap.size 38 6 v (k + 0) ((cellsI (zs.take (k * 6))) ++ []) → w9.ownsRow W3.heap.size 38 6 v (miN zs n d) (cellsI (miL zs n d)) from by
        intro v hx
        have hpp := HP.out
        rw [HV.out.1, HV.out.2]
        unfold putR
        rw [← hpp]
        have hnp := HNP.out
        rw [LD.out hnp]
        have hcnt : k + 0 = n - 1 := by omega
        rw [hcnt] at hx
        unfold cellsI at hx ⊢
        rw [List.map_append, List.map_append]
        simpa using hx) _ O9.out)
      go_wp2_with fail
      go_ret2
      exact ⟨_, by rw [HE.out]; rfl, own_.own_base OX.out LB.out, B3.out.trans (H9.out.mono LB.out)⟩
    · skip
      go_enter Tryd.func12, Tryd.ntmps12
      go_wp2_with fail
      refine HF.out.mono ?_
      rintro e w' ⟨rfl, hw'⟩
      subst w'
      go_wp2_with fail
      refine HL.out.mono ?_
      rintro e W1 ⟨rfl, hb⟩
      have B1 := Lib.hid hb
      clear hb
      obtain ⟨b', o', eA, l2, p0, p1, p2, p3, p4, p5⟩ := HCE.out
      obtain ⟨rfl, rfl⟩ : b = b' ∧ o = o' := by injection eA with e; injection e with e1 e2; exact ⟨e1, e2⟩
      have c0 := (B1.out.cell (p := ⟨b, o + k * 6, none⟩) hbl).trans p0
      have c1 := (B1.out.cell (p := ⟨b, o + k * 6 + 1, none⟩) hbl).trans p1
      have c2 := (B1.out.cell (p := ⟨b, o + k * 6 + 2, none⟩) hbl).trans p2
      have c3 := (B1.out.cell (p := ⟨b, o + k * 6 + 3, none⟩) hbl).trans p3
      have c4 := (B1.out.cell (p := ⟨b, o + k * 6 + 4, none⟩) hbl).trans p4
      have c5 := (B1.out.cell (p := ⟨b, o + k * 6 + 5, none⟩) hbl).trans p5
      clear p0 p1 p2 p3 p4 p5 eA HCE
      generalize fld 6 zs k 0 = u0 at *
      generalize fld 6 zs k 1 = u1 at *
      generalize fld 6 zs k 2 = u2 at *
      generalize fld 6 zs k 3 = u3 at *
      generalize fld 6 zs k 4 = u4 at *
      generalize fld 6 zs k 5 = u5 at *
      go_wp2_with fail
      refine (HM.out _).mono ?_
      rintro e W2 ⟨rfl, hb⟩
      have B2 := Lib.hid (B1.out.trans (hb.mono B1.out.size))
      have C3 := Lib.hid (newS 38 #[.int .i64 0, .int .i64 0, .int .i64 0, .int .i64 0, .int .i64 0, .int .i64 0] W2)
      have B3 := Lib.hid (B2.out.alloc B2.out.size (.cells #[.int .i64 0, .int .i64 0, .int .i64 0, .int .i64 0, .int .i64 0, .int .i64 0] 38))
      clear hb c0 c1 c2 c3 c4 c5 HM
      go_upto_region 5 with fail
      generalize W2.alloc (.cells #[.int .i64 0, .int .i64 0, .int .i64 0, .int .i64 0, .int .i64 0, .int .i64 0] 38) = W3 at *
      generalize W2.heap.size = tb at *
      have SRC1 := Lib.hid (src_take (k * 6) (HR.out.next B3.out) (by omega))
      have BE4 := Lib.hid ((Below.refl W3.heap.size W3).alloc (Nat.le_refl _) (.cells #[] 38))
      go_wp2_with (first
        | (at_builtin; refine wpList_append_any rfl (.tmp 29) (.tmp 32) 24 rfl W3.heap.size 38 iT (.agg #[.int .i64 0, .int .i64 0, .int .i64 0, .int .i64 0, .int .i64 0, .int .i64 0]) 6 48 Tryd.underlying24 hiT hzT0 hzT1 hzT2 rfl (by decide) _ 0 [] rfl (own_emptyZ W3 38 6) ⟨b, o, none⟩ k _ (cellsI (zs.take (k * 6))) rfl L1.out (fun j u hu => (BE4.out.cell (World.block_lt_of_cell? _ _ (SRC1.out j u hu))).trans (SRC1.out j u hu)) (ints_one _) (by unfold maxLen; omega) (by omega) (by rw [World.size_alloc]; omega) ?_; intro v6 w6 o6 g6 n6; rw [Nat.zero_add, List.nil_append] at o6; obtain ⟨A6, c6, rfl⟩ := own_sliceZ o6; have hb6 := BE4.out.grown g6 BE4.out.size (own_.row_ge (own_emptyZ W3 38 6)); have O6 := Lib.hid o6; have H6 := Lib.hid hb6; clear o6 g6 n6 hb6)
        | (at_builtin; refine wpList_append_any rfl (.tmp 39) (.tmp 43) 24 rfl W3.heap.size 38 iT (.agg #[.int .i64 0, .int .i64 0, .int .i64 0, .int .i64 0, .int .i64 0, .int .i64 0]) 6 48 Tryd.underlying24 hiT hzT0 hzT1 hzT2 rfl (by decide) _ k _ rfl O6.out ⟨b, o + p * 6, none⟩ (n - p) _ (cellsI (zs.drop (p * 6))) rfl L2.out (src_at (m := p * 6) (HR.out.next (B3.out.trans (H6.out.mono B3.out.size))) (by omega)) (ints_one _) (by unfold maxLen; omega) (by omega) (H6.out.size) ?_; intro v9 w9 o9 g9 n9; obtain ⟨A9, c9, rfl⟩ := own_sliceZ o9))
      have LB := Lib.hid B3.out.size
      have H9 := Lib.hid (H6.out.grown g9 H6.out.size (own_.row_ge O6.out))
      have O9 := Lib.hid o9
      clear o9 g9 n9
      have OX := Lib.hid ((show ∀ v, w9.ownsRow W3.heap.size 38 6 v (k + (n - p)) ((cellsI (zs.take (k * 6))) ++ cellsI (zs.drop (p * 6))) → w9.ownsRow W3.heap.size 38 6 v (miN zs n d) (cellsI (miL zs n d)) from by
        intro v hx
        have hpp := HP.out
        rw [HV.out.1, HV.out.2]
        unfold putR
        rw [← hpp]
        skip
        skip
        have hcnt : k + (n - p) = n - 1 := by omega
        rw [hcnt] at hx
        unfold cellsI at hx ⊢
        rw [List.map_append, List.map_append]
        simpa using hx) _ O9.out)
      go_wp2_with fail
      go_ret2
      exact ⟨_, by rw [HE.out]; rfl, own_.own_base OX.out LB.out, B3.out.trans (H9.out.mono LB.out)⟩
end Go.Proofs.YtinkkdgjpcnklaaDoor.trku
