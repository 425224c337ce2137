/- spec's HitTrack and MissTrack. -/
import Derived.Test.YtfigjfckelichaaGreatDoorTrkT
import Derived.Test.YtfigjfckelichaaGreatDoorRws
import Derived.Test.YtfigjfckelichaaGreatDoorTailH
import Derived.OwnWalk
namespace Go.Proofs.YtfigjfckelichaaGreatDoor.trku
open Go.RowKit Go.Proofs.YtfigjfckelichaaGreatDoor.ints Go.Proofs.YtfigjfckelichaaGreatDoor.lst Go.Proofs.YtfigjfckelichaaGreatDoor.in_ Go.Proofs.YtfigjfckelichaaGreatDoor.ats Go.Proofs.YtfigjfckelichaaGreatDoor.pos Go.Proofs.YtfigjfckelichaaGreatDoor.trk Go.Proofs.YtfigjfckelichaaGreatDoor.trkm Go.Proofs.YtfigjfckelichaaGreatDoor.trke Go.Proofs.YtfigjfckelichaaGreatDoor.intc Go.Proofs.YtfigjfckelichaaGreatDoor.rws Go.Proofs.YtfigjfckelichaaGreatDoor.trks Go.Proofs.YtfigjfckelichaaGreatDoor.trkt Go.Proofs.YtfigjfckelichaaGreatDoor.tailh
set_option linter.unusedSimpArgs false

theorem cellsI_at {xs : List Int} {j : Nat} {u : Value} (h : (cellsI xs)[j]? = some u) : ∃ x, xs[j]? = some x ∧ u = .int .i64 x := by
  unfold cellsI at h
  rw [List.getElem?_map] at h
  cases hx : xs[j]? with
  | none => rw [hx] at h; cases h
  | some x => rw [hx] at h; exact ⟨x, rfl, by simpa using h.symm⟩
theorem ints_one (xs : List Int) : ∀ u ∈ cellsI xs, u.oneCell' = true := by
  intro u hu
  unfold cellsI at hu
  obtain ⟨x, _, rfl⟩ := List.mem_map.mp hu
  rfl
/-- The cells of a list, from number m on. -/
theorem src_at {w : World} {B n m b o : Nat} {zs : List Int} (h : RdZ 6 w B (some ⟨b, o, none⟩) n zs) (hn : 0 < n) : ∀ j u, (cellsI (zs.drop m))[j]? = some u → w.cell? ((⟨b, o + m, none⟩ : Addr).add j) = some u := by
  intro j u hu
  obtain ⟨x, hx, rfl⟩ := cellsI_at hu
  obtain ⟨b', o', e, hlt, hc⟩ := h.2 hn
  obtain ⟨rfl, rfl⟩ : b = b' ∧ o = o' := by injection e with e; injection e with e1 e2; exact ⟨e1, e2⟩
  rw [List.getElem?_drop] at hx
  rw [Addr.add_lit, Nat.add_assoc]
  exact hc _ x hx
theorem src_take {w : World} {B n b o : Nat} {zs : List Int} (k : Nat) (h : RdZ 6 w B (some ⟨b, o, none⟩) n zs) (hn : 0 < n) : ∀ j u, (cellsI (zs.take k))[j]? = some u → w.cell? ((⟨b, o, none⟩ : Addr).add j) = some u := by
  intro j u hu
  obtain ⟨x, hx, rfl⟩ := cellsI_at hu
  rw [List.getElem?_take] at hx
  split at hx
  · have := src_at (m := 0) h hn j (.int .i64 x) (by rw [List.drop_zero]; unfold cellsI; rw [List.getElem?_map, hx]; rfl)
    exact this
  · cases hx
theorem cells_len (zs : List Int) : (cellsI zs).length = zs.length := by unfold cellsI; rw [List.length_map]
theorem cell_fld {zs : List Int} {n k i : Nat} (hl : zs.length = n * 6) (hk : k < n) (hi : i < 6) : (cellsI zs)[k * 6 + i]? = some (.int .i64 (fld 6 zs k i)) := by
  unfold cellsI fld
  rw [List.getElem?_map, List.getD_eq_getElem?_getD, List.getElem?_eq_getElem (show k * 6 + i < zs.length by omega)]; rfl
/-- Six cells are written anew. -/
theorem set_six {zs : List Int} {n k : Nat} (a b d f g q : Int) (hl : zs.length = n * 6) (hk : k < n) :
    ((((((cellsI zs).set (k * 6) (.int .i64 a)).set (k * 6 + 1) (.int .i64 b)).set (k * 6 + 2) (.int .i64 d)).set (k * 6 + 3) (.int .i64 f)).set (k * 6 + 4) (.int .i64 g)).set (k * 6 + 5) (.int .i64 q) = cellsI (putR zs k (six a b d f g q)) := by
  unfold cellsI putR
  refine List.ext_getElem? fun i => ?_
  simp only [List.getElem?_set, List.length_set, List.length_map, List.getElem?_map]
  rcases Nat.lt_or_ge i (k * 6) with h | h
  · rw [if_neg (by omega), if_neg (by omega), if_neg (by omega), if_neg (by omega), if_neg (by omega), if_neg (by omega), List.append_assoc, List.getElem?_append_left (by rw [List.length_take]; omega), List.getElem?_take, if_pos h]
  · rcases Nat.lt_or_ge i (k * 6 + 6) with h2 | h2
    · obtain ⟨j, rfl⟩ : ∃ j, i = k * 6 + j := ⟨i - k * 6, by omega⟩
      rw [List.append_assoc, List.getElem?_append_right (by rw [List.length_take]; omega), List.length_take, Nat.min_eq_left (by omega), Nat.add_sub_cancel_left, List.getElem?_append_left (by rw [six_length]; omega)]
      have : j = 0 ∨ j = 1 ∨ j = 2 ∨ j = 3 ∨ j = 4 ∨ j = 5 := by omega
      rcases this with h | h | h | h | h | h <;> subst h <;> (repeat (first | rw [if_pos (by omega)] | rw [if_neg (by omega)])) <;> first | rfl | (rw [if_pos (by omega)]; rfl) | (simp; omega)
    · rw [if_neg (by omega), if_neg (by omega), if_neg (by omega), if_neg (by omega), if_neg (by omega), if_neg (by omega), List.getElem?_append_right (by rw [List.length_append, List.length_take, six_length]; omega), List.length_append, List.length_take, six_length, List.getElem?_drop]
      congr 2
      omega
theorem put_length {zs : List Int} {n k : Nat} (a b d f g q : Int) (hl : zs.length = n * 6) (hk : k < n) : (putR zs k (six a b d f g q)).length = n * 6 := by
  unfold putR
  rw [List.length_append, List.length_append, List.length_take, List.length_drop, six_length, hl]; omega

set_option maxRecDepth 100000 in
set_option maxHeartbeats 4000000 in
theorem hitTrack (zs : List Int) (d x y : Int) (A : Option Addr) (n cp : Nat) (w : World) (_hcp : n ≤ cp) (hn : n ≤ 1048577) (h1 : RdZ 6 w w.heap.size A n zs) :
    Calls Tryz.prog 14 #[.slice A n cp, .int .i64 d, .agg #[.int .i64 x, .int .i64 y]] w fun e w' => ∃ v, e = .returned (.tuple #[v, .bool (hiB zs n d x y)]) ∧ w'.ownsRow w.heap.size 25 6 v (hiN zs n d x y) (cellsI (hiL zs n d x y)) ∧ Below w.heap.size w w' := by
  have P0 := Lib.hid (newS 35 #[.int .i64 x, .int .i64 y] w)
  have HF := Lib.hid (fun (W : World) (hb : Below w.heap.size w W) => find14 zs d A n cp W hn (h1.next hb))
  have HL := Lib.hid (fun (W : World) (hb : Below w.heap.size w W) => list14 zs A n cp W hn (h1.next hb))
  have HP := Lib.hid (fun W => poss.good7 x y W)
  cases hz : tvB zs n
  · have HE := Lib.hid (show hiB zs n d x y = false by unfold hiB; rw [hz]; rfl)
    rw [hz] at HL
    clear hz h1
    generalize fdV zs n d = fi at *
    go_enter Tryz.func14, Tryz.ntmps14
    go_wp2_with fail
    generalize w.alloc (.cells #[.int .i64 x, .int .i64 y] 35) = W0 at *
    refine (HF.out W0 P0.out.1).mono ?_
    rintro e w' ⟨rfl, hw'⟩
    subst w'
    go_wp2_with fail
    refine (HL.out W0 P0.out.1).mono ?_
    rintro e W1 ⟨rfl, hb⟩
    have P1 := Lib.hid (P0.out.old hb)
    have B1 := Lib.hid P1.out.1
    clear hb
    have OX := Lib.hid (own_emptyZ W1 25 6)
    have LX := Lib.hid (B1.out.size)
    have BX := Lib.hid (B1.out.alloc B1.out.size (.cells #[] 25))
    go_wp2_with fail
    go_ret2
    exact ⟨_, by rw [HE.out]; rfl, by rw [(hi_no HE.out).2, (hi_no HE.out).1]; exact own_.own_base OX.out LX.out, BX.out⟩
  rw [hz] at HL
  cases hp : pB x y
  · have HE := Lib.hid (show hiB zs n d x y = false by
      cases hi : hasId zs n d
      · unfold hiB; rw [hi, Bool.and_false]; rfl
      · obtain ⟨k, hk, e, _⟩ := hasId_yes hi
        rw [(hit_put hz h1.1 hk e).2.1]
        unfold hitOk tkB
        rw [hp, Bool.false_and, Bool.and_false])
    rw [hp] at HP
    clear hz hp h1
    generalize fdV zs n d = fi at *
    go_enter Tryz.func14, Tryz.ntmps14
    go_wp2_with fail
    generalize w.alloc (.cells #[.int .i64 x, .int .i64 y] 35) = W0 at *
    refine (HF.out W0 P0.out.1).mono ?_
    rintro e w' ⟨rfl, hw'⟩
    subst w'
    go_wp2_with fail
    refine (HL.out W0 P0.out.1).mono ?_
    rintro e W1 ⟨rfl, hb⟩
    have P1 := Lib.hid (P0.out.old hb)
    have B1 := Lib.hid P1.out.1
    clear hb
    have p0 : W1.cell? ⟨w.heap.size, 0, none⟩ = some (.int .i64 x) := P1.out.cell 0
    have p1 : W1.cell? ⟨w.heap.size, 1, none⟩ = some (.int .i64 y) := P1.out.cell 1
    go_wp2_with fail
    refine (HP.out W1).mono ?_
    rintro e W2 ⟨rfl, hb⟩
    have P2 := Lib.hid (P1.out.old hb)
    have B2 := Lib.hid P2.out.1
    clear hb p0 p1
    have OX := Lib.hid (own_emptyZ W2 25 6)
    have LX := Lib.hid (B2.out.size)
    have BX := Lib.hid (B2.out.alloc B2.out.size (.cells #[] 25))
    go_wp2_with fail
    go_ret2
    exact ⟨_, by rw [HE.out]; rfl, by rw [(hi_no HE.out).2, (hi_no HE.out).1]; exact own_.own_base OX.out LX.out, BX.out⟩
  rw [hp] at HP
  cases hi : hasId zs n d
  · have HE := Lib.hid (show hiB zs n d x y = false by unfold hiB; rw [hi, Bool.and_false]; rfl)
    rw [fd_no hi] at HF
    clear hz hp hi h1
    go_enter Tryz.func14, Tryz.ntmps14
    go_wp2_with fail
    generalize w.alloc (.cells #[.int .i64 x, .int .i64 y] 35) = W0 at *
    refine (HF.out W0 P0.out.1).mono ?_
    rintro e w' ⟨rfl, hw'⟩
    subst w'
    go_wp2_with fail
    refine (HL.out W0 P0.out.1).mono ?_
    rintro e W1 ⟨rfl, hb⟩
    have P1 := Lib.hid (P0.out.old hb)
    have B1 := Lib.hid P1.out.1
    clear hb
    have p0 : W1.cell? ⟨w.heap.size, 0, none⟩ = some (.int .i64 x) := P1.out.cell 0
    have p1 : W1.cell? ⟨w.heap.size, 1, none⟩ = some (.int .i64 y) := P1.out.cell 1
    go_wp2_with fail
    refine (HP.out W1).mono ?_
    rintro e W2 ⟨rfl, hb⟩
    have P2 := Lib.hid (P1.out.old hb)
    have B2 := Lib.hid P2.out.1
    clear hb p0 p1
    have OX := Lib.hid (own_emptyZ W2 25 6)
    have LX := Lib.hid (B2.out.size)
    have BX := Lib.hid (B2.out.alloc B2.out.size (.cells #[] 25))
    go_wp2_with fail
    go_ret2
    exact ⟨_, by rw [HE.out]; rfl, by rw [(hi_no HE.out).2, (hi_no HE.out).1]; exact own_.own_base OX.out LX.out, BX.out⟩
  obtain ⟨k, hk, hd, hf⟩ := fd_yes hi
  rw [hf] at HF
  obtain ⟨hok, hB, hV⟩ := hit_put (x := x) (y := y) hz h1.1 hk hd
  have hb4 := tkB_yes (tv_at hz hk)
  have HT := Lib.hid (fun W => hit14 (fld 6 zs k 0) (fld 6 zs k 1) (fld 6 zs k 2) (fld 6 zs k 3) (fld 6 zs k 4) (fld 6 zs k 5) x y W (by omega) (by omega))
  have hn6 := (tvB_yes hz).2
  have HLEN := Lib.hid h1.1
  have HSIX := Lib.hid (fun a b d f g q => set_six (zs := zs) (n := n) (k := k) a b d f g q h1.1 hk)
  have HC0 := Lib.hid (show (cellsI zs)[k * 6]? = some (.int .i64 (fld 6 zs k 0)) from cell_fld (i := 0) h1.1 hk (by omega))
  have HC1 := Lib.hid (show (cellsI zs)[k * 6 + 1]? = some (.int .i64 (fld 6 zs k 1)) from cell_fld (i := 1) h1.1 hk (by omega))
  have HC2 := Lib.hid (show (cellsI zs)[k * 6 + 2]? = some (.int .i64 (fld 6 zs k 2)) from cell_fld (i := 2) h1.1 hk (by omega))
  have HC3 := Lib.hid (show (cellsI zs)[k * 6 + 3]? = some (.int .i64 (fld 6 zs k 3)) from cell_fld (i := 3) h1.1 hk (by omega))
  have HC4 := Lib.hid (show (cellsI zs)[k * 6 + 4]? = some (.int .i64 (fld 6 zs k 4)) from cell_fld (i := 4) h1.1 hk (by omega))
  have HC5 := Lib.hid (show (cellsI zs)[k * 6 + 5]? = some (.int .i64 (fld 6 zs k 5)) from cell_fld (i := 5) h1.1 hk (by omega))
  have HPL := Lib.hid (put_length (zs := zs) (n := n) (k := k) (fld 6 zs k 0) (sw (fld 6 zs k 4 + 1) 0) x y (fld 6 zs k 4 + 1) 0 h1.1 hk)
  have HTV := Lib.hid (show tvB (putR zs k (hitR zs x y k)) n = hiB zs n d x y by
    rw [hB, ← hok]; unfold tvB; rw [decide_eq_true hn6, Bool.and_true])
  have HVV := Lib.hid (show hiB zs n d x y = true → hiL zs n d x y = putR zs k (hitR zs x y k) ∧ hiN zs n d x y = n from fun h => ⟨hV (by rw [← hB]; exact h), (hi_yes h).2⟩)
  have HGT := Lib.hid (fun (b g : Option Addr) (c : Nat) (W : World) h => list14 (putR zs k (hitR zs x y k)) g n c W hn h)
  obtain ⟨b, o, rfl, hbl, -⟩ := h1.2 (by omega)
  have HR := Lib.hid h1
  obtain ⟨iT, hiT, hzT0, hzT1, hzT2⟩ := info_parts trke.infoS
  have k0 : (0 : Int) ≤ (k : Int) := Int.natCast_nonneg _
  have k1 : (k : Int) < (n : Int) := by omega
  have hkneg : ¬ (k : Int) < 0 := by omega
  have hLc : (cellsI zs).length = n * 6 := by rw [cells_len]; exact h1.1
  rw [show hitR zs x y k = six (fld 6 zs k 0) (sw (fld 6 zs k 4 + 1) 0) x y (fld 6 zs k 4 + 1) 0 from rfl] at HTV HVV HGT
  have HLc := Lib.hid hLc
  clear hz hp hi hd hf hok hB hV hb4 h1 hLc
  generalize hu0 : fld 6 zs k 0 = u0 at *
  generalize hu1 : fld 6 zs k 1 = u1 at *
  generalize hu2 : fld 6 zs k 2 = u2 at *
  generalize hu3 : fld 6 zs k 3 = u3 at *
  generalize hu4 : fld 6 zs k 4 = u4 at *
  generalize hu5 : fld 6 zs k 5 = u5 at *
  clear hu0 hu1 hu2 hu3 hu5 hu4
  generalize sw (u4 + 1) 0 = t at *
  generalize u4 + 1 = q at *
  go_enter Tryz.func14, Tryz.ntmps14
  go_wp2_with fail
  generalize w.alloc (.cells #[.int .i64 x, .int .i64 y] 35) = W0 at *
  refine (HF.out W0 P0.out.1).mono ?_
  rintro e w' ⟨rfl, hw'⟩
  subst w'
  go_wp2_with fail
  refine (HL.out W0 P0.out.1).mono ?_
  rintro e W1 ⟨rfl, hb⟩
  have P1 := Lib.hid (P0.out.old hb)
  have B1 := Lib.hid P1.out.1
  clear hb
  have p0 : W1.cell? ⟨w.heap.size, 0, none⟩ = some (.int .i64 x) := P1.out.cell 0
  have p1 : W1.cell? ⟨w.heap.size, 1, none⟩ = some (.int .i64 y) := P1.out.cell 1
  go_wp2_with fail
  refine (HP.out W1).mono ?_
  rintro e W2 ⟨rfl, hb⟩
  have P2 := Lib.hid (P1.out.old hb)
  have B2 := Lib.hid P2.out.1
  clear hb p0 p1
  go_wp2_with (at_builtin; refine wpList_append_any rfl (.tmp 26) (.tmp 27) 33 rfl W2.heap.size 25 iT (.agg #[.int .i64 0, .int .i64 0, .int .i64 0, .int .i64 0, .int .i64 0, .int .i64 0]) 6 48 Tryz.underlying33 hiT hzT0 hzT1 hzT2 rfl (by decide) _ 0 [] rfl (own_emptyZ W2 25 6) ⟨b, o, none⟩ n cp (cellsI zs) rfl HLc.out (fun j u hu => ((((Below.refl W2.heap.size W2).alloc (Nat.le_refl _) (.cells #[] 25)).cell (World.block_lt_of_cell? _ _ (src_at (m := 0) (HR.out.next B2.out) (by omega) j u (by rw [List.drop_zero]; exact hu)))).trans (src_at (m := 0) (HR.out.next B2.out) (by omega) j u (by rw [List.drop_zero]; exact hu)))) (ints_one _) (by unfold maxLen; omega) (by omega) (by rw [World.size_alloc]; omega) ?_; intro v6 w6 o6 g6 n6; rw [Nat.zero_add, List.nil_append] at o6; obtain ⟨A6, c6, rfl⟩ := own_sliceZ o6)
  obtain ⟨g, rfl⟩ : ∃ g, A6 = some ⟨g, 0, none⟩ := by
    rcases o6.2 with ⟨_, h0⟩ | ⟨g, _, _, hv, hg, _⟩
    · omega
    · injection hv with hA; exact ⟨g, hA⟩
  have hgB := own_.row_ge o6 g rfl
  have hb6 := ((Below.refl W2.heap.size W2).alloc (Nat.le_refl _) (.cells #[] 25)).grown g6 (by rw [World.size_alloc]; omega) (own_.row_ge (own_emptyZ W2 25 6))
  have P6 := Lib.hid (P2.out.old hb6)
  have O6 := Lib.hid o6
  have hg0 : w.heap.size < g := Nat.lt_of_lt_of_le P2.out.2.2.1 hgB
  have CS := Lib.hid (show ∀ WZ : World, WZ.ownsRow W2.heap.size 25 6 (.slice (some ⟨g, 0, none⟩) n c6) n (cellsI zs) → AtS 35 #[.int .i64 x, .int .i64 y] w WZ w.heap.size → (World.cell? WZ ⟨g, k * 6, none⟩ = some (.int .i64 u0) ∧ World.cell? WZ ⟨g, k * 6 + 1, none⟩ = some (.int .i64 u1) ∧ World.cell? WZ ⟨g, k * 6 + 2, none⟩ = some (.int .i64 u2) ∧ World.cell? WZ ⟨g, k * 6 + 3, none⟩ = some (.int .i64 u3) ∧ World.cell? WZ ⟨g, k * 6 + 4, none⟩ = some (.int .i64 u4) ∧ World.cell? WZ ⟨g, k * 6 + 5, none⟩ = some (.int .i64 u5) ∧ World.cell? WZ ⟨w.heap.size, 0, none⟩ = some (.int .i64 x) ∧ World.cell? WZ ⟨w.heap.size, 1, none⟩ = some (.int .i64 y)) from fun WZ hO hP =>
    ⟨(hO.cellAt (k * 6) (by omega)).trans HC0.out, (hO.cellAt (k * 6 + 1) (by omega)).trans HC1.out, (hO.cellAt (k * 6 + 2) (by omega)).trans HC2.out, (hO.cellAt (k * 6 + 3) (by omega)).trans HC3.out, (hO.cellAt (k * 6 + 4) (by omega)).trans HC4.out, (hO.cellAt (k * 6 + 5) (by omega)).trans HC5.out, hP.cell 0, hP.cell 1⟩)
  clear o6 g6 n6 hb6 HF HL HP
  go_upto_region 5 with fail
  have HSd := Lib.hid (CS.out w6.drew O6.out P6.out.drew)
  refine wp_region_tail (S := fun w' => World.cell? w' ⟨g, k * 6, none⟩ = some (.int .i64 u0) ∧ World.cell? w' ⟨g, k * 6 + 1, none⟩ = some (.int .i64 u1) ∧ World.cell? w' ⟨g, k * 6 + 2, none⟩ = some (.int .i64 u2) ∧ World.cell? w' ⟨g, k * 6 + 3, none⟩ = some (.int .i64 u3) ∧ World.cell? w' ⟨g, k * 6 + 4, none⟩ = some (.int .i64 u4) ∧ World.cell? w' ⟨g, k * 6 + 5, none⟩ = some (.int .i64 u5) ∧ World.cell? w' ⟨w.heap.size, 0, none⟩ = some (.int .i64 x) ∧ World.cell? w' ⟨w.heap.size, 1, none⟩ = some (.int .i64 y)) 9 (by kernel_rfl) HSd.out (fun hHeld => ?_)
  try simp only [Act.put, List.getElem_toArray, List.getElem_cons_succ, List.getElem_cons_zero, List.setIfInBounds_toArray, List.set_cons_succ, List.set_cons_zero]
  refine wpAnyE_take (i := 0) (v := ?vq0) rfl (by decide +kernel) (fun _ _ _ h => h) (Or.inl ⟨by kernel_rfl, ?hq0⟩) (by assumption) ?rq0
  case hq0 =>
    intro wS hSw
    obtain ⟨h0_, h1_, h2_, h3_, h4_, h5_, h6_, h7_⟩ := hSw
    go_simp
    try with_reducible rfl
  try simp only [Act.put, List.getElem_toArray, List.getElem_cons_succ, List.getElem_cons_zero, List.setIfInBounds_toArray, List.set_cons_succ, List.set_cons_zero]
  refine wpAnyE_take (i := 1) (v := ?vq1) rfl (by decide +kernel) (fun _ _ _ h => h) (Or.inl ⟨by kernel_rfl, ?hq1⟩) (by assumption) ?rq1
  case hq1 =>
    intro wS hSw
    obtain ⟨h0_, h1_, h2_, h3_, h4_, h5_, h6_, h7_⟩ := hSw
    go_simp
    try with_reducible rfl
  try simp only [Act.put, List.getElem_toArray, List.getElem_cons_succ, List.getElem_cons_zero, List.setIfInBounds_toArray, List.set_cons_succ, List.set_cons_zero]
  refine wpAnyE_take (i := 2) (v := ?vq2) rfl (by decide +kernel) (fun _ _ _ h => h) (Or.inl ⟨by kernel_rfl, ?hq2⟩) (by assumption) ?rq2
  case hq2 =>
    intro wS hSw
    obtain ⟨h0_, h1_, h2_, h3_, h4_, h5_, h6_, h7_⟩ := hSw
    go_simp
    try with_reducible rfl
  try simp only [Act.put, List.getElem_toArray, List.getElem_cons_succ, List.getElem_cons_zero, List.setIfInBounds_toArray, List.set_cons_succ, List.set_cons_zero]
  refine wpAnyE_take (i := 3) (v := ?vq3) rfl (by decide +kernel) (fun _ _ _ h => h) (Or.inl ⟨by kernel_rfl, ?hq3⟩) (by assumption) ?rq3
  case hq3 =>
    intro wS hSw
    obtain ⟨h0_, h1_, h2_, h3_, h4_, h5_, h6_, h7_⟩ := hSw
    go_simp
    try with_reducible rfl
  try simp only [Act.put, List.getElem_toArray, List.getElem_cons_succ, List.getElem_cons_zero, List.setIfInBounds_toArray, List.set_cons_succ, List.set_cons_zero]
  refine wpAnyE_take (i := 4) (v := ?vq4) rfl (by decide +kernel) (fun _ _ _ h => h) (Or.inl ⟨by kernel_rfl, ?hq4⟩) (by assumption) ?rq4
  case hq4 =>
    intro wS hSw
    obtain ⟨h0_, h1_, h2_, h3_, h4_, h5_, h6_, h7_⟩ := hSw
    go_simp
    try with_reducible rfl
  try simp only [Act.put, List.getElem_toArray, List.getElem_cons_succ, List.getElem_cons_zero, List.setIfInBounds_toArray, List.set_cons_succ, List.set_cons_zero]
  refine wpAnyE_take (i := 5) (v := ?vq5) rfl (by decide +kernel) (fun _ _ _ h => h) (Or.inl ⟨by kernel_rfl, ?hq5⟩) (by assumption) ?rq5
  case hq5 =>
    intro wS hSw
    obtain ⟨h0_, h1_, h2_, h3_, h4_, h5_, h6_, h7_⟩ := hSw
    go_simp
    try with_reducible rfl
  try simp only [Act.put, List.getElem_toArray, List.getElem_cons_succ, List.getElem_cons_zero, List.setIfInBounds_toArray, List.set_cons_succ, List.set_cons_zero]
  refine wpAnyE_take (i := 6) (v := ?vq6) rfl (by decide +kernel) (fun _ _ _ h => h) (Or.inl ⟨by kernel_rfl, ?hq6⟩) (by assumption) ?rq6
  case hq6 =>
    intro wS hSw
    obtain ⟨h0_, h1_, h2_, h3_, h4_, h5_, h6_, h7_⟩ := hSw
    go_simp
    try with_reducible rfl
  try simp only [Act.put, List.getElem_toArray, List.getElem_cons_succ, List.getElem_cons_zero, List.setIfInBounds_toArray, List.set_cons_succ, List.set_cons_zero]
  refine wpAnyE_ready (rs := [7]) (by kernel_rfl) (by simp) ?_
  refine AllReadyE.cons (i := 7) rfl (by decide) (fun K hK => ?_) AllReadyE.nil
  go_simp
  refine (HT.out _).mono ?_
  rintro e W7 ⟨rfl, hb⟩
  go_simp
  have O7 := Lib.hid (own_.own_below (show w6.drew.ownsRow W2.heap.size 25 6 (.slice (some ⟨g, 0, none⟩) n c6) n (cellsI zs) from O6.out) hb)
  have P7 := Lib.hid (P6.out.drew.old hb)
  clear hb
  refine hK.out _ _ (CS.out W7 O7.out P7.out) (fun hHeld => ?_)
  clear hK K
  try simp only [Act.put, List.getElem_toArray, List.getElem_cons_succ, List.getElem_cons_zero, List.setIfInBounds_toArray, List.set_cons_succ, List.set_cons_zero]
  refine wpAnyE_take (i := 8) (v := ?vq8) rfl (by decide +kernel) (fun _ _ _ h => h) (Or.inl ⟨by kernel_rfl, ?hq8⟩) (by assumption) ?rq8
  case hq8 =>
    intro wS hSw
    obtain ⟨h0_, h1_, h2_, h3_, h4_, h5_, h6_, h7_⟩ := hSw
    go_simp
    try with_reducible rfl
  try simp only [Act.put, List.getElem_toArray, List.getElem_cons_succ, List.getElem_cons_zero, List.setIfInBounds_toArray, List.set_cons_succ, List.set_cons_zero]
  refine wpAnyE_ready (rs := [9]) (by kernel_rfl) (by simp) ?_
  refine AllReadyE.last (i := 9) rfl rfl (fun K hK => ?_)
  have s0 := (O7.out.cellAt (k * 6) (by omega)).trans HC0.out
  have r0 := O7.out.frozenAt (k * 6)
  have s1 := (O7.out.cellAt (k * 6 + 1) (by omega)).trans HC1.out
  have r1 := O7.out.frozenAt (k * 6 + 1)
  have s2 := (O7.out.cellAt (k * 6 + 2) (by omega)).trans HC2.out
  have r2 := O7.out.frozenAt (k * 6 + 2)
  have s3 := (O7.out.cellAt (k * 6 + 3) (by omega)).trans HC3.out
  have r3 := O7.out.frozenAt (k * 6 + 3)
  have s4 := (O7.out.cellAt (k * 6 + 4) (by omega)).trans HC4.out
  have r4 := O7.out.frozenAt (k * 6 + 4)
  have s5 := (O7.out.cellAt (k * 6 + 5) (by omega)).trans HC5.out
  have r5 := O7.out.frozenAt (k * 6 + 5)
  go_simp
  refine hK.out _ _ ?_
  clear hK K
  try simp only [Act.put, List.getElem_toArray, List.getElem_cons_succ, List.getElem_cons_zero, List.setIfInBounds_toArray, List.set_cons_succ, List.set_cons_zero]
  refine wpAnyE_done (by kernel_rfl) ?_ _
  try simp only [List.getElem_toArray, List.getElem_cons_succ, List.getElem_cons_zero, List.setIfInBounds_toArray, List.set_cons_succ, List.set_cons_zero]
  have st := ((((((O7.out.stored (k * 6) (.int .i64 u0)).1.stored (k * 6 + 1) (.int .i64 t)).1.stored (k * 6 + 2) (.int .i64 x)).1.stored (k * 6 + 3) (.int .i64 y)).1.stored (k * 6 + 4) (.int .i64 q)).1.stored (k * 6 + 5) (.int .i64 0)).1
  rw [HSIX.out] at st
  have ST := Lib.hid st
  have BE := Lib.hid ((((((P7.out.1.setCell (p := ⟨g, k * 6, none⟩) (Nat.le_of_lt hg0) (.int .i64 u0)).setCell (p := ⟨g, k * 6 + 1, none⟩) (Nat.le_of_lt hg0) (.int .i64 t)).setCell (p := ⟨g, k * 6 + 2, none⟩) (Nat.le_of_lt hg0) (.int .i64 x)).setCell (p := ⟨g, k * 6 + 3, none⟩) (Nat.le_of_lt hg0) (.int .i64 y)).setCell (p := ⟨g, k * 6 + 4, none⟩) (Nat.le_of_lt hg0) (.int .i64 q)).setCell (p := ⟨g, k * 6 + 5, none⟩) (Nat.le_of_lt hg0) (.int .i64 0))
  clear st s0 r0 s1 r1 s2 r2 s3 r3 s4 r4 s5 r5
  generalize (((((W7.setCell ⟨g, k * 6, none⟩ (.int .i64 u0)).setCell ⟨g, k * 6 + 1, none⟩ (.int .i64 t)).setCell ⟨g, k * 6 + 2, none⟩ (.int .i64 x)).setCell ⟨g, k * 6 + 3, none⟩ (.int .i64 y)).setCell ⟨g, k * 6 + 4, none⟩ (.int .i64 q)).setCell ⟨g, k * 6 + 5, none⟩ (.int .i64 0) = W8 at *
  have R8 := Lib.hid (RdZ.of_own ST.out HPL.out)
  go_wp2_with fail
  refine (HGT.out none (some ⟨g, 0, none⟩) c6 W8 R8.out).mono ?_
  rintro e W9 ⟨rfl, hb⟩
  have O9 := Lib.hid (own_.own_below ST.out hb)
  have B9 := Lib.hid (BE.out.trans (hb.mono BE.out.size))
  have LB := Lib.hid B2.out.size
  clear hb
  rw [HTV.out]
  cases hqB : hiB zs n d x y
  · have HE := Lib.hid hqB
    clear hqB
    have OX := Lib.hid (own_emptyZ W9 25 6)
    have LX := Lib.hid (B9.out.size)
    have BX := Lib.hid (B9.out.alloc B9.out.size (.cells #[] 25))
    go_wp2_with fail
    go_ret2
    exact ⟨_, by rw [HE.out]; rfl, by rw [(hi_no HE.out).2, (hi_no HE.out).1]; exact own_.own_base OX.out LX.out, BX.out⟩
  · have HV2 := Lib.hid (HVV.out hqB)
    have HE := Lib.hid hqB
    clear hqB
    go_wp2_with fail
    go_ret2
    exact ⟨_, by rw [HE.out]; rfl, by rw [HV2.out.1, HV2.out.2]; exact own_.own_base O9.out LB.out, B9.out⟩

end Go.Proofs.YtfigjfckelichaaGreatDoor.trku
