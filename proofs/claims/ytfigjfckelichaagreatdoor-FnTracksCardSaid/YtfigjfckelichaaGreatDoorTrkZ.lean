/- StartTrack of impl and spec. -/
import Derived.Test.YtfigjfckelichaaGreatDoorTrkU
import Derived.Test.YtfigjfckelichaaGreatDoorTrkV
namespace Go.Proofs.YtfigjfckelichaaGreatDoor.trkz
open Go.RowKit Go.Proofs.YtfigjfckelichaaGreatDoor.ints Go.Proofs.YtfigjfckelichaaGreatDoor.lst Go.Proofs.YtfigjfckelichaaGreatDoor.in_ Go.Proofs.YtfigjfckelichaaGreatDoor.ats Go.Proofs.YtfigjfckelichaaGreatDoor.pos Go.Proofs.YtfigjfckelichaaGreatDoor.trk Go.Proofs.YtfigjfckelichaaGreatDoor.trkm Go.Proofs.YtfigjfckelichaaGreatDoor.trke Go.Proofs.YtfigjfckelichaaGreatDoor.intc Go.Proofs.YtfigjfckelichaaGreatDoor.rws Go.Proofs.YtfigjfckelichaaGreatDoor.trks Go.Proofs.YtfigjfckelichaaGreatDoor.trkt Go.Proofs.YtfigjfckelichaaGreatDoor.tailh Go.Proofs.YtfigjfckelichaaGreatDoor.trku
set_option linter.unusedSimpArgs false

theorem at_gr {T : TypeId} {cs : Array Value} {w W W' : World} {b p : Nat} (h : ats.AtS T cs w W b) (hg : W.grownBy W' (some p)) (hne : b ≠ p) (hp : w.heap.size ≤ p) : ats.AtS T cs w W' b :=
  ⟨h.1.grown hg h.1.size (fun g e => by injection e with e; omega), h.2.1, Nat.lt_of_lt_of_le h.2.2.1 hg.size, (hg.block _ h.2.2.1 (fun e => by injection e with e; exact hne e)).trans h.2.2.2⟩
theorem at_own {T : TypeId} {cs : Array Value} {w W W' : World} {b B e s n : Nat} {v : Value} {xs : List Value} (h : ats.AtS T cs w W b) (ho : W.ownsRow B e s v n xs) (hg : W.grownBy W' v.ownBlock) (hne : ∀ g, v.ownBlock = some g → b ≠ g) (hB : w.heap.size ≤ B) : ats.AtS T cs w W' b :=
  ⟨h.1.grown hg h.1.size (fun g e => Nat.le_trans hB (own_.row_ge ho g e)), h.2.1, Nat.lt_of_lt_of_le h.2.2.1 hg.size, (hg.block _ h.2.2.1 (fun e => hne b e.symm rfl)).trans h.2.2.2⟩
theorem src_cell {w W : World} {n b o : Nat} {zs : List Int} (h : RdZ 6 w w.heap.size (some ⟨b, o, none⟩) n zs) (hl : zs.length = n * 6) (hb : Below w.heap.size w W) : ∀ j u, (cellsI zs)[j]? = some u → W.cell? ((⟨b, o, none⟩ : Addr).add j) = some u := by
  intro j u hu
  rcases Nat.eq_zero_or_pos n with h0 | h0
  · have := (List.getElem?_eq_some_iff.1 hu).1
    rw [cells_len, hl, h0] at this
    omega
  · have h1 := src_at (m := 0) h h0 j u (by rw [List.drop_zero]; exact hu)
    rw [Nat.add_zero] at h1
    exact (hb.cell (World.block_lt_of_cell? _ _ h1)).trans h1
set_option maxRecDepth 100000 in
set_option maxHeartbeats 2000000 in
theorem cloneT (zs : List Int) (A : Option Addr) (n c : Nat) (w : World) (hn : n ≤ 1048577) (h : RdZ 6 w w.heap.size A n zs) :
    Calls Tryz.prog 51 #[.slice A n c] w fun e w' => ∃ v, e = .returned v ∧ w'.ownsRow w.heap.size 25 6 v n (cellsI zs) ∧ Below w.heap.size w w' := by
  have q28 : ∀ (w : World) (a : Option Addr) (n c n' c' : Nat), (binOp .eql 33 (.slice a n c) (.slice none n' c')).run Tryz.prog w = .ok (.bool a.isNone) w := fun w a n c n' c' => Lib.run_eql_slice_nil w _ _ a n c n' c' Tryz.underlying33
  cases A with
  | none =>
    obtain rfl : n = 0 := by
      rcases Nat.eq_zero_or_pos n with h0 | h0
      · exact h0
      · obtain ⟨b, o, e, _⟩ := h.2 h0; cases e
    have hz : zs = [] := List.eq_nil_of_length_eq_zero (by rw [h.1])
    subst hz
    clear h
    go_enter Tryz.func51, Tryz.ntmps51
    go_wp2_with fail
    go_ret
    exact ⟨_, rfl, World.ownsRow_nil .., Below.refl _ _⟩
  | some a =>
    obtain ⟨iT, hiT, hzT0, hzT1, hzT2⟩ := info_parts trke.infoS
    obtain ⟨b, o, s⟩ := a
    have HE := Lib.hid ((Below.refl w.heap.size w).alloc (Nat.le_refl _) (.cells #[] 25))
    have HL := Lib.hid (show (cellsI zs).length = n * 6 by rw [cells_len]; exact h.1)
    have HS := Lib.hid (show ∀ j u, (cellsI zs)[j]? = some u → (w.alloc (.cells #[] 25)).cell? ((⟨b, o, s⟩ : Addr).add j) = some u from by
      intro j u hu
      rcases Nat.eq_zero_or_pos n with h0 | h0
      · have := (List.getElem?_eq_some_iff.1 hu).1
        rw [cells_len, h.1, h0] at this
        omega
      · obtain ⟨b', o', e, _⟩ := h.2 h0
        obtain ⟨rfl, rfl, rfl⟩ : b = b' ∧ o = o' ∧ s = none := by injection e with e; injection e with e1 e2 e3; exact ⟨e1, e2, e3⟩
        exact src_cell h h.1 HE.out j u hu)
    clear h
    go_enter Tryz.func51, Tryz.ntmps51
    go_wp2_with (at_builtin; refine wpList_append_any rfl (.tmp 5) (.tmp 6) 33 rfl w.heap.size 25 iT (.agg #[.int .i64 0, .int .i64 0, .int .i64 0, .int .i64 0, .int .i64 0, .int .i64 0]) 6 48 Tryz.underlying33 hiT hzT0 hzT1 hzT2 rfl (by decide) _ 0 [] rfl (own_emptyZ w 25 6) ⟨b, o, s⟩ n c (cellsI zs) rfl HL.out HS.out (ints_one _) (by unfold maxLen; omega) (by omega) (by rw [World.size_alloc]; omega) ?_; intro v6 w6 o6 g6 n6; rw [Nat.zero_add, List.nil_append] at o6)
    have O6 := Lib.hid o6
    have B6 := Lib.hid (HE.out.grown g6 HE.out.size (own_.row_ge (own_emptyZ w 25 6)))
    clear o6 g6 n6
    go_wp2_with fail
    go_ret
    exact ⟨_, rfl, O6.out, B6.out⟩
theorem st_row {zs : List Int} {n : Nat} {x y : Int} {w : World} {B : Nat} {v : Value} (h : w.ownsRow B 25 6 v (n + 1) (cellsI zs ++ [Value.int .i64 (stD zs n), Value.int .i64 1, Value.int .i64 x, Value.int .i64 y, Value.int .i64 1, Value.int .i64 0])) : w.ownsRow B 25 6 v (n + 1) (cellsI (stR zs n x y)) := by
  unfold stR cellsI at *
  rw [List.map_append]
  exact h
theorem stR_length {zs : List Int} {n : Nat} (x y : Int) (h : zs.length = n * 6) : (stR zs n x y).length = (n + 1) * 6 := by
  unfold stR
  rw [List.length_append, h, six_length]; omega
theorem sd_zero (zs : List Int) : stD zs 0 = 1 := rfl
theorem sd_succ {zs : List Int} {n p : Nat} (h : p + 1 = n) : stD zs n = IntKind.i64.wrap (fld 6 zs p 0 + 1) := by
  unfold stD
  rw [if_neg (by omega), show n - 1 = p by omega]

theorem six_cells (a b d f g q : Int) : ∀ u ∈ [Value.int .i64 a, .int .i64 b, .int .i64 d, .int .i64 f, .int .i64 g, .int .i64 q], u.oneCell' = true := by
  intro u hu
  simp at hu
  rcases hu with rfl | rfl | rfl | rfl | rfl | rfl <;> rfl
set_option maxRecDepth 100000 in
set_option maxHeartbeats 4000000 in
theorem startI (zs : List Int) (x y : Int) (A : Option Addr) (n cp : Nat) (w : World) (_hcp : n ≤ cp) (hn : n ≤ 1048576) (h1 : RdZ 6 w w.heap.size A n zs) :
    Calls Tryz.prog 17 #[.slice A n cp, .agg #[.int .i64 x, .int .i64 y]] w fun e w' => ∃ v, e = .returned (.tuple #[v, .int .i64 (stI zs n x y), .bool (stB zs n x y)]) ∧ w'.ownsRow w.heap.size 25 6 v (stN zs n x y) (cellsI (stL zs n x y)) ∧ Below w.heap.size w w' := by
  obtain ⟨iT, hiT, hzT0, hzT1, hzT2⟩ := info_parts trke.infoS
  have P0 := Lib.hid (newS 35 #[.int .i64 x, .int .i64 y] w)
  have HC := Lib.hid (fun (W : World) (hb : Below w.heap.size w W) => cloneT zs A n cp W (by omega) (h1.next hb))
  have HV := Lib.hid (fun (B : Option Addr) (c : Nat) (W : World) h => trkv.isValidTracks (stR zs n x y) B (n + 1) c W (by omega) h)
  have HRL := Lib.hid (stR_length (n := n) x y h1.1)
  have HNO := Lib.hid (fun (h : stB zs n x y = false) => st_no h)
  have HYE := Lib.hid (fun (h : stB zs n x y = true) => st_yes h)
  have HTV := Lib.hid (show tvB (stR zs n x y) (n + 1) = stB zs n x y from rfl)
  have HR := Lib.hid h1
  rw [HTV.out] at HV
  generalize hdI : stD zs n = dI at *
  have HDI := Lib.hid hdI
  clear h1 hdI
  rcases Nat.eq_zero_or_pos n with h0 | h0
  · subst h0
    obtain rfl : dI = 1 := by rw [← HDI.out]; rfl
    go_enter Tryz.func17, Tryz.ntmps17
    go_upto_region 4 with fail
    generalize w.alloc (.cells #[.int .i64 x, .int .i64 y] 35) = V0 at *
    have HSd := Lib.hid (show World.cell? V0.drew ⟨w.heap.size, 0, none⟩ = some (.int .i64 x) ∧ World.cell? V0.drew ⟨w.heap.size, 1, none⟩ = some (.int .i64 y) from ⟨P0.out.drew.cell 0, P0.out.drew.cell 1⟩)
    refine wp_region_tail (S := fun w' => World.cell? w' ⟨w.heap.size, 0, none⟩ = some (.int .i64 x) ∧ World.cell? w' ⟨w.heap.size, 1, none⟩ = some (.int .i64 y)) 10 (by kernel_rfl) HSd.out (fun hHeld => ?_)
    try simp only [Act.put, List.getElem_toArray, List.getElem_cons_succ, List.getElem_cons_zero, List.setIfInBounds_toArray, List.set_cons_succ, List.set_cons_zero]
    refine wpAnyE_take (i := 0) (v := ?vqz0) rfl (by decide +kernel) (fun _ _ _ h => h) (Or.inl ⟨by kernel_rfl, ?hqz0⟩) (by assumption) ?rqz0
    case hqz0 =>
      intro wS hSw
      obtain ⟨h0_, h1_⟩ := hSw
      go_simp
      try with_reducible rfl
    try simp only [Act.put, List.getElem_toArray, List.getElem_cons_succ, List.getElem_cons_zero, List.setIfInBounds_toArray, List.set_cons_succ, List.set_cons_zero]
    refine wpAnyE_take (i := 2) (v := ?vqz2) rfl (by decide +kernel) (fun _ _ _ h => h) (Or.inl ⟨by kernel_rfl, ?hqz2⟩) (by assumption) ?rqz2
    case hqz2 =>
      intro wS hSw
      obtain ⟨h0_, h1_⟩ := hSw
      go_simp
      try with_reducible rfl
    try simp only [Act.put, List.getElem_toArray, List.getElem_cons_succ, List.getElem_cons_zero, List.setIfInBounds_toArray, List.set_cons_succ, List.set_cons_zero]
    refine wpAnyE_take (i := 3) (v := ?vqz3) rfl (by decide +kernel) (fun _ _ _ h => h) (Or.inl ⟨by kernel_rfl, ?hqz3⟩) (by assumption) ?rqz3
    case hqz3 =>
      intro wS hSw
      obtain ⟨h0_, h1_⟩ := hSw
      go_simp
      try with_reducible rfl
    try simp only [Act.put, List.getElem_toArray, List.getElem_cons_succ, List.getElem_cons_zero, List.setIfInBounds_toArray, List.set_cons_succ, List.set_cons_zero]
    refine wpAnyE_take (i := 4) (v := ?vqz4) rfl (by decide +kernel) (fun _ _ _ h => h) (Or.inl ⟨by kernel_rfl, ?hqz4⟩) (by assumption) ?rqz4
    case hqz4 =>
      intro wS hSw
      obtain ⟨h0_, h1_⟩ := hSw
      go_simp
      try with_reducible rfl
    try simp only [Act.put, List.getElem_toArray, List.getElem_cons_succ, List.getElem_cons_zero, List.setIfInBounds_toArray, List.set_cons_succ, List.set_cons_zero]
    refine wpAnyE_take (i := 5) (v := ?vqz5) rfl (by decide +kernel) (fun _ _ _ h => h) (Or.inl ⟨by kernel_rfl, ?hqz5⟩) (by assumption) ?rqz5
    case hqz5 =>
      intro wS hSw
      obtain ⟨h0_, h1_⟩ := hSw
      go_simp
      try with_reducible rfl
    try simp only [Act.put, List.getElem_toArray, List.getElem_cons_succ, List.getElem_cons_zero, List.setIfInBounds_toArray, List.set_cons_succ, List.set_cons_zero]
    refine wpAnyE_take (i := 6) (v := ?vqz6) rfl (by decide +kernel) (fun _ _ _ h => h) (Or.inl ⟨by kernel_rfl, ?hqz6⟩) (by assumption) ?rqz6
    case hqz6 =>
      intro wS hSw
      obtain ⟨h0_, h1_⟩ := hSw
      go_simp
      try with_reducible rfl
    try simp only [Act.put, List.getElem_toArray, List.getElem_cons_succ, List.getElem_cons_zero, List.setIfInBounds_toArray, List.set_cons_succ, List.set_cons_zero]
    refine wpAnyE_take (i := 7) (v := ?vqz7) rfl (by decide +kernel) (fun _ _ _ h => h) (Or.inl ⟨by kernel_rfl, ?hqz7⟩) (by assumption) ?rqz7
    case hqz7 =>
      intro wS hSw
      obtain ⟨h0_, h1_⟩ := hSw
      go_simp
      try with_reducible rfl
    try simp only [Act.put, List.getElem_toArray, List.getElem_cons_succ, List.getElem_cons_zero, List.setIfInBounds_toArray, List.set_cons_succ, List.set_cons_zero]
    refine wpAnyE_ready (rs := [1, 8]) (by kernel_rfl) (by simp) ?_
    refine AllReadyE.cons (i := 1) rfl (by decide) (fun K hK => ?_) (AllReadyE.cons (i := 8) rfl (by decide) (fun K hK => ?_) AllReadyE.nil)
    · go_simp
      refine (HC.out _ P0.out.drew.1).mono ?_
      rintro e Wz1 ⟨vz1, rfl, ho, hb⟩
      obtain ⟨Az1, cz1, rfl⟩ := own_sliceZ ho
      go_simp
      have Pz1 := Lib.hid (P0.out.drew.old hb)
      have GEz1 := Lib.hid (fun g e => Nat.lt_of_lt_of_le P0.out.drew.2.2.1 (own_.row_ge ho g e))
      have Oz1 := Lib.hid (own_.own_base ho P0.out.drew.1.size)
      clear ho hb
      refine hK.out _ _ ⟨Pz1.out.cell 0, Pz1.out.cell 1⟩ (fun hHeld => ?_)
      clear hK K
      try simp only [Act.put, List.getElem_toArray, List.getElem_cons_succ, List.getElem_cons_zero, List.setIfInBounds_toArray, List.set_cons_succ, List.set_cons_zero]
      refine wpAnyE_ready (rs := [8]) (by kernel_rfl) (by simp) ?_
      refine AllReadyE.cons (i := 8) rfl (by decide) (fun K hK => ?_) AllReadyE.nil
      go_simp
      have Pzb8 := Lib.hid (Pz1.out.alloc (.cells #[.int .i64 1, .int .i64 1, .int .i64 x, .int .i64 y, .int .i64 1, .int .i64 0] 25))
      have Nzb8 := Lib.hid (Pz1.out.next 25 #[.int .i64 1, .int .i64 1, .int .i64 x, .int .i64 y, .int .i64 1, .int .i64 0])
      have Ozb8 := Lib.hid (Oz1.out.alloc (.cells #[.int .i64 1, .int .i64 1, .int .i64 x, .int .i64 y, .int .i64 1, .int .i64 0] 25))
      refine hK.out _ _ ⟨Pzb8.out.cell 0, Pzb8.out.cell 1⟩ (fun hHeld => ?_)
      clear hK K
      try simp only [Act.put, List.getElem_toArray, List.getElem_cons_succ, List.getElem_cons_zero, List.setIfInBounds_toArray, List.set_cons_succ, List.set_cons_zero]
      refine wpAnyE_ready (rs := [9]) (by kernel_rfl) (by simp) ?_
      refine AllReadyE.cons (i := 9) rfl (by decide) (fun K hK => ?_) AllReadyE.nil
      refine step_append_sz rfl (.tmp 21) (.tmp 28) 33 rfl w.heap.size 25 iT (.agg #[.int .i64 0, .int .i64 0, .int .i64 0, .int .i64 0, .int .i64 0, .int .i64 0]) 6 48 Tryz.underlying33 hiT hzT0 hzT1 hzT2 rfl (by decide) (.slice Az1 0 cz1) 0 (cellsI zs) rfl Ozb8.out ⟨Wz1.heap.size, 0, none⟩ 1 1 [Value.int .i64 1, Value.int .i64 1, Value.int .i64 x, Value.int .i64 y, Value.int .i64 1, Value.int .i64 0] rfl rfl (fun j u hu => by rw [Addr.add_lit, Nat.zero_add]; exact (Nzb8.out.cell j).trans (by simpa using hu)) (six_cells _ _ _ _ _ _) (by unfold maxLen; omega) (by omega) Pzb8.out.1.size ?_
      intro vzbi9 wzbi9 oA gA nA
      obtain ⟨Azbi9, czbi9, rfl⟩ := own_sliceZ oA
      have Ozbi9 := Lib.hid (st_row (zs := zs) (n := 0) (by rw [HDI.out]; exact oA))
      have Pzbi9 := Lib.hid (at_own Pzb8.out Ozb8.out gA (fun g e => Nat.ne_of_lt (GEz1.out g e)) (Nat.le_refl _))
      clear oA gA nA
      refine hK.out _ _ ⟨Pzbi9.out.cell 0, Pzbi9.out.cell 1⟩ (fun hHeld => ?_)
      clear hK K
      try simp only [Act.put, List.getElem_toArray, List.getElem_cons_succ, List.getElem_cons_zero, List.setIfInBounds_toArray, List.set_cons_succ, List.set_cons_zero]
      refine wpAnyE_ready (rs := [10]) (by kernel_rfl) (by simp) ?_
      refine AllReadyE.last (i := 10) rfl rfl (fun K hK => ?_)
      go_simp
      refine hK.out _ _ ?_
      clear hK K
      try simp only [Act.put, List.getElem_toArray, List.getElem_cons_succ, List.getElem_cons_zero, List.setIfInBounds_toArray, List.set_cons_succ, List.set_cons_zero]
      refine wpAnyE_done (by kernel_rfl) ?_ _
      try simp only [List.getElem_toArray, List.getElem_cons_succ, List.getElem_cons_zero, List.setIfInBounds_toArray, List.set_cons_succ, List.set_cons_zero]
      have RD := Lib.hid (RdZ.of_own Ozbi9.out HRL.out)
      have PF := Lib.hid Pzbi9.out.1
      go_wp2_with fail
      refine (HV.out _ _ _ RD.out).mono ?_
      rintro e WZ ⟨rfl, hb⟩
      have OZ := Lib.hid (own_.own_below Ozbi9.out hb)
      have BZ := Lib.hid (PF.out.trans (hb.mono PF.out.size))
      clear hb
      cases hq : stB zs 0 x y
      · have HN := Lib.hid (HNO.out hq)
        have HE := Lib.hid hq
        clear hq
        go_wp2_with fail
        go_ret3
        exact ⟨.slice none 0 0, by rw [HE.out, HN.out.2.2]; rfl, by rw [HN.out.2.1, HN.out.1]; exact World.ownsRow_nil .., BZ.out⟩
      · have HY := Lib.hid (HYE.out hq)
        have HE := Lib.hid hq
        clear hq
        go_wp2_with fail
        go_ret3
        exact ⟨_, by rw [HE.out, HY.out.2.2]; rfl, by rw [HY.out.2.1, HY.out.1]; exact OZ.out, BZ.out⟩
    · go_simp
      have Pz8 := Lib.hid (P0.out.drew.alloc (.cells #[.int .i64 1, .int .i64 1, .int .i64 x, .int .i64 y, .int .i64 1, .int .i64 0] 25))
      have Nz8 := Lib.hid (P0.out.drew.next 25 #[.int .i64 1, .int .i64 1, .int .i64 x, .int .i64 y, .int .i64 1, .int .i64 0])
      refine hK.out _ _ ⟨Pz8.out.cell 0, Pz8.out.cell 1⟩ (fun hHeld => ?_)
      clear hK K
      try simp only [Act.put, List.getElem_toArray, List.getElem_cons_succ, List.getElem_cons_zero, List.setIfInBounds_toArray, List.set_cons_succ, List.set_cons_zero]
      refine wpAnyE_ready (rs := [1]) (by kernel_rfl) (by simp) ?_
      refine AllReadyE.cons (i := 1) rfl (by decide) (fun K hK => ?_) AllReadyE.nil
      go_simp
      refine (HC.out _ Pz8.out.1).mono ?_
      rintro e Wzi1 ⟨vzi1, rfl, ho, hb⟩
      obtain ⟨Azi1, czi1, rfl⟩ := own_sliceZ ho
      go_simp
      have Pzi1 := Lib.hid (Pz8.out.old hb)
      have GEzi1 := Lib.hid (fun g e => Nat.lt_of_lt_of_le Pz8.out.2.2.1 (own_.row_ge ho g e))
      have Ozi1 := Lib.hid (own_.own_base ho Pz8.out.1.size)
      have Nzi1 := Lib.hid (Nz8.out.old hb)
      clear ho hb
      refine hK.out _ _ ⟨Pzi1.out.cell 0, Pzi1.out.cell 1⟩ (fun hHeld => ?_)
      clear hK K
      try simp only [Act.put, List.getElem_toArray, List.getElem_cons_succ, List.getElem_cons_zero, List.setIfInBounds_toArray, List.set_cons_succ, List.set_cons_zero]
      refine wpAnyE_ready (rs := [9]) (by kernel_rfl) (by simp) ?_
      refine AllReadyE.cons (i := 9) rfl (by decide) (fun K hK => ?_) AllReadyE.nil
      refine step_append_sz rfl (.tmp 21) (.tmp 28) 33 rfl w.heap.size 25 iT (.agg #[.int .i64 0, .int .i64 0, .int .i64 0, .int .i64 0, .int .i64 0, .int .i64 0]) 6 48 Tryz.underlying33 hiT hzT0 hzT1 hzT2 rfl (by decide) (.slice Azi1 0 czi1) 0 (cellsI zs) rfl Ozi1.out ⟨V0.heap.size, 0, none⟩ 1 1 [Value.int .i64 1, Value.int .i64 1, Value.int .i64 x, Value.int .i64 y, Value.int .i64 1, Value.int .i64 0] rfl rfl (fun j u hu => by rw [Addr.add_lit, Nat.zero_add]; exact (Nzi1.out.cell j).trans (by simpa using hu)) (six_cells _ _ _ _ _ _) (by unfold maxLen; omega) (by omega) Pzi1.out.1.size ?_
      intro vzib9 wzib9 oA gA nA
      obtain ⟨Azib9, czib9, rfl⟩ := own_sliceZ oA
      have Ozib9 := Lib.hid (st_row (zs := zs) (n := 0) (by rw [HDI.out]; exact oA))
      have Pzib9 := Lib.hid (at_own Pzi1.out Ozi1.out gA (fun g e => Nat.ne_of_lt (GEzi1.out g e)) (Nat.le_refl _))
      clear oA gA nA
      refine hK.out _ _ ⟨Pzib9.out.cell 0, Pzib9.out.cell 1⟩ (fun hHeld => ?_)
      clear hK K
      try simp only [Act.put, List.getElem_toArray, List.getElem_cons_succ, List.getElem_cons_zero, List.setIfInBounds_toArray, List.set_cons_succ, List.set_cons_zero]
      refine wpAnyE_ready (rs := [10]) (by kernel_rfl) (by simp) ?_
      refine AllReadyE.last (i := 10) rfl rfl (fun K hK => ?_)
      go_simp
      refine hK.out _ _ ?_
      clear hK K
      try simp only [Act.put, List.getElem_toArray, List.getElem_cons_succ, List.getElem_cons_zero, List.setIfInBounds_toArray, List.set_cons_succ, List.set_cons_zero]
      refine wpAnyE_done (by kernel_rfl) ?_ _
      try simp only [List.getElem_toArray, List.getElem_cons_succ, List.getElem_cons_zero, List.setIfInBounds_toArray, List.set_cons_succ, List.set_cons_zero]
      have RD := Lib.hid (RdZ.of_own Ozib9.out HRL.out)
      have PF := Lib.hid Pzib9.out.1
      go_wp2_with fail
      refine (HV.out _ _ _ RD.out).mono ?_
      rintro e WZ ⟨rfl, hb⟩
      have OZ := Lib.hid (own_.own_below Ozib9.out hb)
      have BZ := Lib.hid (PF.out.trans (hb.mono PF.out.size))
      clear hb
      cases hq : stB zs 0 x y
      · have HN := Lib.hid (HNO.out hq)
        have HE := Lib.hid hq
        clear hq
        go_wp2_with fail
        go_ret3
        exact ⟨.slice none 0 0, by rw [HE.out, HN.out.2.2]; rfl, by rw [HN.out.2.1, HN.out.1]; exact World.ownsRow_nil .., BZ.out⟩
      · have HY := Lib.hid (HYE.out hq)
        have HE := Lib.hid hq
        clear hq
        go_wp2_with fail
        go_ret3
        exact ⟨_, by rw [HE.out, HY.out.2.2]; rfl, by rw [HY.out.2.1, HY.out.1]; exact OZ.out, BZ.out⟩
  · obtain ⟨p, hp⟩ : ∃ p, p + 1 = n := ⟨n - 1, by omega⟩
    obtain ⟨b1, o1, eA, l1, p0, -⟩ := cellsE HR.out (show p < n by omega)
    have HD2 := Lib.hid (show IntKind.i64.wrap (fld 6 zs p 0 + 1) = dI by rw [← HDI.out]; exact (sd_succ hp).symm)
    have e1 : IntKind.i64.wrap ((n : Int) - 1) = (p : Int) := by rw [IntWalk.i64_in _ (by omega)]; omega
    have hp0 : (0 : Int) ≤ (p : Int) := Int.natCast_nonneg _
    have hpn : (p : Int) < (n : Int) := by omega
    have hn0 : (0 : Int) < (n : Int) := by omega
    have c0 := (P0.out.1.cell (p := ⟨b1, o1 + p * 6, none⟩) l1).trans p0
    clear p0 hp
    subst eA
    generalize fld 6 zs p 0 = u at *
    have e2 := HD2.out
    go_enter Tryz.func17, Tryz.ntmps17
    go_upto_region 4 with fail
    clear c0
    generalize w.alloc (.cells #[.int .i64 x, .int .i64 y] 35) = V0 at *
    have HSd := Lib.hid (show World.cell? V0.drew ⟨w.heap.size, 0, none⟩ = some (.int .i64 x) ∧ World.cell? V0.drew ⟨w.heap.size, 1, none⟩ = some (.int .i64 y) from ⟨P0.out.drew.cell 0, P0.out.drew.cell 1⟩)
    refine wp_region_tail (S := fun w' => World.cell? w' ⟨w.heap.size, 0, none⟩ = some (.int .i64 x) ∧ World.cell? w' ⟨w.heap.size, 1, none⟩ = some (.int .i64 y)) 10 (by kernel_rfl) HSd.out (fun hHeld => ?_)
    try simp only [Act.put, List.getElem_toArray, List.getElem_cons_succ, List.getElem_cons_zero, List.setIfInBounds_toArray, List.set_cons_succ, List.set_cons_zero]
    refine wpAnyE_take (i := 0) (v := ?vqs0) rfl (by decide +kernel) (fun _ _ _ h => h) (Or.inl ⟨by kernel_rfl, ?hqs0⟩) (by assumption) ?rqs0
    case hqs0 =>
      intro wS hSw
      obtain ⟨h0_, h1_⟩ := hSw
      go_simp
      try with_reducible rfl
    try simp only [Act.put, List.getElem_toArray, List.getElem_cons_succ, List.getElem_cons_zero, List.setIfInBounds_toArray, List.set_cons_succ, List.set_cons_zero]
    refine wpAnyE_take (i := 2) (v := ?vqs2) rfl (by decide +kernel) (fun _ _ _ h => h) (Or.inl ⟨by kernel_rfl, ?hqs2⟩) (by assumption) ?rqs2
    case hqs2 =>
      intro wS hSw
      obtain ⟨h0_, h1_⟩ := hSw
      go_simp
      try with_reducible rfl
    try simp only [Act.put, List.getElem_toArray, List.getElem_cons_succ, List.getElem_cons_zero, List.setIfInBounds_toArray, List.set_cons_succ, List.set_cons_zero]
    refine wpAnyE_take (i := 3) (v := ?vqs3) rfl (by decide +kernel) (fun _ _ _ h => h) (Or.inl ⟨by kernel_rfl, ?hqs3⟩) (by assumption) ?rqs3
    case hqs3 =>
      intro wS hSw
      obtain ⟨h0_, h1_⟩ := hSw
      go_simp
      try with_reducible rfl
    try simp only [Act.put, List.getElem_toArray, List.getElem_cons_succ, List.getElem_cons_zero, List.setIfInBounds_toArray, List.set_cons_succ, List.set_cons_zero]
    refine wpAnyE_take (i := 4) (v := ?vqs4) rfl (by decide +kernel) (fun _ _ _ h => h) (Or.inl ⟨by kernel_rfl, ?hqs4⟩) (by assumption) ?rqs4
    case hqs4 =>
      intro wS hSw
      obtain ⟨h0_, h1_⟩ := hSw
      go_simp
      try with_reducible rfl
    try simp only [Act.put, List.getElem_toArray, List.getElem_cons_succ, List.getElem_cons_zero, List.setIfInBounds_toArray, List.set_cons_succ, List.set_cons_zero]
    refine wpAnyE_take (i := 5) (v := ?vqs5) rfl (by decide +kernel) (fun _ _ _ h => h) (Or.inl ⟨by kernel_rfl, ?hqs5⟩) (by assumption) ?rqs5
    case hqs5 =>
      intro wS hSw
      obtain ⟨h0_, h1_⟩ := hSw
      go_simp
      try with_reducible rfl
    try simp only [Act.put, List.getElem_toArray, List.getElem_cons_succ, List.getElem_cons_zero, List.setIfInBounds_toArray, List.set_cons_succ, List.set_cons_zero]
    refine wpAnyE_take (i := 6) (v := ?vqs6) rfl (by decide +kernel) (fun _ _ _ h => h) (Or.inl ⟨by kernel_rfl, ?hqs6⟩) (by assumption) ?rqs6
    case hqs6 =>
      intro wS hSw
      obtain ⟨h0_, h1_⟩ := hSw
      go_simp
      try with_reducible rfl
    try simp only [Act.put, List.getElem_toArray, List.getElem_cons_succ, List.getElem_cons_zero, List.setIfInBounds_toArray, List.set_cons_succ, List.set_cons_zero]
    refine wpAnyE_take (i := 7) (v := ?vqs7) rfl (by decide +kernel) (fun _ _ _ h => h) (Or.inl ⟨by kernel_rfl, ?hqs7⟩) (by assumption) ?rqs7
    case hqs7 =>
      intro wS hSw
      obtain ⟨h0_, h1_⟩ := hSw
      go_simp
      try with_reducible rfl
    try simp only [Act.put, List.getElem_toArray, List.getElem_cons_succ, List.getElem_cons_zero, List.setIfInBounds_toArray, List.set_cons_succ, List.set_cons_zero]
    refine wpAnyE_ready (rs := [1, 8]) (by kernel_rfl) (by simp) ?_
    refine AllReadyE.cons (i := 1) rfl (by decide) (fun K hK => ?_) (AllReadyE.cons (i := 8) rfl (by decide) (fun K hK => ?_) AllReadyE.nil)
    · go_simp
      refine (HC.out _ P0.out.drew.1).mono ?_
      rintro e Ws1 ⟨vs1, rfl, ho, hb⟩
      obtain ⟨As1, cs1, rfl⟩ := own_sliceZ ho
      go_simp
      have Ps1 := Lib.hid (P0.out.drew.old hb)
      have GEs1 := Lib.hid (fun g e => Nat.lt_of_lt_of_le P0.out.drew.2.2.1 (own_.row_ge ho g e))
      have Os1 := Lib.hid (own_.own_base ho P0.out.drew.1.size)
      clear ho hb
      refine hK.out _ _ ⟨Ps1.out.cell 0, Ps1.out.cell 1⟩ (fun hHeld => ?_)
      clear hK K
      try simp only [Act.put, List.getElem_toArray, List.getElem_cons_succ, List.getElem_cons_zero, List.setIfInBounds_toArray, List.set_cons_succ, List.set_cons_zero]
      refine wpAnyE_ready (rs := [8]) (by kernel_rfl) (by simp) ?_
      refine AllReadyE.cons (i := 8) rfl (by decide) (fun K hK => ?_) AllReadyE.nil
      go_simp
      have Psb8 := Lib.hid (Ps1.out.alloc (.cells #[.int .i64 dI, .int .i64 1, .int .i64 x, .int .i64 y, .int .i64 1, .int .i64 0] 25))
      have Nsb8 := Lib.hid (Ps1.out.next 25 #[.int .i64 dI, .int .i64 1, .int .i64 x, .int .i64 y, .int .i64 1, .int .i64 0])
      have Osb8 := Lib.hid (Os1.out.alloc (.cells #[.int .i64 dI, .int .i64 1, .int .i64 x, .int .i64 y, .int .i64 1, .int .i64 0] 25))
      refine hK.out _ _ ⟨Psb8.out.cell 0, Psb8.out.cell 1⟩ (fun hHeld => ?_)
      clear hK K
      try simp only [Act.put, List.getElem_toArray, List.getElem_cons_succ, List.getElem_cons_zero, List.setIfInBounds_toArray, List.set_cons_succ, List.set_cons_zero]
      refine wpAnyE_ready (rs := [9]) (by kernel_rfl) (by simp) ?_
      refine AllReadyE.cons (i := 9) rfl (by decide) (fun K hK => ?_) AllReadyE.nil
      refine step_append_sz rfl (.tmp 21) (.tmp 28) 33 rfl w.heap.size 25 iT (.agg #[.int .i64 0, .int .i64 0, .int .i64 0, .int .i64 0, .int .i64 0, .int .i64 0]) 6 48 Tryz.underlying33 hiT hzT0 hzT1 hzT2 rfl (by decide) (.slice As1 n cs1) n (cellsI zs) rfl Osb8.out ⟨Ws1.heap.size, 0, none⟩ 1 1 [Value.int .i64 dI, Value.int .i64 1, Value.int .i64 x, Value.int .i64 y, Value.int .i64 1, Value.int .i64 0] rfl rfl (fun j u hu => by rw [Addr.add_lit, Nat.zero_add]; exact (Nsb8.out.cell j).trans (by simpa using hu)) (six_cells _ _ _ _ _ _) (by unfold maxLen; omega) (by omega) Psb8.out.1.size ?_
      intro vsbi9 wsbi9 oA gA nA
      obtain ⟨Asbi9, csbi9, rfl⟩ := own_sliceZ oA
      have Osbi9 := Lib.hid (st_row (zs := zs) (n := n) (by rw [HDI.out]; exact oA))
      have Psbi9 := Lib.hid (at_own Psb8.out Osb8.out gA (fun g e => Nat.ne_of_lt (GEs1.out g e)) (Nat.le_refl _))
      clear oA gA nA
      refine hK.out _ _ ⟨Psbi9.out.cell 0, Psbi9.out.cell 1⟩ (fun hHeld => ?_)
      clear hK K
      try simp only [Act.put, List.getElem_toArray, List.getElem_cons_succ, List.getElem_cons_zero, List.setIfInBounds_toArray, List.set_cons_succ, List.set_cons_zero]
      refine wpAnyE_ready (rs := [10]) (by kernel_rfl) (by simp) ?_
      refine AllReadyE.last (i := 10) rfl rfl (fun K hK => ?_)
      go_simp
      refine hK.out _ _ ?_
      clear hK K
      try simp only [Act.put, List.getElem_toArray, List.getElem_cons_succ, List.getElem_cons_zero, List.setIfInBounds_toArray, List.set_cons_succ, List.set_cons_zero]
      refine wpAnyE_done (by kernel_rfl) ?_ _
      try simp only [List.getElem_toArray, List.getElem_cons_succ, List.getElem_cons_zero, List.setIfInBounds_toArray, List.set_cons_succ, List.set_cons_zero]
      have RD := Lib.hid (RdZ.of_own Osbi9.out HRL.out)
      have PF := Lib.hid Psbi9.out.1
      go_wp2_with fail
      refine (HV.out _ _ _ RD.out).mono ?_
      rintro e WZ ⟨rfl, hb⟩
      have OZ := Lib.hid (own_.own_below Osbi9.out hb)
      have BZ := Lib.hid (PF.out.trans (hb.mono PF.out.size))
      clear hb
      cases hq : stB zs n x y
      · have HN := Lib.hid (HNO.out hq)
        have HE := Lib.hid hq
        clear hq
        go_wp2_with fail
        go_ret3
        exact ⟨.slice none 0 0, by rw [HE.out, HN.out.2.2]; rfl, by rw [HN.out.2.1, HN.out.1]; exact World.ownsRow_nil .., BZ.out⟩
      · have HY := Lib.hid (HYE.out hq)
        have HE := Lib.hid hq
        clear hq
        go_wp2_with fail
        go_ret3
        exact ⟨_, by rw [HE.out, HY.out.2.2]; rfl, by rw [HY.out.2.1, HY.out.1]; exact OZ.out, BZ.out⟩
    · go_simp
      have Ps8 := Lib.hid (P0.out.drew.alloc (.cells #[.int .i64 dI, .int .i64 1, .int .i64 x, .int .i64 y, .int .i64 1, .int .i64 0] 25))
      have Ns8 := Lib.hid (P0.out.drew.next 25 #[.int .i64 dI, .int .i64 1, .int .i64 x, .int .i64 y, .int .i64 1, .int .i64 0])
      refine hK.out _ _ ⟨Ps8.out.cell 0, Ps8.out.cell 1⟩ (fun hHeld => ?_)
      clear hK K
      try simp only [Act.put, List.getElem_toArray, List.getElem_cons_succ, List.getElem_cons_zero, List.setIfInBounds_toArray, List.set_cons_succ, List.set_cons_zero]
      refine wpAnyE_ready (rs := [1]) (by kernel_rfl) (by simp) ?_
      refine AllReadyE.cons (i := 1) rfl (by decide) (fun K hK => ?_) AllReadyE.nil
      go_simp
      refine (HC.out _ Ps8.out.1).mono ?_
      rintro e Wsi1 ⟨vsi1, rfl, ho, hb⟩
      obtain ⟨Asi1, csi1, rfl⟩ := own_sliceZ ho
      go_simp
      have Psi1 := Lib.hid (Ps8.out.old hb)
      have GEsi1 := Lib.hid (fun g e => Nat.lt_of_lt_of_le Ps8.out.2.2.1 (own_.row_ge ho g e))
      have Osi1 := Lib.hid (own_.own_base ho Ps8.out.1.size)
      have Nsi1 := Lib.hid (Ns8.out.old hb)
      clear ho hb
      refine hK.out _ _ ⟨Psi1.out.cell 0, Psi1.out.cell 1⟩ (fun hHeld => ?_)
      clear hK K
      try simp only [Act.put, List.getElem_toArray, List.getElem_cons_succ, List.getElem_cons_zero, List.setIfInBounds_toArray, List.set_cons_succ, List.set_cons_zero]
      refine wpAnyE_ready (rs := [9]) (by kernel_rfl) (by simp) ?_
      refine AllReadyE.cons (i := 9) rfl (by decide) (fun K hK => ?_) AllReadyE.nil
      refine step_append_sz rfl (.tmp 21) (.tmp 28) 33 rfl w.heap.size 25 iT (.agg #[.int .i64 0, .int .i64 0, .int .i64 0, .int .i64 0, .int .i64 0, .int .i64 0]) 6 48 Tryz.underlying33 hiT hzT0 hzT1 hzT2 rfl (by decide) (.slice Asi1 n csi1) n (cellsI zs) rfl Osi1.out ⟨V0.heap.size, 0, none⟩ 1 1 [Value.int .i64 dI, Value.int .i64 1, Value.int .i64 x, Value.int .i64 y, Value.int .i64 1, Value.int .i64 0] rfl rfl (fun j u hu => by rw [Addr.add_lit, Nat.zero_add]; exact (Nsi1.out.cell j).trans (by simpa using hu)) (six_cells _ _ _ _ _ _) (by unfold maxLen; omega) (by omega) Psi1.out.1.size ?_
      intro vsib9 wsib9 oA gA nA
      obtain ⟨Asib9, csib9, rfl⟩ := own_sliceZ oA
      have Osib9 := Lib.hid (st_row (zs := zs) (n := n) (by rw [HDI.out]; exact oA))
      have Psib9 := Lib.hid (at_own Psi1.out Osi1.out gA (fun g e => Nat.ne_of_lt (GEsi1.out g e)) (Nat.le_refl _))
      clear oA gA nA
      refine hK.out _ _ ⟨Psib9.out.cell 0, Psib9.out.cell 1⟩ (fun hHeld => ?_)
      clear hK K
      try simp only [Act.put, List.getElem_toArray, List.getElem_cons_succ, List.getElem_cons_zero, List.setIfInBounds_toArray, List.set_cons_succ, List.set_cons_zero]
      refine wpAnyE_ready (rs := [10]) (by kernel_rfl) (by simp) ?_
      refine AllReadyE.last (i := 10) rfl rfl (fun K hK => ?_)
      go_simp
      refine hK.out _ _ ?_
      clear hK K
      try simp only [Act.put, List.getElem_toArray, List.getElem_cons_succ, List.getElem_cons_zero, List.setIfInBounds_toArray, List.set_cons_succ, List.set_cons_zero]
      refine wpAnyE_done (by kernel_rfl) ?_ _
      try simp only [List.getElem_toArray, List.getElem_cons_succ, List.getElem_cons_zero, List.setIfInBounds_toArray, List.set_cons_succ, List.set_cons_zero]
      have RD := Lib.hid (RdZ.of_own Osib9.out HRL.out)
      have PF := Lib.hid Psib9.out.1
      go_wp2_with fail
      refine (HV.out _ _ _ RD.out).mono ?_
      rintro e WZ ⟨rfl, hb⟩
      have OZ := Lib.hid (own_.own_below Osib9.out hb)
      have BZ := Lib.hid (PF.out.trans (hb.mono PF.out.size))
      clear hb
      cases hq : stB zs n x y
      · have HN := Lib.hid (HNO.out hq)
        have HE := Lib.hid hq
        clear hq
        go_wp2_with fail
        go_ret3
        exact ⟨.slice none 0 0, by rw [HE.out, HN.out.2.2]; rfl, by rw [HN.out.2.1, HN.out.1]; exact World.ownsRow_nil .., BZ.out⟩
      · have HY := Lib.hid (HYE.out hq)
        have HE := Lib.hid hq
        clear hq
        go_wp2_with fail
        go_ret3
        exact ⟨_, by rw [HE.out, HY.out.2.2]; rfl, by rw [HY.out.2.1, HY.out.1]; exact OZ.out, BZ.out⟩

section
variable {P : Program}
theorem run_none (base : Nat) (t ty e : TypeId) (i : TypeInfo) (size c : Nat) (ht : P.underlying t = some (.slice e)) (hi : P.info? e = some i)
    (w : World) (v : Value) (n : Nat) (xs : List Value) (hown : w.ownsRow base e size v n xs) :
    (Builtin.append_ #[t, t] ty #[v, .slice none 0 c]).run P w = .ok v w := by
  rcases hown.2 with ⟨rfl, rfl⟩ | ⟨g, cap, cur, rfl, _, _, hnc, _⟩
  · simp [Builtin.append_, run_underlying ht, sizeOf, typeInfo, hi, Builtin.lenOf, Builtin.firstCells]
  · simp [Builtin.append_, run_underlying ht, sizeOf, typeInfo, hi, Builtin.lenOf, Builtin.firstCells, hnc, storeCells]
theorem step_append_none {ops : Array Oper} {o : Oper} {a : Act} {w : World} {K : Act → World → Prop} {Q : Exit → Act → World → Prop} {E : Prop} (hgd : o.guard = none) (s x : Operand) (t : TypeId)
    (ho : o.op = .call { callee := .builtin .append, args := #[s, x], argTypes := #[t, t] })
    (base : Nat) (e : TypeId) (i : TypeInfo) (size c : Nat) (ht : P.underlying t = some (.slice e)) (hi : P.info? e = some i)
    (v : Value) (n : Nat) (xs : List Value) (hs : a.eval s = v) (hown : w.ownsRow base e size v n xs) (hx : a.eval x = .slice none 0 c)
    (h : K (a.put o.dst v) w) :
    if Region.wanted o (yielded ops a.tmps) = true then Oper.wp P o a w K Q else E := by
  have hw : Region.wanted o (yielded ops a.tmps) = true := by simp [Region.wanted, hgd]
  rw [if_pos hw]
  have hr := run_none (P := P) base t o.type e i size c ht hi w v n xs hown
  unfold Oper.wp execOp
  simp only [ho, resolve, invoke, builtin, Sem.run_bind, Sem.run_pure, Result.andThen_ok, List.map_toArray, List.map_cons, List.map_nil, hs, hx, hr]
  exact h
/-- append of a list that may be nil, at a step of a region that draws. -/
theorem step_append_rd {ops : Array Oper} {o : Oper} {a : Act} {w : World} {K : Act → World → Prop} {Q : Exit → Act → World → Prop} {E : Prop} (hgd : o.guard = none) (s x : Operand) (t : TypeId)
    (ho : o.op = .call { callee := .builtin .append, args := #[s, x], argTypes := #[t, t] })
    (base : Nat) (e : TypeId) (i : TypeInfo) (z : Value) (bytes : Nat) (ht : P.underlying t = some (.slice e)) (hi : P.info? e = some i) (hz : i.zero = some z)
    (hsize : i.size = 6) (hby : i.bytes = bytes) (hzs : z.cells.size = 6)
    (v : Value) (n : Nat) (xs : List Value) (hs : a.eval s = v) (hown : w.ownsRow base e 6 v n xs)
    {B m c : Nat} {A : Option Addr} {ns : List Int} (hx : a.eval x = .slice A m c) (hr : RdZ 6 w B A m ns)
    (h63 : n + m ≤ maxLen) (hbytes : (n + m) * bytes ≤ 140737488355328) (hbase : base ≤ w.heap.size)
    (h : ∀ v' w', w'.ownsRow base e 6 v' (n + m) (xs ++ cellsI ns) → w.grownBy w' v.ownBlock → (v'.ownBlock = v.ownBlock ∨ v'.ownBlock = some w.heap.size) → K (a.put o.dst v') w') :
    if Region.wanted o (yielded ops a.tmps) = true then Oper.wp P o a w K Q else E := by
  cases A with
  | none =>
    obtain rfl : m = 0 := by
      rcases Nat.eq_zero_or_pos m with h0 | h0
      · exact h0
      · obtain ⟨b, o, e, _⟩ := hr.2 h0; cases e
    have hz : ns = [] := List.eq_nil_of_length_eq_zero (by rw [hr.1])
    subst hz
    exact step_append_none hgd s x t ho base e i 6 c ht hi v n xs hs hown hx (h v w (by rw [Nat.add_zero, show cellsI [] = [] from rfl, List.append_nil]; exact hown) (grown_refl _ _) (Or.inl rfl))
  | some ad =>
    refine step_append_sz hgd s x t ho base e i z 6 bytes ht hi hz hsize hby hzs (by decide) v n xs hs hown ad m c (cellsI ns) hx (by rw [cells_len]; exact hr.1) (fun j u hu => ?_) (ints_one _) h63 hbytes hbase h
    rcases Nat.eq_zero_or_pos m with h0 | h0
    · have := (List.getElem?_eq_some_iff.1 hu).1
      rw [cells_len, hr.1, h0] at this
      omega
    · obtain ⟨b', o', e, _⟩ := hr.2 h0
      obtain rfl : ad = ⟨b', o', none⟩ := by injection e
      have h1 := src_at (m := 0) hr h0 j u (by rw [List.drop_zero]; exact hu)
      rw [Nat.add_zero] at h1
      exact h1
end

set_option maxRecDepth 100000 in
set_option maxHeartbeats 4000000 in
theorem startS (zs : List Int) (x y : Int) (A : Option Addr) (n cp : Nat) (w : World) (_hcp : n ≤ cp) (hn : n ≤ 1048576) (h1 : RdZ 6 w w.heap.size A n zs) :
    Calls Tryz.prog 18 #[.slice A n cp, .agg #[.int .i64 x, .int .i64 y]] w fun e w' => ∃ v, e = .returned (.tuple #[v, .int .i64 (stI zs n x y), .bool (stB zs n x y)]) ∧ w'.ownsRow w.heap.size 25 6 v (stN zs n x y) (cellsI (stL zs n x y)) ∧ Below w.heap.size w w' := by
  obtain ⟨iT, hiT, hzT0, hzT1, hzT2⟩ := info_parts trke.infoS
  have Q0 := Lib.hid (newS 35 #[.int .i64 x, .int .i64 y] w)
  have HL := Lib.hid (fun (W : World) (hb : Below w.heap.size w W) => trks.list14 zs A n cp W (by omega) (h1.next hb))
  have HP := Lib.hid (fun W => poss.good7 x y W)
  have HV := Lib.hid (fun (B : Option Addr) (c : Nat) (W : World) h => trks.list14 (stR zs n x y) B (n + 1) c W (by omega) h)
  have HRL := Lib.hid (stR_length (n := n) x y h1.1)
  have HNO := Lib.hid (fun (h : stB zs n x y = false) => st_no h)
  have HYE := Lib.hid (fun (h : stB zs n x y = true) => st_yes h)
  have HOLD := Lib.hid (fun (h : stB zs n x y = true) => stB_old h1.1 h)
  have HTV := Lib.hid (show tvB (stR zs n x y) (n + 1) = stB zs n x y from rfl)
  have HR := Lib.hid h1
  rw [HTV.out] at HV
  generalize hdI : stD zs n = dI at *
  have HDI := Lib.hid hdI
  clear h1 hdI
  cases hz : tvB zs n
  · have HE := Lib.hid (show stB zs n x y = false by
      cases hq : stB zs n x y
      · rfl
      · exact absurd (HOLD.out hq).1 (by rw [hz]; decide))
    rw [hz] at HL
    clear hz
    go_enter Tryz.func18, Tryz.ntmps18
    go_wp2_with fail
    generalize w.alloc (.cells #[.int .i64 x, .int .i64 y] 35) = W0 at *
    refine (HL.out W0 Q0.out.1).mono ?_
    rintro e W1 ⟨rfl, hb⟩
    have Q1 := Lib.hid (Q0.out.old hb)
    clear hb
    have B1 := Lib.hid Q1.out.1
    have OX := Lib.hid (own_emptyZ W1 25 6)
    have LX := Lib.hid (B1.out.size)
    have BX := Lib.hid (B1.out.alloc B1.out.size (.cells #[] 25))
    go_wp2_with fail
    go_ret3
    exact ⟨_, by rw [HE.out, (HNO.out HE.out).2.2]; rfl, by rw [(HNO.out HE.out).2.1, (HNO.out HE.out).1]; exact own_.own_base OX.out LX.out, BX.out⟩
  rw [hz] at HL
  cases hp : pB x y
  · have HE := Lib.hid (show stB zs n x y = false by
      cases hq : stB zs n x y
      · rfl
      · exact absurd (HOLD.out hq).2.1 (by rw [hp]; decide))
    rw [hp] at HP
    clear hp hz
    go_enter Tryz.func18, Tryz.ntmps18
    go_wp2_with fail
    generalize w.alloc (.cells #[.int .i64 x, .int .i64 y] 35) = W0 at *
    refine (HL.out W0 Q0.out.1).mono ?_
    rintro e W1 ⟨rfl, hb⟩
    have Q1 := Lib.hid (Q0.out.old hb)
    clear hb
    have p0 : W1.cell? ⟨w.heap.size, 0, none⟩ = some (.int .i64 x) := Q1.out.cell 0
    have p1 : W1.cell? ⟨w.heap.size, 1, none⟩ = some (.int .i64 y) := Q1.out.cell 1
    go_wp2_with fail
    refine (HP.out W1).mono ?_
    rintro e V0 ⟨rfl, hb⟩
    have P0 := Lib.hid (Q1.out.old hb)
    clear hb p0 p1
    have B1 := Lib.hid P0.out.1
    have OX := Lib.hid (own_emptyZ V0 25 6)
    have LX := Lib.hid (B1.out.size)
    have BX := Lib.hid (B1.out.alloc B1.out.size (.cells #[] 25))
    go_wp2_with fail
    go_ret3
    exact ⟨_, by rw [HE.out, (HNO.out HE.out).2.2]; rfl, by rw [(HNO.out HE.out).2.1, (HNO.out HE.out).1]; exact own_.own_base OX.out LX.out, BX.out⟩
  rw [hp] at HP
  clear hz hp HOLD
  rcases Nat.eq_zero_or_pos n with h0 | h0
  · subst h0
    obtain rfl : dI = 1 := by rw [← HDI.out]; rfl
    go_enter Tryz.func18, Tryz.ntmps18
    go_wp2_with fail
    generalize w.alloc (.cells #[.int .i64 x, .int .i64 y] 35) = W0 at *
    refine (HL.out W0 Q0.out.1).mono ?_
    rintro e W1 ⟨rfl, hb⟩
    have Q1 := Lib.hid (Q0.out.old hb)
    clear hb
    have p0 : W1.cell? ⟨w.heap.size, 0, none⟩ = some (.int .i64 x) := Q1.out.cell 0
    have p1 : W1.cell? ⟨w.heap.size, 1, none⟩ = some (.int .i64 y) := Q1.out.cell 1
    go_wp2_with fail
    refine (HP.out W1).mono ?_
    rintro e V0 ⟨rfl, hb⟩
    have P0 := Lib.hid (Q1.out.old hb)
    clear hb p0 p1
    go_upto_region 7 with fail
    have HSd := Lib.hid (show World.cell? V0.drew ⟨w.heap.size, 0, none⟩ = some (.int .i64 x) ∧ World.cell? V0.drew ⟨w.heap.size, 1, none⟩ = some (.int .i64 y) from ⟨P0.out.drew.cell 0, P0.out.drew.cell 1⟩)
    refine wp_region_tail (S := fun w' => World.cell? w' ⟨w.heap.size, 0, none⟩ = some (.int .i64 x) ∧ World.cell? w' ⟨w.heap.size, 1, none⟩ = some (.int .i64 y)) 11 (by kernel_rfl) HSd.out (fun hHeld => ?_)
    try simp only [Act.put, List.getElem_toArray, List.getElem_cons_succ, List.getElem_cons_zero, List.setIfInBounds_toArray, List.set_cons_succ, List.set_cons_zero]
    refine wpAnyE_take (i := 1) (v := ?vqz1) rfl (by decide +kernel) (fun _ _ _ h => h) (Or.inl ⟨by kernel_rfl, ?hqz1⟩) (by assumption) ?rqz1
    case hqz1 =>
      intro wS hSw
      obtain ⟨h0_, h1_⟩ := hSw
      go_simp
      try with_reducible rfl
    try simp only [Act.put, List.getElem_toArray, List.getElem_cons_succ, List.getElem_cons_zero, List.setIfInBounds_toArray, List.set_cons_succ, List.set_cons_zero]
    refine wpAnyE_take (i := 3) (v := ?vqz3) rfl (by decide +kernel) (fun _ _ _ h => h) (Or.inl ⟨by kernel_rfl, ?hqz3⟩) (by assumption) ?rqz3
    case hqz3 =>
      intro wS hSw
      obtain ⟨h0_, h1_⟩ := hSw
      go_simp
      try with_reducible rfl
    try simp only [Act.put, List.getElem_toArray, List.getElem_cons_succ, List.getElem_cons_zero, List.setIfInBounds_toArray, List.set_cons_succ, List.set_cons_zero]
    refine wpAnyE_take (i := 4) (v := ?vqz4) rfl (by decide +kernel) (fun _ _ _ h => h) (Or.inl ⟨by kernel_rfl, ?hqz4⟩) (by assumption) ?rqz4
    case hqz4 =>
      intro wS hSw
      obtain ⟨h0_, h1_⟩ := hSw
      go_simp
      try with_reducible rfl
    try simp only [Act.put, List.getElem_toArray, List.getElem_cons_succ, List.getElem_cons_zero, List.setIfInBounds_toArray, List.set_cons_succ, List.set_cons_zero]
    refine wpAnyE_take (i := 5) (v := ?vqz5) rfl (by decide +kernel) (fun _ _ _ h => h) (Or.inl ⟨by kernel_rfl, ?hqz5⟩) (by assumption) ?rqz5
    case hqz5 =>
      intro wS hSw
      obtain ⟨h0_, h1_⟩ := hSw
      go_simp
      try with_reducible rfl
    try simp only [Act.put, List.getElem_toArray, List.getElem_cons_succ, List.getElem_cons_zero, List.setIfInBounds_toArray, List.set_cons_succ, List.set_cons_zero]
    refine wpAnyE_take (i := 6) (v := ?vqz6) rfl (by decide +kernel) (fun _ _ _ h => h) (Or.inl ⟨by kernel_rfl, ?hqz6⟩) (by assumption) ?rqz6
    case hqz6 =>
      intro wS hSw
      obtain ⟨h0_, h1_⟩ := hSw
      go_simp
      try with_reducible rfl
    try simp only [Act.put, List.getElem_toArray, List.getElem_cons_succ, List.getElem_cons_zero, List.setIfInBounds_toArray, List.set_cons_succ, List.set_cons_zero]
    refine wpAnyE_take (i := 7) (v := ?vqz7) rfl (by decide +kernel) (fun _ _ _ h => h) (Or.inl ⟨by kernel_rfl, ?hqz7⟩) (by assumption) ?rqz7
    case hqz7 =>
      intro wS hSw
      obtain ⟨h0_, h1_⟩ := hSw
      go_simp
      try with_reducible rfl
    try simp only [Act.put, List.getElem_toArray, List.getElem_cons_succ, List.getElem_cons_zero, List.setIfInBounds_toArray, List.set_cons_succ, List.set_cons_zero]
    refine wpAnyE_take (i := 8) (v := ?vqz8) rfl (by decide +kernel) (fun _ _ _ h => h) (Or.inl ⟨by kernel_rfl, ?hqz8⟩) (by assumption) ?rqz8
    case hqz8 =>
      intro wS hSw
      obtain ⟨h0_, h1_⟩ := hSw
      go_simp
      try with_reducible rfl
    try simp only [Act.put, List.getElem_toArray, List.getElem_cons_succ, List.getElem_cons_zero, List.setIfInBounds_toArray, List.set_cons_succ, List.set_cons_zero]
    refine wpAnyE_ready (rs := [0, 9]) (by kernel_rfl) (by simp) ?_
    refine AllReadyE.cons (i := 0) rfl (by decide) (fun K hK => ?_) (AllReadyE.cons (i := 9) rfl (by decide) (fun K hK => ?_) AllReadyE.nil)
    · go_simp
      have Ez0 := Lib.hid (own_.own_base (own_emptyZ _ 25 6) P0.out.drew.1.size)
      have GEz0 := Lib.hid (fun g e => Nat.lt_of_lt_of_le P0.out.drew.2.2.1 (own_.row_ge (own_emptyZ _ 25 6) g e))
      have Pz0 := Lib.hid (P0.out.drew.alloc (.cells #[] 25))
      refine hK.out _ _ ⟨Pz0.out.cell 0, Pz0.out.cell 1⟩ (fun hHeld => ?_)
      clear hK K
      try simp only [Act.put, List.getElem_toArray, List.getElem_cons_succ, List.getElem_cons_zero, List.setIfInBounds_toArray, List.set_cons_succ, List.set_cons_zero]
      refine wpAnyE_ready (rs := [2, 9]) (by kernel_rfl) (by simp) ?_
      refine AllReadyE.cons (i := 2) rfl (by decide) (fun K hK => ?_) (AllReadyE.cons (i := 9) rfl (by decide) (fun K hK => ?_) AllReadyE.nil)
      · refine step_append_rd rfl (.tmp 30) (.tmp 31) 33 rfl w.heap.size 25 iT (.agg #[.int .i64 0, .int .i64 0, .int .i64 0, .int .i64 0, .int .i64 0, .int .i64 0]) 48 Tryz.underlying33 hiT hzT0 hzT1 hzT2 rfl (.slice (some ⟨V0.heap.size, 0, none⟩) 0 0) 0 [] rfl Ez0.out rfl (HR.out.next Pz0.out.1) (by unfold maxLen; omega) (by omega) Pz0.out.1.size ?_
        intro vza2 wza2 oA gA nA
        rw [Nat.zero_add, List.nil_append] at oA
        obtain ⟨Aza2, cza2, rfl⟩ := own_sliceZ oA
        have Oza2 := Lib.hid oA
        have Pza2 := Lib.hid (at_own Pz0.out Ez0.out gA (fun g e => Nat.ne_of_lt (GEz0.out g e)) (Nat.le_refl _))
        have GEza2 := Lib.hid (fun (g : Nat) (e : Value.ownBlock (.slice Aza2 0 cza2) = some g) => show w.heap.size < g by
          rcases nA with h | h
          · exact GEz0.out g (h.symm.trans e)
          · rw [h] at e; injection e with e; rw [← e]; exact Pz0.out.2.2.1)
        clear oA gA nA
        refine hK.out _ _ ⟨Pza2.out.cell 0, Pza2.out.cell 1⟩ (fun hHeld => ?_)
        clear hK K
        try simp only [Act.put, List.getElem_toArray, List.getElem_cons_succ, List.getElem_cons_zero, List.setIfInBounds_toArray, List.set_cons_succ, List.set_cons_zero]
        refine wpAnyE_ready (rs := [9]) (by kernel_rfl) (by simp) ?_
        refine AllReadyE.cons (i := 9) rfl (by decide) (fun K hK => ?_) AllReadyE.nil
        go_simp
        have Pzac9 := Lib.hid (Pza2.out.alloc (.cells #[.int .i64 1, .int .i64 1, .int .i64 x, .int .i64 y, .int .i64 1, .int .i64 0] 25))
        have Nzac9 := Lib.hid (Pza2.out.next 25 #[.int .i64 1, .int .i64 1, .int .i64 x, .int .i64 y, .int .i64 1, .int .i64 0])
        have Ozac9 := Lib.hid (Oza2.out.alloc (.cells #[.int .i64 1, .int .i64 1, .int .i64 x, .int .i64 y, .int .i64 1, .int .i64 0] 25))
        refine hK.out _ _ ⟨Pzac9.out.cell 0, Pzac9.out.cell 1⟩ (fun hHeld => ?_)
        clear hK K
        try simp only [Act.put, List.getElem_toArray, List.getElem_cons_succ, List.getElem_cons_zero, List.setIfInBounds_toArray, List.set_cons_succ, List.set_cons_zero]
        refine wpAnyE_ready (rs := [10]) (by kernel_rfl) (by simp) ?_
        refine AllReadyE.cons (i := 10) rfl (by decide) (fun K hK => ?_) AllReadyE.nil
        refine step_append_sz rfl (.tmp 32) (.tmp 39) 33 rfl w.heap.size 25 iT (.agg #[.int .i64 0, .int .i64 0, .int .i64 0, .int .i64 0, .int .i64 0, .int .i64 0]) 6 48 Tryz.underlying33 hiT hzT0 hzT1 hzT2 rfl (by decide) (.slice Aza2 0 cza2) 0 (cellsI zs) rfl Ozac9.out ⟨wza2.heap.size, 0, none⟩ 1 1 [Value.int .i64 1, Value.int .i64 1, Value.int .i64 x, Value.int .i64 y, Value.int .i64 1, Value.int .i64 0] rfl rfl (fun j u hu => by rw [Addr.add_lit, Nat.zero_add]; exact (Nzac9.out.cell j).trans (by simpa using hu)) (six_cells _ _ _ _ _ _) (by unfold maxLen; omega) (by omega) Pzac9.out.1.size ?_
        intro vzacj10 wzacj10 oA gA nA
        obtain ⟨Azacj10, czacj10, rfl⟩ := own_sliceZ oA
        have Ozacj10 := Lib.hid (st_row (zs := zs) (n := 0) (by rw [HDI.out]; exact oA))
        have Pzacj10 := Lib.hid (at_own Pzac9.out Ozac9.out gA (fun g e => Nat.ne_of_lt (GEza2.out g e)) (Nat.le_refl _))
        clear oA gA nA
        refine hK.out _ _ ⟨Pzacj10.out.cell 0, Pzacj10.out.cell 1⟩ (fun hHeld => ?_)
        clear hK K
        try simp only [Act.put, List.getElem_toArray, List.getElem_cons_succ, List.getElem_cons_zero, List.setIfInBounds_toArray, List.set_cons_succ, List.set_cons_zero]
        refine wpAnyE_ready (rs := [11]) (by kernel_rfl) (by simp) ?_
        refine AllReadyE.last (i := 11) rfl rfl (fun K hK => ?_)
        go_simp
        refine hK.out _ _ ?_
        clear hK K
        try simp only [Act.put, List.getElem_toArray, List.getElem_cons_succ, List.getElem_cons_zero, List.setIfInBounds_toArray, List.set_cons_succ, List.set_cons_zero]
        refine wpAnyE_done (by kernel_rfl) ?_ _
        try simp only [List.getElem_toArray, List.getElem_cons_succ, List.getElem_cons_zero, List.setIfInBounds_toArray, List.set_cons_succ, List.set_cons_zero]
        have RD := Lib.hid (RdZ.of_own Ozacj10.out HRL.out)
        have PF := Lib.hid Pzacj10.out.1
        go_wp2_with fail
        refine (HV.out _ _ _ RD.out).mono ?_
        rintro e WZ ⟨rfl, hb⟩
        have OZ := Lib.hid (own_.own_below Ozacj10.out hb)
        have BZ := Lib.hid (PF.out.trans (hb.mono PF.out.size))
        clear hb
        cases hq : stB zs 0 x y
        · have HE := Lib.hid hq
          clear hq
          have OX := Lib.hid (own_emptyZ WZ 25 6)
          have LX := Lib.hid (BZ.out.size)
          have BX := Lib.hid (BZ.out.alloc BZ.out.size (.cells #[] 25))
          go_wp2_with fail
          go_ret3
          exact ⟨_, by rw [HE.out, (HNO.out HE.out).2.2]; rfl, by rw [(HNO.out HE.out).2.1, (HNO.out HE.out).1]; exact own_.own_base OX.out LX.out, BX.out⟩
        · have HY := Lib.hid (HYE.out hq)
          have HE := Lib.hid hq
          clear hq
          go_wp2_with fail
          go_ret3
          exact ⟨_, by rw [HE.out, HY.out.2.2]; rfl, by rw [HY.out.2.1, HY.out.1]; exact OZ.out, BZ.out⟩
      · go_simp
        have Pza9 := Lib.hid (Pz0.out.alloc (.cells #[.int .i64 1, .int .i64 1, .int .i64 x, .int .i64 y, .int .i64 1, .int .i64 0] 25))
        have Nza9 := Lib.hid (Pz0.out.next 25 #[.int .i64 1, .int .i64 1, .int .i64 x, .int .i64 y, .int .i64 1, .int .i64 0])
        rw [World.size_alloc] at Nza9
        have Eza9 := Lib.hid (Ez0.out.alloc (.cells #[.int .i64 1, .int .i64 1, .int .i64 x, .int .i64 y, .int .i64 1, .int .i64 0] 25))
        refine hK.out _ _ ⟨Pza9.out.cell 0, Pza9.out.cell 1⟩ (fun hHeld => ?_)
        clear hK K
        try simp only [Act.put, List.getElem_toArray, List.getElem_cons_succ, List.getElem_cons_zero, List.setIfInBounds_toArray, List.set_cons_succ, List.set_cons_zero]
        refine wpAnyE_ready (rs := [2]) (by kernel_rfl) (by simp) ?_
        refine AllReadyE.cons (i := 2) rfl (by decide) (fun K hK => ?_) AllReadyE.nil
        refine step_append_rd rfl (.tmp 30) (.tmp 31) 33 rfl w.heap.size 25 iT (.agg #[.int .i64 0, .int .i64 0, .int .i64 0, .int .i64 0, .int .i64 0, .int .i64 0]) 48 Tryz.underlying33 hiT hzT0 hzT1 hzT2 rfl (.slice (some ⟨V0.heap.size, 0, none⟩) 0 0) 0 [] rfl Eza9.out rfl (HR.out.next Pza9.out.1) (by unfold maxLen; omega) (by omega) Pza9.out.1.size ?_
        intro vzaj2 wzaj2 oA gA nA
        rw [Nat.zero_add, List.nil_append] at oA
        obtain ⟨Azaj2, czaj2, rfl⟩ := own_sliceZ oA
        have Ozaj2 := Lib.hid oA
        have Pzaj2 := Lib.hid (at_own Pza9.out Eza9.out gA (fun g e => Nat.ne_of_lt (GEz0.out g e)) (Nat.le_refl _))
        have GEzaj2 := Lib.hid (fun (g : Nat) (e : Value.ownBlock (.slice Azaj2 0 czaj2) = some g) => show w.heap.size < g by
          rcases nA with h | h
          · exact GEz0.out g (h.symm.trans e)
          · rw [h] at e; injection e with e; rw [← e]; exact Pza9.out.2.2.1)
        have Nzaj2 := Lib.hid (at_own Nza9.out Eza9.out gA (fun g e => by injection e with e; intro h; have h2 : V0.heap.size + 1 = V0.heap.size := h.trans e.symm; omega) (Nat.le_refl _))
        clear oA gA nA
        refine hK.out _ _ ⟨Pzaj2.out.cell 0, Pzaj2.out.cell 1⟩ (fun hHeld => ?_)
        clear hK K
        try simp only [Act.put, List.getElem_toArray, List.getElem_cons_succ, List.getElem_cons_zero, List.setIfInBounds_toArray, List.set_cons_succ, List.set_cons_zero]
        refine wpAnyE_ready (rs := [10]) (by kernel_rfl) (by simp) ?_
        refine AllReadyE.cons (i := 10) rfl (by decide) (fun K hK => ?_) AllReadyE.nil
        refine step_append_sz rfl (.tmp 32) (.tmp 39) 33 rfl w.heap.size 25 iT (.agg #[.int .i64 0, .int .i64 0, .int .i64 0, .int .i64 0, .int .i64 0, .int .i64 0]) 6 48 Tryz.underlying33 hiT hzT0 hzT1 hzT2 rfl (by decide) (.slice Azaj2 0 czaj2) 0 (cellsI zs) rfl Ozaj2.out ⟨V0.heap.size + 1, 0, none⟩ 1 1 [Value.int .i64 1, Value.int .i64 1, Value.int .i64 x, Value.int .i64 y, Value.int .i64 1, Value.int .i64 0] rfl rfl (fun j u hu => by rw [Addr.add_lit, Nat.zero_add]; exact (Nzaj2.out.cell j).trans (by simpa using hu)) (six_cells _ _ _ _ _ _) (by unfold maxLen; omega) (by omega) Pzaj2.out.1.size ?_
        intro vzajc10 wzajc10 oA gA nA
        obtain ⟨Azajc10, czajc10, rfl⟩ := own_sliceZ oA
        have Ozajc10 := Lib.hid (st_row (zs := zs) (n := 0) (by rw [HDI.out]; exact oA))
        have Pzajc10 := Lib.hid (at_own Pzaj2.out Ozaj2.out gA (fun g e => Nat.ne_of_lt (GEzaj2.out g e)) (Nat.le_refl _))
        clear oA gA nA
        refine hK.out _ _ ⟨Pzajc10.out.cell 0, Pzajc10.out.cell 1⟩ (fun hHeld => ?_)
        clear hK K
        try simp only [Act.put, List.getElem_toArray, List.getElem_cons_succ, List.getElem_cons_zero, List.setIfInBounds_toArray, List.set_cons_succ, List.set_cons_zero]
        refine wpAnyE_ready (rs := [11]) (by kernel_rfl) (by simp) ?_
        refine AllReadyE.last (i := 11) rfl rfl (fun K hK => ?_)
        go_simp
        refine hK.out _ _ ?_
        clear hK K
        try simp only [Act.put, List.getElem_toArray, List.getElem_cons_succ, List.getElem_cons_zero, List.setIfInBounds_toArray, List.set_cons_succ, List.set_cons_zero]
        refine wpAnyE_done (by kernel_rfl) ?_ _
        try simp only [List.getElem_toArray, List.getElem_cons_succ, List.getElem_cons_zero, List.setIfInBounds_toArray, List.set_cons_succ, List.set_cons_zero]
        have RD := Lib.hid (RdZ.of_own Ozajc10.out HRL.out)
        have PF := Lib.hid Pzajc10.out.1
        go_wp2_with fail
        refine (HV.out _ _ _ RD.out).mono ?_
        rintro e WZ ⟨rfl, hb⟩
        have OZ := Lib.hid (own_.own_below Ozajc10.out hb)
        have BZ := Lib.hid (PF.out.trans (hb.mono PF.out.size))
        clear hb
        cases hq : stB zs 0 x y
        · have HE := Lib.hid hq
          clear hq
          have OX := Lib.hid (own_emptyZ WZ 25 6)
          have LX := Lib.hid (BZ.out.size)
          have BX := Lib.hid (BZ.out.alloc BZ.out.size (.cells #[] 25))
          go_wp2_with fail
          go_ret3
          exact ⟨_, by rw [HE.out, (HNO.out HE.out).2.2]; rfl, by rw [(HNO.out HE.out).2.1, (HNO.out HE.out).1]; exact own_.own_base OX.out LX.out, BX.out⟩
        · have HY := Lib.hid (HYE.out hq)
          have HE := Lib.hid hq
          clear hq
          go_wp2_with fail
          go_ret3
          exact ⟨_, by rw [HE.out, HY.out.2.2]; rfl, by rw [HY.out.2.1, HY.out.1]; exact OZ.out, BZ.out⟩
    · go_simp
      have Pz9 := Lib.hid (P0.out.drew.alloc (.cells #[.int .i64 1, .int .i64 1, .int .i64 x, .int .i64 y, .int .i64 1, .int .i64 0] 25))
      have Nz9 := Lib.hid (P0.out.drew.next 25 #[.int .i64 1, .int .i64 1, .int .i64 x, .int .i64 y, .int .i64 1, .int .i64 0])
      refine hK.out _ _ ⟨Pz9.out.cell 0, Pz9.out.cell 1⟩ (fun hHeld => ?_)
      clear hK K
      try simp only [Act.put, List.getElem_toArray, List.getElem_cons_succ, List.getElem_cons_zero, List.setIfInBounds_toArray, List.set_cons_succ, List.set_cons_zero]
      refine wpAnyE_ready (rs := [0]) (by kernel_rfl) (by simp) ?_
      refine AllReadyE.cons (i := 0) rfl (by decide) (fun K hK => ?_) AllReadyE.nil
      go_simp
      have Ezj0 := Lib.hid (own_.own_base (own_emptyZ _ 25 6) Pz9.out.1.size)
      have GEzj0 := Lib.hid (fun g e => Nat.lt_of_lt_of_le Pz9.out.2.2.1 (own_.row_ge (own_emptyZ _ 25 6) g e))
      have Pzj0 := Lib.hid (Pz9.out.alloc (.cells #[] 25))
      have GNzj0 := Lib.hid (fun g e => Nat.ne_of_lt (Nat.lt_of_lt_of_le Nz9.out.2.2.1 (own_.row_ge (own_emptyZ _ 25 6) g e)))
      have Nzj0 := Lib.hid (Nz9.out.alloc (.cells #[] 25))
      rw [World.size_alloc] at GNzj0
      rw [World.size_alloc] at Ezj0
      rw [World.size_alloc] at GEzj0
      refine hK.out _ _ ⟨Pzj0.out.cell 0, Pzj0.out.cell 1⟩ (fun hHeld => ?_)
      clear hK K
      try simp only [Act.put, List.getElem_toArray, List.getElem_cons_succ, List.getElem_cons_zero, List.setIfInBounds_toArray, List.set_cons_succ, List.set_cons_zero]
      refine wpAnyE_ready (rs := [2]) (by kernel_rfl) (by simp) ?_
      refine AllReadyE.cons (i := 2) rfl (by decide) (fun K hK => ?_) AllReadyE.nil
      refine step_append_rd rfl (.tmp 30) (.tmp 31) 33 rfl w.heap.size 25 iT (.agg #[.int .i64 0, .int .i64 0, .int .i64 0, .int .i64 0, .int .i64 0, .int .i64 0]) 48 Tryz.underlying33 hiT hzT0 hzT1 hzT2 rfl (.slice (some ⟨V0.heap.size + 1, 0, none⟩) 0 0) 0 [] rfl Ezj0.out rfl (HR.out.next Pzj0.out.1) (by unfold maxLen; omega) (by omega) Pzj0.out.1.size ?_
      intro vzja2 wzja2 oA gA nA
      rw [Nat.zero_add, List.nil_append] at oA
      obtain ⟨Azja2, czja2, rfl⟩ := own_sliceZ oA
      have Ozja2 := Lib.hid oA
      have Pzja2 := Lib.hid (at_own Pzj0.out Ezj0.out gA (fun g e => Nat.ne_of_lt (GEzj0.out g e)) (Nat.le_refl _))
      have GEzja2 := Lib.hid (fun (g : Nat) (e : Value.ownBlock (.slice Azja2 0 czja2) = some g) => show w.heap.size < g by
        rcases nA with h | h
        · exact GEzj0.out g (h.symm.trans e)
        · rw [h] at e; injection e with e; rw [← e]; exact Pzj0.out.2.2.1)
      have Nzja2 := Lib.hid (at_own Nzj0.out Ezj0.out gA (fun g e => GNzj0.out g e) (Nat.le_refl _))
      clear oA gA nA
      refine hK.out _ _ ⟨Pzja2.out.cell 0, Pzja2.out.cell 1⟩ (fun hHeld => ?_)
      clear hK K
      try simp only [Act.put, List.getElem_toArray, List.getElem_cons_succ, List.getElem_cons_zero, List.setIfInBounds_toArray, List.set_cons_succ, List.set_cons_zero]
      refine wpAnyE_ready (rs := [10]) (by kernel_rfl) (by simp) ?_
      refine AllReadyE.cons (i := 10) rfl (by decide) (fun K hK => ?_) AllReadyE.nil
      refine step_append_sz rfl (.tmp 32) (.tmp 39) 33 rfl w.heap.size 25 iT (.agg #[.int .i64 0, .int .i64 0, .int .i64 0, .int .i64 0, .int .i64 0, .int .i64 0]) 6 48 Tryz.underlying33 hiT hzT0 hzT1 hzT2 rfl (by decide) (.slice Azja2 0 czja2) 0 (cellsI zs) rfl Ozja2.out ⟨V0.heap.size, 0, none⟩ 1 1 [Value.int .i64 1, Value.int .i64 1, Value.int .i64 x, Value.int .i64 y, Value.int .i64 1, Value.int .i64 0] rfl rfl (fun j u hu => by rw [Addr.add_lit, Nat.zero_add]; exact (Nzja2.out.cell j).trans (by simpa using hu)) (six_cells _ _ _ _ _ _) (by unfold maxLen; omega) (by omega) Pzja2.out.1.size ?_
      intro vzjac10 wzjac10 oA gA nA
      obtain ⟨Azjac10, czjac10, rfl⟩ := own_sliceZ oA
      have Ozjac10 := Lib.hid (st_row (zs := zs) (n := 0) (by rw [HDI.out]; exact oA))
      have Pzjac10 := Lib.hid (at_own Pzja2.out Ozja2.out gA (fun g e => Nat.ne_of_lt (GEzja2.out g e)) (Nat.le_refl _))
      clear oA gA nA
      refine hK.out _ _ ⟨Pzjac10.out.cell 0, Pzjac10.out.cell 1⟩ (fun hHeld => ?_)
      clear hK K
      try simp only [Act.put, List.getElem_toArray, List.getElem_cons_succ, List.getElem_cons_zero, List.setIfInBounds_toArray, List.set_cons_succ, List.set_cons_zero]
      refine wpAnyE_ready (rs := [11]) (by kernel_rfl) (by simp) ?_
      refine AllReadyE.last (i := 11) rfl rfl (fun K hK => ?_)
      go_simp
      refine hK.out _ _ ?_
      clear hK K
      try simp only [Act.put, List.getElem_toArray, List.getElem_cons_succ, List.getElem_cons_zero, List.setIfInBounds_toArray, List.set_cons_succ, List.set_cons_zero]
      refine wpAnyE_done (by kernel_rfl) ?_ _
      try simp only [List.getElem_toArray, List.getElem_cons_succ, List.getElem_cons_zero, List.setIfInBounds_toArray, List.set_cons_succ, List.set_cons_zero]
      have RD := Lib.hid (RdZ.of_own Ozjac10.out HRL.out)
      have PF := Lib.hid Pzjac10.out.1
      go_wp2_with fail
      refine (HV.out _ _ _ RD.out).mono ?_
      rintro e WZ ⟨rfl, hb⟩
      have OZ := Lib.hid (own_.own_below Ozjac10.out hb)
      have BZ := Lib.hid (PF.out.trans (hb.mono PF.out.size))
      clear hb
      cases hq : stB zs 0 x y
      · have HE := Lib.hid hq
        clear hq
        have OX := Lib.hid (own_emptyZ WZ 25 6)
        have LX := Lib.hid (BZ.out.size)
        have BX := Lib.hid (BZ.out.alloc BZ.out.size (.cells #[] 25))
        go_wp2_with fail
        go_ret3
        exact ⟨_, by rw [HE.out, (HNO.out HE.out).2.2]; rfl, by rw [(HNO.out HE.out).2.1, (HNO.out HE.out).1]; exact own_.own_base OX.out LX.out, BX.out⟩
      · have HY := Lib.hid (HYE.out hq)
        have HE := Lib.hid hq
        clear hq
        go_wp2_with fail
        go_ret3
        exact ⟨_, by rw [HE.out, HY.out.2.2]; rfl, by rw [HY.out.2.1, HY.out.1]; exact OZ.out, BZ.out⟩
  · obtain ⟨p, hp⟩ : ∃ p, p + 1 = n := ⟨n - 1, by omega⟩
    obtain ⟨b1, o1, eA, l1, p0, -⟩ := cellsE HR.out (show p < n by omega)
    have PZ := Lib.hid p0
    have HD2 := Lib.hid (show IntKind.i64.wrap (fld 6 zs p 0 + 1) = dI by rw [← HDI.out]; exact (sd_succ hp).symm)
    have e1 : IntKind.i64.wrap ((n : Int) - 1) = (p : Int) := by rw [IntWalk.i64_in _ (by omega)]; omega
    have hp0 : (0 : Int) ≤ (p : Int) := Int.natCast_nonneg _
    have hpn : (p : Int) < (n : Int) := by omega
    have hn0 : (0 : Int) < (n : Int) := by omega
    clear p0 hp
    subst eA
    generalize fld 6 zs p 0 = u at *
    have e2 := HD2.out
    go_enter Tryz.func18, Tryz.ntmps18
    go_wp2_with fail
    generalize w.alloc (.cells #[.int .i64 x, .int .i64 y] 35) = W0 at *
    refine (HL.out W0 Q0.out.1).mono ?_
    rintro e W1 ⟨rfl, hb⟩
    have Q1 := Lib.hid (Q0.out.old hb)
    clear hb
    have p0 : W1.cell? ⟨w.heap.size, 0, none⟩ = some (.int .i64 x) := Q1.out.cell 0
    have p1 : W1.cell? ⟨w.heap.size, 1, none⟩ = some (.int .i64 y) := Q1.out.cell 1
    go_wp2_with fail
    refine (HP.out W1).mono ?_
    rintro e V0 ⟨rfl, hb⟩
    have P0 := Lib.hid (Q1.out.old hb)
    clear hb p0 p1
    have c0 := (P0.out.1.cell (p := ⟨b1, o1 + p * 6, none⟩) l1).trans PZ.out
    go_upto_region 7 with fail
    clear c0
    have HSd := Lib.hid (show World.cell? V0.drew ⟨w.heap.size, 0, none⟩ = some (.int .i64 x) ∧ World.cell? V0.drew ⟨w.heap.size, 1, none⟩ = some (.int .i64 y) from ⟨P0.out.drew.cell 0, P0.out.drew.cell 1⟩)
    refine wp_region_tail (S := fun w' => World.cell? w' ⟨w.heap.size, 0, none⟩ = some (.int .i64 x) ∧ World.cell? w' ⟨w.heap.size, 1, none⟩ = some (.int .i64 y)) 11 (by kernel_rfl) HSd.out (fun hHeld => ?_)
    try simp only [Act.put, List.getElem_toArray, List.getElem_cons_succ, List.getElem_cons_zero, List.setIfInBounds_toArray, List.set_cons_succ, List.set_cons_zero]
    refine wpAnyE_take (i := 1) (v := ?vqs1) rfl (by decide +kernel) (fun _ _ _ h => h) (Or.inl ⟨by kernel_rfl, ?hqs1⟩) (by assumption) ?rqs1
    case hqs1 =>
      intro wS hSw
      obtain ⟨h0_, h1_⟩ := hSw
      go_simp
      try with_reducible rfl
    try simp only [Act.put, List.getElem_toArray, List.getElem_cons_succ, List.getElem_cons_zero, List.setIfInBounds_toArray, List.set_cons_succ, List.set_cons_zero]
    refine wpAnyE_take (i := 3) (v := ?vqs3) rfl (by decide +kernel) (fun _ _ _ h => h) (Or.inl ⟨by kernel_rfl, ?hqs3⟩) (by assumption) ?rqs3
    case hqs3 =>
      intro wS hSw
      obtain ⟨h0_, h1_⟩ := hSw
      go_simp
      try with_reducible rfl
    try simp only [Act.put, List.getElem_toArray, List.getElem_cons_succ, List.getElem_cons_zero, List.setIfInBounds_toArray, List.set_cons_succ, List.set_cons_zero]
    refine wpAnyE_take (i := 4) (v := ?vqs4) rfl (by decide +kernel) (fun _ _ _ h => h) (Or.inl ⟨by kernel_rfl, ?hqs4⟩) (by assumption) ?rqs4
    case hqs4 =>
      intro wS hSw
      obtain ⟨h0_, h1_⟩ := hSw
      go_simp
      try with_reducible rfl
    try simp only [Act.put, List.getElem_toArray, List.getElem_cons_succ, List.getElem_cons_zero, List.setIfInBounds_toArray, List.set_cons_succ, List.set_cons_zero]
    refine wpAnyE_take (i := 5) (v := ?vqs5) rfl (by decide +kernel) (fun _ _ _ h => h) (Or.inl ⟨by kernel_rfl, ?hqs5⟩) (by assumption) ?rqs5
    case hqs5 =>
      intro wS hSw
      obtain ⟨h0_, h1_⟩ := hSw
      go_simp
      try with_reducible rfl
    try simp only [Act.put, List.getElem_toArray, List.getElem_cons_succ, List.getElem_cons_zero, List.setIfInBounds_toArray, List.set_cons_succ, List.set_cons_zero]
    refine wpAnyE_take (i := 6) (v := ?vqs6) rfl (by decide +kernel) (fun _ _ _ h => h) (Or.inl ⟨by kernel_rfl, ?hqs6⟩) (by assumption) ?rqs6
    case hqs6 =>
      intro wS hSw
      obtain ⟨h0_, h1_⟩ := hSw
      go_simp
      try with_reducible rfl
    try simp only [Act.put, List.getElem_toArray, List.getElem_cons_succ, List.getElem_cons_zero, List.setIfInBounds_toArray, List.set_cons_succ, List.set_cons_zero]
    refine wpAnyE_take (i := 7) (v := ?vqs7) rfl (by decide +kernel) (fun _ _ _ h => h) (Or.inl ⟨by kernel_rfl, ?hqs7⟩) (by assumption) ?rqs7
    case hqs7 =>
      intro wS hSw
      obtain ⟨h0_, h1_⟩ := hSw
      go_simp
      try with_reducible rfl
    try simp only [Act.put, List.getElem_toArray, List.getElem_cons_succ, List.getElem_cons_zero, List.setIfInBounds_toArray, List.set_cons_succ, List.set_cons_zero]
    refine wpAnyE_take (i := 8) (v := ?vqs8) rfl (by decide +kernel) (fun _ _ _ h => h) (Or.inl ⟨by kernel_rfl, ?hqs8⟩) (by assumption) ?rqs8
    case hqs8 =>
      intro wS hSw
      obtain ⟨h0_, h1_⟩ := hSw
      go_simp
      try with_reducible rfl
    try simp only [Act.put, List.getElem_toArray, List.getElem_cons_succ, List.getElem_cons_zero, List.setIfInBounds_toArray, List.set_cons_succ, List.set_cons_zero]
    refine wpAnyE_ready (rs := [0, 9]) (by kernel_rfl) (by simp) ?_
    refine AllReadyE.cons (i := 0) rfl (by decide) (fun K hK => ?_) (AllReadyE.cons (i := 9) rfl (by decide) (fun K hK => ?_) AllReadyE.nil)
    · go_simp
      have Es0 := Lib.hid (own_.own_base (own_emptyZ _ 25 6) P0.out.drew.1.size)
      have GEs0 := Lib.hid (fun g e => Nat.lt_of_lt_of_le P0.out.drew.2.2.1 (own_.row_ge (own_emptyZ _ 25 6) g e))
      have Ps0 := Lib.hid (P0.out.drew.alloc (.cells #[] 25))
      refine hK.out _ _ ⟨Ps0.out.cell 0, Ps0.out.cell 1⟩ (fun hHeld => ?_)
      clear hK K
      try simp only [Act.put, List.getElem_toArray, List.getElem_cons_succ, List.getElem_cons_zero, List.setIfInBounds_toArray, List.set_cons_succ, List.set_cons_zero]
      refine wpAnyE_ready (rs := [2, 9]) (by kernel_rfl) (by simp) ?_
      refine AllReadyE.cons (i := 2) rfl (by decide) (fun K hK => ?_) (AllReadyE.cons (i := 9) rfl (by decide) (fun K hK => ?_) AllReadyE.nil)
      · refine step_append_rd rfl (.tmp 30) (.tmp 31) 33 rfl w.heap.size 25 iT (.agg #[.int .i64 0, .int .i64 0, .int .i64 0, .int .i64 0, .int .i64 0, .int .i64 0]) 48 Tryz.underlying33 hiT hzT0 hzT1 hzT2 rfl (.slice (some ⟨V0.heap.size, 0, none⟩) 0 0) 0 [] rfl Es0.out rfl (HR.out.next Ps0.out.1) (by unfold maxLen; omega) (by omega) Ps0.out.1.size ?_
        intro vsa2 wsa2 oA gA nA
        rw [Nat.zero_add, List.nil_append] at oA
        obtain ⟨Asa2, csa2, rfl⟩ := own_sliceZ oA
        have Osa2 := Lib.hid oA
        have Psa2 := Lib.hid (at_own Ps0.out Es0.out gA (fun g e => Nat.ne_of_lt (GEs0.out g e)) (Nat.le_refl _))
        have GEsa2 := Lib.hid (fun (g : Nat) (e : Value.ownBlock (.slice Asa2 n csa2) = some g) => show w.heap.size < g by
          rcases nA with h | h
          · exact GEs0.out g (h.symm.trans e)
          · rw [h] at e; injection e with e; rw [← e]; exact Ps0.out.2.2.1)
        clear oA gA nA
        refine hK.out _ _ ⟨Psa2.out.cell 0, Psa2.out.cell 1⟩ (fun hHeld => ?_)
        clear hK K
        try simp only [Act.put, List.getElem_toArray, List.getElem_cons_succ, List.getElem_cons_zero, List.setIfInBounds_toArray, List.set_cons_succ, List.set_cons_zero]
        refine wpAnyE_ready (rs := [9]) (by kernel_rfl) (by simp) ?_
        refine AllReadyE.cons (i := 9) rfl (by decide) (fun K hK => ?_) AllReadyE.nil
        go_simp
        have Psac9 := Lib.hid (Psa2.out.alloc (.cells #[.int .i64 dI, .int .i64 1, .int .i64 x, .int .i64 y, .int .i64 1, .int .i64 0] 25))
        have Nsac9 := Lib.hid (Psa2.out.next 25 #[.int .i64 dI, .int .i64 1, .int .i64 x, .int .i64 y, .int .i64 1, .int .i64 0])
        have Osac9 := Lib.hid (Osa2.out.alloc (.cells #[.int .i64 dI, .int .i64 1, .int .i64 x, .int .i64 y, .int .i64 1, .int .i64 0] 25))
        refine hK.out _ _ ⟨Psac9.out.cell 0, Psac9.out.cell 1⟩ (fun hHeld => ?_)
        clear hK K
        try simp only [Act.put, List.getElem_toArray, List.getElem_cons_succ, List.getElem_cons_zero, List.setIfInBounds_toArray, List.set_cons_succ, List.set_cons_zero]
        refine wpAnyE_ready (rs := [10]) (by kernel_rfl) (by simp) ?_
        refine AllReadyE.cons (i := 10) rfl (by decide) (fun K hK => ?_) AllReadyE.nil
        refine step_append_sz rfl (.tmp 32) (.tmp 39) 33 rfl w.heap.size 25 iT (.agg #[.int .i64 0, .int .i64 0, .int .i64 0, .int .i64 0, .int .i64 0, .int .i64 0]) 6 48 Tryz.underlying33 hiT hzT0 hzT1 hzT2 rfl (by decide) (.slice Asa2 n csa2) n (cellsI zs) rfl Osac9.out ⟨wsa2.heap.size, 0, none⟩ 1 1 [Value.int .i64 dI, Value.int .i64 1, Value.int .i64 x, Value.int .i64 y, Value.int .i64 1, Value.int .i64 0] rfl rfl (fun j u hu => by rw [Addr.add_lit, Nat.zero_add]; exact (Nsac9.out.cell j).trans (by simpa using hu)) (six_cells _ _ _ _ _ _) (by unfold maxLen; omega) (by omega) Psac9.out.1.size ?_
        intro vsacj10 wsacj10 oA gA nA
        obtain ⟨Asacj10, csacj10, rfl⟩ := own_sliceZ oA
        have Osacj10 := Lib.hid (st_row (zs := zs) (n := n) (by rw [HDI.out]; exact oA))
        have Psacj10 := Lib.hid (at_own Psac9.out Osac9.out gA (fun g e => Nat.ne_of_lt (GEsa2.out g e)) (Nat.le_refl _))
        clear oA gA nA
        refine hK.out _ _ ⟨Psacj10.out.cell 0, Psacj10.out.cell 1⟩ (fun hHeld => ?_)
        clear hK K
        try simp only [Act.put, List.getElem_toArray, List.getElem_cons_succ, List.getElem_cons_zero, List.setIfInBounds_toArray, List.set_cons_succ, List.set_cons_zero]
        refine wpAnyE_ready (rs := [11]) (by kernel_rfl) (by simp) ?_
        refine AllReadyE.last (i := 11) rfl rfl (fun K hK => ?_)
        go_simp
        refine hK.out _ _ ?_
        clear hK K
        try simp only [Act.put, List.getElem_toArray, List.getElem_cons_succ, List.getElem_cons_zero, List.setIfInBounds_toArray, List.set_cons_succ, List.set_cons_zero]
        refine wpAnyE_done (by kernel_rfl) ?_ _
        try simp only [List.getElem_toArray, List.getElem_cons_succ, List.getElem_cons_zero, List.setIfInBounds_toArray, List.set_cons_succ, List.set_cons_zero]
        have RD := Lib.hid (RdZ.of_own Osacj10.out HRL.out)
        have PF := Lib.hid Psacj10.out.1
        go_wp2_with fail
        refine (HV.out _ _ _ RD.out).mono ?_
        rintro e WZ ⟨rfl, hb⟩
        have OZ := Lib.hid (own_.own_below Osacj10.out hb)
        have BZ := Lib.hid (PF.out.trans (hb.mono PF.out.size))
        clear hb
        cases hq : stB zs n x y
        · have HE := Lib.hid hq
          clear hq
          have OX := Lib.hid (own_emptyZ WZ 25 6)
          have LX := Lib.hid (BZ.out.size)
          have BX := Lib.hid (BZ.out.alloc BZ.out.size (.cells #[] 25))
          go_wp2_with fail
          go_ret3
          exact ⟨_, by rw [HE.out, (HNO.out HE.out).2.2]; rfl, by rw [(HNO.out HE.out).2.1, (HNO.out HE.out).1]; exact own_.own_base OX.out LX.out, BX.out⟩
        · have HY := Lib.hid (HYE.out hq)
          have HE := Lib.hid hq
          clear hq
          go_wp2_with fail
          go_ret3
          exact ⟨_, by rw [HE.out, HY.out.2.2]; rfl, by rw [HY.out.2.1, HY.out.1]; exact OZ.out, BZ.out⟩
      · go_simp
        have Psa9 := Lib.hid (Ps0.out.alloc (.cells #[.int .i64 dI, .int .i64 1, .int .i64 x, .int .i64 y, .int .i64 1, .int .i64 0] 25))
        have Nsa9 := Lib.hid (Ps0.out.next 25 #[.int .i64 dI, .int .i64 1, .int .i64 x, .int .i64 y, .int .i64 1, .int .i64 0])
        rw [World.size_alloc] at Nsa9
        have Esa9 := Lib.hid (Es0.out.alloc (.cells #[.int .i64 dI, .int .i64 1, .int .i64 x, .int .i64 y, .int .i64 1, .int .i64 0] 25))
        refine hK.out _ _ ⟨Psa9.out.cell 0, Psa9.out.cell 1⟩ (fun hHeld => ?_)
        clear hK K
        try simp only [Act.put, List.getElem_toArray, List.getElem_cons_succ, List.getElem_cons_zero, List.setIfInBounds_toArray, List.set_cons_succ, List.set_cons_zero]
        refine wpAnyE_ready (rs := [2]) (by kernel_rfl) (by simp) ?_
        refine AllReadyE.cons (i := 2) rfl (by decide) (fun K hK => ?_) AllReadyE.nil
        refine step_append_rd rfl (.tmp 30) (.tmp 31) 33 rfl w.heap.size 25 iT (.agg #[.int .i64 0, .int .i64 0, .int .i64 0, .int .i64 0, .int .i64 0, .int .i64 0]) 48 Tryz.underlying33 hiT hzT0 hzT1 hzT2 rfl (.slice (some ⟨V0.heap.size, 0, none⟩) 0 0) 0 [] rfl Esa9.out rfl (HR.out.next Psa9.out.1) (by unfold maxLen; omega) (by omega) Psa9.out.1.size ?_
        intro vsaj2 wsaj2 oA gA nA
        rw [Nat.zero_add, List.nil_append] at oA
        obtain ⟨Asaj2, csaj2, rfl⟩ := own_sliceZ oA
        have Osaj2 := Lib.hid oA
        have Psaj2 := Lib.hid (at_own Psa9.out Esa9.out gA (fun g e => Nat.ne_of_lt (GEs0.out g e)) (Nat.le_refl _))
        have GEsaj2 := Lib.hid (fun (g : Nat) (e : Value.ownBlock (.slice Asaj2 n csaj2) = some g) => show w.heap.size < g by
          rcases nA with h | h
          · exact GEs0.out g (h.symm.trans e)
          · rw [h] at e; injection e with e; rw [← e]; exact Psa9.out.2.2.1)
        have Nsaj2 := Lib.hid (at_own Nsa9.out Esa9.out gA (fun g e => by injection e with e; intro h; have h2 : V0.heap.size + 1 = V0.heap.size := h.trans e.symm; omega) (Nat.le_refl _))
        clear oA gA nA
        refine hK.out _ _ ⟨Psaj2.out.cell 0, Psaj2.out.cell 1⟩ (fun hHeld => ?_)
        clear hK K
        try simp only [Act.put, List.getElem_toArray, List.getElem_cons_succ, List.getElem_cons_zero, List.setIfInBounds_toArray, List.set_cons_succ, List.set_cons_zero]
        refine wpAnyE_ready (rs := [10]) (by kernel_rfl) (by simp) ?_
        refine AllReadyE.cons (i := 10) rfl (by decide) (fun K hK => ?_) AllReadyE.nil
        refine step_append_sz rfl (.tmp 32) (.tmp 39) 33 rfl w.heap.size 25 iT (.agg #[.int .i64 0, .int .i64 0, .int .i64 0, .int .i64 0, .int .i64 0, .int .i64 0]) 6 48 Tryz.underlying33 hiT hzT0 hzT1 hzT2 rfl (by decide) (.slice Asaj2 n csaj2) n (cellsI zs) rfl Osaj2.out ⟨V0.heap.size + 1, 0, none⟩ 1 1 [Value.int .i64 dI, Value.int .i64 1, Value.int .i64 x, Value.int .i64 y, Value.int .i64 1, Value.int .i64 0] rfl rfl (fun j u hu => by rw [Addr.add_lit, Nat.zero_add]; exact (Nsaj2.out.cell j).trans (by simpa using hu)) (six_cells _ _ _ _ _ _) (by unfold maxLen; omega) (by omega) Psaj2.out.1.size ?_
        intro vsajc10 wsajc10 oA gA nA
        obtain ⟨Asajc10, csajc10, rfl⟩ := own_sliceZ oA
        have Osajc10 := Lib.hid (st_row (zs := zs) (n := n) (by rw [HDI.out]; exact oA))
        have Psajc10 := Lib.hid (at_own Psaj2.out Osaj2.out gA (fun g e => Nat.ne_of_lt (GEsaj2.out g e)) (Nat.le_refl _))
        clear oA gA nA
        refine hK.out _ _ ⟨Psajc10.out.cell 0, Psajc10.out.cell 1⟩ (fun hHeld => ?_)
        clear hK K
        try simp only [Act.put, List.getElem_toArray, List.getElem_cons_succ, List.getElem_cons_zero, List.setIfInBounds_toArray, List.set_cons_succ, List.set_cons_zero]
        refine wpAnyE_ready (rs := [11]) (by kernel_rfl) (by simp) ?_
        refine AllReadyE.last (i := 11) rfl rfl (fun K hK => ?_)
        go_simp
        refine hK.out _ _ ?_
        clear hK K
        try simp only [Act.put, List.getElem_toArray, List.getElem_cons_succ, List.getElem_cons_zero, List.setIfInBounds_toArray, List.set_cons_succ, List.set_cons_zero]
        refine wpAnyE_done (by kernel_rfl) ?_ _
        try simp only [List.getElem_toArray, List.getElem_cons_succ, List.getElem_cons_zero, List.setIfInBounds_toArray, List.set_cons_succ, List.set_cons_zero]
        have RD := Lib.hid (RdZ.of_own Osajc10.out HRL.out)
        have PF := Lib.hid Psajc10.out.1
        go_wp2_with fail
        refine (HV.out _ _ _ RD.out).mono ?_
        rintro e WZ ⟨rfl, hb⟩
        have OZ := Lib.hid (own_.own_below Osajc10.out hb)
        have BZ := Lib.hid (PF.out.trans (hb.mono PF.out.size))
        clear hb
        cases hq : stB zs n x y
        · have HE := Lib.hid hq
          clear hq
          have OX := Lib.hid (own_emptyZ WZ 25 6)
          have LX := Lib.hid (BZ.out.size)
          have BX := Lib.hid (BZ.out.alloc BZ.out.size (.cells #[] 25))
          go_wp2_with fail
          go_ret3
          exact ⟨_, by rw [HE.out, (HNO.out HE.out).2.2]; rfl, by rw [(HNO.out HE.out).2.1, (HNO.out HE.out).1]; exact own_.own_base OX.out LX.out, BX.out⟩
        · have HY := Lib.hid (HYE.out hq)
          have HE := Lib.hid hq
          clear hq
          go_wp2_with fail
          go_ret3
          exact ⟨_, by rw [HE.out, HY.out.2.2]; rfl, by rw [HY.out.2.1, HY.out.1]; exact OZ.out, BZ.out⟩
    · go_simp
      have Ps9 := Lib.hid (P0.out.drew.alloc (.cells #[.int .i64 dI, .int .i64 1, .int .i64 x, .int .i64 y, .int .i64 1, .int .i64 0] 25))
      have Ns9 := Lib.hid (P0.out.drew.next 25 #[.int .i64 dI, .int .i64 1, .int .i64 x, .int .i64 y, .int .i64 1, .int .i64 0])
      refine hK.out _ _ ⟨Ps9.out.cell 0, Ps9.out.cell 1⟩ (fun hHeld => ?_)
      clear hK K
      try simp only [Act.put, List.getElem_toArray, List.getElem_cons_succ, List.getElem_cons_zero, List.setIfInBounds_toArray, List.set_cons_succ, List.set_cons_zero]
      refine wpAnyE_ready (rs := [0]) (by kernel_rfl) (by simp) ?_
      refine AllReadyE.cons (i := 0) rfl (by decide) (fun K hK => ?_) AllReadyE.nil
      go_simp
      have Esj0 := Lib.hid (own_.own_base (own_emptyZ _ 25 6) Ps9.out.1.size)
      have GEsj0 := Lib.hid (fun g e => Nat.lt_of_lt_of_le Ps9.out.2.2.1 (own_.row_ge (own_emptyZ _ 25 6) g e))
      have Psj0 := Lib.hid (Ps9.out.alloc (.cells #[] 25))
      have GNsj0 := Lib.hid (fun g e => Nat.ne_of_lt (Nat.lt_of_lt_of_le Ns9.out.2.2.1 (own_.row_ge (own_emptyZ _ 25 6) g e)))
      have Nsj0 := Lib.hid (Ns9.out.alloc (.cells #[] 25))
      rw [World.size_alloc] at GNsj0
      rw [World.size_alloc] at Esj0
      rw [World.size_alloc] at GEsj0
      refine hK.out _ _ ⟨Psj0.out.cell 0, Psj0.out.cell 1⟩ (fun hHeld => ?_)
      clear hK K
      try simp only [Act.put, List.getElem_toArray, List.getElem_cons_succ, List.getElem_cons_zero, List.setIfInBounds_toArray, List.set_cons_succ, List.set_cons_zero]
      refine wpAnyE_ready (rs := [2]) (by kernel_rfl) (by simp) ?_
      refine AllReadyE.cons (i := 2) rfl (by decide) (fun K hK => ?_) AllReadyE.nil
      refine step_append_rd rfl (.tmp 30) (.tmp 31) 33 rfl w.heap.size 25 iT (.agg #[.int .i64 0, .int .i64 0, .int .i64 0, .int .i64 0, .int .i64 0, .int .i64 0]) 48 Tryz.underlying33 hiT hzT0 hzT1 hzT2 rfl (.slice (some ⟨V0.heap.size + 1, 0, none⟩) 0 0) 0 [] rfl Esj0.out rfl (HR.out.next Psj0.out.1) (by unfold maxLen; omega) (by omega) Psj0.out.1.size ?_
      intro vsja2 wsja2 oA gA nA
      rw [Nat.zero_add, List.nil_append] at oA
      obtain ⟨Asja2, csja2, rfl⟩ := own_sliceZ oA
      have Osja2 := Lib.hid oA
      have Psja2 := Lib.hid (at_own Psj0.out Esj0.out gA (fun g e => Nat.ne_of_lt (GEsj0.out g e)) (Nat.le_refl _))
      have GEsja2 := Lib.hid (fun (g : Nat) (e : Value.ownBlock (.slice Asja2 n csja2) = some g) => show w.heap.size < g by
        rcases nA with h | h
        · exact GEsj0.out g (h.symm.trans e)
        · rw [h] at e; injection e with e; rw [← e]; exact Psj0.out.2.2.1)
      have Nsja2 := Lib.hid (at_own Nsj0.out Esj0.out gA (fun g e => GNsj0.out g e) (Nat.le_refl _))
      clear oA gA nA
      refine hK.out _ _ ⟨Psja2.out.cell 0, Psja2.out.cell 1⟩ (fun hHeld => ?_)
      clear hK K
      try simp only [Act.put, List.getElem_toArray, List.getElem_cons_succ, List.getElem_cons_zero, List.setIfInBounds_toArray, List.set_cons_succ, List.set_cons_zero]
      refine wpAnyE_ready (rs := [10]) (by kernel_rfl) (by simp) ?_
      refine AllReadyE.cons (i := 10) rfl (by decide) (fun K hK => ?_) AllReadyE.nil
      refine step_append_sz rfl (.tmp 32) (.tmp 39) 33 rfl w.heap.size 25 iT (.agg #[.int .i64 0, .int .i64 0, .int .i64 0, .int .i64 0, .int .i64 0, .int .i64 0]) 6 48 Tryz.underlying33 hiT hzT0 hzT1 hzT2 rfl (by decide) (.slice Asja2 n csja2) n (cellsI zs) rfl Osja2.out ⟨V0.heap.size, 0, none⟩ 1 1 [Value.int .i64 dI, Value.int .i64 1, Value.int .i64 x, Value.int .i64 y, Value.int .i64 1, Value.int .i64 0] rfl rfl (fun j u hu => by rw [Addr.add_lit, Nat.zero_add]; exact (Nsja2.out.cell j).trans (by simpa using hu)) (six_cells _ _ _ _ _ _) (by unfold maxLen; omega) (by omega) Psja2.out.1.size ?_
      intro vsjac10 wsjac10 oA gA nA
      obtain ⟨Asjac10, csjac10, rfl⟩ := own_sliceZ oA
      have Osjac10 := Lib.hid (st_row (zs := zs) (n := n) (by rw [HDI.out]; exact oA))
      have Psjac10 := Lib.hid (at_own Psja2.out Osja2.out gA (fun g e => Nat.ne_of_lt (GEsja2.out g e)) (Nat.le_refl _))
      clear oA gA nA
      refine hK.out _ _ ⟨Psjac10.out.cell 0, Psjac10.out.cell 1⟩ (fun hHeld => ?_)
      clear hK K
      try simp only [Act.put, List.getElem_toArray, List.getElem_cons_succ, List.getElem_cons_zero, List.setIfInBounds_toArray, List.set_cons_succ, List.set_cons_zero]
      refine wpAnyE_ready (rs := [11]) (by kernel_rfl) (by simp) ?_
      refine AllReadyE.last (i := 11) rfl rfl (fun K hK => ?_)
      go_simp
      refine hK.out _ _ ?_
      clear hK K
      try simp only [Act.put, List.getElem_toArray, List.getElem_cons_succ, List.getElem_cons_zero, List.setIfInBounds_toArray, List.set_cons_succ, List.set_cons_zero]
      refine wpAnyE_done (by kernel_rfl) ?_ _
      try simp only [List.getElem_toArray, List.getElem_cons_succ, List.getElem_cons_zero, List.setIfInBounds_toArray, List.set_cons_succ, List.set_cons_zero]
      have RD := Lib.hid (RdZ.of_own Osjac10.out HRL.out)
      have PF := Lib.hid Psjac10.out.1
      go_wp2_with fail
      refine (HV.out _ _ _ RD.out).mono ?_
      rintro e WZ ⟨rfl, hb⟩
      have OZ := Lib.hid (own_.own_below Osjac10.out hb)
      have BZ := Lib.hid (PF.out.trans (hb.mono PF.out.size))
      clear hb
      cases hq : stB zs n x y
      · have HE := Lib.hid hq
        clear hq
        have OX := Lib.hid (own_emptyZ WZ 25 6)
        have LX := Lib.hid (BZ.out.size)
        have BX := Lib.hid (BZ.out.alloc BZ.out.size (.cells #[] 25))
        go_wp2_with fail
        go_ret3
        exact ⟨_, by rw [HE.out, (HNO.out HE.out).2.2]; rfl, by rw [(HNO.out HE.out).2.1, (HNO.out HE.out).1]; exact own_.own_base OX.out LX.out, BX.out⟩
      · have HY := Lib.hid (HYE.out hq)
        have HE := Lib.hid hq
        clear hq
        go_wp2_with fail
        go_ret3
        exact ⟨_, by rw [HE.out, HY.out.2.2]; rfl, by rw [HY.out.2.1, HY.out.1]; exact OZ.out, BZ.out⟩
end Go.Proofs.YtfigjfckelichaaGreatDoor.trkz
