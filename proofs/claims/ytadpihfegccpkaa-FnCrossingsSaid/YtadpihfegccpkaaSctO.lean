/- spec's l17Turned at any sector that has a corner (DrawSameSector). -/
import Derived.Test.YtadpihfegccpkaaSctH
import Derived.Test.YtadpihfegccpkaaSctL
import Derived.Test.YtadpihfegccpkaaTailH
import Derived.Laws.OwnMore
namespace Go.Proofs.Ytadpihfegccpkaa.scto
set_option linter.unusedSimpArgs false
open Go.Proofs.Ytadpihfegccpkaa.scth Go.RowKit Go.Proofs.Ytadpihfegccpkaa.ints Go.Proofs.Ytadpihfegccpkaa.lst Go.Proofs.Ytadpihfegccpkaa.in_ Go.Proofs.Ytadpihfegccpkaa.ats Go.Proofs.Ytadpihfegccpkaa.pos Go.Proofs.Ytadpihfegccpkaa.sct Go.Proofs.Ytadpihfegccpkaa.sctt Go.Proofs.Ytadpihfegccpkaa.sctv Go.Proofs.Ytadpihfegccpkaa.scti Go.Proofs.Ytadpihfegccpkaa.sctj Go.Proofs.Ytadpihfegccpkaa.sctb Go.Proofs.Ytadpihfegccpkaa.sctr Go.Proofs.Ytadpihfegccpkaa.sctl Go.Proofs.Ytadpihfegccpkaa.tailh

set_option maxRecDepth 100000 in
set_option maxHeartbeats 4000000 in
/-- l17Turned at any sector that has a corner. -/
theorem turnedAny (d : Int) (zs : List Int) (A : Option Addr) (n c : Nat) (w : World) (h3 : 0 < n) (h8 : n ≤ 8) (h1 : RdZ 2 w w.heap.size A n zs) :
    Calls Try.prog 78 #[.agg #[.int .i64 d, .slice A n c]] w fun e w' => ∃ v, e = .returned (.agg #[.int .i64 d, v]) ∧ w'.ownsRow w.heap.size 28 2 v n (cellsI (prL (cX zs) (cY zs) (rv n) n)) ∧ Below w.heap.size w w' := by
  obtain ⟨b, o, rfl, hlb, -, -⟩ := cells2 h1 (show 0 < n by omega)
  obtain ⟨i0, hi, hz0, hz1, hz2⟩ := info_parts infoP
  have B0 := Lib.hid ((newS 26 #[.int .i64 d, .slice (some ⟨b, o, none⟩) n c] w).alloc (.cells #[.int .i64 0, .slice none 0 0] 26))
  have R0 := Lib.hid ((newS 26 #[.int .i64 d, .slice (some ⟨b, o, none⟩) n c] w).next 26 #[.int .i64 0, .slice none 0 0])
  rw [World.size_alloc] at R0
  have HLB := Lib.hid hlb
  have CC := Lib.hid (fun k (hk : k < n) WZ (hb : Below w.heap.size w WZ) => sctu.corner h1 hk hb)
  generalize cX zs = X at *
  generalize cY zs = Y at *
  clear h1 hlb
  go_enter Try.func78, Try.ntmps78
  go_upto_region 1 with fail
  generalize (w.alloc (.cells #[.int .i64 d, .slice (some ⟨b, o, none⟩) n c] 26)).alloc (.cells #[.int .i64 0, .slice none 0 0] 26) = W0 at *
  have hn1 : ¬ n = 0 := by omega
  have hn2 : (0 : Int) < (n : Int) := by omega
  have hn3 : 0 < n := by omega
  have CS := Lib.hid (show ∀ WZ : World, Below W0.heap.size W0 WZ → WZ.cell? ⟨w.heap.size, 0, none⟩ = some (.int .i64 d) ∧ WZ.cell? ⟨w.heap.size, 1, none⟩ = some (.slice (some ⟨b, o, none⟩) n c) ∧ WZ.cell? ⟨b, o, none⟩ = some (.int .i64 (X 0)) ∧ WZ.cell? ⟨b, o + 1, none⟩ = some (.int .i64 (Y 0)) from fun WZ hz => by
    have h := (CC.out 0 (by omega) WZ (B0.out.1.trans (hz.mono B0.out.1.size))).1
    rw [Nat.zero_mul, Nat.add_zero] at h
    exact ⟨(B0.out.old hz).cell 0, (B0.out.old hz).cell 1, h.1, h.2⟩)
  have P1 := Lib.hid (two_apart 28 26 #[.int .i64 (X 0), .int .i64 (Y 0)] #[.int .i64 d, .slice (some ⟨W0.heap.size, 0, none⟩) 1 1] W0)
  have P2 := Lib.hid (two_apart 26 28 #[.int .i64 d, .slice (some ⟨W0.heap.size + 1, 0, none⟩) 1 1] #[.int .i64 (X 0), .int .i64 (Y 0)] W0)
  generalize hx0 : X 0 = x at *
  generalize hy0 : Y 0 = y at *
  have HX0 := Lib.hid hx0
  have HY0 := Lib.hid hy0
  clear hx0 hy0
  go_cut [3] from 5 to 12 (fun p wz => ∃ g3 gr : Nat, p = .pointer (some ⟨g3, 0, none⟩) ∧ gr ≠ g3 ∧ AtS 26 #[.int .i64 d, .slice (some ⟨gr, 0, none⟩) 1 1] W0 wz g3 ∧ AtS 28 #[.int .i64 x, .int .i64 y] W0 wz gr)
  case first =>
    go_region_held3 (fun w' => w'.cell? ⟨w.heap.size, 0, none⟩ = some (.int .i64 d) ∧ w'.cell? ⟨w.heap.size, 1, none⟩ = some (.slice (some ⟨b, o, none⟩) n c) ∧ w'.cell? ⟨b, o, none⟩ = some (.int .i64 x) ∧ w'.cell? ⟨b, o + 1, none⟩ = some (.int .i64 y)) (first
      | exact CS.out _ (Below.refl W0.heap.size W0).drew
      | exact CS.out _ ((Below.refl W0.heap.size W0).alloc (Nat.le_refl _) _).drew
      | exact CS.out _ (((Below.refl W0.heap.size W0).alloc (Nat.le_refl _) _).alloc (by rw [World.size_alloc]; omega) _).drew
      | go_keep) (fail)
    all_goals (
      go_wp2_with fail
      go_meet
      first
      | exact ⟨_, _, rfl, by omega, P1.out.2.drew, P1.out.1.drew⟩
      | exact ⟨_, _, rfl, by omega, P2.out.1.drew, P2.out.2.drew⟩)
  case rest =>
    obtain ⟨g3, gr, rfl, hne, a1, a2⟩ := hcut
    have AT := Lib.hid a1
    have OW := Lib.hid (own_at a2)
    have NE := Lib.hid hne
    clear a1 a2 hne P1 P2 CS
    have s1 : wc.cell? ⟨w.heap.size, 1, none⟩ = some (.slice (some ⟨b, o, none⟩) n c) := (B0.out.old AT.out.1).cell 1
    have wn : IntKind.i64.wrap ((n : Int) - 1) = (n : Int) - 1 := IntWalk.i64_in _ (by omega)
    go_wp2_with fail
    clear s1
    go_loopw [4] (fun t wr => ∃ (r : Nat) (v : Value), r < n ∧ t = .int .i64 r ∧ AtS 26 #[.int .i64 d, v] W0 wr g3 ∧ wr.ownsRow W0.heap.size 28 2 v (n - r) (cellsI (prL X Y (rv n) (n - r))) ∧ v.ownBlock ≠ some g3) (fun t _ => (intOf t).toNat)
    case atStart =>
      refine ⟨n - 1, .slice (some ⟨gr, 0, none⟩) 1 1, by omega, by congr 1; omega, AT.out, ?_, fun e => NE.out (by injection e)⟩
      rw [show n - (n - 1) = 1 by omega]
      show World.ownsRow _ _ _ _ _ _ (cellsI [X 0, Y 0])
      rw [HX0.out, HY0.out]; exact OW.out
    case round =>
      obtain ⟨r, v0, hr, rfl, hat, hown, hne⟩ := hrel
      by_cases hpos : 0 < r
      · obtain ⟨p, rfl⟩ : ∃ p, r = p + 1 := ⟨r - 1, by omega⟩
        have HW := Lib.hid (show Below w.heap.size w wr from B0.out.1.trans (hat.1.mono B0.out.1.size))
        have hc := CC.out (p + 1) hr wr HW.out
        obtain ⟨k, hk⟩ : ∃ k, k = n - (p + 1) := ⟨_, rfl⟩
        have HLX := Lib.hid (show prL X Y (rv n) (n - p) = prL X Y (rv n) k ++ [X (p + 1), Y (p + 1)] from by
          rw [show n - p = k + 1 by omega, prL, show rv n k = p + 1 by unfold rv; rw [if_neg (by omega)]; omega])
        have HKP := Lib.hid (show n - p = k + 1 by omega)
        rw [← hk] at hown
        have hk8 : k ≤ 8 := by omega
        have N3 := Lib.hid hne
        have N1 := Lib.hid (show v0.ownBlock ≠ some w.heap.size from fun e => by have := own_.row_ge hown _ e; have := R0.out.2.2.1; omega)
        have N2 := Lib.hid (show v0.ownBlock ≠ some b from fun e => by have := own_.row_ge hown _ e; have := B0.out.1.size; have := HLB.out; omega)
        have LV := Lib.hid hat.1.size
        generalize hi1 : p + 1 = i at *
        have HI1 := Lib.hid hi1
        have hi2 : (i : Int) < (n : Int) := by omega
        have hi3 : (0 : Int) ≤ (i : Int) := Int.natCast_nonneg _
        have hi4 : (0 : Int) < (i : Int) := by omega
        have hi5 : 0 < i := hpos
        have wi : IntKind.i64.wrap ((i : Int) - 1) = (p : Int) := by rw [show (i : Int) - 1 = (p : Int) by omega]; exact IntWalk.i64_in _ (by omega)
        generalize X i = x at *
        generalize Y i = y at *
        generalize prL X Y (rv n) k = L at *
        clear hi1 hk hne
        have HB0 := Lib.hid (show wr.cell? ⟨w.heap.size, 1, none⟩ = some (.slice (some ⟨b, o, none⟩) n c) from (B0.out.old hat.1).cell 1)
        have HC := Lib.hid (show World.cell? wr.drew ⟨w.heap.size, 1, none⟩ = some (.slice (some ⟨b, o, none⟩) n c) ∧ World.cell? wr.drew ⟨g3, 1, none⟩ = some v0 ∧ World.cell? wr.drew ⟨b, o + i * 2, none⟩ = some (.int .i64 x) ∧ World.cell? wr.drew ⟨b, o + i * 2 + 1, none⟩ = some (.int .i64 y) from ⟨HB0.out, hat.cell 1, hc.1.1, hc.1.2⟩)
        have HS := Lib.hid (show World.cell? wr.drew ⟨w.heap.size, 1, none⟩ = some (.slice (some ⟨b, o, none⟩) n c) ∧ World.cell? wr.drew ⟨g3, 1, none⟩ = some v0 ∧ World.cell? wr.drew ⟨b, o + i * 2, none⟩ = some (.int .i64 x) ∧ World.cell? wr.drew ⟨b, o + i * 2 + 1, none⟩ = some (.int .i64 y) from HC.out)
        have OV := Lib.hid (show wr.ownsRow W0.heap.size 28 2 v0 k (cellsI L) from hown)
        have ATV := Lib.hid hat
        obtain ⟨Av, cv, hv⟩ := own_sliceZ hown
        clear hat hown hc hv
        go_upto_region 5 with fail
        generalize wr = V0 at *
        refine wp_region_tail (S := fun w' => World.cell? w' ⟨w.heap.size, 1, none⟩ = some (.slice (some ⟨b, o, none⟩) n c) ∧ World.cell? w' ⟨g3, 1, none⟩ = some v0 ∧ World.cell? w' ⟨b, o + i * 2, none⟩ = some (.int .i64 x) ∧ World.cell? w' ⟨b, o + i * 2 + 1, none⟩ = some (.int .i64 y)) 10 (by kernel_rfl) HS.out (fun hHeld => ?_)
        try simp only [Act.put, List.getElem_toArray, List.getElem_cons_succ, List.getElem_cons_zero, List.setIfInBounds_toArray, List.set_cons_succ, List.set_cons_zero]
        refine wpAnyE_take (i := 0) (v := ?vt10) rfl (by decide +kernel) (fun _ _ _ h => h) (Or.inl ⟨by first | rfl | kernel_rfl, ?ht10⟩) (by assumption) ?rt10
        case ht10 =>
          intro wS hSw
          obtain ⟨h0, h1, h2, h3⟩ := hSw
          go_simp
          try with_reducible rfl
        try simp only [Act.put, List.getElem_toArray, List.getElem_cons_succ, List.getElem_cons_zero, List.setIfInBounds_toArray, List.set_cons_succ, List.set_cons_zero]
        refine wpAnyE_take (i := 1) (v := ?vt11) rfl (by decide +kernel) (fun _ _ _ h => h) (Or.inl ⟨by first | rfl | kernel_rfl, ?ht11⟩) (by assumption) ?rt11
        case ht11 =>
          intro wS hSw
          obtain ⟨h0, h1, h2, h3⟩ := hSw
          go_simp
          try with_reducible rfl
        try simp only [Act.put, List.getElem_toArray, List.getElem_cons_succ, List.getElem_cons_zero, List.setIfInBounds_toArray, List.set_cons_succ, List.set_cons_zero]
        refine wpAnyE_take (i := 2) (v := ?vt12) rfl (by decide +kernel) (fun _ _ _ h => h) (Or.inl ⟨by first | rfl | kernel_rfl, ?ht12⟩) (by assumption) ?rt12
        case ht12 =>
          intro wS hSw
          obtain ⟨h0, h1, h2, h3⟩ := hSw
          go_simp
          try with_reducible rfl
        try simp only [Act.put, List.getElem_toArray, List.getElem_cons_succ, List.getElem_cons_zero, List.setIfInBounds_toArray, List.set_cons_succ, List.set_cons_zero]
        refine wpAnyE_take (i := 3) (v := ?vt13) rfl (by decide +kernel) (fun _ _ _ h => h) (Or.inl ⟨by first | rfl | kernel_rfl, ?ht13⟩) (by assumption) ?rt13
        case ht13 =>
          intro wS hSw
          obtain ⟨h0, h1, h2, h3⟩ := hSw
          go_simp
          try with_reducible rfl
        try simp only [Act.put, List.getElem_toArray, List.getElem_cons_succ, List.getElem_cons_zero, List.setIfInBounds_toArray, List.set_cons_succ, List.set_cons_zero]
        refine wpAnyE_take (i := 4) (v := ?vt14) rfl (by decide +kernel) (fun _ _ _ h => h) (Or.inl ⟨by first | rfl | kernel_rfl, ?ht14⟩) (by assumption) ?rt14
        case ht14 =>
          intro wS hSw
          obtain ⟨h0, h1, h2, h3⟩ := hSw
          go_simp
          try with_reducible rfl
        try simp only [Act.put, List.getElem_toArray, List.getElem_cons_succ, List.getElem_cons_zero, List.setIfInBounds_toArray, List.set_cons_succ, List.set_cons_zero]
        refine wpAnyE_take (i := 5) (v := ?vt15) rfl (by decide +kernel) (fun _ _ _ h => h) (Or.inl ⟨by first | rfl | kernel_rfl, ?ht15⟩) (by assumption) ?rt15
        case ht15 =>
          intro wS hSw
          obtain ⟨h0, h1, h2, h3⟩ := hSw
          go_simp
          try with_reducible rfl
        try simp only [Act.put, List.getElem_toArray, List.getElem_cons_succ, List.getElem_cons_zero, List.setIfInBounds_toArray, List.set_cons_succ, List.set_cons_zero]
        refine wpAnyE_take (i := 6) (v := ?vt16) rfl (by decide +kernel) (fun _ _ _ h => h) (Or.inl ⟨by first | rfl | kernel_rfl, ?ht16⟩) (by assumption) ?rt16
        case ht16 =>
          intro wS hSw
          obtain ⟨h0, h1, h2, h3⟩ := hSw
          go_simp
          try with_reducible rfl
        try simp only [Act.put, List.getElem_toArray, List.getElem_cons_succ, List.getElem_cons_zero, List.setIfInBounds_toArray, List.set_cons_succ, List.set_cons_zero]
        refine wpAnyE_ready (rs := [7]) (by kernel_rfl) (by simp) ?_
        refine AllReadyE.cons (i := 7) rfl (by decide) (fun K hK => ?_) AllReadyE.nil
        go_simp
        have A7 := (Below.refl V0.heap.size V0).drew.alloc (Nat.le_refl _) (.cells #[.int .i64 x, .int .i64 y] 28)
        have HS7 := Lib.hid (show World.cell? (V0.drew.alloc (.cells #[.int .i64 x, .int .i64 y] 28)) ⟨w.heap.size, 1, none⟩ = some (.slice (some ⟨b, o, none⟩) n c) ∧ World.cell? (V0.drew.alloc (.cells #[.int .i64 x, .int .i64 y] 28)) ⟨g3, 1, none⟩ = some v0 ∧ World.cell? (V0.drew.alloc (.cells #[.int .i64 x, .int .i64 y] 28)) ⟨b, o + i * 2, none⟩ = some (.int .i64 x) ∧ World.cell? (V0.drew.alloc (.cells #[.int .i64 x, .int .i64 y] 28)) ⟨b, o + i * 2 + 1, none⟩ = some (.int .i64 y) from ⟨(A7.cell (World.block_lt_of_cell? _ _ HC.out.1)).trans HC.out.1, (A7.cell (World.block_lt_of_cell? _ _ HC.out.2.1)).trans HC.out.2.1, (A7.cell (World.block_lt_of_cell? _ _ HC.out.2.2.1)).trans HC.out.2.2.1, (A7.cell (World.block_lt_of_cell? _ _ HC.out.2.2.2)).trans HC.out.2.2.2⟩)
        have O7 := Lib.hid (own_.own_below OV.out A7)
        have AT7 := Lib.hid (ATV.out.old A7)
        clear A7
        refine hK.out _ _ HS7.out (fun hHeld => ?_)
        clear hK K
        try simp only [Act.put, List.getElem_toArray, List.getElem_cons_succ, List.getElem_cons_zero, List.setIfInBounds_toArray, List.set_cons_succ, List.set_cons_zero]
        refine wpAnyE_ready (rs := [8]) (by kernel_rfl) (by simp) ?_
        refine AllReadyE.cons (i := 8) rfl (by decide) (fun K hK => ?_) AllReadyE.nil
        refine step_append_sz rfl (.tmp 22) (.tmp 28) 24 rfl W0.heap.size 28 i0 (.agg #[.int .i64 0, .int .i64 0]) 2 16 Try.underlying24 hi hz0 hz1 hz2 rfl (by decide) v0 k (cellsI L) rfl O7.out _ 1 1 [.int .i64 x, .int .i64 y] rfl rfl (cells_new V0.drew 28 #[.int .i64 x, .int .i64 y]) (two_cells _ _) (by unfold maxLen; omega) (by omega) (by have := LV.out; show W0.heap.size ≤ (V0.alloc _).heap.size; rw [World.size_alloc]; omega) ?_
        intro v8 W8 o8 g8 r8
        obtain ⟨A8, c8, rfl⟩ := own_sliceZ o8
        have HS8 := Lib.hid (show World.cell? W8 ⟨w.heap.size, 1, none⟩ = some (.slice (some ⟨b, o, none⟩) n c) ∧ World.cell? W8 ⟨g3, 1, none⟩ = some v0 ∧ World.cell? W8 ⟨b, o + i * 2, none⟩ = some (.int .i64 x) ∧ World.cell? W8 ⟨b, o + i * 2 + 1, none⟩ = some (.int .i64 y) from ⟨g8.cell HS7.out.1 (fun e => N1.out e.symm), g8.cell HS7.out.2.1 (fun e => N3.out e.symm), g8.cell HS7.out.2.2.1 (fun e => N2.out e.symm), g8.cell HS7.out.2.2.2 (fun e => N2.out e.symm)⟩)
        have O8 := Lib.hid (own_app2 o8)
        have AT8 := Lib.hid (at_own AT7.out O7.out g8 (fun g e h => N3.out (by rw [e, h])) (Nat.le_refl _))
        have N8 := Lib.hid (show (Value.slice A8 (k + 1) c8).ownBlock ≠ some g3 from fun e => by
          rcases r8 with h | h
          · exact N3.out (h.symm.trans e)
          · have := h.symm.trans e
            injection this with this
            have h3 := AT7.out.2.2.1
            exact Nat.lt_irrefl _ (Nat.lt_of_lt_of_eq h3 (show _ = g3 from this)))
        have fr := AT8.out.frozen 1
        have ce := AT8.out.cell 1
        clear o8 g8 r8
        refine hK.out _ _ HS8.out (fun hHeld => ?_)
        clear hK K
        try simp only [Act.put, List.getElem_toArray, List.getElem_cons_succ, List.getElem_cons_zero, List.setIfInBounds_toArray, List.set_cons_succ, List.set_cons_zero]
        refine wpAnyE_take (i := 9) (v := ?vt19) rfl (by decide +kernel) (fun _ _ _ h => h) (Or.inl ⟨by first | rfl | kernel_rfl, ?ht19⟩) (by assumption) ?rt19
        case ht19 =>
          intro wS hSw
          obtain ⟨h0, h1, h2, h3⟩ := hSw
          go_simp
          try with_reducible rfl
        try simp only [Act.put, List.getElem_toArray, List.getElem_cons_succ, List.getElem_cons_zero, List.setIfInBounds_toArray, List.set_cons_succ, List.set_cons_zero]
        refine wpAnyE_ready (rs := [10]) (by kernel_rfl) (by simp) ?_
        refine AllReadyE.last (i := 10) rfl rfl (fun K hK => ?_)
        go_simp
        refine hK.out _ _ ?_
        clear hK K
        try simp only [Act.put, List.getElem_toArray, List.getElem_cons_succ, List.getElem_cons_zero, List.setIfInBounds_toArray, List.set_cons_succ, List.set_cons_zero]
        refine wpAnyE_done (by kernel_rfl) ?_ _
        try simp only [List.getElem_toArray, List.getElem_cons_succ, List.getElem_cons_zero, List.setIfInBounds_toArray, List.set_cons_succ, List.set_cons_zero]
        have HO9 := Lib.hid (own_kept_at O8.out (grown_set (grown_refl W8 (some g3)) 1 (.slice A8 (k + 1) c8)) (fun g e h => N8.out (by rw [e, h])))
        have AT9 := Lib.hid (AT8.out.set 1 (.slice A8 (k + 1) c8))
        clear fr ce
        go_wp2_with fail
        go_roundw
        case rel => exact ⟨p, .slice A8 (k + 1) c8, by have := HI1.out; omega, rfl, AT9.out, by rw [HLX.out, HKP.out]; exact HO9.out, N8.out⟩
        case measure => have := HI1.out; simp [intOf]; omega
      · obtain rfl : r = 0 := by omega
        rw [Nat.sub_zero] at hown
        have R1 := Lib.hid (R0.out.old hat.1)
        have HO := Lib.hid hown
        have AT1 := Lib.hid hat
        have LW := Lib.hid (show w.heap.size + 1 < W0.heap.size from R0.out.2.2.1)
        clear hat hown hne
        have c0 : wr.cell? ⟨g3, 0, none⟩ = some (.int .i64 d) := AT1.out.cell 0
        have c1 : wr.cell? ⟨g3, 1, none⟩ = some v0 := AT1.out.cell 1
        have r0 : wr.cell? ⟨w.heap.size + 1, 0, none⟩ = some (.int .i64 0) := R1.out.cell 0
        have r1 : wr.cell? ⟨w.heap.size + 1, 1, none⟩ = some (.slice none 0 0) := R1.out.cell 1
        have f0 := R1.out.frozen 0
        have f1 := R1.out.frozen 1
        obtain ⟨Av, cv, rfl⟩ := own_sliceZ HO.out
        have HR := Lib.hid ((R1.out.set 0 (.int .i64 d)).set 1 (.slice Av n cv))
        have HOX := Lib.hid (own_kept (own_kept HO.out (grown_set (grown_refl wr (some (w.heap.size + 1))) 0 (.int .i64 d)) (fun g' e => by injection e with e; have := LW.out; omega)) (grown_set (grown_refl _ (some (w.heap.size + 1))) 1 (.slice Av n cv)) (fun g' e => by injection e with e; have := LW.out; omega))
        clear R1 HO AT1
        go_wp2_with fail
        have hl := HR.out.load Try.underlying26 rfl (by kernel_rfl)
        refine bodyPost_ret (v := .agg #[.int .i64 d, .slice Av n cv]) ?_ rfl ⟨.slice Av n cv, rfl, own_.own_base HOX.out (by have := LW.out; omega), HR.out.1⟩
        rw [results_cell1 rfl]
        simp [asAddr, Result.andThen, hl]


end Go.Proofs.Ytadpihfegccpkaa.scto
