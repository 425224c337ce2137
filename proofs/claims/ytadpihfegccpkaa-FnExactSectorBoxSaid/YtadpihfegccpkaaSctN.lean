/- spec's SectorBox. -/
import Derived.Test.YtadpihfegccpkaaSctW
import Derived.Test.YtadpihfegccpkaaSctX
import Derived.Test.YtadpihfegccpkaaTailH
import Derived.Test.YtadpihfegccpkaaPlcE
namespace Go.Proofs.Ytadpihfegccpkaa.sctn
set_option linter.unusedSimpArgs false
open Go.RowKit Go.Proofs.Ytadpihfegccpkaa.ints Go.Proofs.Ytadpihfegccpkaa.lst Go.Proofs.Ytadpihfegccpkaa.in_ Go.Proofs.Ytadpihfegccpkaa.ats Go.Proofs.Ytadpihfegccpkaa.pos Go.Proofs.Ytadpihfegccpkaa.sct Go.Proofs.Ytadpihfegccpkaa.sctt Go.Proofs.Ytadpihfegccpkaa.sctv Go.Proofs.Ytadpihfegccpkaa.scti Go.Proofs.Ytadpihfegccpkaa.sctj Go.Proofs.Ytadpihfegccpkaa.sctb Go.Proofs.Ytadpihfegccpkaa.sctr Go.Proofs.Ytadpihfegccpkaa.sctx Go.Proofs.Ytadpihfegccpkaa.tailh

set_option maxRecDepth 100000 in
set_option maxHeartbeats 16000000 in
theorem sectorBox (d : Int) (zs : List Int) (A : Option Addr) (n c : Nat) (w : World) (hn : n ≤ 1048576) (h1 : RdZ 2 w w.heap.size A n zs) :
    Calls Try.prog 51 #[.agg #[.int .i64 d, .slice A n c]] w fun e w' => e = .returned (.tuple #[.agg #[.int .i64 (sbL d zs n cX), .int .i64 (sbL d zs n cY)], .agg #[.int .i64 (sbH d zs n cX), .int .i64 (sbH d zs n cY)], .bool (seV d zs n)]) ∧ Below w.heap.size w w' := by
  have S0 := Lib.hid (((newS 26 #[.int .i64 d, .slice A n c] w).alloc (.cells #[.int .i64 0, .int .i64 0] 28)).alloc (.cells #[.int .i64 0, .int .i64 0] 28))
  have S1 := Lib.hid (((newS 26 #[.int .i64 d, .slice A n c] w).next 28 #[.int .i64 0, .int .i64 0]).alloc (.cells #[.int .i64 0, .int .i64 0] 28))
  rw [World.size_alloc] at S1
  have S2 := Lib.hid (((newS 26 #[.int .i64 d, .slice A n c] w).alloc (.cells #[.int .i64 0, .int .i64 0] 28)).next 28 #[.int .i64 0, .int .i64 0])
  rw [World.size_alloc, World.size_alloc] at S2
  have T0 := Lib.hid (fun W (hb : Below w.heap.size w W) => show Calls Try.prog 59 #[.agg #[.int .i64 d, .slice A n c]] W (fun e w' => e = .returned (.bool (seV d zs n)) ∧ Below W.heap.size W w') from sctw.good17 d zs A n c W hn (h1.next hb))
  cases hq : seV d zs n
  · rw [hq] at T0
    have HVX := Lib.hid (sb_no hq cX)
    have HVY := Lib.hid (sb_no hq cY)
    clear hq h1
    go_enter Try.func51, Try.ntmps51
    go_wp2_with fail
    generalize (((w.alloc (.cells #[.int .i64 d, .slice A n c] 26)).alloc (.cells #[.int .i64 0, .int .i64 0] 28)).alloc (.cells #[.int .i64 0, .int .i64 0] 28)) = W0 at *
    refine (T0.out W0 S0.out.1).mono ?_
    rintro e V0 ⟨rfl, hb⟩
    have Y1 := Lib.hid (S1.out.old hb)
    have Y2 := Lib.hid (S2.out.old hb)
    clear hb S0 S1 S2 T0
    have c0_ : V0.cell? ⟨w.heap.size + 1, 0, none⟩ = some (.int .i64 0) := Y1.out.cell 0
    have cf0_ : V0.frozen? ⟨w.heap.size + 1, 0, none⟩ = false := Y1.out.frozen 0
    have c1_ : V0.cell? ⟨w.heap.size + 1, 1, none⟩ = some (.int .i64 0) := Y1.out.cell 1
    have cf1_ : V0.frozen? ⟨w.heap.size + 1, 1, none⟩ = false := Y1.out.frozen 1
    have d0_ : V0.cell? ⟨w.heap.size + 1 + 1, 0, none⟩ = some (.int .i64 0) := Y2.out.cell 0
    have df0_ : V0.frozen? ⟨w.heap.size + 1 + 1, 0, none⟩ = false := Y2.out.frozen 0
    have d1_ : V0.cell? ⟨w.heap.size + 1 + 1, 1, none⟩ = some (.int .i64 0) := Y2.out.cell 1
    have df1_ : V0.frozen? ⟨w.heap.size + 1 + 1, 1, none⟩ = false := Y2.out.frozen 1
    have HE := Lib.hid ((((Y1.out.set 0 (.int .i64 0)).set 1 (.int .i64 0)).other (b' := w.heap.size + 1 + 1) (by omega) (by omega) 0 (.int .i64 0)).other (b' := w.heap.size + 1 + 1) (by omega) (by omega) 1 (.int .i64 0))
    have HF := Lib.hid ((((Y2.out.other (b' := w.heap.size + 1) (by omega) (by omega) 0 (.int .i64 0)).other (b' := w.heap.size + 1) (by omega) (by omega) 1 (.int .i64 0)).set 0 (.int .i64 0)).set 1 (.int .i64 0))
    clear Y1 Y2
    go_wp2_with fail
    have hl := HE.out.load Try.underlying28 rfl (by kernel_rfl)
    have hm := HF.out.load Try.underlying28 rfl (by kernel_rfl)
    refine bodyPost_ret (v := .tuple #[.agg #[.int .i64 0, .int .i64 0], .agg #[.int .i64 0, .int .i64 0], .bool false]) ?_ rfl ⟨by rw [HVX.out.1, HVX.out.2, HVY.out.1, HVY.out.2], HE.out.1⟩
    rw [results_cct rfl]
    simp [asAddr, Result.andThen, hl, hm]
  rw [hq] at T0
  have HVX := Lib.hid (sb_yes hq cX)
  have HVY := Lib.hid (sb_yes hq cY)
  obtain ⟨⟨h3, h8⟩, -⟩ := se_corner hq
  clear hq
  obtain ⟨b, o, rfl, hlb, -, -⟩ := cells2 h1 (show 0 < n by omega)
  have CC := Lib.hid (fun k (hk : k < n) WZ (hb : Below w.heap.size w WZ) => corner h1 hk hb)
  generalize cX zs = X at *
  generalize cY zs = Y at *
  clear h1 hlb
  go_enter Try.func51, Try.ntmps51
  go_wp2_with fail
  generalize (((w.alloc (.cells #[.int .i64 d, .slice (some ⟨b, o, none⟩) n c] 26)).alloc (.cells #[.int .i64 0, .int .i64 0] 28)).alloc (.cells #[.int .i64 0, .int .i64 0] 28)) = W0 at *
  refine (T0.out W0 S0.out.1).mono ?_
  rintro e V0 ⟨rfl, hb⟩
  have Y0 := Lib.hid (S0.out.old hb)
  have Y1 := Lib.hid (S1.out.old hb)
  have Y2 := Lib.hid (S2.out.old hb)
  have lv7 : w.heap.size + 1 + 1 < V0.heap.size := Nat.lt_of_lt_of_le S2.out.2.2.1 hb.size
  clear hb S0 S1 S2 T0
  have hN2 : (0 : Int) < (n : Int) := by omega
  have hN3 : 0 < n := by omega
  have hN4 : ¬ n = 0 := by omega
  have C0 := Lib.hid (fun WZ (hb : Below V0.heap.size V0 WZ) => show WZ.cell? ⟨w.heap.size, 1, none⟩ = some (.slice (some ⟨b, o, none⟩) n c) ∧ WZ.cell? ⟨b, o, none⟩ = some (.int .i64 (X 0)) ∧ WZ.cell? ⟨b, o + 1, none⟩ = some (.int .i64 (Y 0)) from by
    have h := (CC.out 0 (by omega) WZ (Y0.out.1.trans (hb.mono Y0.out.1.size))).1
    rw [Nat.zero_mul, Nat.add_zero] at h
    exact ⟨(Y0.out.old hb).cell 1, h.1, h.2⟩)
  generalize hx0 : X 0 = x0 at *
  generalize hy0 : Y 0 = y0 at *
  have HX0 := Lib.hid hx0
  have HY0 := Lib.hid hy0
  clear hx0 hy0
  have XA := Lib.hid (two_new #[.int .i64 x0, .int .i64 y0] #[.int .i64 x0, .int .i64 y0] V0)
  go_upto_region 3 with fail
  go_cut [5, 6] from 14 to 21 (fun p q wz => ∃ pL pH, p = .pointer (some ⟨pL, 0, none⟩) ∧ q = .pointer (some ⟨pH, 0, none⟩) ∧ pL ≠ pH ∧ AtS 28 #[.int .i64 x0, .int .i64 y0] V0 wz pL ∧ AtS 28 #[.int .i64 x0, .int .i64 y0] V0 wz pH)
  case first =>
    go_region_held3 (fun w' => w'.cell? ⟨w.heap.size, 1, none⟩ = some (.slice (some ⟨b, o, none⟩) n c) ∧ w'.cell? ⟨b, o, none⟩ = some (.int .i64 x0) ∧ w'.cell? ⟨b, o + 1, none⟩ = some (.int .i64 y0)) (first
      | exact C0.out _ (Below.refl V0.heap.size V0).drew
      | exact C0.out _ ((Below.refl V0.heap.size V0).alloc (Nat.le_refl _) _).drew
      | exact C0.out _ (((Below.refl V0.heap.size V0).alloc (Nat.le_refl _) _).alloc (by rw [World.size_alloc]; omega) _).drew
      | go_keep) (fail)
    all_goals (
      go_wp2_with fail
      go_meet
      first
      | exact ⟨_, _, rfl, rfl, by omega, XA.out.1.drew, XA.out.2.drew⟩
      | exact ⟨_, _, rfl, rfl, by omega, XA.out.2.drew, XA.out.1.drew⟩)
  case rest =>
    obtain ⟨pL, pH, rfl, rfl, hne, a1, a2⟩ := hcut
    generalize wc = V4 at *
    have HLo := Lib.hid a1
    have HHi := Lib.hid a2
    have Z0 := Lib.hid (Y0.out.old a1.1)
    have Z1 := Lib.hid (Y1.out.old a1.1)
    have Z2 := Lib.hid (Y2.out.old a1.1)
    have l0 : V0.heap.size ≤ pL := a1.2.1
    have h0 : V0.heap.size ≤ pH := a2.2.1
    have n1_ : pL ≠ pH := hne
    have n2_ : pH ≠ pL := fun h => hne h.symm
    clear a1 a2 hne C0 XA Y0 Y1 Y2
    have s1_ : V4.cell? ⟨w.heap.size, 1, none⟩ = some (.slice (some ⟨b, o, none⟩) n c) := Z0.out.cell 1
    go_wp2_with fail
    clear s1_
    go_loopw [7] (fun i wr => ∃ k : Nat, 1 ≤ k ∧ k ≤ n ∧ i = .int .i64 k ∧ AtS 28 #[.int .i64 (mnF X k), .int .i64 (mnF Y k)] V0 wr pL ∧ AtS 28 #[.int .i64 (mxF X k), .int .i64 (mxF Y k)] V0 wr pH ∧ AtS 26 #[.int .i64 d, .slice (some ⟨b, o, none⟩) n c] w wr w.heap.size ∧ AtS 28 #[.int .i64 0, .int .i64 0] w wr (w.heap.size + 1) ∧ AtS 28 #[.int .i64 0, .int .i64 0] w wr (w.heap.size + 1 + 1)) (fun i _ => n - (intOf i).toNat)
    case atStart =>
      refine ⟨1, Nat.le_refl _, by omega, rfl, ?_, ?_, Z0.out, Z1.out, Z2.out⟩
      · rw [mnF_one, mnF_one]
        rw [HX0.out, HY0.out]; exact HLo.out
      · rw [mxF_one, mxF_one]
        rw [HX0.out, HY0.out]; exact HHi.out
    case round =>
      obtain ⟨k, hk1, hk, rfl, ha1, ha2, hs0, hr1, hr2⟩ := hrel
      have A1 := Lib.hid ha1
      have A2 := Lib.hid ha2
      have R0 := Lib.hid hs0
      have R1 := Lib.hid hr1
      have R2 := Lib.hid hr2
      clear ha1 ha2 hr1 hr2 hs0 HLo HHi Z0 Z1 Z2 HX0 HY0
      have s1_ : wr.cell? ⟨w.heap.size, 1, none⟩ = some (.slice (some ⟨b, o, none⟩) n c) := R0.out.cell 1
      by_cases hlt : k < n
      · have hlt2 : (k : Int) < (n : Int) := by omega
        have hk0 : (0 : Int) ≤ (k : Int) := Int.natCast_nonneg _
        obtain ⟨⟨p0_, p1_⟩, lb⟩ := CC.out k hlt wr R0.out.1
        have HL0 := Lib.hid (show mnF X (k + 1) = min (mnF X k) (X k) from rfl)
        have HL1 := Lib.hid (show mnF Y (k + 1) = min (mnF Y k) (Y k) from rfl)
        have HH0 := Lib.hid (show mxF X (k + 1) = max (mxF X k) (X k) from rfl)
        have HH1 := Lib.hid (show mxF Y (k + 1) = max (mxF Y k) (Y k) from rfl)
        clear CC
        generalize hu1 : mnF X k = u0 at *
        generalize hu2 : mnF Y k = u1 at *
        generalize hu3 : mxF X k = v0 at *
        generalize hu4 : mxF Y k = v1 at *
        clear hu1 hu2 hu3 hu4
        generalize X k = x at *
        generalize Y k = y at *
        have P5 := Lib.hid (plce.at_next 28 #[.int .i64 x, .int .i64 y] A1.out.1)
        have A1n := Lib.hid (A1.out.alloc (.cells #[.int .i64 x, .int .i64 y] 28))
        have A2n := Lib.hid (A2.out.alloc (.cells #[.int .i64 x, .int .i64 y] 28))
        have R0n := Lib.hid (R0.out.alloc (.cells #[.int .i64 x, .int .i64 y] 28))
        have R1n := Lib.hid (R1.out.alloc (.cells #[.int .i64 x, .int .i64 y] 28))
        have R2n := Lib.hid (R2.out.alloc (.cells #[.int .i64 x, .int .i64 y] 28))
        have alt_ : pL < wr.heap.size := A1.out.2.2.1
        have blt_ : pH < wr.heap.size := A2.out.2.2.1
        have LST := Lib.hid (fun a b W => scts.least a b W)
        have MST := Lib.hid (fun a b W => scts.most a b W)
        go_upto_region 8 with fail
        generalize wr.alloc (.cells #[.int .i64 x, .int .i64 y] 28) = V5 at *
        generalize wr.heap.size = pp at *
        clear p0_ p1_ s1_ A1 A2 R0 R1 R2 lb
        have Pn := Lib.hid P5.out
        have ppne : pL ≠ pp := by omega
        have ppne2 : pH ≠ pp := by omega
        have ppne3 : pp ≠ pL := by omega
        have ppne4 : pp ≠ pH := by omega
        have HSq8 := Lib.hid (show World.cell? V5.drew ⟨pL, 0, none⟩ = some (.int .i64 u0) ∧ World.cell? V5.drew ⟨pL, 1, none⟩ = some (.int .i64 u1) ∧ World.cell? V5.drew ⟨pp, 0, none⟩ = some (.int .i64 x) ∧ World.cell? V5.drew ⟨pp, 1, none⟩ = some (.int .i64 y) from ⟨A1n.out.cell 0, A1n.out.cell 1, Pn.out.cell 0, Pn.out.cell 1⟩)
        have f0_ := A1n.out.frozen 0
        have f1_ := A1n.out.frozen 1
        have a0_ : V5.cell? ⟨pL, 0, none⟩ = some (.int .i64 u0) := A1n.out.cell 0
        have a1_ : V5.cell? ⟨pL, 1, none⟩ = some (.int .i64 u1) := A1n.out.cell 1
        have lt_ : pL < V5.heap.size := A1n.out.2.2.1
        go_upto_region 8 with fail
        go_cut [44] from 34 to 44 (fun v wz => v = .agg #[.int .i64 (min u0 x), .int .i64 (min u1 y)] ∧ AtS 28 #[.int .i64 (min u0 x), .int .i64 (min u1 y)] V0 wz pL ∧ AtS 28 #[.int .i64 v0, .int .i64 v1] V0 wz pH ∧ AtS 26 #[.int .i64 d, .slice (some ⟨b, o, none⟩) n c] w wz w.heap.size ∧ AtS 28 #[.int .i64 0, .int .i64 0] w wz (w.heap.size + 1) ∧ AtS 28 #[.int .i64 0, .int .i64 0] w wz (w.heap.size + 1 + 1) ∧ AtS 28 #[.int .i64 x, .int .i64 y] V0 wz pp)
        case first =>
          refine wp_region_tail (S := fun w' => World.cell? w' ⟨pL, 0, none⟩ = some (.int .i64 u0) ∧ World.cell? w' ⟨pL, 1, none⟩ = some (.int .i64 u1) ∧ World.cell? w' ⟨pp, 0, none⟩ = some (.int .i64 x) ∧ World.cell? w' ⟨pp, 1, none⟩ = some (.int .i64 y)) 11 (by kernel_rfl) HSq8.out (fun hHeld => ?_)
          try simp only [Act.put, List.getElem_toArray, List.getElem_cons_succ, List.getElem_cons_zero, List.setIfInBounds_toArray, List.set_cons_succ, List.set_cons_zero]
          refine wpAnyE_take (i := 0) (v := ?vt10) rfl (by decide +kernel) (fun _ _ _ h => h) (Or.inl ⟨by first | rfl | kernel_rfl, ?ht10⟩) (by assumption) ?rt10
          case ht10 =>
            intro wS hSw
            obtain ⟨h0, h1, h2, h3⟩ := hSw
            go_simp
            try with_reducible rfl
          try simp only [Act.put, List.getElem_toArray, List.getElem_cons_succ, List.getElem_cons_zero, List.setIfInBounds_toArray, List.set_cons_succ, List.set_cons_zero]
          refine wpAnyE_take (i := 1) (v := ?vt11) rfl (by decide +kernel) (fun _ _ _ h => h) (Or.inl ⟨by first | rfl | kernel_rfl, ?ht11⟩) (by assumption) ?rt11
          case ht11 =>
            intro wS hSw
            obtain ⟨h0, h1, h2, h3⟩ := hSw
            go_simp
            try with_reducible rfl
          try simp only [Act.put, List.getElem_toArray, List.getElem_cons_succ, List.getElem_cons_zero, List.setIfInBounds_toArray, List.set_cons_succ, List.set_cons_zero]
          refine wpAnyE_take (i := 2) (v := ?vt12) rfl (by decide +kernel) (fun _ _ _ h => h) (Or.inl ⟨by first | rfl | kernel_rfl, ?ht12⟩) (by assumption) ?rt12
          case ht12 =>
            intro wS hSw
            obtain ⟨h0, h1, h2, h3⟩ := hSw
            go_simp
            try with_reducible rfl
          try simp only [Act.put, List.getElem_toArray, List.getElem_cons_succ, List.getElem_cons_zero, List.setIfInBounds_toArray, List.set_cons_succ, List.set_cons_zero]
          refine wpAnyE_take (i := 3) (v := ?vt13) rfl (by decide +kernel) (fun _ _ _ h => h) (Or.inl ⟨by first | rfl | kernel_rfl, ?ht13⟩) (by assumption) ?rt13
          case ht13 =>
            intro wS hSw
            obtain ⟨h0, h1, h2, h3⟩ := hSw
            go_simp
            try with_reducible rfl
          try simp only [Act.put, List.getElem_toArray, List.getElem_cons_succ, List.getElem_cons_zero, List.setIfInBounds_toArray, List.set_cons_succ, List.set_cons_zero]
          refine wpAnyE_take (i := 5) (v := ?vt15) rfl (by decide +kernel) (fun _ _ _ h => h) (Or.inl ⟨by first | rfl | kernel_rfl, ?ht15⟩) (by assumption) ?rt15
          case ht15 =>
            intro wS hSw
            obtain ⟨h0, h1, h2, h3⟩ := hSw
            go_simp
            try with_reducible rfl
          try simp only [Act.put, List.getElem_toArray, List.getElem_cons_succ, List.getElem_cons_zero, List.setIfInBounds_toArray, List.set_cons_succ, List.set_cons_zero]
          refine wpAnyE_take (i := 6) (v := ?vt16) rfl (by decide +kernel) (fun _ _ _ h => h) (Or.inl ⟨by first | rfl | kernel_rfl, ?ht16⟩) (by assumption) ?rt16
          case ht16 =>
            intro wS hSw
            obtain ⟨h0, h1, h2, h3⟩ := hSw
            go_simp
            try with_reducible rfl
          try simp only [Act.put, List.getElem_toArray, List.getElem_cons_succ, List.getElem_cons_zero, List.setIfInBounds_toArray, List.set_cons_succ, List.set_cons_zero]
          refine wpAnyE_take (i := 7) (v := ?vt17) rfl (by decide +kernel) (fun _ _ _ h => h) (Or.inl ⟨by first | rfl | kernel_rfl, ?ht17⟩) (by assumption) ?rt17
          case ht17 =>
            intro wS hSw
            obtain ⟨h0, h1, h2, h3⟩ := hSw
            go_simp
            try with_reducible rfl
          try simp only [Act.put, List.getElem_toArray, List.getElem_cons_succ, List.getElem_cons_zero, List.setIfInBounds_toArray, List.set_cons_succ, List.set_cons_zero]
          refine wpAnyE_take (i := 8) (v := ?vt18) rfl (by decide +kernel) (fun _ _ _ h => h) (Or.inl ⟨by first | rfl | kernel_rfl, ?ht18⟩) (by assumption) ?rt18
          case ht18 =>
            intro wS hSw
            obtain ⟨h0, h1, h2, h3⟩ := hSw
            go_simp
            try with_reducible rfl
          try simp only [Act.put, List.getElem_toArray, List.getElem_cons_succ, List.getElem_cons_zero, List.setIfInBounds_toArray, List.set_cons_succ, List.set_cons_zero]
          refine wpAnyE_ready (rs := [4]) (by kernel_rfl) (by simp) ?_
          refine AllReadyE.cons (i := 4) rfl (by decide) (fun K hK => ?_) AllReadyE.nil
          go_simp
          refine (LST.out _ _ _).mono ?_
          rintro e w' ⟨rfl, rfl⟩
          go_simp
          refine hK.out _ _ HSq8.out (fun hHeld => ?_)
          clear hK K
          try simp only [Act.put, List.getElem_toArray, List.getElem_cons_succ, List.getElem_cons_zero, List.setIfInBounds_toArray, List.set_cons_succ, List.set_cons_zero]
          refine wpAnyE_ready (rs := [9]) (by kernel_rfl) (by simp) ?_
          refine AllReadyE.cons (i := 9) rfl (by decide) (fun K hK => ?_) AllReadyE.nil
          go_simp
          refine (LST.out _ _ _).mono ?_
          rintro e w' ⟨rfl, rfl⟩
          go_simp
          refine hK.out _ _ HSq8.out (fun hHeld => ?_)
          clear hK K
          try simp only [Act.put, List.getElem_toArray, List.getElem_cons_succ, List.getElem_cons_zero, List.setIfInBounds_toArray, List.set_cons_succ, List.set_cons_zero]
          refine wpAnyE_take (i := 10) (v := ?vt110) rfl (by decide +kernel) (fun _ _ _ h => h) (Or.inl ⟨by first | rfl | kernel_rfl, ?ht110⟩) (by assumption) ?rt110
          case ht110 =>
            intro wS hSw
            obtain ⟨h0, h1, h2, h3⟩ := hSw
            go_simp
            try with_reducible rfl
          try simp only [Act.put, List.getElem_toArray, List.getElem_cons_succ, List.getElem_cons_zero, List.setIfInBounds_toArray, List.set_cons_succ, List.set_cons_zero]
          refine wpAnyE_ready (rs := [11]) (by kernel_rfl) (by simp) ?_
          refine AllReadyE.last (i := 11) rfl rfl (fun K hK => ?_)
          go_simp
          refine hK.out _ _ ?_
          clear hK K
          try simp only [Act.put, List.getElem_toArray, List.getElem_cons_succ, List.getElem_cons_zero, List.setIfInBounds_toArray, List.set_cons_succ, List.set_cons_zero]
          refine wpAnyE_done (by kernel_rfl) ?_ _
          try simp only [List.getElem_toArray, List.getElem_cons_succ, List.getElem_cons_zero, List.setIfInBounds_toArray, List.set_cons_succ, List.set_cons_zero]
          go_wp2_with fail
          go_meet
          exact ⟨rfl, ((A1n.out.drew.set 0 _).set 1 _), ((A2n.out.drew.other (b' := pL) (by omega) (by omega) 0 _).other (b' := pL) (by omega) (by omega) 1 _), ((R0n.out.drew.other (b' := pL) (by omega) (by omega) 0 _).other (b' := pL) (by omega) (by omega) 1 _), ((R1n.out.drew.other (b' := pL) (by omega) (by omega) 0 _).other (b' := pL) (by omega) (by omega) 1 _), ((R2n.out.drew.other (b' := pL) (by omega) (by omega) 0 _).other (b' := pL) (by omega) (by omega) 1 _), ((Pn.out.drew.other (b' := pL) (by omega) (by omega) 0 _).other (b' := pL) (by omega) (by omega) 1 _)⟩
        case rest =>
          obtain ⟨rfl, ha, ho, hr0, hr1, hr2, hp⟩ := hcut
          generalize wc = W8 at *
          have At := Lib.hid ha
          have Ot := Lib.hid ho
          have R0t := Lib.hid hr0
          have R1t := Lib.hid hr1
          have R2t := Lib.hid hr2
          have Pt := Lib.hid hp
          clear ha ho hr0 hr1 hr2 hp f0_ f1_ a0_ a1_ lt_ HSq8
          have HSq9 := Lib.hid (show World.cell? W8.drew ⟨pH, 0, none⟩ = some (.int .i64 v0) ∧ World.cell? W8.drew ⟨pH, 1, none⟩ = some (.int .i64 v1) ∧ World.cell? W8.drew ⟨pp, 0, none⟩ = some (.int .i64 x) ∧ World.cell? W8.drew ⟨pp, 1, none⟩ = some (.int .i64 y) from ⟨Ot.out.cell 0, Ot.out.cell 1, Pt.out.cell 0, Pt.out.cell 1⟩)
          have f0_ := Ot.out.frozen 0
          have f1_ := Ot.out.frozen 1
          have a0_ : W8.cell? ⟨pH, 0, none⟩ = some (.int .i64 v0) := Ot.out.cell 0
          have a1_ : W8.cell? ⟨pH, 1, none⟩ = some (.int .i64 v1) := Ot.out.cell 1
          have lt_ : pH < W8.heap.size := Ot.out.2.2.1
          go_upto_region 9 with fail
          refine wp_region_tail (S := fun w' => World.cell? w' ⟨pH, 0, none⟩ = some (.int .i64 v0) ∧ World.cell? w' ⟨pH, 1, none⟩ = some (.int .i64 v1) ∧ World.cell? w' ⟨pp, 0, none⟩ = some (.int .i64 x) ∧ World.cell? w' ⟨pp, 1, none⟩ = some (.int .i64 y)) 11 (by kernel_rfl) HSq9.out (fun hHeld => ?_)
          try simp only [Act.put, List.getElem_toArray, List.getElem_cons_succ, List.getElem_cons_zero, List.setIfInBounds_toArray, List.set_cons_succ, List.set_cons_zero]
          refine wpAnyE_take (i := 0) (v := ?vt20) rfl (by decide +kernel) (fun _ _ _ h => h) (Or.inl ⟨by first | rfl | kernel_rfl, ?ht20⟩) (by assumption) ?rt20
          case ht20 =>
            intro wS hSw
            obtain ⟨h0, h1, h2, h3⟩ := hSw
            go_simp
            try with_reducible rfl
          try simp only [Act.put, List.getElem_toArray, List.getElem_cons_succ, List.getElem_cons_zero, List.setIfInBounds_toArray, List.set_cons_succ, List.set_cons_zero]
          refine wpAnyE_take (i := 1) (v := ?vt21) rfl (by decide +kernel) (fun _ _ _ h => h) (Or.inl ⟨by first | rfl | kernel_rfl, ?ht21⟩) (by assumption) ?rt21
          case ht21 =>
            intro wS hSw
            obtain ⟨h0, h1, h2, h3⟩ := hSw
            go_simp
            try with_reducible rfl
          try simp only [Act.put, List.getElem_toArray, List.getElem_cons_succ, List.getElem_cons_zero, List.setIfInBounds_toArray, List.set_cons_succ, List.set_cons_zero]
          refine wpAnyE_take (i := 2) (v := ?vt22) rfl (by decide +kernel) (fun _ _ _ h => h) (Or.inl ⟨by first | rfl | kernel_rfl, ?ht22⟩) (by assumption) ?rt22
          case ht22 =>
            intro wS hSw
            obtain ⟨h0, h1, h2, h3⟩ := hSw
            go_simp
            try with_reducible rfl
          try simp only [Act.put, List.getElem_toArray, List.getElem_cons_succ, List.getElem_cons_zero, List.setIfInBounds_toArray, List.set_cons_succ, List.set_cons_zero]
          refine wpAnyE_take (i := 3) (v := ?vt23) rfl (by decide +kernel) (fun _ _ _ h => h) (Or.inl ⟨by first | rfl | kernel_rfl, ?ht23⟩) (by assumption) ?rt23
          case ht23 =>
            intro wS hSw
            obtain ⟨h0, h1, h2, h3⟩ := hSw
            go_simp
            try with_reducible rfl
          try simp only [Act.put, List.getElem_toArray, List.getElem_cons_succ, List.getElem_cons_zero, List.setIfInBounds_toArray, List.set_cons_succ, List.set_cons_zero]
          refine wpAnyE_take (i := 5) (v := ?vt25) rfl (by decide +kernel) (fun _ _ _ h => h) (Or.inl ⟨by first | rfl | kernel_rfl, ?ht25⟩) (by assumption) ?rt25
          case ht25 =>
            intro wS hSw
            obtain ⟨h0, h1, h2, h3⟩ := hSw
            go_simp
            try with_reducible rfl
          try simp only [Act.put, List.getElem_toArray, List.getElem_cons_succ, List.getElem_cons_zero, List.setIfInBounds_toArray, List.set_cons_succ, List.set_cons_zero]
          refine wpAnyE_take (i := 6) (v := ?vt26) rfl (by decide +kernel) (fun _ _ _ h => h) (Or.inl ⟨by first | rfl | kernel_rfl, ?ht26⟩) (by assumption) ?rt26
          case ht26 =>
            intro wS hSw
            obtain ⟨h0, h1, h2, h3⟩ := hSw
            go_simp
            try with_reducible rfl
          try simp only [Act.put, List.getElem_toArray, List.getElem_cons_succ, List.getElem_cons_zero, List.setIfInBounds_toArray, List.set_cons_succ, List.set_cons_zero]
          refine wpAnyE_take (i := 7) (v := ?vt27) rfl (by decide +kernel) (fun _ _ _ h => h) (Or.inl ⟨by first | rfl | kernel_rfl, ?ht27⟩) (by assumption) ?rt27
          case ht27 =>
            intro wS hSw
            obtain ⟨h0, h1, h2, h3⟩ := hSw
            go_simp
            try with_reducible rfl
          try simp only [Act.put, List.getElem_toArray, List.getElem_cons_succ, List.getElem_cons_zero, List.setIfInBounds_toArray, List.set_cons_succ, List.set_cons_zero]
          refine wpAnyE_take (i := 8) (v := ?vt28) rfl (by decide +kernel) (fun _ _ _ h => h) (Or.inl ⟨by first | rfl | kernel_rfl, ?ht28⟩) (by assumption) ?rt28
          case ht28 =>
            intro wS hSw
            obtain ⟨h0, h1, h2, h3⟩ := hSw
            go_simp
            try with_reducible rfl
          try simp only [Act.put, List.getElem_toArray, List.getElem_cons_succ, List.getElem_cons_zero, List.setIfInBounds_toArray, List.set_cons_succ, List.set_cons_zero]
          refine wpAnyE_ready (rs := [4]) (by kernel_rfl) (by simp) ?_
          refine AllReadyE.cons (i := 4) rfl (by decide) (fun K hK => ?_) AllReadyE.nil
          go_simp
          refine (MST.out _ _ _).mono ?_
          rintro e w' ⟨rfl, rfl⟩
          go_simp
          refine hK.out _ _ HSq9.out (fun hHeld => ?_)
          clear hK K
          try simp only [Act.put, List.getElem_toArray, List.getElem_cons_succ, List.getElem_cons_zero, List.setIfInBounds_toArray, List.set_cons_succ, List.set_cons_zero]
          refine wpAnyE_ready (rs := [9]) (by kernel_rfl) (by simp) ?_
          refine AllReadyE.cons (i := 9) rfl (by decide) (fun K hK => ?_) AllReadyE.nil
          go_simp
          refine (MST.out _ _ _).mono ?_
          rintro e w' ⟨rfl, rfl⟩
          go_simp
          refine hK.out _ _ HSq9.out (fun hHeld => ?_)
          clear hK K
          try simp only [Act.put, List.getElem_toArray, List.getElem_cons_succ, List.getElem_cons_zero, List.setIfInBounds_toArray, List.set_cons_succ, List.set_cons_zero]
          refine wpAnyE_take (i := 10) (v := ?vt210) rfl (by decide +kernel) (fun _ _ _ h => h) (Or.inl ⟨by first | rfl | kernel_rfl, ?ht210⟩) (by assumption) ?rt210
          case ht210 =>
            intro wS hSw
            obtain ⟨h0, h1, h2, h3⟩ := hSw
            go_simp
            try with_reducible rfl
          try simp only [Act.put, List.getElem_toArray, List.getElem_cons_succ, List.getElem_cons_zero, List.setIfInBounds_toArray, List.set_cons_succ, List.set_cons_zero]
          refine wpAnyE_ready (rs := [11]) (by kernel_rfl) (by simp) ?_
          refine AllReadyE.last (i := 11) rfl rfl (fun K hK => ?_)
          go_simp
          refine hK.out _ _ ?_
          clear hK K
          try simp only [Act.put, List.getElem_toArray, List.getElem_cons_succ, List.getElem_cons_zero, List.setIfInBounds_toArray, List.set_cons_succ, List.set_cons_zero]
          refine wpAnyE_done (by kernel_rfl) ?_ _
          try simp only [List.getElem_toArray, List.getElem_cons_succ, List.getElem_cons_zero, List.setIfInBounds_toArray, List.set_cons_succ, List.set_cons_zero]
          go_wp2_with fail
          go_roundw
          case rel => exact ⟨k + 1, by omega, by omega, by go_num, by rw [HL0.out, HL1.out]; exact ((At.out.drew.other (b' := pH) (by omega) (by omega) 0 _).other (b' := pH) (by omega) (by omega) 1 _), by rw [HH0.out, HH1.out]; exact ((Ot.out.drew.set 0 _).set 1 _), ((R0t.out.drew.other (b' := pH) (by omega) (by omega) 0 _).other (b' := pH) (by omega) (by omega) 1 _), ((R1t.out.drew.other (b' := pH) (by omega) (by omega) 0 _).other (b' := pH) (by omega) (by omega) 1 _), ((R2t.out.drew.other (b' := pH) (by omega) (by omega) 0 _).other (b' := pH) (by omega) (by omega) 1 _)⟩
          case measure => simp [intOf]; omega
      · obtain rfl : k = n := by omega
        clear CC
        generalize mnF X k = x0 at *
        generalize mnF Y k = y0 at *
        generalize mxF X k = x1 at *
        generalize mxF Y k = y1 at *
        have c0_ : wr.cell? ⟨w.heap.size + 1, 0, none⟩ = some (.int .i64 0) := R1.out.cell 0
        have cf0_ : wr.frozen? ⟨w.heap.size + 1, 0, none⟩ = false := R1.out.frozen 0
        have c1_ : wr.cell? ⟨w.heap.size + 1, 1, none⟩ = some (.int .i64 0) := R1.out.cell 1
        have cf1_ : wr.frozen? ⟨w.heap.size + 1, 1, none⟩ = false := R1.out.frozen 1
        have d0_ : wr.cell? ⟨w.heap.size + 1 + 1, 0, none⟩ = some (.int .i64 0) := R2.out.cell 0
        have df0_ : wr.frozen? ⟨w.heap.size + 1 + 1, 0, none⟩ = false := R2.out.frozen 0
        have d1_ : wr.cell? ⟨w.heap.size + 1 + 1, 1, none⟩ = some (.int .i64 0) := R2.out.cell 1
        have df1_ : wr.frozen? ⟨w.heap.size + 1 + 1, 1, none⟩ = false := R2.out.frozen 1
        have a0_ : wr.cell? ⟨pL, 0, none⟩ = some (.int .i64 x0) := A1.out.cell 0
        have a1_ : wr.cell? ⟨pL, 1, none⟩ = some (.int .i64 y0) := A1.out.cell 1
        have b0_ : wr.cell? ⟨pH, 0, none⟩ = some (.int .i64 x1) := A2.out.cell 0
        have b1_ : wr.cell? ⟨pH, 1, none⟩ = some (.int .i64 y1) := A2.out.cell 1
        have m0_ : pL ≠ w.heap.size + 1 := by omega
        have m1_ : pL ≠ w.heap.size + 1 + 1 := by omega
        have m2_ : pH ≠ w.heap.size + 1 := by omega
        have m3_ : pH ≠ w.heap.size + 1 + 1 := by omega
        have m4_ : w.heap.size + 1 ≠ pL := by omega
        have m5_ : w.heap.size + 1 + 1 ≠ pL := by omega
        have m6_ : w.heap.size + 1 ≠ pH := by omega
        have m7_ : w.heap.size + 1 + 1 ≠ pH := by omega
        have HE := Lib.hid ((((R1.out.set 0 (.int .i64 x0)).set 1 (.int .i64 y0)).other (b' := w.heap.size + 1 + 1) (by omega) (by omega) 0 (.int .i64 x1)).other (b' := w.heap.size + 1 + 1) (by omega) (by omega) 1 (.int .i64 y1)).drew
        have HF := Lib.hid ((((R2.out.other (b' := w.heap.size + 1) (by omega) (by omega) 0 (.int .i64 x0)).other (b' := w.heap.size + 1) (by omega) (by omega) 1 (.int .i64 y0)).set 0 (.int .i64 x1)).set 1 (.int .i64 y1)).drew
        have HE2 := Lib.hid ((((R1.out.other (b' := w.heap.size + 1 + 1) (by omega) (by omega) 0 (.int .i64 x1)).other (b' := w.heap.size + 1 + 1) (by omega) (by omega) 1 (.int .i64 y1)).set 0 (.int .i64 x0)).set 1 (.int .i64 y0)).drew
        have HF2 := Lib.hid ((((R2.out.set 0 (.int .i64 x1)).set 1 (.int .i64 y1)).other (b' := w.heap.size + 1) (by omega) (by omega) 0 (.int .i64 x0)).other (b' := w.heap.size + 1) (by omega) (by omega) 1 (.int .i64 y0)).drew
        clear A1 A2 R1 R2 R0
        go_wp2_with fail
        go_region
        all_goals (try go_wp2)
        all_goals (first
          | (
              have hl := HE.out.load Try.underlying28 rfl (by kernel_rfl)
              have hm := HF.out.load Try.underlying28 rfl (by kernel_rfl)
              refine bodyPost_ret (v := .tuple #[.agg #[.int .i64 x0, .int .i64 y0], .agg #[.int .i64 x1, .int .i64 y1], .bool true]) ?_ rfl ⟨by rw [HVX.out.1, HVX.out.2, HVY.out.1, HVY.out.2], HE.out.1⟩
              rw [results_cct rfl]
              simp [asAddr, Result.andThen, hl, hm]
              done)
          | (
              have hl := HE2.out.load Try.underlying28 rfl (by kernel_rfl)
              have hm := HF2.out.load Try.underlying28 rfl (by kernel_rfl)
              refine bodyPost_ret (v := .tuple #[.agg #[.int .i64 x0, .int .i64 y0], .agg #[.int .i64 x1, .int .i64 y1], .bool true]) ?_ rfl ⟨by rw [HVX.out.1, HVX.out.2, HVY.out.1, HVY.out.2], HE2.out.1⟩
              rw [results_cct rfl]
              simp [asAddr, Result.andThen, hl, hm]
              done))
end Go.Proofs.Ytadpihfegccpkaa.sctn
