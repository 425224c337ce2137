/- spec's TurnedSector, l17Cyclic and SameSector. -/
import Derived.Test.YtadpihfegccpkaaSctH
namespace Go.Proofs.Ytadpihfegccpkaa.sctk
set_option linter.unusedSimpArgs false
open Go.RowKit Go.Proofs.Ytadpihfegccpkaa.ints Go.Proofs.Ytadpihfegccpkaa.lst Go.Proofs.Ytadpihfegccpkaa.in_ Go.Proofs.Ytadpihfegccpkaa.ats Go.Proofs.Ytadpihfegccpkaa.pos Go.Proofs.Ytadpihfegccpkaa.sct Go.Proofs.Ytadpihfegccpkaa.sctt Go.Proofs.Ytadpihfegccpkaa.sctv Go.Proofs.Ytadpihfegccpkaa.scti Go.Proofs.Ytadpihfegccpkaa.sctj Go.Proofs.Ytadpihfegccpkaa.sctb Go.Proofs.Ytadpihfegccpkaa.sctr Go.Proofs.Ytadpihfegccpkaa.sctl Go.Proofs.Ytadpihfegccpkaa.tailh Go.Proofs.Ytadpihfegccpkaa.scth

set_option maxRecDepth 100000 in
set_option maxHeartbeats 4000000 in
theorem turnedSector (d : Int) (zs : List Int) (A : Option Addr) (n c : Nat) (w : World) (hn : n ≤ 1048576) (h1 : RdZ 2 w w.heap.size A n zs) :
    Calls Try.prog 39 #[.agg #[.int .i64 d, .slice A n c]] w fun e w' => ∃ v, e = .returned (.tuple #[.agg #[.int .i64 (tuD d zs n), v], .bool (seV d zs n)]) ∧ w'.ownsRow w.heap.size 28 2 v (tuN d zs n) (cellsI (tuV d zs n)) ∧ Below w.heap.size w w' := by
  have B0 := Lib.hid ((newS 26 #[.int .i64 d, .slice A n c] w).alloc (.cells #[.int .i64 0, .slice none 0 0] 26))
  have R0 := Lib.hid ((newS 26 #[.int .i64 d, .slice A n c] w).next 26 #[.int .i64 0, .slice none 0 0])
  rw [World.size_alloc] at R0
  have T0 := Lib.hid (fun W (hb : Below w.heap.size w W) => show Calls Try.prog 59 #[.agg #[.int .i64 d, .slice A n c]] W (fun e w' => e = .returned (.bool (seV d zs n)) ∧ Below W.heap.size W w') from sctw.good17 d zs A n c W hn (h1.next hb))
  cases hq : seV d zs n
  · rw [hq] at T0
    have HE := Lib.hid (tu_no hq)
    clear hq h1
    go_enter Try.func39, Try.ntmps39
    go_wp2_with fail
    generalize (w.alloc (.cells #[.int .i64 d, .slice A n c] 26)).alloc (.cells #[.int .i64 0, .slice none 0 0] 26) = W0 at *
    refine (T0.out W0 B0.out.1).mono ?_
    rintro e V ⟨rfl, hb⟩
    have R1 := Lib.hid (R0.out.old hb)
    clear hb R0 B0 T0
    have r0 : V.cell? ⟨w.heap.size + 1, 0, none⟩ = some (.int .i64 0) := R1.out.cell 0
    have r1 : V.cell? ⟨w.heap.size + 1, 1, none⟩ = some (.slice none 0 0) := R1.out.cell 1
    have f0 := R1.out.frozen 0
    have f1 := R1.out.frozen 1
    have HR := Lib.hid ((R1.out.set 0 (.int .i64 0)).set 1 (.slice none 0 0))
    clear R1
    go_wp2_with fail
    have hl := HR.out.load Try.underlying26 rfl (by kernel_rfl)
    refine bodyPost_ret (v := .tuple #[.agg #[.int .i64 0, .slice none 0 0], .bool false]) ?_ rfl ⟨.slice none 0 0, by rw [HE.out.2.2], by rw [HE.out.1, HE.out.2.1]; exact nil_own2 _ _ _, HR.out.1⟩
    rw [results_cell_tmp rfl]
    simp [asAddr, Result.andThen, hl]
  rw [hq] at T0
  have HV := Lib.hid (tu_yes hq)
  obtain ⟨⟨h3, h8⟩, -⟩ := se_corner hq
  have C0 := Lib.hid (fun W (hb : Below w.heap.size w W) => turned17 d zs A n c W h3 h8 (h1.next hb))
  clear hq h1
  go_enter Try.func39, Try.ntmps39
  go_wp2_with fail
  generalize (w.alloc (.cells #[.int .i64 d, .slice A n c] 26)).alloc (.cells #[.int .i64 0, .slice none 0 0] 26) = W0 at *
  refine (T0.out W0 B0.out.1).mono ?_
  rintro e V ⟨rfl, hb⟩
  have R1 := Lib.hid (R0.out.old hb)
  have B1 := Lib.hid (B0.out.old hb)
  clear hb R0 B0 T0
  have b0 : V.cell? ⟨w.heap.size, 0, none⟩ = some (.int .i64 d) := B1.out.cell 0
  have b1 : V.cell? ⟨w.heap.size, 1, none⟩ = some (.slice A n c) := B1.out.cell 1
  go_wp2_with fail
  clear b0 b1
  refine (C0.out V B1.out.1).mono ?_
  rintro e V3 ⟨v, rfl, ho, hb⟩
  obtain ⟨Av, cv, rfl⟩ := own_sliceZ ho
  have HO := Lib.hid ho
  have R3 := Lib.hid (R1.out.old hb)
  have LV := Lib.hid (show w.heap.size + 1 < V.heap.size from R1.out.2.2.1)
  clear ho hb R1 B1 C0
  have r0 : V3.cell? ⟨w.heap.size + 1, 0, none⟩ = some (.int .i64 0) := R3.out.cell 0
  have r1 : V3.cell? ⟨w.heap.size + 1, 1, none⟩ = some (.slice none 0 0) := R3.out.cell 1
  have f0 := R3.out.frozen 0
  have f1 := R3.out.frozen 1
  have HR := Lib.hid ((R3.out.set 0 (.int .i64 d)).set 1 (.slice Av n cv))
  have HOX := Lib.hid (own_kept (own_kept HO.out (grown_set (grown_refl V3 (some (w.heap.size + 1))) 0 (.int .i64 d)) (fun g' e => by injection e with e; have := LV.out; omega)) (grown_set (grown_refl _ (some (w.heap.size + 1))) 1 (.slice Av n cv)) (fun g' e => by injection e with e; have := LV.out; omega))
  clear R3 HO
  go_wp2_with fail
  have hl := HR.out.load Try.underlying26 rfl (by kernel_rfl)
  refine bodyPost_ret (v := .tuple #[.agg #[.int .i64 d, .slice Av n cv], .bool true]) ?_ rfl ⟨.slice Av n cv, by rw [HV.out.2.2], by rw [HV.out.1, HV.out.2.1]; exact own_.own_base HOX.out (by have := LV.out; omega), HR.out.1⟩
  rw [results_cell_tmp rfl]
  simp [asAddr, Result.andThen, hl]

theorem cyT_hit {X Y U V : Nat → Int} {n d : Nat} (hd : d < n) (h : eqB X Y U V n d n = true) : cyc X Y U V n = true := by
  rw [eqB_is] at h
  exact cyc_hit hd h
set_option maxRecDepth 100000 in
set_option maxHeartbeats 2000000 in
theorem cyclic17 (d : Int) (zs : List Int) (e0 : Int) (us : List Int) (A B : Option Addr) (n c m q : Nat) (w : World) (h3 : 3 ≤ n) (h8 : n ≤ 8) (hnm : m = n) (h1 : RdZ 2 w w.heap.size A n zs) (h2 : RdZ 2 w w.heap.size B m us) :
    Calls Try.prog 79 #[.agg #[.int .i64 d, .slice A n c], .agg #[.int .i64 e0, .slice B m q]] w fun e w' => e = .returned (.bool (cyc (cX zs) (cY zs) (cX us) (cY us) n)) ∧ Below w.heap.size w w' := by
  subst hnm
  obtain ⟨b, o, rfl, -, -, -⟩ := cells2 h1 (show 0 < m by omega)
  obtain ⟨b2, o2, rfl, -, -, -⟩ := cells2 h2 (show 0 < m by omega)
  have S0 := Lib.hid ((newS 26 #[.int .i64 d, .slice (some ⟨b, o, none⟩) m c] w).alloc (.cells #[.int .i64 e0, .slice (some ⟨b2, o2, none⟩) m q] 26))
  have S1 := Lib.hid ((newS 26 #[.int .i64 d, .slice (some ⟨b, o, none⟩) m c] w).next 26 #[.int .i64 e0, .slice (some ⟨b2, o2, none⟩) m q])
  rw [World.size_alloc] at S1
  have CA := Lib.hid (fun k (hk : k < m) WZ (hb : Below w.heap.size w WZ) => sctu.corner h1 hk hb)
  have CB := Lib.hid (fun k (hk : k < m) WZ (hb : Below w.heap.size w WZ) => sctu.corner h2 hk hb)
  generalize cX zs = X at *
  generalize cY zs = Y at *
  generalize cX us = U at *
  generalize cY us = V at *
  clear h1 h2
  go_enter Try.func79, Try.ntmps79
  go_wp2_with fail
  generalize ((w.alloc (.cells #[.int .i64 d, .slice (some ⟨b, o, none⟩) m c] 26)).alloc (.cells #[.int .i64 e0, .slice (some ⟨b2, o2, none⟩) m q] 26)) = W0 at *
  go_loopw [6] (fun t wr => ∃ k : Nat, k ≤ m ∧ t = .int .i64 k ∧ Below W0.heap.size W0 wr ∧ Hid (cyT X Y U V m k = false)) (fun t _ => m - (intOf t).toNat)
  case atStart => exact ⟨0, Nat.zero_le _, rfl, Below.refl _ _, Lib.hid rfl⟩
  case round =>
    obtain ⟨k, hk, rfl, hb, HCY⟩ := hrel
    have HB0 := Lib.hid hb
    by_cases hlt : k < m
    · have hlt2 : (k : Int) < (m : Int) := by omega
      have HLT := Lib.hid hlt
      clear hb
      go_wp2_with fail
      rename_i wold
      go_loopw [7, 8] (fun s t wr => ∃ i : Nat, i ≤ m ∧ t = .int .i64 i ∧ s = .bool (eqB X Y U V m k i) ∧ Below W0.heap.size W0 wr) (fun _ t _ => m - (intOf t).toNat)
      case atStart => exact ⟨0, Nat.zero_le _, rfl, rfl, HB0.out⟩
      case round =>
        obtain ⟨i, hi, rfl, rfl, hb⟩ := hrel
        have HB := Lib.hid hb
        by_cases hli : i < m
        · have hli2 : (i : Int) < (m : Int) := by omega
          have hi0 : (0 : Int) ≤ (i : Int) := Int.natCast_nonneg _
          obtain ⟨j, hj⟩ : ∃ j, j = (i + k) % m := ⟨_, rfl⟩
          have hjm : j < m := by rw [hj]; exact Nat.mod_lt _ (by omega)
          have hjm2 : (j : Int) < (m : Int) := by omega
          have hj0 : (0 : Int) ≤ (j : Int) := Int.natCast_nonneg _
          have hm1 : ((i : Int) + (k : Int)) % (m : Int) = (j : Int) := by rw [hj]; rfl
          have hm2 : ((i : Int) + (k : Int)).tmod (m : Int) = (j : Int) := by rw [hj]; rfl
          have wik : IntKind.i64.wrap ((i : Int) + (k : Int)) = (i : Int) + (k : Int) := IntWalk.i64_in _ (by omega)
          have hne : ¬ m = 0 := by omega
          have hne2 : ¬ (m : Int) = 0 := by omega
          have HS := Lib.hid (show eqB X Y U V m k (i + 1) = (eqB X Y U V m k i && decide (X i = U j ∧ Y i = V j)) from by rw [eqB, hj])
          have BW := Lib.hid (S0.out.1.trans (hb.mono S0.out.1.size))
          obtain ⟨⟨p0, p1⟩, lb⟩ := CA.out i hli wr BW.out
          obtain ⟨⟨q0, q1⟩, lb2⟩ := CB.out j hjm wr BW.out
          have s1 : wr.cell? ⟨w.heap.size, 1, none⟩ = some (.slice (some ⟨b, o, none⟩) m c) := (S0.out.old hb).cell 1
          have t1 : wr.cell? ⟨w.heap.size + 1, 1, none⟩ = some (.slice (some ⟨b2, o2, none⟩) m q) := (S1.out.old hb).cell 1
          clear hb hj
          generalize eqB X Y U V m k i = ee at *
          cases ee
          · clear p0 p1 q0 q1
            have HT := Lib.hid HS.out
            go_wp2_with fail
            go_quiet (fail)
            go_wp2_with fail
            go_roundw
            case rel => exact ⟨i + 1, by omega, by go_num, by rw [HT.out]; rfl, aid.below_drewN HB.out _⟩
            case measure => simp [intOf]; omega
          · by_cases hs : X i = U j ∧ Y i = V j
            · rw [decide_eq_true hs] at HS
              rw [hs.1] at p0
              rw [hs.2] at p1
              clear hs
              generalize U j = u at *
              generalize V j = v at *
              have g1 : (u == u) = true := beq_iff_eq.mpr rfl
              have g2 : (v == v) = true := beq_iff_eq.mpr rfl
              have HT := Lib.hid HS.out
              go_wp2_with fail
              go_quiet (fail)
              go_wp2_with fail
              go_roundw
              case rel => exact ⟨i + 1, by omega, by go_num, by rw [HT.out]; rfl, aid.below_drewN HB.out _⟩
              case measure => simp [intOf]; omega
            · rw [decide_eq_false hs] at HS
              by_cases e1 : X i = U j
              · have g1 : (X i == U j) = true := beq_iff_eq.mpr e1
                have g2 : (Y i == V j) = false := beq_eq_false_iff_ne.mpr (fun h => hs ⟨e1, h⟩)
                clear e1 hs
                generalize X i = x at *
                generalize Y i = y at *
                generalize U j = u at *
                generalize V j = v at *
                have HT := Lib.hid HS.out
                go_wp2_with fail
                go_quiet (fail)
                go_wp2_with fail
                go_roundw
                case rel => exact ⟨i + 1, by omega, by go_num, by rw [HT.out]; rfl, aid.below_drewN HB.out _⟩
                case measure => simp [intOf]; omega
              · have g1 : (X i == U j) = false := beq_eq_false_iff_ne.mpr e1
                clear e1 hs
                generalize X i = x at *
                generalize Y i = y at *
                generalize U j = u at *
                generalize V j = v at *
                have HT := Lib.hid HS.out
                go_wp2_with fail
                go_quiet (fail)
                go_wp2_with fail
                go_roundw
                case rel => exact ⟨i + 1, by omega, by go_num, by rw [HT.out]; rfl, aid.below_drewN HB.out _⟩
                case measure => simp [intOf]; omega
        · obtain rfl : i = m := by omega
          clear hb
          cases he : eqB X Y U V i k i
          · have HT := Lib.hid (show cyT X Y U V i (k + 1) = false from by rw [cyT, HCY.out, ← eqB_is, he]; rfl)
            clear he
            go_wp2_with fail
            go_roundw
            case rel => exact ⟨k + 1, by have := HLT.out; omega, by go_num, HB.out, HT⟩
            case measure => have := HLT.out; simp [intOf]; omega
          · have HT := Lib.hid (cyT_hit HLT.out he)
            have BX := Lib.hid (S0.out.1.trans (HB.out.mono S0.out.1.size))
            clear he
            go_wp2_with fail
            go_ret
            exact ⟨by rw [HT.out]; rfl, BX.out⟩
    · obtain rfl : k = m := by omega
      have HT := Lib.hid (show cyc X Y U V k = false from by rw [← cyT_is]; exact HCY.out)
      have BX := Lib.hid (S0.out.1.trans (HB0.out.mono S0.out.1.size))
      clear hb
      go_wp2_with fail
      go_ret
      exact ⟨by rw [HT.out]; rfl, BX.out⟩

set_option maxRecDepth 100000 in
set_option maxHeartbeats 4000000 in
theorem sameSector (d : Int) (zs : List Int) (e0 : Int) (us : List Int) (A B : Option Addr) (n c m q : Nat) (w : World) (hn : n ≤ 1048576) (hm : m ≤ 1048576) (h1 : RdZ 2 w w.heap.size A n zs) (h2 : RdZ 2 w w.heap.size B m us) :
    Calls Try.prog 35 #[.agg #[.int .i64 d, .slice A n c], .agg #[.int .i64 e0, .slice B m q]] w fun e w' => e = .returned (.tuple #[.bool (ssV d zs n e0 us m), .bool (ssB d zs n e0 us m)]) ∧ Below w.heap.size w w' := by
  have S0 := Lib.hid ((newS 26 #[.int .i64 d, .slice A n c] w).alloc (.cells #[.int .i64 e0, .slice B m q] 26))
  have S1 := Lib.hid ((newS 26 #[.int .i64 d, .slice A n c] w).next 26 #[.int .i64 e0, .slice B m q])
  rw [World.size_alloc] at S1
  have T0 := Lib.hid (fun W (hb : Below w.heap.size w W) => show Calls Try.prog 59 #[.agg #[.int .i64 d, .slice A n c]] W (fun e w' => e = .returned (.bool (seV d zs n)) ∧ Below W.heap.size W w') from sctw.good17 d zs A n c W (by omega) (h1.next hb))
  have T1 := Lib.hid (fun W (hb : Below w.heap.size w W) => show Calls Try.prog 59 #[.agg #[.int .i64 e0, .slice B m q]] W (fun e w' => e = .returned (.bool (seV e0 us m)) ∧ Below W.heap.size W w') from sctw.good17 e0 us B m q W (by omega) (h2.next hb))
  cases hq0 : seV d zs n
  · have HE := Lib.hid (show ssV d zs n e0 us m = false ∧ ssB d zs n e0 us m = false from And.intro (ssV_no (ss_no1 hq0)) (ss_no1 hq0))
    rw [hq0] at T0
    clear h1 h2 hq0
    go_enter Try.func35, Try.ntmps35
    go_wp2_with fail
    generalize ((w.alloc (.cells #[.int .i64 d, .slice A n c] 26)).alloc (.cells #[.int .i64 e0, .slice B m q] 26)) = W0 at *
    have AN0 := Lib.hid (Below.refl W0.heap.size W0)
    refine (T0.out W0 (S0.out.1.trans (AN0.out.mono S0.out.1.size))).mono ?_
    rintro e V1 ⟨rfl, hb1⟩
    have AN1 := Lib.hid (AN0.out.trans (hb1.mono AN0.out.size))
    clear hb1
    have BX := Lib.hid (S0.out.1.trans (AN1.out.mono S0.out.1.size))
    go_wp2_with fail
    go_ret2
    exact ⟨by rw [HE.out.1, HE.out.2]; rfl, BX.out⟩
  rw [hq0] at T0
  cases hq1 : seV e0 us m
  · have HE := Lib.hid (show ssV d zs n e0 us m = false ∧ ssB d zs n e0 us m = false from And.intro (ssV_no (ss_no2 hq1)) (ss_no2 hq1))
    rw [hq1] at T1
    clear h1 h2 hq0 hq1
    go_enter Try.func35, Try.ntmps35
    go_wp2_with fail
    generalize ((w.alloc (.cells #[.int .i64 d, .slice A n c] 26)).alloc (.cells #[.int .i64 e0, .slice B m q] 26)) = W0 at *
    have AN0 := Lib.hid (Below.refl W0.heap.size W0)
    refine (T0.out W0 (S0.out.1.trans (AN0.out.mono S0.out.1.size))).mono ?_
    rintro e V1 ⟨rfl, hb1⟩
    have AN1 := Lib.hid (AN0.out.trans (hb1.mono AN0.out.size))
    clear hb1
    have c00 : V1.cell? ⟨w.heap.size, 0, none⟩ = some (.int .i64 d) := (S0.out.old AN1.out).cell 0
    have c01 : V1.cell? ⟨w.heap.size, 1, none⟩ = some (.slice A n c) := (S0.out.old AN1.out).cell 1
    have c10 : V1.cell? ⟨w.heap.size + 1, 0, none⟩ = some (.int .i64 e0) := (S1.out.old AN1.out).cell 0
    have c11 : V1.cell? ⟨w.heap.size + 1, 1, none⟩ = some (.slice B m q) := (S1.out.old AN1.out).cell 1
    go_wp2_with fail
    clear c00 c01 c10 c11
    refine (T1.out V1 (S0.out.1.trans (AN1.out.mono S0.out.1.size))).mono ?_
    rintro e V2 ⟨rfl, hb2⟩
    have AN2 := Lib.hid (AN1.out.trans (hb2.mono AN1.out.size))
    clear hb2
    have BX := Lib.hid (S0.out.1.trans (AN2.out.mono S0.out.1.size))
    go_wp2_with fail
    go_ret2
    exact ⟨by rw [HE.out.1, HE.out.2]; rfl, BX.out⟩
  rw [hq1] at T1
  obtain ⟨⟨g3, g8⟩, -⟩ := se_corner hq0
  obtain ⟨⟨k3, k8⟩, -⟩ := se_corner hq1
  have HB := Lib.hid (ss_yes hq0 hq1)
  have HV := Lib.hid (ssV_yes HB.out)
  have HX2 := Lib.hid h2
  have HX1 := Lib.hid h1
  clear hq0 hq1
  by_cases hnm : n = m
  case neg =>
    have HS := Lib.hid (show saB (cX zs) (cY zs) n (cX us) (cY us) m = false from by unfold saB; rw [decide_eq_false hnm]; rfl)
    have g1 : ((n : Int) == (m : Int)) = false := beq_eq_false_iff_ne.mpr (by omega)
    have g2 : ¬ (n : Int) = (m : Int) := by omega
    clear hnm h1 h2
    go_enter Try.func35, Try.ntmps35
    go_wp2_with fail
    generalize ((w.alloc (.cells #[.int .i64 d, .slice A n c] 26)).alloc (.cells #[.int .i64 e0, .slice B m q] 26)) = W0 at *
    have AN0 := Lib.hid (Below.refl W0.heap.size W0)
    refine (T0.out W0 (S0.out.1.trans (AN0.out.mono S0.out.1.size))).mono ?_
    rintro e V1 ⟨rfl, hb1⟩
    have AN1 := Lib.hid (AN0.out.trans (hb1.mono AN0.out.size))
    clear hb1
    have c00 : V1.cell? ⟨w.heap.size, 0, none⟩ = some (.int .i64 d) := (S0.out.old AN1.out).cell 0
    have c01 : V1.cell? ⟨w.heap.size, 1, none⟩ = some (.slice A n c) := (S0.out.old AN1.out).cell 1
    have c10 : V1.cell? ⟨w.heap.size + 1, 0, none⟩ = some (.int .i64 e0) := (S1.out.old AN1.out).cell 0
    have c11 : V1.cell? ⟨w.heap.size + 1, 1, none⟩ = some (.slice B m q) := (S1.out.old AN1.out).cell 1
    go_wp2_with fail
    clear c00 c01 c10 c11
    refine (T1.out V1 (S0.out.1.trans (AN1.out.mono S0.out.1.size))).mono ?_
    rintro e V2 ⟨rfl, hb2⟩
    have AN2 := Lib.hid (AN1.out.trans (hb2.mono AN1.out.size))
    clear hb2
    go_upto_region 3 with fail
    have c00 : V2.cell? ⟨w.heap.size, 0, none⟩ = some (.int .i64 d) := (S0.out.old AN2.out).cell 0
    have c01 : V2.cell? ⟨w.heap.size, 1, none⟩ = some (.slice A n c) := (S0.out.old AN2.out).cell 1
    have c10 : V2.cell? ⟨w.heap.size + 1, 0, none⟩ = some (.int .i64 e0) := (S1.out.old AN2.out).cell 0
    have c11 : V2.cell? ⟨w.heap.size + 1, 1, none⟩ = some (.slice B m q) := (S1.out.old AN2.out).cell 1
    have c00' := fun d0 os => cell_regrown c00 d0 os
    have c01' := fun d0 os => cell_regrown c01 d0 os
    have c10' := fun d0 os => cell_regrown c10 d0 os
    have c11' := fun d0 os => cell_regrown c11 d0 os
    clear c00 c01 c10 c11
    refine wp_region_quiet_below (by kernel_rfl) (by kernel_rfl) ?_
    repeat (
      with_reducible refine wpQuiet_step (fun K hK => ?_)
      go_simp
      refine hK _ ?_; clear hK K)
    with_reducible refine wpQuiet_nil ?_
    intro _ hw'
    obtain ⟨⟨dq, osq⟩, hw''⟩ := hw'
    subst hw''
    have hbl := (below_regrown V2 dq osq)
    clear c00' c01' c10' c11'
    generalize Sort.grow (redrawn V2 dq) osq = W9 at *
    have BX := Lib.hid (S0.out.1.trans ((AN2.out.trans (hbl.mono AN2.out.size)).mono S0.out.1.size))
    clear hbl
    go_wp2_with fail
    go_ret2
    exact ⟨by rw [HV.out, HB.out, HS.out]; rfl, BX.out⟩
  subst hnm
  have g1 : ((n : Int) == (n : Int)) = true := beq_iff_eq.mpr rfl
  have hC1 := Lib.hid (fun W d0 os (hb : Below w.heap.size w W) => Calls.regrown_of (cyclic17 d zs e0 us A B n c n q (Sort.grow (redrawn W d0) os) g3 g8 rfl (h1.next (hb.trans ((below_regrown W d0 os).mono hb.size))) (h2.next (hb.trans ((below_regrown W d0 os).mono hb.size)))))
  cases hcy : cyc (cX zs) (cY zs) (cX us) (cY us) n
  case true =>
    have HS := Lib.hid (show saB (cX zs) (cY zs) n (cX us) (cY us) n = true from by unfold saB; rw [decide_eq_true rfl, hcy]; rfl)
    rw [hcy] at hC1
    clear hcy h1 h2
    go_enter Try.func35, Try.ntmps35
    go_wp2_with fail
    generalize ((w.alloc (.cells #[.int .i64 d, .slice A n c] 26)).alloc (.cells #[.int .i64 e0, .slice B n q] 26)) = W0 at *
    have AN0 := Lib.hid (Below.refl W0.heap.size W0)
    refine (T0.out W0 (S0.out.1.trans (AN0.out.mono S0.out.1.size))).mono ?_
    rintro e V1 ⟨rfl, hb1⟩
    have AN1 := Lib.hid (AN0.out.trans (hb1.mono AN0.out.size))
    clear hb1
    have c00 : V1.cell? ⟨w.heap.size, 0, none⟩ = some (.int .i64 d) := (S0.out.old AN1.out).cell 0
    have c01 : V1.cell? ⟨w.heap.size, 1, none⟩ = some (.slice A n c) := (S0.out.old AN1.out).cell 1
    have c10 : V1.cell? ⟨w.heap.size + 1, 0, none⟩ = some (.int .i64 e0) := (S1.out.old AN1.out).cell 0
    have c11 : V1.cell? ⟨w.heap.size + 1, 1, none⟩ = some (.slice B n q) := (S1.out.old AN1.out).cell 1
    go_wp2_with fail
    clear c00 c01 c10 c11
    refine (T1.out V1 (S0.out.1.trans (AN1.out.mono S0.out.1.size))).mono ?_
    rintro e V2 ⟨rfl, hb2⟩
    have AN2 := Lib.hid (AN1.out.trans (hb2.mono AN1.out.size))
    clear hb2
    go_upto_region 3 with fail
    have C1w := Lib.hid (fun d0 os => hC1.out V2 d0 os (S0.out.1.trans (AN2.out.mono S0.out.1.size)))
    have c00 : V2.cell? ⟨w.heap.size, 0, none⟩ = some (.int .i64 d) := (S0.out.old AN2.out).cell 0
    have c01 : V2.cell? ⟨w.heap.size, 1, none⟩ = some (.slice A n c) := (S0.out.old AN2.out).cell 1
    have c10 : V2.cell? ⟨w.heap.size + 1, 0, none⟩ = some (.int .i64 e0) := (S1.out.old AN2.out).cell 0
    have c11 : V2.cell? ⟨w.heap.size + 1, 1, none⟩ = some (.slice B n q) := (S1.out.old AN2.out).cell 1
    have c00' := fun d0 os => cell_regrown c00 d0 os
    have c01' := fun d0 os => cell_regrown c01 d0 os
    have c10' := fun d0 os => cell_regrown c10 d0 os
    have c11' := fun d0 os => cell_regrown c11 d0 os
    clear c00 c01 c10 c11
    refine wp_region_quiet_below (by kernel_rfl) (by kernel_rfl) ?_
    repeat (
      with_reducible refine wpQuiet_step (fun K hK => ?_)
      go_simp
      first
        | (refine hK _ ?_; clear hK K)
        | (apply Exists.intro
           refine ⟨fun _ => ?_, hK _ ?_⟩
           (first
             | (go_at_call 79; with_reducible exact C1w.out _ _))
           clear hK K))
    with_reducible refine wpQuiet_nil ?_
    intro _ hw'
    obtain ⟨⟨dq, osq⟩, hw''⟩ := hw'
    subst hw''
    have hbl := (below_regrown V2 dq osq)
    clear c00' c01' c10' c11'
    generalize Sort.grow (redrawn V2 dq) osq = W9 at *
    have BX := Lib.hid (S0.out.1.trans ((AN2.out.trans (hbl.mono AN2.out.size)).mono S0.out.1.size))
    clear hbl
    go_wp2_with fail
    go_ret2
    exact ⟨by rw [HV.out, HB.out, HS.out]; rfl, BX.out⟩
  rw [hcy] at hC1
  have HS := Lib.hid (show saB (cX zs) (cY zs) n (cX us) (cY us) n = cyc (cX zs) (cY zs) (fun k => cX us (rv n k)) (fun k => cY us (rv n k)) n from by unfold saB; rw [decide_eq_true rfl, hcy]; rfl)
  have D1 := Lib.hid (fun W (hb : Below w.heap.size w W) => cyclic17 d zs e0 us A B n c n q W g3 g8 rfl (h1.next hb) (h2.next hb))
  rw [hcy] at D1
  have D2 := Lib.hid (fun W (hb : Below w.heap.size w W) => turned17 e0 us B n q W g3 g8 (h2.next hb))
  have D3 := Lib.hid (fun At ct W (hb : Below w.heap.size w W) (h : RdZ 2 W W.heap.size At n (prL (cX us) (cY us) (rv n) n)) => cyclic17 d zs e0 (prL (cX us) (cY us) (rv n) n) A At n c n ct W g3 g8 rfl (h1.next hb) h)
  have HCX := Lib.hid (show cyc (cX zs) (cY zs) (cX (prL (cX us) (cY us) (rv n) n)) (cY (prL (cX us) (cY us) (rv n) n)) n = cyc (cX zs) (cY zs) (fun k => cX us (rv n k)) (fun k => cY us (rv n k)) n from by
    unfold cyc cyB
    congr 1
    refine decide_eq_decide.2 (forall_congr' fun dd => forall_congr' fun hd => ?_)
    rw [show (decide (∀ i, i < n → cX zs i = cX (prL (cX us) (cY us) (rv n) n) ((i + dd) % n) ∧ cY zs i = cY (prL (cX us) (cY us) (rv n) n) ((i + dd) % n)) = decide (∀ i, i < n → cX zs i = cX us (rv n ((i + dd) % n)) ∧ cY zs i = cY us (rv n ((i + dd) % n)))) from decide_eq_decide.2 (forall_congr' fun i => forall_congr' fun hi => by rw [cX_pr _ _ _ (Nat.mod_lt _ (show 0 < n by omega)), cY_pr _ _ _ (Nat.mod_lt _ (show 0 < n by omega))])])
  rw [HCX.out] at D3
  generalize cyc (cX zs) (cY zs) (fun k => cX us (rv n k)) (fun k => cY us (rv n k)) n = s at *
  clear hcy h1 h2 hC1
  go_enter Try.func35, Try.ntmps35
  go_wp2_with fail
  generalize ((w.alloc (.cells #[.int .i64 d, .slice A n c] 26)).alloc (.cells #[.int .i64 e0, .slice B n q] 26)) = W0 at *
  have AN0 := Lib.hid (Below.refl W0.heap.size W0)
  refine (T0.out W0 (S0.out.1.trans (AN0.out.mono S0.out.1.size))).mono ?_
  rintro e V1 ⟨rfl, hb1⟩
  have AN1 := Lib.hid (AN0.out.trans (hb1.mono AN0.out.size))
  clear hb1
  have c00 : V1.cell? ⟨w.heap.size, 0, none⟩ = some (.int .i64 d) := (S0.out.old AN1.out).cell 0
  have c01 : V1.cell? ⟨w.heap.size, 1, none⟩ = some (.slice A n c) := (S0.out.old AN1.out).cell 1
  have c10 : V1.cell? ⟨w.heap.size + 1, 0, none⟩ = some (.int .i64 e0) := (S1.out.old AN1.out).cell 0
  have c11 : V1.cell? ⟨w.heap.size + 1, 1, none⟩ = some (.slice B n q) := (S1.out.old AN1.out).cell 1
  go_wp2_with fail
  clear c00 c01 c10 c11
  refine (T1.out V1 (S0.out.1.trans (AN1.out.mono S0.out.1.size))).mono ?_
  rintro e V2 ⟨rfl, hb2⟩
  have AN2 := Lib.hid (AN1.out.trans (hb2.mono AN1.out.size))
  clear hb2
  have BWw := Lib.hid (S0.out.1.trans (AN2.out.mono S0.out.1.size))
  have C1 := Lib.hid (fun U (hb : Below V2.heap.size V2 U) => D1.out U (BWw.out.trans (hb.mono BWw.out.size)))
  have C2 := Lib.hid (fun U (hb : Below V2.heap.size V2 U) => D2.out U (BWw.out.trans (hb.mono BWw.out.size)))
  have C3 := Lib.hid (fun At ct U (hb : Below V2.heap.size V2 U) h => D3.out At ct U (BWw.out.trans (hb.mono BWw.out.size)) h)
  have CSx := Lib.hid (show ∀ WZ : World, Below V2.heap.size V2 WZ → World.cell? WZ ⟨w.heap.size, 0, none⟩ = some (.int .i64 d) ∧ World.cell? WZ ⟨w.heap.size, 1, none⟩ = some (.slice A n c) ∧ World.cell? WZ ⟨w.heap.size + 1, 0, none⟩ = some (.int .i64 e0) ∧ World.cell? WZ ⟨w.heap.size + 1, 1, none⟩ = some (.slice B n q) from fun WZ hz => ⟨(S0.out.old (AN2.out.trans (hz.mono AN2.out.size))).cell 0, (S0.out.old (AN2.out.trans (hz.mono AN2.out.size))).cell 1, (S1.out.old (AN2.out.trans (hz.mono AN2.out.size))).cell 0, (S1.out.old (AN2.out.trans (hz.mono AN2.out.size))).cell 1⟩)
  have HS0 := Lib.hid (CSx.out V2.drew (Below.refl V2.heap.size V2).drew)
  go_upto_region 3 with fail
  refine wp_region_tail (S := fun w' => World.cell? w' ⟨w.heap.size, 0, none⟩ = some (.int .i64 d) ∧ World.cell? w' ⟨w.heap.size, 1, none⟩ = some (.slice A n c) ∧ World.cell? w' ⟨w.heap.size + 1, 0, none⟩ = some (.int .i64 e0) ∧ World.cell? w' ⟨w.heap.size + 1, 1, none⟩ = some (.slice B n q)) 19 (by kernel_rfl) HS0.out (fun hHeld => ?_)
  try simp only [Act.put, List.getElem_toArray, List.getElem_cons_succ, List.getElem_cons_zero, List.setIfInBounds_toArray, List.set_cons_succ, List.set_cons_zero]
  refine wpAnyE_take (i := 0) (v := ?vt10) rfl (by decide +kernel) (fun _ _ _ h => h) (Or.inl ⟨by first | rfl | kernel_rfl, ?ht10⟩) (by assumption) ?rt10
  case ht10 =>
    intro wS hSw
    obtain ⟨h0, h1, h2, h3⟩ := hSw
    go_simp
    try with_reducible rfl
  try simp only [Act.put, List.getElem_toArray, List.getElem_cons_succ, List.getElem_cons_zero, List.setIfInBounds_toArray, List.set_cons_succ, List.set_cons_zero]
  refine wpAnyE_take (i := 1) (v := ?vt11) rfl (by decide +kernel) (fun _ _ _ h => h) (Or.inl ⟨by first | rfl | kernel_rfl, ?ht11⟩) (by assumption) ?rt11
  case ht11 =>
    intro wS hSw
    obtain ⟨h0, h1, h2, h3⟩ := hSw
    go_simp
    try with_reducible rfl
  try simp only [Act.put, List.getElem_toArray, List.getElem_cons_succ, List.getElem_cons_zero, List.setIfInBounds_toArray, List.set_cons_succ, List.set_cons_zero]
  refine wpAnyE_take (i := 2) (v := ?vt12) rfl (by decide +kernel) (fun _ _ _ h => h) (Or.inl ⟨by first | rfl | kernel_rfl, ?ht12⟩) (by assumption) ?rt12
  case ht12 =>
    intro wS hSw
    obtain ⟨h0, h1, h2, h3⟩ := hSw
    go_simp
    try with_reducible rfl
  try simp only [Act.put, List.getElem_toArray, List.getElem_cons_succ, List.getElem_cons_zero, List.setIfInBounds_toArray, List.set_cons_succ, List.set_cons_zero]
  refine wpAnyE_take (i := 3) (v := ?vt13) rfl (by decide +kernel) (fun _ _ _ h => h) (Or.inl ⟨by first | rfl | kernel_rfl, ?ht13⟩) (by assumption) ?rt13
  case ht13 =>
    intro wS hSw
    obtain ⟨h0, h1, h2, h3⟩ := hSw
    go_simp
    try with_reducible rfl
  try simp only [Act.put, List.getElem_toArray, List.getElem_cons_succ, List.getElem_cons_zero, List.setIfInBounds_toArray, List.set_cons_succ, List.set_cons_zero]
  refine wpAnyE_take (i := 4) (v := ?vt14) rfl (by decide +kernel) (fun _ _ _ h => h) (Or.inl ⟨by first | rfl | kernel_rfl, ?ht14⟩) (by assumption) ?rt14
  case ht14 =>
    intro wS hSw
    obtain ⟨h0, h1, h2, h3⟩ := hSw
    go_simp
    try with_reducible rfl
  try simp only [Act.put, List.getElem_toArray, List.getElem_cons_succ, List.getElem_cons_zero, List.setIfInBounds_toArray, List.set_cons_succ, List.set_cons_zero]
  refine wpAnyE_take (i := 5) (v := ?vt15) rfl (by decide +kernel) (fun _ _ _ h => h) (Or.inl ⟨by first | rfl | kernel_rfl, ?ht15⟩) (by assumption) ?rt15
  case ht15 =>
    intro wS hSw
    obtain ⟨h0, h1, h2, h3⟩ := hSw
    go_simp
    try with_reducible rfl
  try simp only [Act.put, List.getElem_toArray, List.getElem_cons_succ, List.getElem_cons_zero, List.setIfInBounds_toArray, List.set_cons_succ, List.set_cons_zero]
  refine wpAnyE_take (i := 6) (v := ?vt16) rfl (by decide +kernel) (fun _ _ _ h => h) (Or.inl ⟨by first | rfl | kernel_rfl, ?ht16⟩) (by assumption) ?rt16
  case ht16 =>
    intro wS hSw
    obtain ⟨h0, h1, h2, h3⟩ := hSw
    go_simp
    try with_reducible rfl
  try simp only [Act.put, List.getElem_toArray, List.getElem_cons_succ, List.getElem_cons_zero, List.setIfInBounds_toArray, List.set_cons_succ, List.set_cons_zero]
  refine wpAnyE_take (i := 7) (v := ?vt17) rfl (by decide +kernel) (fun _ _ _ h => h) (Or.inl ⟨by first | rfl | kernel_rfl, ?ht17⟩) (by assumption) ?rt17
  case ht17 =>
    intro wS hSw
    obtain ⟨h0, h1, h2, h3⟩ := hSw
    go_simp
    try with_reducible rfl
  try simp only [Act.put, List.getElem_toArray, List.getElem_cons_succ, List.getElem_cons_zero, List.setIfInBounds_toArray, List.set_cons_succ, List.set_cons_zero]
  refine wpAnyE_take (i := 8) (v := ?vt18) rfl (by decide +kernel) (fun _ _ _ h => h) (Or.inl ⟨by first | rfl | kernel_rfl, ?ht18⟩) (by assumption) ?rt18
  case ht18 =>
    intro wS hSw
    obtain ⟨h0, h1, h2, h3⟩ := hSw
    go_simp
    try with_reducible rfl
  try simp only [Act.put, List.getElem_toArray, List.getElem_cons_succ, List.getElem_cons_zero, List.setIfInBounds_toArray, List.set_cons_succ, List.set_cons_zero]
  refine wpAnyE_take (i := 9) (v := ?vt19) rfl (by decide +kernel) (fun _ _ _ h => h) (Or.inl ⟨by first | rfl | kernel_rfl, ?ht19⟩) (by assumption) ?rt19
  case ht19 =>
    intro wS hSw
    obtain ⟨h0, h1, h2, h3⟩ := hSw
    go_simp
    try with_reducible rfl
  try simp only [Act.put, List.getElem_toArray, List.getElem_cons_succ, List.getElem_cons_zero, List.setIfInBounds_toArray, List.set_cons_succ, List.set_cons_zero]
  refine wpAnyE_ready (rs := [10]) (by kernel_rfl) (by simp) ?_
  refine AllReadyE.cons (i := 10) rfl (by decide) (fun K hK => ?_) AllReadyE.nil
  go_simp
  refine (C1.out V2.drew (Below.refl V2.heap.size V2).drew).mono ?_
  rintro e U1 ⟨rfl, hb⟩
  go_simp
  have AU1 := Lib.hid ((Below.refl V2.heap.size V2).drew.trans (hb.mono (Below.refl V2.heap.size V2).drew.size))
  have HS1 := Lib.hid (CSx.out U1 AU1.out)
  clear hb
  refine hK.out _ _ HS1.out (fun hHeld => ?_)
  clear hK K
  try simp only [Act.put, List.getElem_toArray, List.getElem_cons_succ, List.getElem_cons_zero, List.setIfInBounds_toArray, List.set_cons_succ, List.set_cons_zero]
  refine wpAnyE_take (i := 11) (v := ?vt111) rfl (by decide +kernel) (fun _ _ _ h => h) (Or.inl ⟨by first | rfl | kernel_rfl, ?ht111⟩) (by assumption) ?rt111
  case ht111 =>
    intro wS hSw
    obtain ⟨h0, h1, h2, h3⟩ := hSw
    go_simp
    try with_reducible rfl
  try simp only [Act.put, List.getElem_toArray, List.getElem_cons_succ, List.getElem_cons_zero, List.setIfInBounds_toArray, List.set_cons_succ, List.set_cons_zero]
  refine wpAnyE_take (i := 12) (v := ?vt112) rfl (by decide +kernel) (fun _ _ _ h => h) (Or.inl ⟨by first | rfl | kernel_rfl, ?ht112⟩) (by assumption) ?rt112
  case ht112 =>
    intro wS hSw
    obtain ⟨h0, h1, h2, h3⟩ := hSw
    go_simp
    try with_reducible rfl
  try simp only [Act.put, List.getElem_toArray, List.getElem_cons_succ, List.getElem_cons_zero, List.setIfInBounds_toArray, List.set_cons_succ, List.set_cons_zero]
  refine wpAnyE_take (i := 13) (v := ?vt113) rfl (by decide +kernel) (fun _ _ _ h => h) (Or.inl ⟨by first | rfl | kernel_rfl, ?ht113⟩) (by assumption) ?rt113
  case ht113 =>
    intro wS hSw
    obtain ⟨h0, h1, h2, h3⟩ := hSw
    go_simp
    try with_reducible rfl
  try simp only [Act.put, List.getElem_toArray, List.getElem_cons_succ, List.getElem_cons_zero, List.setIfInBounds_toArray, List.set_cons_succ, List.set_cons_zero]
  refine wpAnyE_ready (rs := [14]) (by kernel_rfl) (by simp) ?_
  refine AllReadyE.cons (i := 14) rfl (by decide) (fun K hK => ?_) AllReadyE.nil
  go_simp
  refine (C2.out U1 AU1.out).mono ?_
  rintro e U2 ⟨vt, rfl, ho, hb⟩
  obtain ⟨At, ct, rfl⟩ := own_sliceZ ho
  have HRT := Lib.hid (RdZ.of_own ho (prL_length ..))
  go_simp
  have AU2 := Lib.hid (AU1.out.trans (hb.mono AU1.out.size))
  have HS2 := Lib.hid (CSx.out U2 AU2.out)
  clear hb ho
  refine hK.out _ _ HS2.out (fun hHeld => ?_)
  clear hK K
  try simp only [Act.put, List.getElem_toArray, List.getElem_cons_succ, List.getElem_cons_zero, List.setIfInBounds_toArray, List.set_cons_succ, List.set_cons_zero]
  refine wpAnyE_ready (rs := [15]) (by kernel_rfl) (by simp) ?_
  refine AllReadyE.cons (i := 15) rfl (by decide) (fun K hK => ?_) AllReadyE.nil
  go_simp
  refine (C3.out At ct U2 AU2.out HRT.out).mono ?_
  rintro e U3 ⟨rfl, hb⟩
  go_simp
  have AU3 := Lib.hid (AU2.out.trans (hb.mono AU2.out.size))
  have HS3 := Lib.hid (CSx.out U3 AU3.out)
  clear hb
  refine hK.out _ _ HS3.out (fun hHeld => ?_)
  clear hK K
  try simp only [Act.put, List.getElem_toArray, List.getElem_cons_succ, List.getElem_cons_zero, List.setIfInBounds_toArray, List.set_cons_succ, List.set_cons_zero]
  refine wpAnyE_take (i := 16) (v := ?vt116) rfl (by decide +kernel) (fun _ _ _ h => h) (Or.inl ⟨by first | rfl | kernel_rfl, ?ht116⟩) (by assumption) ?rt116
  case ht116 =>
    intro wS hSw
    obtain ⟨h0, h1, h2, h3⟩ := hSw
    go_simp
    try with_reducible rfl
  try simp only [Act.put, List.getElem_toArray, List.getElem_cons_succ, List.getElem_cons_zero, List.setIfInBounds_toArray, List.set_cons_succ, List.set_cons_zero]
  refine wpAnyE_take (i := 17) (v := ?vt117) rfl (by decide +kernel) (fun _ _ _ h => h) (Or.inl ⟨by first | rfl | kernel_rfl, ?ht117⟩) (by assumption) ?rt117
  case ht117 =>
    intro wS hSw
    obtain ⟨h0, h1, h2, h3⟩ := hSw
    go_simp
    try with_reducible rfl
  try simp only [Act.put, List.getElem_toArray, List.getElem_cons_succ, List.getElem_cons_zero, List.setIfInBounds_toArray, List.set_cons_succ, List.set_cons_zero]
  refine wpAnyE_take (i := 18) (v := ?vt118) rfl (by decide +kernel) (fun _ _ _ h => h) (Or.inl ⟨by first | rfl | kernel_rfl, ?ht118⟩) (by assumption) ?rt118
  case ht118 =>
    intro wS hSw
    obtain ⟨h0, h1, h2, h3⟩ := hSw
    go_simp
    try with_reducible rfl
  try simp only [Act.put, List.getElem_toArray, List.getElem_cons_succ, List.getElem_cons_zero, List.setIfInBounds_toArray, List.set_cons_succ, List.set_cons_zero]
  refine wpAnyE_ready (rs := [19]) (by kernel_rfl) (by simp) ?_
  refine AllReadyE.last (i := 19) rfl rfl (fun K hK => ?_)
  go_simp
  refine hK.out _ _ ?_
  clear hK K
  try simp only [Act.put, List.getElem_toArray, List.getElem_cons_succ, List.getElem_cons_zero, List.setIfInBounds_toArray, List.set_cons_succ, List.set_cons_zero]
  refine wpAnyE_done (by kernel_rfl) ?_ _
  try simp only [List.getElem_toArray, List.getElem_cons_succ, List.getElem_cons_zero, List.setIfInBounds_toArray, List.set_cons_succ, List.set_cons_zero]
  have BX := Lib.hid (BWw.out.trans (AU3.out.mono BWw.out.size))
  go_wp2_with fail
  go_ret2
  exact ⟨by rw [HV.out, HB.out, HS.out]; rfl, BX.out⟩

end Go.Proofs.Ytadpihfegccpkaa.sctk
