/- impl's areSwapped, SwappedPairs. -/
import Derived.Test.YtedocpocfpopgaaAsgC
namespace Go.Proofs.Ytedocpocfpopgaa.asgf
open Go.RowKit Go.Proofs.Ytedocpocfpopgaa.ints Go.Proofs.Ytedocpocfpopgaa.lst Go.Proofs.Ytedocpocfpopgaa.in_ Go.Proofs.Ytedocpocfpopgaa.ats Go.Proofs.Ytedocpocfpopgaa.pos Go.Proofs.Ytedocpocfpopgaa.trk Go.Proofs.Ytedocpocfpopgaa.trkm Go.Proofs.Ytedocpocfpopgaa.trke Go.Proofs.Ytedocpocfpopgaa.intc Go.Proofs.Ytedocpocfpopgaa.asg Go.Proofs.Ytedocpocfpopgaa.rws

set_option maxRecDepth 100000 in
set_option maxHeartbeats 4000000 in
theorem areSwapped (i s x y h l u v i2 s2 x2 y2 h2 l2 u2 v2 : Int) (hA : pB x y = true) (hP : pB u v = true) (hB : pB x2 y2 = true) (hQ : pB u2 v2 = true) (w : World) :
    Calls Try.prog 63 #[.agg #[.int .i64 i, .int .i64 s, .int .i64 x, .int .i64 y, .int .i64 h, .int .i64 l], .agg #[.int .i64 u, .int .i64 v], .agg #[.int .i64 i2, .int .i64 s2, .int .i64 x2, .int .i64 y2, .int .i64 h2, .int .i64 l2], .agg #[.int .i64 u2, .int .i64 v2]] w fun e w' => e = .returned (.bool (decide (dst x y u2 v2 + dst x2 y2 u v < dst x y u v + dst x2 y2 u2 v2))) ∧ Below w.heap.size w w' := by
  have S0 := Lib.hid ((((newS 28 #[.int .i64 i, .int .i64 s, .int .i64 x, .int .i64 y, .int .i64 h, .int .i64 l] w).alloc (.cells #[.int .i64 u, .int .i64 v] 30)).alloc (.cells #[.int .i64 i2, .int .i64 s2, .int .i64 x2, .int .i64 y2, .int .i64 h2, .int .i64 l2] 28)).alloc (.cells #[.int .i64 u2, .int .i64 v2] 30))
  have S1 := Lib.hid ((((newS 28 #[.int .i64 i, .int .i64 s, .int .i64 x, .int .i64 y, .int .i64 h, .int .i64 l] w).next 30 #[.int .i64 u, .int .i64 v]).alloc (.cells #[.int .i64 i2, .int .i64 s2, .int .i64 x2, .int .i64 y2, .int .i64 h2, .int .i64 l2] 28)).alloc (.cells #[.int .i64 u2, .int .i64 v2] 30))
  rw [World.size_alloc] at S1
  have S2 := Lib.hid ((((newS 28 #[.int .i64 i, .int .i64 s, .int .i64 x, .int .i64 y, .int .i64 h, .int .i64 l] w).alloc (.cells #[.int .i64 u, .int .i64 v] 30)).next 28 #[.int .i64 i2, .int .i64 s2, .int .i64 x2, .int .i64 y2, .int .i64 h2, .int .i64 l2]).alloc (.cells #[.int .i64 u2, .int .i64 v2] 30))
  rw [World.size_alloc, World.size_alloc] at S2
  have S3 := Lib.hid ((((newS 28 #[.int .i64 i, .int .i64 s, .int .i64 x, .int .i64 y, .int .i64 h, .int .i64 l] w).alloc (.cells #[.int .i64 u, .int .i64 v] 30)).alloc (.cells #[.int .i64 i2, .int .i64 s2, .int .i64 x2, .int .i64 y2, .int .i64 h2, .int .i64 l2] 28)).next 30 #[.int .i64 u2, .int .i64 v2])
  rw [World.size_alloc, World.size_alloc, World.size_alloc] at S3
  have D1 := Lib.hid (fun W d0 os => Calls.regrown_of (show Calls Try.prog 48 #[.agg #[.int .i64 i, .int .i64 s, .int .i64 x, .int .i64 y, .int .i64 h, .int .i64 l], .agg #[.int .i64 u2, .int .i64 v2]] (Sort.grow (redrawn W d0) os) (fun e w' => e = .returned (.int .i64 (dst x y u2 v2)) ∧ Below (Sort.grow (redrawn W d0) os).heap.size (Sort.grow (redrawn W d0) os) w') from asga.trackDistance i s x y h l u2 v2 hA hQ _))
  have bD1 := asga.ds_in hA hQ
  rw [show asga.ds x y u2 v2 = dst x y u2 v2 from rfl] at bD1
  have D2 := Lib.hid (fun W d0 os => Calls.regrown_of (show Calls Try.prog 48 #[.agg #[.int .i64 i2, .int .i64 s2, .int .i64 x2, .int .i64 y2, .int .i64 h2, .int .i64 l2], .agg #[.int .i64 u, .int .i64 v]] (Sort.grow (redrawn W d0) os) (fun e w' => e = .returned (.int .i64 (dst x2 y2 u v)) ∧ Below (Sort.grow (redrawn W d0) os).heap.size (Sort.grow (redrawn W d0) os) w') from asga.trackDistance i2 s2 x2 y2 h2 l2 u v hB hP _))
  have bD2 := asga.ds_in hB hP
  rw [show asga.ds x2 y2 u v = dst x2 y2 u v from rfl] at bD2
  have D3 := Lib.hid (fun W d0 os => Calls.regrown_of (show Calls Try.prog 48 #[.agg #[.int .i64 i, .int .i64 s, .int .i64 x, .int .i64 y, .int .i64 h, .int .i64 l], .agg #[.int .i64 u, .int .i64 v]] (Sort.grow (redrawn W d0) os) (fun e w' => e = .returned (.int .i64 (dst x y u v)) ∧ Below (Sort.grow (redrawn W d0) os).heap.size (Sort.grow (redrawn W d0) os) w') from asga.trackDistance i s x y h l u v hA hP _))
  have bD3 := asga.ds_in hA hP
  rw [show asga.ds x y u v = dst x y u v from rfl] at bD3
  have D4 := Lib.hid (fun W d0 os => Calls.regrown_of (show Calls Try.prog 48 #[.agg #[.int .i64 i2, .int .i64 s2, .int .i64 x2, .int .i64 y2, .int .i64 h2, .int .i64 l2], .agg #[.int .i64 u2, .int .i64 v2]] (Sort.grow (redrawn W d0) os) (fun e w' => e = .returned (.int .i64 (dst x2 y2 u2 v2)) ∧ Below (Sort.grow (redrawn W d0) os).heap.size (Sort.grow (redrawn W d0) os) w') from asga.trackDistance i2 s2 x2 y2 h2 l2 u2 v2 hB hQ _))
  have bD4 := asga.ds_in hB hQ
  rw [show asga.ds x2 y2 u2 v2 = dst x2 y2 u2 v2 from rfl] at bD4
  generalize dst x y u2 v2 = dD1 at *
  generalize dst x2 y2 u v = dD2 at *
  generalize dst x y u v = dD3 at *
  generalize dst x2 y2 u2 v2 = dD4 at *
  clear hA hP hB hQ
  have e1 : IntKind.i64.wrap (dD1 + dD2) = dD1 + dD2 := IntWalk.i64_in _ (by omega)
  have e2 : IntKind.i64.wrap (dD3 + dD4) = dD3 + dD4 := IntWalk.i64_in _ (by omega)
  go_enter Try.func63, Try.ntmps63
  go_upto_region 1 with fail
  generalize ((((w.alloc (.cells #[.int .i64 i, .int .i64 s, .int .i64 x, .int .i64 y, .int .i64 h, .int .i64 l] 28)).alloc (.cells #[.int .i64 u, .int .i64 v] 30)).alloc (.cells #[.int .i64 i2, .int .i64 s2, .int .i64 x2, .int .i64 y2, .int .i64 h2, .int .i64 l2] 28)).alloc (.cells #[.int .i64 u2, .int .i64 v2] 30)) = W0 at *
  have c00 : W0.cell? ⟨w.heap.size, 0, none⟩ = some (.int .i64 i) := S0.out.cell 0
  have c01 : W0.cell? ⟨w.heap.size, 1, none⟩ = some (.int .i64 s) := S0.out.cell 1
  have c02 : W0.cell? ⟨w.heap.size, 2, none⟩ = some (.int .i64 x) := S0.out.cell 2
  have c03 : W0.cell? ⟨w.heap.size, 3, none⟩ = some (.int .i64 y) := S0.out.cell 3
  have c04 : W0.cell? ⟨w.heap.size, 4, none⟩ = some (.int .i64 h) := S0.out.cell 4
  have c05 : W0.cell? ⟨w.heap.size, 5, none⟩ = some (.int .i64 l) := S0.out.cell 5
  have c10 : W0.cell? ⟨w.heap.size + 1, 0, none⟩ = some (.int .i64 u) := S1.out.cell 0
  have c11 : W0.cell? ⟨w.heap.size + 1, 1, none⟩ = some (.int .i64 v) := S1.out.cell 1
  have c20 : W0.cell? ⟨w.heap.size + 1 + 1, 0, none⟩ = some (.int .i64 i2) := S2.out.cell 0
  have c21 : W0.cell? ⟨w.heap.size + 1 + 1, 1, none⟩ = some (.int .i64 s2) := S2.out.cell 1
  have c22 : W0.cell? ⟨w.heap.size + 1 + 1, 2, none⟩ = some (.int .i64 x2) := S2.out.cell 2
  have c23 : W0.cell? ⟨w.heap.size + 1 + 1, 3, none⟩ = some (.int .i64 y2) := S2.out.cell 3
  have c24 : W0.cell? ⟨w.heap.size + 1 + 1, 4, none⟩ = some (.int .i64 h2) := S2.out.cell 4
  have c25 : W0.cell? ⟨w.heap.size + 1 + 1, 5, none⟩ = some (.int .i64 l2) := S2.out.cell 5
  have c30 : W0.cell? ⟨w.heap.size + 1 + 1 + 1, 0, none⟩ = some (.int .i64 u2) := S3.out.cell 0
  have c31 : W0.cell? ⟨w.heap.size + 1 + 1 + 1, 1, none⟩ = some (.int .i64 v2) := S3.out.cell 1
  have c00' := fun d0 os => cell_regrown c00 d0 os
  have c01' := fun d0 os => cell_regrown c01 d0 os
  have c02' := fun d0 os => cell_regrown c02 d0 os
  have c03' := fun d0 os => cell_regrown c03 d0 os
  have c04' := fun d0 os => cell_regrown c04 d0 os
  have c05' := fun d0 os => cell_regrown c05 d0 os
  have c10' := fun d0 os => cell_regrown c10 d0 os
  have c11' := fun d0 os => cell_regrown c11 d0 os
  have c20' := fun d0 os => cell_regrown c20 d0 os
  have c21' := fun d0 os => cell_regrown c21 d0 os
  have c22' := fun d0 os => cell_regrown c22 d0 os
  have c23' := fun d0 os => cell_regrown c23 d0 os
  have c24' := fun d0 os => cell_regrown c24 d0 os
  have c25' := fun d0 os => cell_regrown c25 d0 os
  have c30' := fun d0 os => cell_regrown c30 d0 os
  have c31' := fun d0 os => cell_regrown c31 d0 os
  clear c00 c01 c02 c03 c04 c05 c10 c11 c20 c21 c22 c23 c24 c25 c30 c31
  refine wp_region_quiet_below (by kernel_rfl) (by kernel_rfl) ?_
  repeat (
    with_reducible refine wpQuiet_step (fun K hK => ?_)
    go_simp
    first
      | (refine hK _ ?_; clear hK K)
      | (apply Exists.intro
         refine ⟨fun _ => ?_, hK _ ?_⟩
         (first
           | (go_at_call 48; with_reducible exact D1.out _ _ _)
           | (go_at_call 48; with_reducible exact D2.out _ _ _)
           | (go_at_call 48; with_reducible exact D3.out _ _ _)
           | (go_at_call 48; with_reducible exact D4.out _ _ _))
         clear hK K))
  with_reducible refine wpQuiet_nil ?_
  intro _ hw'
  obtain ⟨⟨dq, osq⟩, hw''⟩ := hw'
  subst hw''
  have hbl := (below_regrown W0 dq osq)
  clear c00' c01' c02' c03' c04' c05' c10' c11' c20' c21' c22' c23' c24' c25' c30' c31'
  generalize Sort.grow (redrawn W0 dq) osq = W3 at *
  have B3 := Lib.hid (S0.out.1.trans (hbl.mono S0.out.1.size))
  go_wp2_with fail
  go_ret
  exact ⟨rfl, B3.out⟩

set_option maxRecDepth 100000 in
set_option maxHeartbeats 4000000 in
theorem swappedPairs (zs ps xs : List Int) (g : Int) (A C E : Option Addr) (n c m cq e0 ce : Nat) (w : World) (hn : n ≤ 1048577) (hm : m ≤ 1048577) (he0 : e0 ≤ 1048577) (hce : e0 ≤ ce) (h1 : RdZ 6 w w.heap.size A n zs) (h2 : RdZ 2 w w.heap.size C m ps) (h3 : RdI w w.heap.size E e0 xs) :
    Calls Try.prog 38 #[.slice A n c, .slice C m cq, .int .i64 g, .slice E e0 ce] w fun e w' => e = .returned (.tuple #[.int .i64 (spV zs n ps m g xs e0), .bool (agB zs n ps m g xs e0)]) ∧ Below w.heap.size w w' := by
  have H1 := Lib.hid (asgc.isAssignment zs ps xs g A C E n c m cq e0 ce w hn hm he0 hce h1 h2 h3)
  cases hq : agB zs n ps m g xs e0
  · have HE := Lib.hid (spV_no hq)
    rw [hq] at H1
    clear hq h1 h2 h3
    go_enter Try.func38, Try.ntmps38
    go_wp2_with fail
    refine H1.out.mono ?_
    rintro e w1 ⟨rfl, hb⟩
    have HB := Lib.hid hb
    clear hb
    go_wp2_with fail
    go_ret2
    exact ⟨by rw [HE.out]; rfl, HB.out⟩
  rw [hq] at H1
  obtain ⟨hak, rfl, hpr⟩ := agB_yes hq
  have HPT := Lib.hid (fun k hk => ak_track (i := k) hak hk)
  have HPP := Lib.hid (fun k hk => ak_plot (k := k) hak hk)
  have hm5 := (akB_yes hak).2.2.1
  have hg5 := (akB_yes hak).2.2.2
  have hn6 : e0 ≤ 6 := (tvB_yes (akB_yes hak).1).2
  have HPR := Lib.hid hpr
  have HR1 := Lib.hid h1
  have HR2 := Lib.hid h2
  have HR3 := Lib.hid h3
  have HQ := Lib.hid hq
  have HV := Lib.hid (spV_yes hq)
  clear hq hak hpr h1 h2 h3
  go_enter Try.func38, Try.ntmps38
  go_wp2_with fail
  refine H1.out.mono ?_
  rintro e w1 ⟨rfl, hb⟩
  have HB1 := Lib.hid hb
  clear hb H1
  go_wp2_with fail
  go_loopw [10, 23] (fun s i wr => ∃ k : Nat, k ≤ e0 ∧ i = .int .i64 k ∧ s = .int .i64 ((swT (pst zs ps) xs k : Nat) : Int) ∧ Below w.heap.size w wr) (fun _ i _ => e0 - (intOf i).toNat)
  case atStart => exact ⟨0, Nat.zero_le _, rfl, rfl, HB1.out⟩
  case round =>
    obtain ⟨k, hk, rfl, rfl, hb⟩ := hrel
    have HBk := Lib.hid hb
    by_cases hlt : k < e0
    · obtain ⟨b3, o3, x, rfl, l3, hx, p0⟩ := (HR3.out.next hb).at_ hlt
      have hlt2 : (k : Int) < (e0 : Int) := by omega
      have HGX := Lib.hid (getD_some hx)
      have HOX := Lib.hid (prB_at HPR.out hlt)
      have hk0 : (0 : Int) ≤ (k : Int) := Int.natCast_nonneg _
      have hkc : (k : Int) ≤ (ce : Int) := by omega
      have HSW := Lib.hid (swT_le (pst zs ps) xs k)
      have HSZ := Lib.hid (show swT (pst zs ps) xs (k + 1) = swI (pst zs ps) xs k (swT (pst zs ps) xs k) k from rfl)
      clear hb
      go_wp2_with fail
      go_loopw [10, 32] (fun s i wr => ∃ j : Nat, j ≤ k ∧ i = .int .i64 j ∧ s = .int .i64 ((swI (pst zs ps) xs k (swT (pst zs ps) xs k) j : Nat) : Int) ∧ Below w.heap.size w wr) (fun _ i _ => k - (intOf i).toNat)
      case atStart => exact ⟨0, Nat.zero_le _, rfl, rfl, HBk.out⟩
      case round =>
        obtain ⟨j, hj, rfl, rfl, hb⟩ := hrel
        have HB := Lib.hid hb
        by_cases hjk : j < k
        · have hjlt : j < e0 := by omega
          obtain ⟨b4, o4, y, hA4, l4, hy, p1⟩ := (HR3.out.next hb).at_ hjlt
          obtain ⟨rfl, rfl⟩ : b3 = b4 ∧ o3 = o4 := by injection hA4 with e; injection e with e1 e2; exact ⟨e1, e2⟩
          obtain ⟨b5, o5, x5, hA5, l5, hx5, p0'⟩ := (HR3.out.next hb).at_ hlt
          obtain ⟨rfl, rfl⟩ : b3 = b5 ∧ o3 = o5 := by injection hA5 with e; injection e with e1 e2; exact ⟨e1, e2⟩
          obtain rfl : x5 = x := by rw [hx] at hx5; injection hx5 with e; exact e.symm
          have hjk2 : (j : Int) < (k : Int) := by omega
          have hjl2 : (j : Int) < (e0 : Int) := by omega
          have hj0 : (0 : Int) ≤ (j : Int) := Int.natCast_nonneg _
          have HGY := Lib.hid (getD_some hy)
          have HOY := Lib.hid (prB_at HPR.out hjlt)
          have hsn := swI_le (pst zs ps) xs k (swT (pst zs ps) xs k) j
          have hkk : k * k ≤ 36 := by
            have : k * k ≤ 6 * 6 := Nat.mul_le_mul (by omega) (by omega)
            omega
          have hsw := HSW.out
          clear hb hx5 hy hA4 hA5 p0
          rcases pairOk_yes HOX.out with hx1 | ⟨a, ha5, hx1, _, _⟩
          · rw [HGX.out] at hx1
            have HT := Lib.hid (show swI (pst zs ps) xs k (swT (pst zs ps) xs k) (j + 1) = swI (pst zs ps) xs k (swT (pst zs ps) xs k) j from sw_no (swB_no (by rw [HGX.out, HGY.out]; exact Or.inl hx1)))
            generalize swI (pst zs ps) xs k (swT (pst zs ps) xs k) j = sn at *
            have g1 : (x5 != -1) = false := by rw [hx1]; rfl
            clear hx1
            clear HGX HGY HOX HOY
            go_wp2_with fail
            refine wp_region_quiet_below (by kernel_rfl) (by kernel_rfl) ?_
            repeat (
              with_reducible refine wpQuiet_step (fun K hK => ?_)
              go_simp
              refine hK _ ?_; clear hK K)
            with_reducible refine wpQuiet_nil ?_
            intro _ hw'
            obtain ⟨⟨dq, osq⟩, hw''⟩ := hw'
            subst hw''
            have hbl := (below_regrown wr dq osq)
            generalize Sort.grow (redrawn wr dq) osq = w3 at *
            have HBB := Lib.hid (HB.out.trans (hbl.mono HB.out.size))
            clear hbl HB
            go_wp2_with fail
            go_roundw
            case rel => exact ⟨j + 1, by omega, by go_num, by rw [HT.out], HBB.out⟩
            case measure => simp [intOf]; omega
          rw [HGX.out] at hx1
          rcases pairOk_yes HOY.out with hy1 | ⟨d, hd5, hy1, _, _⟩
          · rw [HGY.out] at hy1
            have HT := Lib.hid (show swI (pst zs ps) xs k (swT (pst zs ps) xs k) (j + 1) = swI (pst zs ps) xs k (swT (pst zs ps) xs k) j from sw_no (swB_no (by rw [HGX.out, HGY.out]; exact Or.inr hy1)))
            generalize swI (pst zs ps) xs k (swT (pst zs ps) xs k) j = sn at *
            have g1 : (x5 != -1) = true := bne_iff_ne.mpr (by omega)
            have g2 : (y != -1) = false := by rw [hy1]; rfl
            clear hx1 hy1
            clear HGX HGY HOX HOY
            go_wp2_with fail
            refine wp_region_quiet_below (by kernel_rfl) (by kernel_rfl) ?_
            repeat (
              with_reducible refine wpQuiet_step (fun K hK => ?_)
              go_simp
              refine hK _ ?_; clear hK K)
            with_reducible refine wpQuiet_nil ?_
            intro _ hw'
            obtain ⟨⟨dq, osq⟩, hw''⟩ := hw'
            subst hw''
            have hbl := (below_regrown wr dq osq)
            generalize Sort.grow (redrawn wr dq) osq = w3 at *
            have HBB := Lib.hid (HB.out.trans (hbl.mono HB.out.size))
            clear hbl HB
            go_wp2_with fail
            go_roundw
            case rel => exact ⟨j + 1, by omega, by go_num, by rw [HT.out], HBB.out⟩
            case measure => simp [intOf]; omega
          rw [HGY.out] at hy1
          subst hx1
          subst hy1
          have ha0 : (0 : Int) ≤ (a : Int) := Int.natCast_nonneg _
          have hd0 : (0 : Int) ≤ (d : Int) := Int.natCast_nonneg _
          have ham : (a : Int) < (m : Int) := by omega
          have hdm : (d : Int) < (m : Int) := by omega
          have HIS := Lib.hid (swB_is (D := (pst zs ps)) HGX.out HGY.out)
          have HSY := Lib.hid (fun h => sw_yes (D := (pst zs ps)) (xs := xs) (i := k) (j := j) (s := swT (pst zs ps) xs k) h)
          have HSN := Lib.hid (fun h => sw_no (D := (pst zs ps)) (xs := xs) (i := k) (j := j) (s := swT (pst zs ps) xs k) h)
          obtain ⟨b1, o1, rfl, l1, a0, a1, a2, a3, a4, a5⟩ := cellsE (HR1.out.next HB.out) hlt
          obtain ⟨b1', o1', hA6, -, e0', e1', e2', e3', e4', e5'⟩ := cellsE (HR1.out.next HB.out) hjlt
          obtain ⟨rfl, rfl⟩ : b1 = b1' ∧ o1 = o1' := by injection hA6 with e; injection e with e1 e2; exact ⟨e1, e2⟩
          obtain ⟨b2, o2, rfl, l2, q0, q1⟩ := asga.cells2 (HR2.out.next HB.out) ha5
          obtain ⟨b2', o2', hA7, -, r0, r1⟩ := asga.cells2 (HR2.out.next HB.out) hd5
          obtain ⟨rfl, rfl⟩ : b2 = b2' ∧ o2 = o2' := by injection hA7 with e; injection e with e1 e2; exact ⟨e1, e2⟩
          have TD := Lib.hid (fun w d0 os => Calls.regrown_of (show Calls Try.prog 63 #[.agg #[.int .i64 (fld 6 zs k 0), .int .i64 (fld 6 zs k 1), .int .i64 (fld 6 zs k 2), .int .i64 (fld 6 zs k 3), .int .i64 (fld 6 zs k 4), .int .i64 (fld 6 zs k 5)], .agg #[.int .i64 (fld 2 ps a 0), .int .i64 (fld 2 ps a 1)], .agg #[.int .i64 (fld 6 zs j 0), .int .i64 (fld 6 zs j 1), .int .i64 (fld 6 zs j 2), .int .i64 (fld 6 zs j 3), .int .i64 (fld 6 zs j 4), .int .i64 (fld 6 zs j 5)], .agg #[.int .i64 (fld 2 ps d 0), .int .i64 (fld 2 ps d 1)]] (Sort.grow (redrawn w d0) os) (fun e w' => e = .returned (.bool (decide (pst zs ps k d + pst zs ps j a < pst zs ps k a + pst zs ps j d))) ∧ Below (Sort.grow (redrawn w d0) os).heap.size (Sort.grow (redrawn w d0) os) w') from areSwapped (fld 6 zs k 0) (fld 6 zs k 1) (fld 6 zs k 2) (fld 6 zs k 3) (fld 6 zs k 4) (fld 6 zs k 5) (fld 2 ps a 0) (fld 2 ps a 1) (fld 6 zs j 0) (fld 6 zs j 1) (fld 6 zs j 2) (fld 6 zs j 3) (fld 6 zs j 4) (fld 6 zs j 5) (fld 2 ps d 0) (fld 2 ps d 1) (HPT.out k hlt) (HPP.out a ha5) (HPT.out j hjlt) (HPP.out d hd5) (Sort.grow (redrawn w d0) os)))
          rw [← HIS.out] at TD
          generalize swI (pst zs ps) xs k (swT (pst zs ps) xs k) j = sn at *
          generalize fld 6 zs k 0 = u0 at *
          generalize fld 6 zs k 1 = u1 at *
          generalize fld 6 zs k 2 = u2 at *
          generalize fld 6 zs k 3 = u3 at *
          generalize fld 6 zs k 4 = u4 at *
          generalize fld 6 zs k 5 = u5 at *
          generalize fld 6 zs j 0 = t0 at *
          generalize fld 6 zs j 1 = t1 at *
          generalize fld 6 zs j 2 = t2 at *
          generalize fld 6 zs j 3 = t3 at *
          generalize fld 6 zs j 4 = t4 at *
          generalize fld 6 zs j 5 = t5 at *
          generalize fld 2 ps a 0 = v0 at *
          generalize fld 2 ps a 1 = v1 at *
          generalize fld 2 ps d 0 = r0 at *
          generalize fld 2 ps d 1 = r1 at *
          have g1 : ((a : Int) != -1) = true := bne_iff_ne.mpr (by omega)
          have g2 : ((d : Int) != -1) = true := bne_iff_ne.mpr (by omega)
          have e9 : IntKind.i64.wrap ((sn : Int) + 1) = (sn : Int) + 1 := IntWalk.i64_in _ (by omega)
          clear HGX HGY HOX HOY HIS hA6 hA7
          cases hsb : swB (pst zs ps) xs k j
          · have HT := Lib.hid (HSN.out hsb)
            rw [hsb] at TD
            clear hsb HSN HSY
            go_wp2_with fail
            have a0' := fun d0 os => cell_regrown a0 d0 os
            have a1' := fun d0 os => cell_regrown a1 d0 os
            have a2' := fun d0 os => cell_regrown a2 d0 os
            have a3' := fun d0 os => cell_regrown a3 d0 os
            have a4' := fun d0 os => cell_regrown a4 d0 os
            have a5' := fun d0 os => cell_regrown a5 d0 os
            have e0'' := fun d0 os => cell_regrown e0' d0 os
            have e1'' := fun d0 os => cell_regrown e1' d0 os
            have e2'' := fun d0 os => cell_regrown e2' d0 os
            have e3'' := fun d0 os => cell_regrown e3' d0 os
            have e4'' := fun d0 os => cell_regrown e4' d0 os
            have e5'' := fun d0 os => cell_regrown e5' d0 os
            have q0' := fun d0 os => cell_regrown q0 d0 os
            have q1' := fun d0 os => cell_regrown q1 d0 os
            have r0' := fun d0 os => cell_regrown r0 d0 os
            have r1' := fun d0 os => cell_regrown r1 d0 os
            clear a0 a1 a2 a3 a4 a5 e0' e1' e2' e3' e4' e5' q0 q1 r0 r1
            refine wp_region_quiet_below (by kernel_rfl) (by kernel_rfl) ?_
            repeat (
              with_reducible refine wpQuiet_step (fun K hK => ?_)
              go_simp
              first
                | (refine hK _ ?_; clear hK K)
                | (apply Exists.intro
                   refine ⟨fun _ => ?_, hK _ ?_⟩
                   (first
                     | (go_at_call 63; with_reducible exact TD.out _ _ _))
                   clear hK K))
            with_reducible refine wpQuiet_nil ?_
            intro _ hw'
            obtain ⟨⟨dq, osq⟩, hw''⟩ := hw'
            subst hw''
            have hbl := (below_regrown wr dq osq)
            clear a0' a1' a2' a3' a4' a5' e0'' e1'' e2'' e3'' e4'' e5'' q0' q1' r0' r1'
            generalize Sort.grow (redrawn wr dq) osq = w3 at *
            have HBB := Lib.hid (HB.out.trans (hbl.mono HB.out.size))
            clear hbl HB
            go_wp2_with fail
            go_roundw
            case rel => exact ⟨j + 1, by omega, by go_num, by rw [HT.out], HBB.out⟩
            case measure => simp [intOf]; omega
          · have HT := Lib.hid (HSY.out hsb)
            rw [hsb] at TD
            clear hsb HSN HSY
            go_wp2_with fail
            have a0' := fun d0 os => cell_regrown a0 d0 os
            have a1' := fun d0 os => cell_regrown a1 d0 os
            have a2' := fun d0 os => cell_regrown a2 d0 os
            have a3' := fun d0 os => cell_regrown a3 d0 os
            have a4' := fun d0 os => cell_regrown a4 d0 os
            have a5' := fun d0 os => cell_regrown a5 d0 os
            have e0'' := fun d0 os => cell_regrown e0' d0 os
            have e1'' := fun d0 os => cell_regrown e1' d0 os
            have e2'' := fun d0 os => cell_regrown e2' d0 os
            have e3'' := fun d0 os => cell_regrown e3' d0 os
            have e4'' := fun d0 os => cell_regrown e4' d0 os
            have e5'' := fun d0 os => cell_regrown e5' d0 os
            have q0' := fun d0 os => cell_regrown q0 d0 os
            have q1' := fun d0 os => cell_regrown q1 d0 os
            have r0' := fun d0 os => cell_regrown r0 d0 os
            have r1' := fun d0 os => cell_regrown r1 d0 os
            clear a0 a1 a2 a3 a4 a5 e0' e1' e2' e3' e4' e5' q0 q1 r0 r1
            refine wp_region_quiet_below (by kernel_rfl) (by kernel_rfl) ?_
            repeat (
              with_reducible refine wpQuiet_step (fun K hK => ?_)
              go_simp
              first
                | (refine hK _ ?_; clear hK K)
                | (apply Exists.intro
                   refine ⟨fun _ => ?_, hK _ ?_⟩
                   (first
                     | (go_at_call 63; with_reducible exact TD.out _ _ _))
                   clear hK K))
            with_reducible refine wpQuiet_nil ?_
            intro _ hw'
            obtain ⟨⟨dq, osq⟩, hw''⟩ := hw'
            subst hw''
            have hbl := (below_regrown wr dq osq)
            clear a0' a1' a2' a3' a4' a5' e0'' e1'' e2'' e3'' e4'' e5'' q0' q1' r0' r1'
            generalize Sort.grow (redrawn wr dq) osq = w3 at *
            have HBB := Lib.hid (HB.out.trans (hbl.mono HB.out.size))
            clear hbl HB
            go_wp2_with fail
            go_roundw
            case rel => exact ⟨j + 1, by omega, by go_num, by rw [HT.out]; go_num, HBB.out⟩
            case measure => simp [intOf]; omega
        · obtain rfl : j = k := by omega
          have HT := Lib.hid HSZ.out
          clear hb
          go_wp2_with fail
          go_roundw
          case rel => exact ⟨j + 1, by omega, by go_num, by rw [HT.out], HB.out⟩
          case measure => simp [intOf]; omega
    · obtain rfl : k = e0 := by omega
      go_wp2_with fail
      go_ret2
      exact ⟨by rw [HV.out]; rfl, HBk.out⟩

end Go.Proofs.Ytedocpocfpopgaa.asgf
