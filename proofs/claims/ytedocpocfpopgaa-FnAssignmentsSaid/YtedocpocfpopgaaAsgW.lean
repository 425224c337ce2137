/- spec's SwappedPairs. -/
import Derived.Test.YtedocpocfpopgaaAsgU
namespace Go.Proofs.Ytedocpocfpopgaa.asgw
open Go.RowKit Go.Proofs.Ytedocpocfpopgaa.ints Go.Proofs.Ytedocpocfpopgaa.lst Go.Proofs.Ytedocpocfpopgaa.in_ Go.Proofs.Ytedocpocfpopgaa.ats Go.Proofs.Ytedocpocfpopgaa.pos Go.Proofs.Ytedocpocfpopgaa.trk Go.Proofs.Ytedocpocfpopgaa.trkm Go.Proofs.Ytedocpocfpopgaa.trke Go.Proofs.Ytedocpocfpopgaa.intc Go.Proofs.Ytedocpocfpopgaa.asg

set_option maxRecDepth 100000 in
set_option maxHeartbeats 4000000 in
theorem swappedPairs (zs ps xs : List Int) (g : Int) (A C E : Option Addr) (n c m cq e0 ce : Nat) (w : World) (hn : n ≤ 1048577) (hm : m ≤ 1048577) (he0 : e0 ≤ 1048577) (hce : e0 ≤ ce) (h1 : RdZ 6 w w.heap.size A n zs) (h2 : RdZ 2 w w.heap.size C m ps) (h3 : RdI w w.heap.size E e0 xs) :
    Calls Try.prog 37 #[.slice A n c, .slice C m cq, .int .i64 g, .slice E e0 ce] w fun e w' => e = .returned (.tuple #[.int .i64 (spV zs n ps m g xs e0), .bool (agB zs n ps m g xs e0)]) ∧ Below w.heap.size w w' := by
  have H1 := Lib.hid (asgu.good15 zs ps xs g A C E n c m cq e0 ce w hn hm he0 hce h1 h2 h3)
  cases hq : agB zs n ps m g xs e0
  · have HE := Lib.hid (spV_no hq)
    rw [hq] at H1
    clear hq h1 h2 h3
    go_enter Try.func37, Try.ntmps37
    go_wp2_with fail
    refine H1.out.mono ?_
    rintro e w1 ⟨rfl, hb⟩
    have HB := Lib.hid hb
    clear hb
    go_wp2_with fail
    go_ret2
    exact ⟨by rw [HE.out]; rfl, HB.out⟩
  rw [hq] at H1
  obtain ⟨hak, rfl, hpr⟩ := agB_yes hq
  have HPT := Lib.hid (fun k hk => ak_track (i := k) hak hk)
  have HPP := Lib.hid (fun k hk => ak_plot (k := k) hak hk)
  have hm5 := (akB_yes hak).2.2.1
  have hg5 := (akB_yes hak).2.2.2
  have hn6 : e0 ≤ 6 := (tvB_yes (akB_yes hak).1).2
  have HPR := Lib.hid hpr
  have HR1 := Lib.hid h1
  have HR2 := Lib.hid h2
  have HR3 := Lib.hid h3
  have HQ := Lib.hid hq
  have HV := Lib.hid (spV_yes hq)
  clear hq hak hpr h1 h2 h3
  go_enter Try.func37, Try.ntmps37
  go_wp2_with fail
  refine H1.out.mono ?_
  rintro e w1 ⟨rfl, hb⟩
  have HB1 := Lib.hid hb
  clear hb H1
  go_wp2_with fail
  go_loopw [10, 11] (fun s i wr => ∃ k : Nat, k ≤ e0 ∧ i = .int .i64 k ∧ s = .int .i64 ((swT (pst zs ps) xs k : Nat) : Int) ∧ Below w.heap.size w wr) (fun _ i _ => e0 - (intOf i).toNat)
  case atStart => exact ⟨0, Nat.zero_le _, rfl, rfl, HB1.out⟩
  case round =>
    obtain ⟨k, hk, rfl, rfl, hb⟩ := hrel
    have HBk := Lib.hid hb
    by_cases hlt : k < e0
    · obtain ⟨b3, o3, x, rfl, l3, hx, p0⟩ := (HR3.out.next hb).at_ hlt
      have hlt2 : (k : Int) < (e0 : Int) := by omega
      have HGX := Lib.hid (getD_some hx)
      have HOX := Lib.hid (prB_at HPR.out hlt)
      have hk0 : (0 : Int) ≤ (k : Int) := Int.natCast_nonneg _
      have hkc : (k : Int) ≤ (ce : Int) := by omega
      have HSW := Lib.hid (swT_le (pst zs ps) xs k)
      have HSZ := Lib.hid (show swT (pst zs ps) xs (k + 1) = swI (pst zs ps) xs k (swT (pst zs ps) xs k) k from rfl)
      clear hb
      go_wp2_with fail
      go_loopw [10, 12] (fun s i wr => ∃ j : Nat, j ≤ k ∧ i = .int .i64 j ∧ s = .int .i64 ((swI (pst zs ps) xs k (swT (pst zs ps) xs k) j : Nat) : Int) ∧ Below w.heap.size w wr) (fun _ i _ => k - (intOf i).toNat)
      case atStart => exact ⟨0, Nat.zero_le _, rfl, rfl, HBk.out⟩
      case round =>
        obtain ⟨j, hj, rfl, rfl, hb⟩ := hrel
        have HB := Lib.hid hb
        by_cases hjk : j < k
        · have hjlt : j < e0 := by omega
          obtain ⟨b4, o4, y, hA4, l4, hy, p1⟩ := (HR3.out.next hb).at_ hjlt
          obtain ⟨rfl, rfl⟩ : b3 = b4 ∧ o3 = o4 := by injection hA4 with e; injection e with e1 e2; exact ⟨e1, e2⟩
          obtain ⟨b5, o5, x5, hA5, l5, hx5, p0'⟩ := (HR3.out.next hb).at_ hlt
          obtain ⟨rfl, rfl⟩ : b3 = b5 ∧ o3 = o5 := by injection hA5 with e; injection e with e1 e2; exact ⟨e1, e2⟩
          obtain rfl : x5 = x := by rw [hx] at hx5; injection hx5 with e; exact e.symm
          have hjk2 : (j : Int) < (k : Int) := by omega
          have hjl2 : (j : Int) < (e0 : Int) := by omega
          have hj0 : (0 : Int) ≤ (j : Int) := Int.natCast_nonneg _
          have HGY := Lib.hid (getD_some hy)
          have HOY := Lib.hid (prB_at HPR.out hjlt)
          have hsn := swI_le (pst zs ps) xs k (swT (pst zs ps) xs k) j
          have hkk : k * k ≤ 36 := by
            have : k * k ≤ 6 * 6 := Nat.mul_le_mul (by omega) (by omega)
            omega
          have hsw := HSW.out
          clear hb hx5 hy hA4 hA5 p0
          rcases pairOk_yes HOX.out with hx1 | ⟨a, ha5, hx1, _, _⟩
          · rw [HGX.out] at hx1
            have g1 : decide (x5 < 0) = true := decide_eq_true (by omega)
            have g1' : x5 < 0 := by omega
            have HT := Lib.hid (show swI (pst zs ps) xs k (swT (pst zs ps) xs k) (j + 1) = swI (pst zs ps) xs k (swT (pst zs ps) xs k) j from sw_no (swB_no (by rw [HGX.out, HGY.out]; exact Or.inl hx1)))
            generalize swI (pst zs ps) xs k (swT (pst zs ps) xs k) j = sn at *
            clear HGX HGY HOX HOY
            go_wp2_with fail
            have p0q := fun d0 os => cell_regrown p0' d0 os
            have p1' := fun d0 os => cell_regrown p1 d0 os
            clear p0' p1
            refine wp_region_quiet_below (by kernel_rfl) (by kernel_rfl) ?_
            repeat (
              with_reducible refine wpQuiet_step (fun K hK => ?_)
              go_simp
              refine hK _ ?_; clear hK K)
            with_reducible refine wpQuiet_nil ?_
            intro _ hw'
            obtain ⟨⟨dq, osq⟩, hw''⟩ := hw'
            subst hw''
            have hbl := (below_regrown wr dq osq)
            clear p0q p1'
            generalize Sort.grow (redrawn wr dq) osq = w3 at *
            have HBB := Lib.hid (HB.out.trans (hbl.mono HB.out.size))
            clear hbl HB
            go_wp2_with fail
            go_roundw
            case rel => exact ⟨j + 1, by omega, by go_num, by rw [HT.out], HBB.out⟩
            case measure => simp [intOf]; omega
          rw [HGX.out] at hx1
          rcases pairOk_yes HOY.out with hy1 | ⟨d, hd5, hy1, _, _⟩
          · rw [HGY.out] at hy1
            have g1 : decide (x5 < 0) = false := decide_eq_false (by omega)
            have g1' : ¬ x5 < 0 := by omega
            have g2 : decide (y < 0) = true := decide_eq_true (by omega)
            have g2' : y < 0 := by omega
            have HT := Lib.hid (show swI (pst zs ps) xs k (swT (pst zs ps) xs k) (j + 1) = swI (pst zs ps) xs k (swT (pst zs ps) xs k) j from sw_no (swB_no (by rw [HGX.out, HGY.out]; exact Or.inr hy1)))
            generalize swI (pst zs ps) xs k (swT (pst zs ps) xs k) j = sn at *
            clear HGX HGY HOX HOY
            go_wp2_with fail
            have p0q := fun d0 os => cell_regrown p0' d0 os
            have p1' := fun d0 os => cell_regrown p1 d0 os
            clear p0' p1
            refine wp_region_quiet_below (by kernel_rfl) (by kernel_rfl) ?_
            repeat (
              with_reducible refine wpQuiet_step (fun K hK => ?_)
              go_simp
              refine hK _ ?_; clear hK K)
            with_reducible refine wpQuiet_nil ?_
            intro _ hw'
            obtain ⟨⟨dq, osq⟩, hw''⟩ := hw'
            subst hw''
            have hbl := (below_regrown wr dq osq)
            clear p0q p1'
            generalize Sort.grow (redrawn wr dq) osq = w3 at *
            have HBB := Lib.hid (HB.out.trans (hbl.mono HB.out.size))
            clear hbl HB
            go_wp2_with fail
            go_roundw
            case rel => exact ⟨j + 1, by omega, by go_num, by rw [HT.out], HBB.out⟩
            case measure => simp [intOf]; omega
          rw [HGY.out] at hy1
          subst hx1
          subst hy1
          have ha0 : (0 : Int) ≤ (a : Int) := Int.natCast_nonneg _
          have hd0 : (0 : Int) ≤ (d : Int) := Int.natCast_nonneg _
          have ham : (a : Int) < (m : Int) := by omega
          have hdm : (d : Int) < (m : Int) := by omega
          have HIS := Lib.hid (swB_is (D := (pst zs ps)) HGX.out HGY.out)
          have HSY := Lib.hid (fun h => sw_yes (D := (pst zs ps)) (xs := xs) (i := k) (j := j) (s := swT (pst zs ps) xs k) h)
          have HSN := Lib.hid (fun h => sw_no (D := (pst zs ps)) (xs := xs) (i := k) (j := j) (s := swT (pst zs ps) xs k) h)
          have CT := Lib.hid (fun (W : World) (hb : Below w.heap.size w W) => show ∃ b o, A = some ⟨b, o, none⟩ ∧ W.cell? ⟨b, o + k * 6, none⟩ = some (.int .i64 (fld 6 zs k 0)) ∧ W.cell? ⟨b, o + k * 6 + 1, none⟩ = some (.int .i64 (fld 6 zs k 1)) ∧ W.cell? ⟨b, o + k * 6 + 2, none⟩ = some (.int .i64 (fld 6 zs k 2)) ∧ W.cell? ⟨b, o + k * 6 + 3, none⟩ = some (.int .i64 (fld 6 zs k 3)) ∧ W.cell? ⟨b, o + k * 6 + 4, none⟩ = some (.int .i64 (fld 6 zs k 4)) ∧ W.cell? ⟨b, o + k * 6 + 5, none⟩ = some (.int .i64 (fld 6 zs k 5)) ∧ W.cell? ⟨b, o + j * 6, none⟩ = some (.int .i64 (fld 6 zs j 0)) ∧ W.cell? ⟨b, o + j * 6 + 1, none⟩ = some (.int .i64 (fld 6 zs j 1)) ∧ W.cell? ⟨b, o + j * 6 + 2, none⟩ = some (.int .i64 (fld 6 zs j 2)) ∧ W.cell? ⟨b, o + j * 6 + 3, none⟩ = some (.int .i64 (fld 6 zs j 3)) ∧ W.cell? ⟨b, o + j * 6 + 4, none⟩ = some (.int .i64 (fld 6 zs j 4)) ∧ W.cell? ⟨b, o + j * 6 + 5, none⟩ = some (.int .i64 (fld 6 zs j 5)) from by
            obtain ⟨b1, o1, hA6, -, a0, a1, a2, a3, a4, a5⟩ := cellsE (HR1.out.next hb) hlt
            obtain ⟨b1', o1', hA7, -, e0', e1', e2', e3', e4', e5'⟩ := cellsE (HR1.out.next hb) hjlt
            obtain ⟨rfl, rfl⟩ : b1 = b1' ∧ o1 = o1' := by rw [hA6] at hA7; injection hA7 with e; injection e with e1 e2; exact ⟨e1, e2⟩
            exact ⟨b1, o1, hA6, a0, a1, a2, a3, a4, a5, e0', e1', e2', e3', e4', e5'⟩)
          have CP := Lib.hid (fun (W : World) (hb : Below w.heap.size w W) => show ∃ b o, C = some ⟨b, o, none⟩ ∧ W.cell? ⟨b, o + a * 2, none⟩ = some (.int .i64 (fld 2 ps a 0)) ∧ W.cell? ⟨b, o + a * 2 + 1, none⟩ = some (.int .i64 (fld 2 ps a 1)) ∧ W.cell? ⟨b, o + d * 2, none⟩ = some (.int .i64 (fld 2 ps d 0)) ∧ W.cell? ⟨b, o + d * 2 + 1, none⟩ = some (.int .i64 (fld 2 ps d 1)) from by
            obtain ⟨b2, o2, hA8, -, q0, q1⟩ := asgs.cells2 (HR2.out.next hb) ha5
            obtain ⟨b2', o2', hA9, -, r0, r1⟩ := asgs.cells2 (HR2.out.next hb) hd5
            obtain ⟨rfl, rfl⟩ : b2 = b2' ∧ o2 = o2' := by rw [hA8] at hA9; injection hA9 with e; injection e with e1 e2; exact ⟨e1, e2⟩
            exact ⟨b2, o2, hA8, q0, q1, r0, r1⟩)
          have D1 := Lib.hid (fun w d0 os => Calls.regrown_of (show Calls Try.prog 45 #[.agg #[.int .i64 (fld 6 zs k 0), .int .i64 (fld 6 zs k 1), .int .i64 (fld 6 zs k 2), .int .i64 (fld 6 zs k 3), .int .i64 (fld 6 zs k 4), .int .i64 (fld 6 zs k 5)], .agg #[.int .i64 (fld 2 ps a 0), .int .i64 (fld 2 ps a 1)]] (Sort.grow (redrawn w d0) os) (fun e w' => e = .returned (.int .i64 (pst zs ps k a)) ∧ Below (Sort.grow (redrawn w d0) os).heap.size (Sort.grow (redrawn w d0) os) w') from asgs.distance15 (fld 6 zs k 0) (fld 6 zs k 1) (fld 6 zs k 2) (fld 6 zs k 3) (fld 6 zs k 4) (fld 6 zs k 5) (fld 2 ps a 0) (fld 2 ps a 1) (HPT.out k hlt) (HPP.out a ha5) (Sort.grow (redrawn w d0) os)))
          have bD1 := asgs.ds_in (HPT.out k hlt) (HPP.out a ha5)
          rw [asgs.ds_pst] at bD1
          have D2 := Lib.hid (fun w d0 os => Calls.regrown_of (show Calls Try.prog 45 #[.agg #[.int .i64 (fld 6 zs j 0), .int .i64 (fld 6 zs j 1), .int .i64 (fld 6 zs j 2), .int .i64 (fld 6 zs j 3), .int .i64 (fld 6 zs j 4), .int .i64 (fld 6 zs j 5)], .agg #[.int .i64 (fld 2 ps d 0), .int .i64 (fld 2 ps d 1)]] (Sort.grow (redrawn w d0) os) (fun e w' => e = .returned (.int .i64 (pst zs ps j d)) ∧ Below (Sort.grow (redrawn w d0) os).heap.size (Sort.grow (redrawn w d0) os) w') from asgs.distance15 (fld 6 zs j 0) (fld 6 zs j 1) (fld 6 zs j 2) (fld 6 zs j 3) (fld 6 zs j 4) (fld 6 zs j 5) (fld 2 ps d 0) (fld 2 ps d 1) (HPT.out j hjlt) (HPP.out d hd5) (Sort.grow (redrawn w d0) os)))
          have bD2 := asgs.ds_in (HPT.out j hjlt) (HPP.out d hd5)
          rw [asgs.ds_pst] at bD2
          have D3 := Lib.hid (fun w d0 os => Calls.regrown_of (show Calls Try.prog 45 #[.agg #[.int .i64 (fld 6 zs k 0), .int .i64 (fld 6 zs k 1), .int .i64 (fld 6 zs k 2), .int .i64 (fld 6 zs k 3), .int .i64 (fld 6 zs k 4), .int .i64 (fld 6 zs k 5)], .agg #[.int .i64 (fld 2 ps d 0), .int .i64 (fld 2 ps d 1)]] (Sort.grow (redrawn w d0) os) (fun e w' => e = .returned (.int .i64 (pst zs ps k d)) ∧ Below (Sort.grow (redrawn w d0) os).heap.size (Sort.grow (redrawn w d0) os) w') from asgs.distance15 (fld 6 zs k 0) (fld 6 zs k 1) (fld 6 zs k 2) (fld 6 zs k 3) (fld 6 zs k 4) (fld 6 zs k 5) (fld 2 ps d 0) (fld 2 ps d 1) (HPT.out k hlt) (HPP.out d hd5) (Sort.grow (redrawn w d0) os)))
          have bD3 := asgs.ds_in (HPT.out k hlt) (HPP.out d hd5)
          rw [asgs.ds_pst] at bD3
          have D4 := Lib.hid (fun w d0 os => Calls.regrown_of (show Calls Try.prog 45 #[.agg #[.int .i64 (fld 6 zs j 0), .int .i64 (fld 6 zs j 1), .int .i64 (fld 6 zs j 2), .int .i64 (fld 6 zs j 3), .int .i64 (fld 6 zs j 4), .int .i64 (fld 6 zs j 5)], .agg #[.int .i64 (fld 2 ps a 0), .int .i64 (fld 2 ps a 1)]] (Sort.grow (redrawn w d0) os) (fun e w' => e = .returned (.int .i64 (pst zs ps j a)) ∧ Below (Sort.grow (redrawn w d0) os).heap.size (Sort.grow (redrawn w d0) os) w') from asgs.distance15 (fld 6 zs j 0) (fld 6 zs j 1) (fld 6 zs j 2) (fld 6 zs j 3) (fld 6 zs j 4) (fld 6 zs j 5) (fld 2 ps a 0) (fld 2 ps a 1) (HPT.out j hjlt) (HPP.out a ha5) (Sort.grow (redrawn w d0) os)))
          have bD4 := asgs.ds_in (HPT.out j hjlt) (HPP.out a ha5)
          rw [asgs.ds_pst] at bD4
          generalize swI (pst zs ps) xs k (swT (pst zs ps) xs k) j = sn at *
          generalize fld 6 zs k 0 = u0 at *
          generalize fld 6 zs k 1 = u1 at *
          generalize fld 6 zs k 2 = u2 at *
          generalize fld 6 zs k 3 = u3 at *
          generalize fld 6 zs k 4 = u4 at *
          generalize fld 6 zs k 5 = u5 at *
          generalize fld 6 zs j 0 = t0 at *
          generalize fld 6 zs j 1 = t1 at *
          generalize fld 6 zs j 2 = t2 at *
          generalize fld 6 zs j 3 = t3 at *
          generalize fld 6 zs j 4 = t4 at *
          generalize fld 6 zs j 5 = t5 at *
          generalize fld 2 ps a 0 = v0 at *
          generalize fld 2 ps a 1 = v1 at *
          generalize fld 2 ps d 0 = r0 at *
          generalize fld 2 ps d 1 = r1 at *
          generalize pst zs ps k a = f1 at *
          generalize pst zs ps j d = f2 at *
          generalize pst zs ps k d = f3 at *
          generalize pst zs ps j a = f4 at *
          have g1 : decide ((a : Int) < 0) = false := decide_eq_false (by omega)
          have g1' : ¬ (a : Int) < 0 := by omega
          have g2 : decide ((d : Int) < 0) = false := decide_eq_false (by omega)
          have g2' : ¬ (d : Int) < 0 := by omega
          have e9 : IntKind.i64.wrap ((sn : Int) + 1) = (sn : Int) + 1 := IntWalk.i64_in _ (by omega)
          have e7 : IntKind.i64.wrap (f1 + f2) = f1 + f2 := IntWalk.i64_in _ (by omega)
          have e8 : IntKind.i64.wrap (f3 + f4) = f3 + f4 := IntWalk.i64_in _ (by omega)
          clear HGX HGY HOX HOY
          go_wp2_with fail
          have p0'' := fun d0 os => cell_regrown p0' d0 os
          have p1' := fun d0 os => cell_regrown p1 d0 os
          clear p0' p1
          refine wp_region_quiet_below (by kernel_rfl) (by kernel_rfl) ?_
          repeat (
            with_reducible refine wpQuiet_step (fun K hK => ?_)
            go_simp
            refine hK _ ?_; clear hK K)
          with_reducible refine wpQuiet_nil ?_
          intro _ hw'
          obtain ⟨⟨dq, osq⟩, hw''⟩ := hw'
          subst hw''
          have hbl := (below_regrown wr dq osq)
          clear p0'' p1'
          generalize Sort.grow (redrawn wr dq) osq = w3 at *
          have HBB := Lib.hid (HB.out.trans (hbl.mono HB.out.size))
          clear hbl HB
          obtain ⟨b1, o1, rfl, a0, a1, a2, a3, a4, a5, e0', e1', e2', e3', e4', e5'⟩ := CT.out w3 HBB.out
          obtain ⟨b2, o2, rfl, q0, q1, r0, r1⟩ := CP.out w3 HBB.out
          go_wp2_with fail
          have a0' := fun d0 os => cell_regrown a0 d0 os
          have a1' := fun d0 os => cell_regrown a1 d0 os
          have a2' := fun d0 os => cell_regrown a2 d0 os
          have a3' := fun d0 os => cell_regrown a3 d0 os
          have a4' := fun d0 os => cell_regrown a4 d0 os
          have a5' := fun d0 os => cell_regrown a5 d0 os
          have e0'' := fun d0 os => cell_regrown e0' d0 os
          have e1'' := fun d0 os => cell_regrown e1' d0 os
          have e2'' := fun d0 os => cell_regrown e2' d0 os
          have e3'' := fun d0 os => cell_regrown e3' d0 os
          have e4'' := fun d0 os => cell_regrown e4' d0 os
          have e5'' := fun d0 os => cell_regrown e5' d0 os
          have q0' := fun d0 os => cell_regrown q0 d0 os
          have q1' := fun d0 os => cell_regrown q1 d0 os
          have r0' := fun d0 os => cell_regrown r0 d0 os
          have r1' := fun d0 os => cell_regrown r1 d0 os
          clear a0 a1 a2 a3 a4 a5 e0' e1' e2' e3' e4' e5' q0 q1 r0 r1
          refine wp_region_quiet_below (by kernel_rfl) (by kernel_rfl) ?_
          repeat (
            with_reducible refine wpQuiet_step (fun K hK => ?_)
            go_simp
            first
              | (refine hK _ ?_; clear hK K)
              | (apply Exists.intro
                 refine ⟨fun _ => ?_, hK _ ?_⟩
                 (first
                   | (go_at_call 45; with_reducible exact D1.out _ _ _)
                   | (go_at_call 45; with_reducible exact D2.out _ _ _))
                 clear hK K))
          with_reducible refine wpQuiet_nil ?_
          intro _ hw'
          obtain ⟨⟨dq, osq⟩, hw''⟩ := hw'
          subst hw''
          have hbl := (below_regrown w3 dq osq)
          clear a0' a1' a2' a3' a4' a5' e0'' e1'' e2'' e3'' e4'' e5'' q0' q1' r0' r1'
          generalize Sort.grow (redrawn w3 dq) osq = w4 at *
          have HBC := Lib.hid (HBB.out.trans (hbl.mono HBB.out.size))
          clear hbl HBB
          obtain ⟨b1', o1', hA6, a0, a1, a2, a3, a4, a5, e0', e1', e2', e3', e4', e5'⟩ := CT.out w4 HBC.out
          obtain ⟨rfl, rfl⟩ : b1 = b1' ∧ o1 = o1' := by injection hA6 with e; injection e with e1 e2; exact ⟨e1, e2⟩
          obtain ⟨b2', o2', hA7, q0, q1, r0, r1⟩ := CP.out w4 HBC.out
          obtain ⟨rfl, rfl⟩ : b2 = b2' ∧ o2 = o2' := by injection hA7 with e; injection e with e1 e2; exact ⟨e1, e2⟩
          clear hA6 hA7 CT CP D1 D2
          go_wp2_with fail
          have a0' := fun d0 os => cell_regrown a0 d0 os
          have a1' := fun d0 os => cell_regrown a1 d0 os
          have a2' := fun d0 os => cell_regrown a2 d0 os
          have a3' := fun d0 os => cell_regrown a3 d0 os
          have a4' := fun d0 os => cell_regrown a4 d0 os
          have a5' := fun d0 os => cell_regrown a5 d0 os
          have e0'' := fun d0 os => cell_regrown e0' d0 os
          have e1'' := fun d0 os => cell_regrown e1' d0 os
          have e2'' := fun d0 os => cell_regrown e2' d0 os
          have e3'' := fun d0 os => cell_regrown e3' d0 os
          have e4'' := fun d0 os => cell_regrown e4' d0 os
          have e5'' := fun d0 os => cell_regrown e5' d0 os
          have q0' := fun d0 os => cell_regrown q0 d0 os
          have q1' := fun d0 os => cell_regrown q1 d0 os
          have r0' := fun d0 os => cell_regrown r0 d0 os
          have r1' := fun d0 os => cell_regrown r1 d0 os
          clear a0 a1 a2 a3 a4 a5 e0' e1' e2' e3' e4' e5' q0 q1 r0 r1
          refine wp_region_quiet_below (by kernel_rfl) (by kernel_rfl) ?_
          repeat (
            with_reducible refine wpQuiet_step (fun K hK => ?_)
            go_simp
            first
              | (refine hK _ ?_; clear hK K)
              | (apply Exists.intro
                 refine ⟨fun _ => ?_, hK _ ?_⟩
                 (first
                   | (go_at_call 45; with_reducible exact D3.out _ _ _)
                   | (go_at_call 45; with_reducible exact D4.out _ _ _))
                 clear hK K))
          with_reducible refine wpQuiet_nil ?_
          intro _ hw'
          obtain ⟨⟨dq, osq⟩, hw''⟩ := hw'
          subst hw''
          have hbl := (below_regrown w4 dq osq)
          clear a0' a1' a2' a3' a4' a5' e0'' e1'' e2'' e3'' e4'' e5'' q0' q1' r0' r1'
          generalize Sort.grow (redrawn w4 dq) osq = w5 at *
          have HBD := Lib.hid (HBC.out.trans (hbl.mono HBC.out.size))
          clear hbl HBC D3 D4
          by_cases hsb : f3 + f4 < f1 + f2
          · have HT := Lib.hid (HSY.out (by rw [HIS.out]; exact decide_eq_true hsb))
            have g9 : decide (f3 + f4 < f1 + f2) = true := decide_eq_true hsb
            clear HSN HSY HIS
            go_wp2_with fail
            go_roundw
            case rel => exact ⟨j + 1, by omega, by go_num, by rw [HT.out]; go_num, HBD.out⟩
            case measure => simp [intOf]; omega
          · have HT := Lib.hid (HSN.out (by rw [HIS.out]; exact decide_eq_false hsb))
            have g9 : decide (f3 + f4 < f1 + f2) = false := decide_eq_false hsb
            clear HSN HSY HIS
            go_wp2_with fail
            go_roundw
            case rel => exact ⟨j + 1, by omega, by go_num, by rw [HT.out], HBD.out⟩
            case measure => simp [intOf]; omega
        · obtain rfl : j = k := by omega
          have HT := Lib.hid HSZ.out
          clear hb
          go_wp2_with fail
          go_roundw
          case rel => exact ⟨j + 1, by omega, by go_num, by rw [HT.out], HB.out⟩
          case measure => simp [intOf]; omega
    · obtain rfl : k = e0 := by omega
      go_wp2_with fail
      go_ret2
      exact ⟨by rw [HV.out]; rfl, HBk.out⟩

end Go.Proofs.Ytedocpocfpopgaa.asgw
