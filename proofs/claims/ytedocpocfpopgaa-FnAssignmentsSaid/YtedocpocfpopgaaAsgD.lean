/- impl's PlotDistance, AssignmentCost. -/
import Derived.Test.YtedocpocfpopgaaAsgC
namespace Go.Proofs.Ytedocpocfpopgaa.asgd
open Go.RowKit Go.Proofs.Ytedocpocfpopgaa.ints Go.Proofs.Ytedocpocfpopgaa.lst Go.Proofs.Ytedocpocfpopgaa.in_ Go.Proofs.Ytedocpocfpopgaa.ats Go.Proofs.Ytedocpocfpopgaa.pos Go.Proofs.Ytedocpocfpopgaa.trk Go.Proofs.Ytedocpocfpopgaa.trkm Go.Proofs.Ytedocpocfpopgaa.trke Go.Proofs.Ytedocpocfpopgaa.intc Go.Proofs.Ytedocpocfpopgaa.asg Go.Proofs.Ytedocpocfpopgaa.rws

set_option maxRecDepth 100000 in
set_option maxHeartbeats 4000000 in
theorem plotDistance (i s x y h l u v : Int) (w : World) :
    Calls Try.prog 14 #[.agg #[.int .i64 i, .int .i64 s, .int .i64 x, .int .i64 y, .int .i64 h, .int .i64 l], .agg #[.int .i64 u, .int .i64 v]] w fun e w' => e = .returned (.tuple #[.int .i64 (pdV i s x y h l u v), .bool (pdB i s x y h l u v)]) ∧ Below w.heap.size w w' := by
  have S0 := Lib.hid ((newS 28 #[.int .i64 i, .int .i64 s, .int .i64 x, .int .i64 y, .int .i64 h, .int .i64 l] w).alloc (.cells #[.int .i64 u, .int .i64 v] 30))
  have S1 := Lib.hid ((newS 28 #[.int .i64 i, .int .i64 s, .int .i64 x, .int .i64 y, .int .i64 h, .int .i64 l] w).next 30 #[.int .i64 u, .int .i64 v])
  rw [World.size_alloc] at S1
  have H1 := Lib.hid (fun W => trkv.isValidTrack i s x y h l W)
  have H2 := Lib.hid (fun W => posj.isValidPlace u v W)
  cases hp : tkB i s x y h l
  · have HV := Lib.hid (pd_no (i := i) (s := s) (x := x) (y := y) (h := h) (l := l) (u := u) (v := v) (by rw [hp]; rfl))
    rw [hp] at H1
    clear hp
    go_enter Try.func14, Try.ntmps14
    go_wp2_with fail
    generalize (w.alloc (.cells #[.int .i64 i, .int .i64 s, .int .i64 x, .int .i64 y, .int .i64 h, .int .i64 l] 28)).alloc (.cells #[.int .i64 u, .int .i64 v] 30) = W0 at *
    refine (H1.out W0).mono ?_
    rintro e W1 ⟨rfl, hb⟩
    have B1 := Lib.hid (S0.out.1.trans (hb.mono S0.out.1.size))
    clear hb
    go_wp2_with fail
    go_ret2
    exact ⟨by rw [HV.out.1, HV.out.2]; rfl, B1.out⟩
  rw [hp] at H1
  cases hq : pB u v
  · have HV := Lib.hid (pd_no (i := i) (s := s) (x := x) (y := y) (h := h) (l := l) (u := u) (v := v) (by rw [hp, hq]; rfl))
    rw [hq] at H2
    clear hp hq
    go_enter Try.func14, Try.ntmps14
    go_wp2_with fail
    generalize (w.alloc (.cells #[.int .i64 i, .int .i64 s, .int .i64 x, .int .i64 y, .int .i64 h, .int .i64 l] 28)).alloc (.cells #[.int .i64 u, .int .i64 v] 30) = W0 at *
    refine (H1.out W0).mono ?_
    rintro e W1 ⟨rfl, hb⟩
    have B1 := Lib.hid (S0.out.1.trans (hb.mono S0.out.1.size))
    have p0 : W1.cell? ⟨w.heap.size + 1, 0, none⟩ = some (.int .i64 u) := (S1.out.old hb).cell 0
    have p1 : W1.cell? ⟨w.heap.size + 1, 1, none⟩ = some (.int .i64 v) := (S1.out.old hb).cell 1
    have HB1 := Lib.hid hb
    clear hb
    go_wp2_with fail
    refine (H2.out W1).mono ?_
    rintro e W2 ⟨rfl, hb2⟩
    have HB2 := Lib.hid (HB1.out.trans (hb2.mono HB1.out.size))
    have B2 := Lib.hid (S0.out.1.trans (HB2.out.mono S0.out.1.size))
    clear p0 p1 hb2
    go_wp2_with fail
    go_ret2
    exact ⟨by rw [HV.out.1, HV.out.2]; rfl, B2.out⟩
  rw [hq] at H2
  have HV := Lib.hid (pd_yes hp hq)
  have H3 := Lib.hid (fun W => show Calls Try.prog 48 #[.agg #[.int .i64 i, .int .i64 s, .int .i64 x, .int .i64 y, .int .i64 h, .int .i64 l], .agg #[.int .i64 u, .int .i64 v]] W (fun e w' => e = .returned (.int .i64 (dst x y u v)) ∧ Below W.heap.size W w') from asga.trackDistance i s x y h l u v (tkB_yes hp).2.1 hq W)
  clear hp hq
  go_enter Try.func14, Try.ntmps14
  go_wp2_with fail
  generalize (w.alloc (.cells #[.int .i64 i, .int .i64 s, .int .i64 x, .int .i64 y, .int .i64 h, .int .i64 l] 28)).alloc (.cells #[.int .i64 u, .int .i64 v] 30) = W0 at *
  refine (H1.out W0).mono ?_
  rintro e W1 ⟨rfl, hb⟩
  have B1 := Lib.hid (S0.out.1.trans (hb.mono S0.out.1.size))
  have p0 : W1.cell? ⟨w.heap.size + 1, 0, none⟩ = some (.int .i64 u) := (S1.out.old hb).cell 0
  have p1 : W1.cell? ⟨w.heap.size + 1, 1, none⟩ = some (.int .i64 v) := (S1.out.old hb).cell 1
  have HB1 := Lib.hid hb
  clear hb
  go_wp2_with fail
  refine (H2.out W1).mono ?_
  rintro e W2 ⟨rfl, hb2⟩
  have HB2 := Lib.hid (HB1.out.trans (hb2.mono HB1.out.size))
  have B2 := Lib.hid (S0.out.1.trans (HB2.out.mono S0.out.1.size))
  clear p0 p1 hb2
  have t0 : W2.cell? ⟨w.heap.size, 0, none⟩ = some (.int .i64 i) := (S0.out.old HB2.out).cell 0
  have t1 : W2.cell? ⟨w.heap.size, 1, none⟩ = some (.int .i64 s) := (S0.out.old HB2.out).cell 1
  have t2 : W2.cell? ⟨w.heap.size, 2, none⟩ = some (.int .i64 x) := (S0.out.old HB2.out).cell 2
  have t3 : W2.cell? ⟨w.heap.size, 3, none⟩ = some (.int .i64 y) := (S0.out.old HB2.out).cell 3
  have t4 : W2.cell? ⟨w.heap.size, 4, none⟩ = some (.int .i64 h) := (S0.out.old HB2.out).cell 4
  have t5 : W2.cell? ⟨w.heap.size, 5, none⟩ = some (.int .i64 l) := (S0.out.old HB2.out).cell 5
  have p0 : W2.cell? ⟨w.heap.size + 1, 0, none⟩ = some (.int .i64 u) := (S1.out.old HB2.out).cell 0
  have p1 : W2.cell? ⟨w.heap.size + 1, 1, none⟩ = some (.int .i64 v) := (S1.out.old HB2.out).cell 1
  go_wp2_with fail
  refine (H3.out W2).mono ?_
  rintro e W3 ⟨rfl, hb3⟩
  have B3 := Lib.hid (B2.out.trans (hb3.mono B2.out.size))
  clear t0 t1 t2 t3 t4 t5 p0 p1 hb3
  go_wp2_with fail
  go_ret2
  exact ⟨by rw [HV.out.1, HV.out.2]; rfl, B3.out⟩

set_option maxRecDepth 100000 in
set_option maxHeartbeats 4000000 in
theorem assignmentCost (zs ps xs : List Int) (g : Int) (A C E : Option Addr) (n c m cq e0 ce : Nat) (w : World) (hn : n ≤ 1048577) (hm : m ≤ 1048577) (he0 : e0 ≤ 1048577) (hce : e0 ≤ ce) (h1 : RdZ 6 w w.heap.size A n zs) (h2 : RdZ 2 w w.heap.size C m ps) (h3 : RdI w w.heap.size E e0 xs) :
    Calls Try.prog 26 #[.slice A n c, .slice C m cq, .int .i64 g, .slice E e0 ce] w fun e w' => e = .returned (.tuple #[.int .i64 (csV zs n ps m g xs e0), .bool (agB zs n ps m g xs e0)]) ∧ Below w.heap.size w w' := by
  have H1 := Lib.hid (asgc.isAssignment zs ps xs g A C E n c m cq e0 ce w hn hm he0 hce h1 h2 h3)
  cases hq : agB zs n ps m g xs e0
  · have HE := Lib.hid (csV_no hq)
    rw [hq] at H1
    clear hq h1 h2 h3
    go_enter Try.func26, Try.ntmps26
    go_wp2_with fail
    refine H1.out.mono ?_
    rintro e w1 ⟨rfl, hb⟩
    have HB := Lib.hid hb
    clear hb
    go_wp2_with fail
    go_ret2
    exact ⟨by rw [HE.out]; rfl, HB.out⟩
  rw [hq] at H1
  obtain ⟨hak, rfl, hpr⟩ := agB_yes hq
  have HPT := Lib.hid (fun k hk => ak_track (i := k) hak hk)
  have HPP := Lib.hid (fun k hk => ak_plot (k := k) hak hk)
  have hm5 := (akB_yes hak).2.2.1
  have hg5 := (akB_yes hak).2.2.2
  have hn6 : e0 ≤ 6 := (tvB_yes (akB_yes hak).1).2
  have HPR := Lib.hid hpr
  have HR1 := Lib.hid h1
  have HR2 := Lib.hid h2
  have HR3 := Lib.hid h3
  have HQ := Lib.hid hq
  clear hq hak hpr h1 h2 h3
  have e5 : IntKind.i64.wrap ((e0 : Int) + (m : Int)) = (e0 : Int) + (m : Int) := IntWalk.i64_in _ (by omega)
  go_enter Try.func26, Try.ntmps26
  go_wp2_with fail
  refine H1.out.mono ?_
  rintro e w1 ⟨rfl, hb⟩
  have HB1 := Lib.hid hb
  clear hb H1
  go_wp2_with fail
  go_loopw [10, 11, 27] (fun s a i wr => ∃ k : Nat, k ≤ e0 ∧ i = .int .i64 k ∧ s = .int .i64 (sdT (pst zs ps) xs k) ∧ a = .int .i64 (((e0 + m : Nat) : Int) - 2 * (npT xs k : Int)) ∧ Below w.heap.size w wr) (fun _ _ i _ => e0 - (intOf i).toNat)
  case atStart => exact ⟨0, Nat.zero_le _, rfl, rfl, by simp [npT], HB1.out⟩
  case round =>
    obtain ⟨k, hk, rfl, rfl, rfl, hb⟩ := hrel
    have HB := Lib.hid hb
    by_cases hlt : k < e0
    · obtain ⟨b3, o3, x, rfl, l3, hx, p0⟩ := (HR3.out.next hb).at_ hlt
      have hlt2 : (k : Int) < (e0 : Int) := by omega
      have HGX := Lib.hid (getD_some hx)
      have HOK := Lib.hid (prB_at HPR.out hlt)
      have hk0 : (0 : Int) ≤ (k : Int) := Int.natCast_nonneg _
      have hin := sdT_le HPR.out (pst_nonneg zs ps) hg5 k hk
      have hnp := npT_le xs k
      clear hb hx
      rcases pairOk_yes HOK.out with hx1 | ⟨j, hj5, hx1, _, hd⟩
      · rw [HGX.out] at hx1
        have HT := Lib.hid (sd_none (D := (pst zs ps)) (xs := xs) (i := k) (by rw [HGX.out]; omega))
        have g1 : (x != -1) = false := by rw [hx1]; rfl
        generalize sdT (pst zs ps) xs k = sd at *
        generalize npT xs k = np at *
        clear HGX HOK
        go_wp2_with fail
        go_roundw
        case rel => exact ⟨k + 1, by omega, by go_num, by rw [HT.out.1], by rw [HT.out.2], HB.out⟩
        case measure => simp [intOf]; omega
      · rw [HGX.out] at hx1
        subst hx1
        have hj0 : (0 : Int) ≤ (j : Int) := Int.natCast_nonneg _
        have hjm : (j : Int) < (m : Int) := by omega
        obtain ⟨b1, o1, rfl, l1, a0, a1, a2, a3, a4, a5⟩ := cellsE (HR1.out.next HB.out) hlt
        obtain ⟨b2, o2, rfl, l2, q0, q1⟩ := asga.cells2 (HR2.out.next HB.out) hj5
        have TD := Lib.hid (fun w d0 os => Calls.regrown_of (show Calls Try.prog 48 #[.agg #[.int .i64 (fld 6 zs k 0), .int .i64 (fld 6 zs k 1), .int .i64 (fld 6 zs k 2), .int .i64 (fld 6 zs k 3), .int .i64 (fld 6 zs k 4), .int .i64 (fld 6 zs k 5)], .agg #[.int .i64 (fld 2 ps j 0), .int .i64 (fld 2 ps j 1)]] (Sort.grow (redrawn w d0) os) (fun e w' => e = .returned (.int .i64 (pst zs ps k j)) ∧ Below (Sort.grow (redrawn w d0) os).heap.size (Sort.grow (redrawn w d0) os) w') from asga.trackDistance (fld 6 zs k 0) (fld 6 zs k 1) (fld 6 zs k 2) (fld 6 zs k 3) (fld 6 zs k 4) (fld 6 zs k 5) (fld 2 ps j 0) (fld 2 ps j 1) (HPT.out k hlt) (HPP.out j hj5) (Sort.grow (redrawn w d0) os)))
        have HT := Lib.hid (sd_some (D := (pst zs ps)) HGX.out)
        have g1 : ((j : Int) != -1) = true := bne_iff_ne.mpr (by omega)
        have hdd := pst_nonneg zs ps k j
        generalize sdT (pst zs ps) xs k = sd at *
        generalize npT xs k = np at *
        generalize fld 6 zs k 0 = u0 at *
        generalize fld 6 zs k 1 = u1 at *
        generalize fld 6 zs k 2 = u2 at *
        generalize fld 6 zs k 3 = u3 at *
        generalize fld 6 zs k 4 = u4 at *
        generalize fld 6 zs k 5 = u5 at *
        generalize fld 2 ps j 0 = v0 at *
        generalize fld 2 ps j 1 = v1 at *
        generalize pst zs ps k j = dd at *
        have e1 : IntKind.i64.wrap (sd + dd) = sd + dd := IntWalk.i64_in _ (by omega)
        have e2 : IntKind.i64.wrap (((e0 + m : Nat) : Int) - 2 * (np : Int) - 2) = ((e0 + m : Nat) : Int) - 2 * (np : Int) - 2 := IntWalk.i64_in _ (by omega)
        generalize hal : ((e0 + m : Nat) : Int) - 2 * (np : Int) = al at *
        have HAL := Lib.hid hal
        clear HGX HOK hal
        go_wp2_with fail
        have a0' := fun d0 os => cell_regrown a0 d0 os
        have a1' := fun d0 os => cell_regrown a1 d0 os
        have a2' := fun d0 os => cell_regrown a2 d0 os
        have a3' := fun d0 os => cell_regrown a3 d0 os
        have a4' := fun d0 os => cell_regrown a4 d0 os
        have a5' := fun d0 os => cell_regrown a5 d0 os
        have q0' := fun d0 os => cell_regrown q0 d0 os
        have q1' := fun d0 os => cell_regrown q1 d0 os
        clear a0 a1 a2 a3 a4 a5 q0 q1
        refine wp_region_quiet_below (by kernel_rfl) (by kernel_rfl) ?_
        repeat (
          with_reducible refine wpQuiet_step (fun K hK => ?_)
          go_simp
          first
            | (refine hK _ ?_; clear hK K)
            | (apply Exists.intro
               refine ⟨fun _ => ?_, hK _ ?_⟩
               (first
                 | (go_at_call 48; with_reducible exact TD.out _ _ _))
               clear hK K))
        with_reducible refine wpQuiet_nil ?_
        intro _ hw'
        obtain ⟨⟨dq, osq⟩, hw''⟩ := hw'
        subst hw''
        have hbl := (below_regrown wr dq osq)
        clear a0' a1' a2' a3' a4' a5' q0' q1'
        generalize Sort.grow (redrawn wr dq) osq = w3 at *
        have HBB := Lib.hid (HB.out.trans (hbl.mono HB.out.size))
        clear hbl HB TD
        go_wp2_with fail
        go_roundw
        case rel => exact ⟨k + 1, by omega, by go_num, by rw [HT.out.1], by rw [HT.out.2, ← HAL.out]; congr 1; omega, HBB.out⟩
        case measure => simp [intOf]; omega
    · obtain rfl : k = e0 := by omega
      have hin := sdT_le HPR.out (pst_nonneg zs ps) hg5 k hk
      have hnp := npT_le xs k
      have HV := Lib.hid ((csV_yes HQ.out).trans (coT_is (pst zs ps) g (k + m) k xs))
      have hml := mul_in (t := k + m) hg5 (show k + m ≤ 11 by omega)
      have hml2 := mul_in (t := npT xs k) hg5 (show npT xs k ≤ 6 by omega)
      have hmm : (((k + m : Nat) : Int) - 2 * (npT xs k : Int)) * (g + 1) = (g + 1) * ((k + m : Nat) : Int) - 2 * ((g + 1) * (npT xs k : Int)) := by
        rw [Int.sub_mul, Int.mul_assoc, Int.mul_comm ((k + m : Nat) : Int), Int.mul_comm (npT xs k : Int)]
      generalize (g + 1) * ((k + m : Nat) : Int) = m1 at *
      generalize (g + 1) * (npT xs k : Int) = m2 at *
      have HU := Lib.hid (fun W => asga.unpairedCost (((k + m : Nat) : Int) - 2 * (npT xs k : Int)) g W (by rw [hmm]; omega) hg5)
      have e1 : IntKind.i64.wrap (sdT (pst zs ps) xs k + (((k + m : Nat) : Int) - 2 * (npT xs k : Int)) * (g + 1)) = sdT (pst zs ps) xs k + (((k + m : Nat) : Int) - 2 * (npT xs k : Int)) * (g + 1) := IntWalk.i64_in _ (by rw [hmm]; omega)
      clear hb hmm hml hml2 hin hnp
      generalize ((k + m : Nat) : Int) - 2 * (npT xs k : Int) = al at *
      generalize sdT (pst zs ps) xs k = sd at *
      generalize al * (g + 1) = ag at *
      go_wp2_with fail
      refine (HU.out wr).mono ?_
      rintro e w' ⟨rfl, rfl⟩
      go_wp2_with fail
      go_ret2
      exact ⟨by rw [HV.out]; rfl, HB.out⟩

end Go.Proofs.Ytedocpocfpopgaa.asgd
