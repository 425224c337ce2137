/- spec's l15Good, IsAssignment. -/
import Derived.Test.YtfigjfckelichaaGreatDoorAsgS
import Derived.Lib.QuietBelow
namespace Go.Proofs.YtfigjfckelichaaGreatDoor.asgu
open Go.RowKit Go.Proofs.YtfigjfckelichaaGreatDoor.ints Go.Proofs.YtfigjfckelichaaGreatDoor.lst Go.Proofs.YtfigjfckelichaaGreatDoor.in_ Go.Proofs.YtfigjfckelichaaGreatDoor.ats Go.Proofs.YtfigjfckelichaaGreatDoor.pos Go.Proofs.YtfigjfckelichaaGreatDoor.trk Go.Proofs.YtfigjfckelichaaGreatDoor.trkm Go.Proofs.YtfigjfckelichaaGreatDoor.trke Go.Proofs.YtfigjfckelichaaGreatDoor.intc Go.Proofs.YtfigjfckelichaaGreatDoor.asg

theorem rdI_take {w : World} {B n k : Nat} {A : Option Addr} {xs : List Int} (h : RdI w B A n xs) (hk : k ≤ n) : RdI w B A k (xs.take k) :=
  ⟨by rw [List.length_take, h.1]; omega, fun h0 => by
    obtain ⟨b, o, e, hb, hc⟩ := h.2 (by omega)
    refine ⟨b, o, e, hb, fun j x hx => hc j x ?_⟩
    have hj := (List.getElem?_eq_some_iff.1 hx).1
    rw [List.length_take] at hj
    rwa [List.getElem?_take, if_pos (by omega)] at hx⟩
theorem to_below {P : Program} {f : FuncId} {args : Array Value} {w : World} {v : Value} (h : Calls P f args w fun e w' => e = .returned v ∧ w = w') : Calls P f args w fun e w' => e = .returned v ∧ Below w.heap.size w w' :=
  h.mono fun _ _ ⟨a, b⟩ => ⟨a, b ▸ Below.refl _ _⟩
theorem to_below2 {P : Program} {f : FuncId} {args : Array Value} {w : World} {v : Value} (h : Calls P f args w fun e w' => e = .returned v ∧ w' = w) : Calls P f args w fun e w' => e = .returned v ∧ Below w.heap.size w w' :=
  h.mono fun _ _ ⟨a, b⟩ => ⟨a, b ▸ Below.refl _ _⟩
set_option maxRecDepth 100000 in
set_option maxHeartbeats 4000000 in
theorem good15 (zs ps xs : List Int) (g : Int) (A C E : Option Addr) (n c m cq e0 ce : Nat) (w : World) (hn : n ≤ 1048577) (hm : m ≤ 1048577) (he0 : e0 ≤ 1048577) (hce : e0 ≤ ce) (h1 : RdZ 6 w w.heap.size A n zs) (h2 : RdZ 2 w w.heap.size C m ps) (h3 : RdI w w.heap.size E e0 xs) :
    Calls Tryz.prog 68 #[.slice A n c, .slice C m cq, .int .i64 g, .slice E e0 ce] w fun e w' => e = .returned (.bool (agB zs n ps m g xs e0)) ∧ Below w.heap.size w w' := by
  have H1 := Lib.hid (asgs.asked15 zs ps g A C n c m cq w hn hm h1 h2)
  cases hq : akB zs n ps m g
  · have HE := Lib.hid (agB_ask (xs := xs) (c := e0) hq)
    rw [hq] at H1
    clear hq h1 h2 h3
    go_enter Tryz.func68, Tryz.ntmps68
    go_wp2_with fail
    refine H1.out.mono ?_
    rintro e w1 ⟨rfl, hb⟩
    have HB := Lib.hid hb
    clear hb
    go_wp2_with fail
    go_ret
    exact ⟨by rw [HE.out]; rfl, HB.out⟩
  rw [hq] at H1
  by_cases hlen : e0 = n
  · subst hlen
    have ge : ((e0 : Int) != (e0 : Int)) = false := by simp
    have HNO := Lib.hid (fun k (hk : k < e0) (h : prB (pst zs ps) g m xs (k + 1) = false) => agB_no (zs := zs) (ps := ps) (c := e0) (prB_cut h hk))
    have HYE := Lib.hid (fun h => agB_of (xs := xs) hq h)
    have HPT := Lib.hid (fun k hk => ak_track (i := k) hq hk)
    have HPP := Lib.hid (fun k hk => ak_plot (k := k) hq hk)
    have hm5 := (akB_yes hq).2.2.1
    have hg5 := (akB_yes hq).2.2.2
    have HR1 := Lib.hid h1
    have HR2 := Lib.hid h2
    have HR3 := Lib.hid h3
    have DSP := Lib.hid (asgs.ds_pst zs ps)
    clear hq h1 h2 h3
    go_enter Tryz.func68, Tryz.ntmps68
    go_wp2_with fail
    refine H1.out.mono ?_
    rintro e w1 ⟨rfl, hb⟩
    have HB1 := Lib.hid hb
    clear hb H1
    go_wp2_with fail
    go_loopw [9] (fun i wr => ∃ k : Nat, k ≤ e0 ∧ i = .int .i64 k ∧ Below w.heap.size w wr ∧ prB (pst zs ps) g m xs k = true) (fun i _ => e0 - (intOf i).toNat)
    case atStart => exact ⟨0, Nat.zero_le _, rfl, HB1.out, rfl⟩
    case round =>
      obtain ⟨k, hk, rfl, hb, hpr⟩ := hrel
      have HB := Lib.hid hb
      clear HB1
      by_cases hlt : k < e0
      · obtain ⟨b3, o3, x, rfl, l3, hx, p0⟩ := (HR3.out.next hb).at_ hlt
        have hlt2 : (k : Int) < (e0 : Int) := by omega
        have HGX := Lib.hid (getD_some hx)
        have HS := Lib.hid (show prB (pst zs ps) g m xs (k + 1) = pairOk (pst zs ps) g m xs k by rw [prB, hpr, Bool.true_and])
        have HNk := Lib.hid (HNO.out k hlt)
        have hk0 : (0 : Int) ≤ (k : Int) := Int.natCast_nonneg _
        have hkc : (k : Int) ≤ (ce : Int) := by omega
        have TC := Lib.hid (fun d0 os => Calls.regrown_of (to_below (asgs.has1 (xs.take k) x (some ⟨b3, o3, none⟩) k ce (Sort.grow (redrawn wr d0) os) (by omega) (rdI_take (HR3.out.next (hb.trans ((below_regrown wr d0 os).mono hb.size))) hk))))
        have TI := Lib.hid (fun w d0 os => Calls.regrown_of (to_below (l1In x (-1) ((m : Int) - 1) (Sort.grow (redrawn w d0) os))))
        have em : IntKind.i64.wrap ((m : Int) - 1) = (m : Int) - 1 := IntWalk.i64_in _ (by omega)
        clear hb hpr hx
        by_cases hx1 : -1 ≤ x ∧ x ≤ (m : Int) - 1
        case neg =>
          have HF := Lib.hid (HNk.out (HS.out.trans (pairOk_out (by rw [HGX.out]; omega))))
          rw [show isIn x (-1) ((m : Int) - 1) = false from decide_eq_false hx1] at TI
          clear HS HNk TC hx1
          go_wp2_with fail
          refine wp_region_quiet_below (by kernel_rfl) (by kernel_rfl) ?_
          repeat (
            with_reducible refine wpQuiet_step (fun K hK => ?_)
            go_simp
            first
              | (refine hK _ ?_; clear hK K)
              | (apply Exists.intro
                 refine ⟨fun _ => ?_, hK _ ?_⟩
                 (first
                   | (go_at_call 76; with_reducible exact TI.out _ _ _))
                 clear hK K))
          with_reducible refine wpQuiet_nil ?_
          intro _ hw'
          obtain ⟨⟨dq, osq⟩, hw''⟩ := hw'
          subst hw''
          have hbl := (below_regrown wr dq osq)
          generalize Sort.grow (redrawn wr dq) osq = w3 at *
          have HBB := Lib.hid (HB.out.trans (hbl.mono HB.out.size))
          clear hbl HB
          go_wp2_with fail
          go_ret
          exact ⟨by rw [HF.out]; rfl, HBB.out⟩
        rw [show isIn x (-1) ((m : Int) - 1) = true from decide_eq_true hx1] at TI
        by_cases hx2 : x < 0
        · have HT := Lib.hid (show prB (pst zs ps) g m xs (k + 1) = true from HS.out.trans (pairOk_none (by rw [HGX.out]; omega)))
          have g2 : ¬ 0 ≤ x := by omega
          have g3 : decide (0 ≤ x) = false := decide_eq_false g2
          clear HS HNk TC
          go_wp2_with fail
          refine wp_region_quiet_below (by kernel_rfl) (by kernel_rfl) ?_
          repeat (
            with_reducible refine wpQuiet_step (fun K hK => ?_)
            go_simp
            first
              | (refine hK _ ?_; clear hK K)
              | (apply Exists.intro
                 refine ⟨fun _ => ?_, hK _ ?_⟩
                 (first
                   | (go_at_call 76; with_reducible exact TI.out _ _ _))
                 clear hK K))
          with_reducible refine wpQuiet_nil ?_
          intro _ hw'
          obtain ⟨⟨dq, osq⟩, hw''⟩ := hw'
          subst hw''
          have hbl := (below_regrown wr dq osq)
          generalize Sort.grow (redrawn wr dq) osq = w3 at *
          have HBB := Lib.hid (HB.out.trans (hbl.mono HB.out.size))
          clear hbl HB
          go_wp2_with fail
          go_roundw
          case rel => exact ⟨k + 1, by omega, by go_num, HBB.out, HT.out⟩
          case measure => simp [intOf]; omega
        have hx3 : ¬ (m : Int) ≤ x := by omega
        obtain ⟨j, hj⟩ : ∃ j : Nat, x = (j : Int) := ⟨x.toNat, by omega⟩
        subst hj
        have hj5 : j < m := by omega
        have hjm : (j : Int) < (m : Int) := by omega
        have hj0 : (0 : Int) ≤ (j : Int) := Int.natCast_nonneg _
        cases hc : (xs.take k).contains (j : Int)
        case true =>
          have HF := Lib.hid (HNk.out (HS.out.trans (pairOk_has HGX.out hc)))
          rw [hc] at TC
          clear HS HNk hc
          go_wp2_with fail
          refine wp_region_quiet_below (by kernel_rfl) (by kernel_rfl) ?_
          repeat (
            with_reducible refine wpQuiet_step (fun K hK => ?_)
            go_simp
            first
              | (refine hK _ ?_; clear hK K)
              | (apply Exists.intro
                 refine ⟨fun _ => ?_, hK _ ?_⟩
                 (first
                   | (go_at_call 76; with_reducible exact TI.out _ _ _)
                   | (go_at_call 93; with_reducible exact TC.out _ _))
                 clear hK K))
          with_reducible refine wpQuiet_nil ?_
          intro _ hw'
          obtain ⟨⟨dq, osq⟩, hw''⟩ := hw'
          subst hw''
          have hbl := (below_regrown wr dq osq)
          generalize Sort.grow (redrawn wr dq) osq = w3 at *
          have HBB := Lib.hid (HB.out.trans (hbl.mono HB.out.size))
          clear hbl HB
          go_wp2_with fail
          go_ret
          exact ⟨by rw [HF.out]; rfl, HBB.out⟩
        have HCC := Lib.hid hc
        rw [hc] at TC
        obtain ⟨b1, o1, rfl, l1, a0, a1, a2, a3, a4, a5⟩ := cellsE (HR1.out.next HB.out) hlt
        obtain ⟨b2, o2, rfl, l2, q0, q1⟩ := asgs.cells2 (HR2.out.next HB.out) hj5
        have TD := Lib.hid (fun w d0 os => Calls.regrown_of (asgs.distance15 (fld 6 zs k 0) (fld 6 zs k 1) (fld 6 zs k 2) (fld 6 zs k 3) (fld 6 zs k 4) (fld 6 zs k 5) (fld 2 ps j 0) (fld 2 ps j 1) (HPT.out k hlt) (HPP.out j hj5) (Sort.grow (redrawn w d0) os)))
        rw [DSP.out k j] at TD
        have HFAR := Lib.hid (fun (h : ¬ pst zs ps k j ≤ g) => HNk.out (HS.out.trans (pairOk_far HGX.out h)))
        have HNEAR := Lib.hid (fun (h : pst zs ps k j ≤ g) => show prB (pst zs ps) g m xs (k + 1) = true from HS.out.trans (pairOk_some hj5 HGX.out HCC.out h))
        clear HS HNk hc HCC
        generalize fld 6 zs k 0 = u0 at *
        generalize fld 6 zs k 1 = u1 at *
        generalize fld 6 zs k 2 = u2 at *
        generalize fld 6 zs k 3 = u3 at *
        generalize fld 6 zs k 4 = u4 at *
        generalize fld 6 zs k 5 = u5 at *
        generalize fld 2 ps j 0 = v0 at *
        generalize fld 2 ps j 1 = v1 at *
        generalize pst zs ps k j = dd at *
        by_cases hd : dd ≤ g
        · have HT := Lib.hid (HNEAR.out hd)
          have g9 : ¬ g < dd := by omega
          clear HNEAR HFAR hd
          go_wp2_with fail
          have a0' := fun d0 os => cell_regrown a0 d0 os
          have a1' := fun d0 os => cell_regrown a1 d0 os
          have a2' := fun d0 os => cell_regrown a2 d0 os
          have a3' := fun d0 os => cell_regrown a3 d0 os
          have a4' := fun d0 os => cell_regrown a4 d0 os
          have a5' := fun d0 os => cell_regrown a5 d0 os
          have q0' := fun d0 os => cell_regrown q0 d0 os
          have q1' := fun d0 os => cell_regrown q1 d0 os
          clear a0 a1 a2 a3 a4 a5 q0 q1
          refine wp_region_quiet_below (by kernel_rfl) (by kernel_rfl) ?_
          repeat (
            with_reducible refine wpQuiet_step (fun K hK => ?_)
            go_simp
            first
              | (refine hK _ ?_; clear hK K)
              | (apply Exists.intro
                 refine ⟨fun _ => ?_, hK _ ?_⟩
                 (first
                   | (go_at_call 76; with_reducible exact TI.out _ _ _)
                   | (go_at_call 93; with_reducible exact TC.out _ _)
                   | (go_at_call 69; with_reducible exact TD.out _ _ _))
                 clear hK K))
          with_reducible refine wpQuiet_nil ?_
          intro _ hw'
          obtain ⟨⟨dq, osq⟩, hw''⟩ := hw'
          subst hw''
          have hbl := (below_regrown wr dq osq)
          clear a0' a1' a2' a3' a4' a5' q0' q1'
          generalize Sort.grow (redrawn wr dq) osq = w3 at *
          have HBB := Lib.hid (HB.out.trans (hbl.mono HB.out.size))
          clear hbl HB
          go_wp2_with fail
          go_roundw
          case rel => exact ⟨k + 1, by omega, by go_num, HBB.out, HT.out⟩
          case measure => simp [intOf]; omega
        · have HF := Lib.hid (HFAR.out hd)
          have g9 : g < dd := by omega
          clear HNEAR HFAR hd
          go_wp2_with fail
          have a0' := fun d0 os => cell_regrown a0 d0 os
          have a1' := fun d0 os => cell_regrown a1 d0 os
          have a2' := fun d0 os => cell_regrown a2 d0 os
          have a3' := fun d0 os => cell_regrown a3 d0 os
          have a4' := fun d0 os => cell_regrown a4 d0 os
          have a5' := fun d0 os => cell_regrown a5 d0 os
          have q0' := fun d0 os => cell_regrown q0 d0 os
          have q1' := fun d0 os => cell_regrown q1 d0 os
          clear a0 a1 a2 a3 a4 a5 q0 q1
          refine wp_region_quiet_below (by kernel_rfl) (by kernel_rfl) ?_
          repeat (
            with_reducible refine wpQuiet_step (fun K hK => ?_)
            go_simp
            first
              | (refine hK _ ?_; clear hK K)
              | (apply Exists.intro
                 refine ⟨fun _ => ?_, hK _ ?_⟩
                 (first
                   | (go_at_call 76; with_reducible exact TI.out _ _ _)
                   | (go_at_call 93; with_reducible exact TC.out _ _)
                   | (go_at_call 69; with_reducible exact TD.out _ _ _))
                 clear hK K))
          with_reducible refine wpQuiet_nil ?_
          intro _ hw'
          obtain ⟨⟨dq, osq⟩, hw''⟩ := hw'
          subst hw''
          have hbl := (below_regrown wr dq osq)
          clear a0' a1' a2' a3' a4' a5' q0' q1'
          generalize Sort.grow (redrawn wr dq) osq = w3 at *
          have HBB := Lib.hid (HB.out.trans (hbl.mono HB.out.size))
          clear hbl HB
          go_wp2_with fail
          go_ret
          exact ⟨by rw [HF.out]; rfl, HBB.out⟩
      · obtain rfl : k = e0 := by omega
        have HT := Lib.hid (HYE.out hpr)
        clear hb hpr
        go_wp2_with fail
        go_ret
        exact ⟨by rw [HT.out]; rfl, HB.out⟩
  · have HE := Lib.hid (agB_len (zs := zs) (ps := ps) (m := m) (g := g) (xs := xs) hlen)
    have ge : ((e0 : Int) != (n : Int)) = true := bne_iff_ne.mpr (by omega)
    clear hq h1 h2 h3 hlen
    go_enter Tryz.func68, Tryz.ntmps68
    go_wp2_with fail
    refine H1.out.mono ?_
    rintro e w1 ⟨rfl, hb⟩
    have HB := Lib.hid hb
    clear hb
    go_wp2_with fail
    go_ret
    exact ⟨by rw [HE.out]; rfl, HB.out⟩

end Go.Proofs.YtfigjfckelichaaGreatDoor.asgu
