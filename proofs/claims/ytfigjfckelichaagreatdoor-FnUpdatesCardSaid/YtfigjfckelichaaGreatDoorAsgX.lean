/- spec's l15Free, FreePlots, NearestAssignment. -/
import Derived.Test.YtfigjfckelichaaGreatDoorAsgU
import Derived.Test.YtfigjfckelichaaGreatDoorRws
namespace Go.Proofs.YtfigjfckelichaaGreatDoor.asgx
open Go.RowKit Go.Proofs.YtfigjfckelichaaGreatDoor.ints Go.Proofs.YtfigjfckelichaaGreatDoor.lst Go.Proofs.YtfigjfckelichaaGreatDoor.in_ Go.Proofs.YtfigjfckelichaaGreatDoor.ats Go.Proofs.YtfigjfckelichaaGreatDoor.pos Go.Proofs.YtfigjfckelichaaGreatDoor.trk Go.Proofs.YtfigjfckelichaaGreatDoor.trkm Go.Proofs.YtfigjfckelichaaGreatDoor.trke Go.Proofs.YtfigjfckelichaaGreatDoor.intc Go.Proofs.YtfigjfckelichaaGreatDoor.asg Go.Proofs.YtfigjfckelichaaGreatDoor.rws

set_option maxRecDepth 100000 in
set_option maxHeartbeats 4000000 in
theorem unpaired (xs : List Int) (C E : Option Addr) (m cq e0 ce : Nat) (w : World) (hm : m ≤ 1048577) (he0 : e0 ≤ 1048577) (h3 : RdI w w.heap.size E e0 xs) :
    Calls Tryz.prog 62 #[.slice C m cq, .slice E e0 ce] w fun e w' => ∃ v, e = .returned v ∧ w'.ownsRow w.heap.size 3 1 v (unT xs m).length (cellsI (unT xs m)) ∧ Below w.heap.size w w' := by
  obtain ⟨iI, hiI, hzI0, hzI1, hzI2⟩ := info_parts infoI
  have HC := Lib.hid (fun (k : Nat) (W : World) (hb : Below w.heap.size w W) => asgs.has1 xs (k : Int) E e0 ce W he0 (h3.next hb))
  have OE := Lib.hid (own_emptyZ w 3 1)
  have BE := Lib.hid ((Below.refl w.heap.size w).alloc (Nat.le_refl _) (.cells #[] 3))
  clear h3
  go_enter Tryz.func62, Tryz.ntmps62
  go_wp2_with fail
  go_loopw [5, 6] (fun v i wr => ∃ k : Nat, k ≤ m ∧ i = .int .i64 k ∧ wr.ownsRow w.heap.size 3 1 v (unT xs k).length (cellsI (unT xs k)) ∧ Below w.heap.size w wr) (fun _ i _ => m - (intOf i).toNat)
  case atStart => exact ⟨0, Nat.zero_le _, rfl, OE.out, BE.out⟩
  case round =>
    obtain ⟨k, hk, rfl, hO, hb⟩ := hrel
    clear OE BE
    obtain ⟨A5, c5, rfl⟩ := own_sliceZ hO
    have HLEN := Lib.hid (unT_le xs k)
    have HCk := Lib.hid (HC.out k wr hb)
    have CY := Lib.hid (fun h => un_yes (P := xs) (k := k) h)
    have CN := Lib.hid (fun h => un_no (P := xs) (k := k) h)
    have OK := Lib.hid hO
    have BK := Lib.hid hb
    have hwz := hb.size
    clear hO hb
    by_cases hlt : k < m
    · have hlt2 : (k : Int) < (m : Int) := by omega
      cases hc : xs.contains (k : Int)
      · have HT := Lib.hid (CN.out hc)
        rw [hc] at HCk
        have hlen := HLEN.out
        have O5 := Lib.hid (OK.out.alloc (.cells #[.int .i64 (k : Int)] 3))
        have B5 := Lib.hid (BK.out.alloc hwz (.cells #[.int .i64 (k : Int)] 3))
        clear hc CY CN
        generalize unT xs k = L at *
        go_wp2_with fail
        refine HCk.out.mono ?_
        rintro e w' ⟨rfl, rfl⟩
        go_wp2_with (at_builtin; refine wpList_append_any rfl (.tmp 18) (.tmp 20) 50 rfl w.heap.size 3 iI (.int .i64 0) 1 8 Tryz.underlying50 hiI hzI0 hzI1 hzI2 rfl (by decide) _ L.length (cellsI L) rfl O5.out ⟨wr.heap.size, 0, none⟩ 1 1 [.int .i64 (k : Int)] rfl rfl (cell_one_new _ _ _) (own_.one_cell _ rfl) (by unfold maxLen; omega) (by omega) (by rw [World.size_alloc]; omega) ?_; intro v6 w6 o6 g6 n6; obtain ⟨A6, c6, rfl⟩ := own_sliceZ o6)
        have O6 := Lib.hid (show w6.ownsRow w.heap.size 3 1 (.slice A6 (L.length + 1) c6) (unT xs (k + 1)).length (cellsI (unT xs (k + 1))) by rw [HT.out]; exact own_growI o6)
        have B6 := Lib.hid (B5.out.grown g6 B5.out.size (own_.row_ge O5.out))
        clear o6 g6 n6 O5 B5
        go_wp2_with fail
        go_roundw
        case rel => exact ⟨k + 1, by omega, by go_num, O6.out, B6.out⟩
        case measure => simp [intOf]; omega
      · have HT := Lib.hid (CY.out hc)
        rw [hc] at HCk
        clear hc CY CN
        go_wp2_with fail
        refine HCk.out.mono ?_
        rintro e w' ⟨rfl, rfl⟩
        go_wp2_with fail
        go_roundw
        case rel => exact ⟨k + 1, by omega, by go_num, by rw [HT.out]; exact OK.out, BK.out⟩
        case measure => simp [intOf]; omega
    · obtain rfl : k = m := by omega
      go_wp2_with fail
      go_ret
      exact ⟨_, rfl, OK.out, BK.out⟩

set_option maxRecDepth 100000 in
set_option maxHeartbeats 4000000 in
theorem nearestAssignment (zs ps : List Int) (g : Int) (A C : Option Addr) (n c m cq : Nat) (w : World) (hn : n ≤ 1048577) (hm : m ≤ 1048577) (h1 : RdZ 6 w w.heap.size A n zs) (h2 : RdZ 2 w w.heap.size C m ps) :
    Calls Tryz.prog 113 #[.slice A n c, .slice C m cq, .int .i64 g] w fun e w' => ∃ v, e = .returned (.tuple #[v, .bool (akB zs n ps m g)]) ∧ w'.ownsRow w.heap.size 3 1 v (neV zs n ps m g).length (cellsI (neV zs n ps m g)) ∧ Below w.heap.size w w' := by
  obtain ⟨iI, hiI, hzI0, hzI1, hzI2⟩ := info_parts infoI
  have OE := Lib.hid (own_emptyZ w 3 1)
  have BE := Lib.hid ((Below.refl w.heap.size w).alloc (Nat.le_refl _) (.cells #[] 3))
  have H1 := Lib.hid (fun W (hb : Below w.heap.size w W) => asgs.asked15 zs ps g A C n c m cq W hn hm (h1.next hb) (h2.next hb))
  cases hq : akB zs n ps m g
  · have HE := Lib.hid (neV_no hq)
    rw [hq] at H1
    clear hq h1 h2
    go_enter Tryz.func113, Tryz.ntmps113
    go_wp2_with fail
    refine (H1.out _ BE.out).mono ?_
    rintro e w1 ⟨rfl, hb⟩
    have O1 := Lib.hid (own_.own_below OE.out hb)
    have HB := Lib.hid (BE.out.trans (hb.mono BE.out.size))
    clear hb
    go_wp2_with fail
    go_ret2
    exact ⟨_, rfl, by rw [HE.out]; exact O1.out, HB.out⟩
  rw [hq] at H1
  have HE := Lib.hid (neV_yes hq)
  have hm5 := (akB_yes hq).2.2.1
  have hg5 := (akB_yes hq).2.2.2
  have hn6 := (tvB_yes (akB_yes hq).1).2
  have HPT := Lib.hid (fun k hk => ak_track (i := k) hq hk)
  have HPP := Lib.hid (fun k hk => ak_plot (k := k) hq hk)
  have HR1 := Lib.hid h1
  have HR2 := Lib.hid h2
  have NS := Lib.hid (fun k => show neT (pst zs ps) g m (k + 1) = neT (pst zs ps) g m k ++ [nrK (pst zs ps k) g (neT (pst zs ps) g m k) m] from rfl)
  clear hq h1 h2
  go_enter Tryz.func113, Tryz.ntmps113
  go_wp2_with fail
  refine (H1.out _ BE.out).mono ?_
  rintro e w1 ⟨rfl, hb⟩
  have O1 := Lib.hid (own_.own_below OE.out hb)
  have HB1 := Lib.hid (BE.out.trans (hb.mono BE.out.size))
  clear hb H1 OE BE
  go_wp2_with fail
  go_loopw [8, 9] (fun v i wr => ∃ k : Nat, k ≤ n ∧ i = .int .i64 k ∧ wr.ownsRow w.heap.size 3 1 v (neT (pst zs ps) g m k).length (cellsI (neT (pst zs ps) g m k)) ∧ Below w.heap.size w wr) (fun _ i _ => n - (intOf i).toNat)
  case atStart => exact ⟨0, Nat.zero_le _, rfl, O1.out, HB1.out⟩
  case round =>
    obtain ⟨k, hk, rfl, hO, hb⟩ := hrel
    obtain ⟨A5, c5, rfl⟩ := own_sliceZ hO
    have OK := Lib.hid hO
    have HB := Lib.hid hb
    clear hO hb HB1 O1
    by_cases hlt : k < n
    · have hlt2 : (k : Int) < (n : Int) := by omega
      have hk0 : (0 : Int) ≤ (k : Int) := Int.natCast_nonneg _
      have HLEN := Lib.hid (neT_length (pst zs ps) g m k)
      have HT := Lib.hid (NS.out k)
      have HPP2 := Lib.hid (nrK_in (pst zs ps k) g (neT (pst zs ps) g m k))
      have HDD := Lib.hid (fun j (hj : j < m) => (asgs.ds_pst zs ps k j ▸ asgs.ds_in (HPT.out k hlt) (HPP.out j hj) : 0 ≤ pst zs ps k j ∧ pst zs ps k j ≤ 19798))
      generalize neT (pst zs ps) g m k = L at *
      go_wp2_with fail
      go_loopw [10, 11] (fun b q wr => ∃ j : Nat, j ≤ m ∧ q = .int .i64 j ∧ b = .int .i64 (nrK (pst zs ps k) g L j) ∧ wr.ownsRow w.heap.size 3 1 (.slice A5 L.length c5) L.length (cellsI L) ∧ Below w.heap.size w wr) (fun _ q _ => m - (intOf q).toNat)
      case atStart => exact ⟨0, Nat.zero_le _, rfl, rfl, OK.out, HB.out⟩
      case round =>
        obtain ⟨j, hj, rfl, rfl, hO, hb⟩ := hrel
        have O2 := Lib.hid hO
        have HB2 := Lib.hid hb
        clear hO hb
        by_cases hjl : j < m
        · have hjl2 : (j : Int) < (m : Int) := by omega
          have hj0 : (0 : Int) ≤ (j : Int) := Int.natCast_nonneg _
          obtain ⟨b1, o1, rfl, l1, a0, a1, a2, a3, a4, a5⟩ := cellsE (HR1.out.next HB2.out) hlt
          obtain ⟨b2, o2, rfl, l2, q0, q1⟩ := asgs.cells2 (HR2.out.next HB2.out) hjl
          have TD := Lib.hid (fun w d0 os => Calls.regrown_of (show Calls Tryz.prog 69 #[.agg #[.int .i64 (fld 6 zs k 0), .int .i64 (fld 6 zs k 1), .int .i64 (fld 6 zs k 2), .int .i64 (fld 6 zs k 3), .int .i64 (fld 6 zs k 4), .int .i64 (fld 6 zs k 5)], .agg #[.int .i64 (fld 2 ps j 0), .int .i64 (fld 2 ps j 1)]] (Sort.grow (redrawn w d0) os) (fun e w' => e = .returned (.int .i64 (pst zs ps k j)) ∧ Below (Sort.grow (redrawn w d0) os).heap.size (Sort.grow (redrawn w d0) os) w') from asgs.distance15 (fld 6 zs k 0) (fld 6 zs k 1) (fld 6 zs k 2) (fld 6 zs k 3) (fld 6 zs k 4) (fld 6 zs k 5) (fld 2 ps j 0) (fld 2 ps j 1) (HPT.out k hlt) (HPP.out j hjl) (Sort.grow (redrawn w d0) os)))
          have hdd := HDD.out j hjl
          have HYj := Lib.hid (fun h1 h2 => nr_yes (D := (pst zs ps k)) (g := g) (P := L) (k := j) h1 h2)
          have HNj := Lib.hid (fun h => nr_no (D := (pst zs ps k)) (g := g) (P := L) (k := j) h)
          have HLT := Lib.hid (ls_lt (D := (pst zs ps k)) (g := g) (P := L) (k := j))
          have HPj := Lib.hid (HPP2.out j)
          generalize nrK (pst zs ps k) g L j = bj at *
          rcases HPj.out with hbn | ⟨d, hd1, hbd, _, hdg⟩
          · subst hbn
            generalize fld 6 zs k 0 = u0 at *
            generalize fld 6 zs k 1 = u1 at *
            generalize fld 6 zs k 2 = u2 at *
            generalize fld 6 zs k 3 = u3 at *
            generalize fld 6 zs k 4 = u4 at *
            generalize fld 6 zs k 5 = u5 at *
            generalize fld 2 ps j 0 = v0 at *
            generalize fld 2 ps j 1 = v1 at *
            generalize pst zs ps k j = dd at *
            go_wp2_with fail
            have a0' := fun d0 os => cell_regrown a0 d0 os
            have a1' := fun d0 os => cell_regrown a1 d0 os
            have a2' := fun d0 os => cell_regrown a2 d0 os
            have a3' := fun d0 os => cell_regrown a3 d0 os
            have a4' := fun d0 os => cell_regrown a4 d0 os
            have a5' := fun d0 os => cell_regrown a5 d0 os
            have q0' := fun d0 os => cell_regrown q0 d0 os
            have q1' := fun d0 os => cell_regrown q1 d0 os
            clear a0 a1 a2 a3 a4 a5 q0 q1
            refine wp_region_quiet_below (by kernel_rfl) (by kernel_rfl) ?_
            repeat (
              with_reducible refine wpQuiet_step (fun K hK => ?_)
              go_simp
              first
                | (refine hK _ ?_; clear hK K)
                | (apply Exists.intro
                   refine ⟨fun _ => ?_, hK _ ?_⟩
                   (first
                     | (go_at_call 69; with_reducible exact TD.out _ _ _))
                   clear hK K))
            with_reducible refine wpQuiet_nil ?_
            intro _ hw'
            obtain ⟨⟨dq, osq⟩, hw''⟩ := hw'
            subst hw''
            have hbl := (below_regrown wr dq osq)
            clear a0' a1' a2' a3' a4' a5' q0' q1'
            generalize Sort.grow (redrawn wr dq) osq = w3 at *
            have HB3 := Lib.hid (HB2.out.trans (hbl.mono HB2.out.size))
            have O3 := Lib.hid (own_.own_below O2.out hbl)
            have TC := Lib.hid (fun d0 os => Calls.regrown_of (asgu.to_below (asgs.has1 L (j : Int) A5 L.length c5 (Sort.grow (redrawn w3 d0) os) (by rw [HLEN.out]; omega) ((intc.rd_of_own O3.out rfl).next (below_regrown w3 d0 os)))))
            clear hbl HB2 O2 TD
            by_cases hd : dd ≤ g
            · have g1 : decide (dd ≤ g) = true := decide_eq_true hd
              cases hc : L.contains (j : Int)
              · have HV := Lib.hid (HYj.out hc (HLT.out.2 ⟨hd, Or.inl (by omega)⟩))
                rw [hc] at TC
                clear hc hd HYj HNj HLT
                go_wp2_with fail
                refine wp_region_quiet_below (by kernel_rfl) (by kernel_rfl) ?_
                repeat (
                  with_reducible refine wpQuiet_step (fun K hK => ?_)
                  go_simp
                  first
                    | (refine hK _ ?_; clear hK K)
                    | (apply Exists.intro
                       refine ⟨fun _ => ?_, hK _ ?_⟩
                       (first
                         | (go_at_call 93; with_reducible exact TC.out _ _))
                       clear hK K))
                with_reducible refine wpQuiet_nil ?_
                intro _ hw'
                obtain ⟨⟨dq, osq⟩, hw''⟩ := hw'
                subst hw''
                have hbl := (below_regrown w3 dq osq)
                generalize Sort.grow (redrawn w3 dq) osq = w4 at *
                have HB4 := Lib.hid (HB3.out.trans (hbl.mono HB3.out.size))
                have O4 := Lib.hid (own_.own_below O3.out hbl)
                clear hbl HB3 O3
                go_wp2_with fail
                go_roundw
                case rel => exact ⟨j + 1, by omega, by go_num, by rw [HV.out.1], O4.out, HB4.out⟩
                case measure => simp [intOf]; omega
              · have HV := Lib.hid (HNj.out (Or.inl hc))
                rw [hc] at TC
                clear hc hd HYj HNj HLT
                go_wp2_with fail
                refine wp_region_quiet_below (by kernel_rfl) (by kernel_rfl) ?_
                repeat (
                  with_reducible refine wpQuiet_step (fun K hK => ?_)
                  go_simp
                  first
                    | (refine hK _ ?_; clear hK K)
                    | (apply Exists.intro
                       refine ⟨fun _ => ?_, hK _ ?_⟩
                       (first
                         | (go_at_call 93; with_reducible exact TC.out _ _))
                       clear hK K))
                with_reducible refine wpQuiet_nil ?_
                intro _ hw'
                obtain ⟨⟨dq, osq⟩, hw''⟩ := hw'
                subst hw''
                have hbl := (below_regrown w3 dq osq)
                generalize Sort.grow (redrawn w3 dq) osq = w4 at *
                have HB4 := Lib.hid (HB3.out.trans (hbl.mono HB3.out.size))
                have O4 := Lib.hid (own_.own_below O3.out hbl)
                clear hbl HB3 O3
                go_wp2_with fail
                go_roundw
                case rel => exact ⟨j + 1, by omega, by go_num, by rw [HV.out.1], O4.out, HB4.out⟩
                case measure => simp [intOf]; omega
            · have g1 : decide (dd ≤ g) = false := decide_eq_false hd
              have HV := Lib.hid (HNj.out (Or.inr (by
                rcases Int.lt_or_le dd (lsT (pst zs ps k) g L j) with h | h
                · exact absurd (HLT.out.1 h).1 hd
                · exact h)))
              clear hd HYj HNj HLT
              go_wp2_with fail
              refine wp_region_quiet_below (by kernel_rfl) (by kernel_rfl) ?_
              repeat (
                with_reducible refine wpQuiet_step (fun K hK => ?_)
                go_simp
                refine hK _ ?_; clear hK K)
              with_reducible refine wpQuiet_nil ?_
              intro _ hw'
              obtain ⟨⟨dq, osq⟩, hw''⟩ := hw'
              subst hw''
              have hbl := (below_regrown w3 dq osq)
              generalize Sort.grow (redrawn w3 dq) osq = w4 at *
              have HB4 := Lib.hid (HB3.out.trans (hbl.mono HB3.out.size))
              have O4 := Lib.hid (own_.own_below O3.out hbl)
              clear hbl HB3 O3
              go_wp2_with fail
              go_roundw
              case rel => exact ⟨j + 1, by omega, by go_num, by rw [HV.out.1], O4.out, HB4.out⟩
              case measure => simp [intOf]; omega
          · subst hbd
            rw [Int.toNat_natCast] at HLT
            have hdm : d < m := by omega
            have hdm2 : (d : Int) < (m : Int) := by omega
            have hd0 : (0 : Int) ≤ (d : Int) := Int.natCast_nonneg _
            have hdn : ¬ (d : Int) < 0 := by omega
            have g0 : decide ((d : Int) < 0) = false := decide_eq_false hdn
            have TE := Lib.hid (fun w d0 os => Calls.regrown_of (show Calls Tryz.prog 69 #[.agg #[.int .i64 (fld 6 zs k 0), .int .i64 (fld 6 zs k 1), .int .i64 (fld 6 zs k 2), .int .i64 (fld 6 zs k 3), .int .i64 (fld 6 zs k 4), .int .i64 (fld 6 zs k 5)], .agg #[.int .i64 (fld 2 ps d 0), .int .i64 (fld 2 ps d 1)]] (Sort.grow (redrawn w d0) os) (fun e w' => e = .returned (.int .i64 (pst zs ps k d)) ∧ Below (Sort.grow (redrawn w d0) os).heap.size (Sort.grow (redrawn w d0) os) w') from asgs.distance15 (fld 6 zs k 0) (fld 6 zs k 1) (fld 6 zs k 2) (fld 6 zs k 3) (fld 6 zs k 4) (fld 6 zs k 5) (fld 2 ps d 0) (fld 2 ps d 1) (HPT.out k hlt) (HPP.out d hdm) (Sort.grow (redrawn w d0) os)))
            have HRD := Lib.hid (fun (W : World) (hb : Below w.heap.size w W) => asgs.cells2 (HR2.out.next hb) hdm)
            have HRK := Lib.hid (fun (W : World) (hb : Below w.heap.size w W) => cellsE (HR1.out.next hb) hlt)
            generalize fld 6 zs k 0 = u0 at *
            generalize fld 6 zs k 1 = u1 at *
            generalize fld 6 zs k 2 = u2 at *
            generalize fld 6 zs k 3 = u3 at *
            generalize fld 6 zs k 4 = u4 at *
            generalize fld 6 zs k 5 = u5 at *
            generalize fld 2 ps j 0 = v0 at *
            generalize fld 2 ps j 1 = v1 at *
            generalize fld 2 ps d 0 = r0 at *
            generalize fld 2 ps d 1 = r1 at *
            generalize pst zs ps k j = dd at *
            generalize pst zs ps k d = de at *
            go_wp2_with fail
            have a0' := fun d0 os => cell_regrown a0 d0 os
            have a1' := fun d0 os => cell_regrown a1 d0 os
            have a2' := fun d0 os => cell_regrown a2 d0 os
            have a3' := fun d0 os => cell_regrown a3 d0 os
            have a4' := fun d0 os => cell_regrown a4 d0 os
            have a5' := fun d0 os => cell_regrown a5 d0 os
            have q0' := fun d0 os => cell_regrown q0 d0 os
            have q1' := fun d0 os => cell_regrown q1 d0 os
            clear a0 a1 a2 a3 a4 a5 q0 q1
            refine wp_region_quiet_below (by kernel_rfl) (by kernel_rfl) ?_
            repeat (
              with_reducible refine wpQuiet_step (fun K hK => ?_)
              go_simp
              first
                | (refine hK _ ?_; clear hK K)
                | (apply Exists.intro
                   refine ⟨fun _ => ?_, hK _ ?_⟩
                   (first
                     | (go_at_call 69; with_reducible exact TD.out _ _ _))
                   clear hK K))
            with_reducible refine wpQuiet_nil ?_
            intro _ hw'
            obtain ⟨⟨dq, osq⟩, hw''⟩ := hw'
            subst hw''
            have hbl := (below_regrown wr dq osq)
            clear a0' a1' a2' a3' a4' a5' q0' q1'
            generalize Sort.grow (redrawn wr dq) osq = w3 at *
            have HB3 := Lib.hid (HB2.out.trans (hbl.mono HB2.out.size))
            have O3 := Lib.hid (own_.own_below O2.out hbl)
            have TC := Lib.hid (fun d0 os => Calls.regrown_of (asgu.to_below (asgs.has1 L (j : Int) A5 L.length c5 (Sort.grow (redrawn w3 d0) os) (by rw [HLEN.out]; omega) ((intc.rd_of_own O3.out rfl).next (below_regrown w3 d0 os)))))
            clear hbl HB2 O2 TD
            obtain ⟨b1', o1', hA6, -, a0, a1, a2, a3, a4, a5⟩ := HRK.out w3 HB3.out
            obtain ⟨rfl, rfl⟩ : b1 = b1' ∧ o1 = o1' := by injection hA6 with e; injection e with e1 e2; exact ⟨e1, e2⟩
            obtain ⟨b2', o2', hA7, -, q0, q1⟩ := HRD.out w3 HB3.out
            obtain ⟨rfl, rfl⟩ : b2 = b2' ∧ o2 = o2' := by injection hA7 with e; injection e with e1 e2; exact ⟨e1, e2⟩
            clear hA6 hA7 HRK HRD
            by_cases hd : dd ≤ g
            · have g1 : decide (dd ≤ g) = true := decide_eq_true hd
              cases hc : L.contains (j : Int)
              · by_cases hde : dd < de
                · have HV := Lib.hid (HYj.out hc (HLT.out.2 ⟨hd, Or.inr hde⟩))
                  have g2 : decide (dd < de) = true := decide_eq_true hde
                  rw [hc] at TC
                  clear hc hd hde HYj HNj HLT
                  go_wp2_with fail
                  have a0' := fun d0 os => cell_regrown a0 d0 os
                  have a1' := fun d0 os => cell_regrown a1 d0 os
                  have a2' := fun d0 os => cell_regrown a2 d0 os
                  have a3' := fun d0 os => cell_regrown a3 d0 os
                  have a4' := fun d0 os => cell_regrown a4 d0 os
                  have a5' := fun d0 os => cell_regrown a5 d0 os
                  have q0' := fun d0 os => cell_regrown q0 d0 os
                  have q1' := fun d0 os => cell_regrown q1 d0 os
                  clear a0 a1 a2 a3 a4 a5 q0 q1
                  refine wp_region_quiet_below (by kernel_rfl) (by kernel_rfl) ?_
                  repeat (
                    with_reducible refine wpQuiet_step (fun K hK => ?_)
                    go_simp
                    first
                      | (refine hK _ ?_; clear hK K)
                      | (apply Exists.intro
                         refine ⟨fun _ => ?_, hK _ ?_⟩
                         (first
                           | (go_at_call 93; with_reducible exact TC.out _ _)
                           | (go_at_call 69; with_reducible exact TE.out _ _ _))
                         clear hK K))
                  with_reducible refine wpQuiet_nil ?_
                  intro _ hw'
                  obtain ⟨⟨dq, osq⟩, hw''⟩ := hw'
                  subst hw''
                  have hbl := (below_regrown w3 dq osq)
                  clear a0' a1' a2' a3' a4' a5' q0' q1'
                  generalize Sort.grow (redrawn w3 dq) osq = w4 at *
                  have HB4 := Lib.hid (HB3.out.trans (hbl.mono HB3.out.size))
                  have O4 := Lib.hid (own_.own_below O3.out hbl)
                  clear hbl HB3 O3
                  go_wp2_with fail
                  go_roundw
                  case rel => exact ⟨j + 1, by omega, by go_num, by rw [HV.out.1], O4.out, HB4.out⟩
                  case measure => simp [intOf]; omega
                · have HV := Lib.hid (HNj.out (Or.inr (by
                    rcases Int.lt_or_le dd (lsT (pst zs ps k) g L j) with h | h
                    · rcases (HLT.out.1 h).2 with h | h <;> omega
                    · exact h)))
                  have g2 : decide (dd < de) = false := decide_eq_false hde
                  rw [hc] at TC
                  clear hc hd hde HYj HNj HLT
                  go_wp2_with fail
                  have a0' := fun d0 os => cell_regrown a0 d0 os
                  have a1' := fun d0 os => cell_regrown a1 d0 os
                  have a2' := fun d0 os => cell_regrown a2 d0 os
                  have a3' := fun d0 os => cell_regrown a3 d0 os
                  have a4' := fun d0 os => cell_regrown a4 d0 os
                  have a5' := fun d0 os => cell_regrown a5 d0 os
                  have q0' := fun d0 os => cell_regrown q0 d0 os
                  have q1' := fun d0 os => cell_regrown q1 d0 os
                  clear a0 a1 a2 a3 a4 a5 q0 q1
                  refine wp_region_quiet_below (by kernel_rfl) (by kernel_rfl) ?_
                  repeat (
                    with_reducible refine wpQuiet_step (fun K hK => ?_)
                    go_simp
                    first
                      | (refine hK _ ?_; clear hK K)
                      | (apply Exists.intro
                         refine ⟨fun _ => ?_, hK _ ?_⟩
                         (first
                           | (go_at_call 93; with_reducible exact TC.out _ _)
                           | (go_at_call 69; with_reducible exact TE.out _ _ _))
                         clear hK K))
                  with_reducible refine wpQuiet_nil ?_
                  intro _ hw'
                  obtain ⟨⟨dq, osq⟩, hw''⟩ := hw'
                  subst hw''
                  have hbl := (below_regrown w3 dq osq)
                  clear a0' a1' a2' a3' a4' a5' q0' q1'
                  generalize Sort.grow (redrawn w3 dq) osq = w4 at *
                  have HB4 := Lib.hid (HB3.out.trans (hbl.mono HB3.out.size))
                  have O4 := Lib.hid (own_.own_below O3.out hbl)
                  clear hbl HB3 O3
                  go_wp2_with fail
                  go_roundw
                  case rel => exact ⟨j + 1, by omega, by go_num, by rw [HV.out.1], O4.out, HB4.out⟩
                  case measure => simp [intOf]; omega
              · have HV := Lib.hid (HNj.out (Or.inl hc))
                rw [hc] at TC
                clear hc hd HYj HNj HLT a0 a1 a2 a3 a4 a5 q0 q1
                go_wp2_with fail
                refine wp_region_quiet_below (by kernel_rfl) (by kernel_rfl) ?_
                repeat (
                  with_reducible refine wpQuiet_step (fun K hK => ?_)
                  go_simp
                  first
                    | (refine hK _ ?_; clear hK K)
                    | (apply Exists.intro
                       refine ⟨fun _ => ?_, hK _ ?_⟩
                       (first
                         | (go_at_call 93; with_reducible exact TC.out _ _))
                       clear hK K))
                with_reducible refine wpQuiet_nil ?_
                intro _ hw'
                obtain ⟨⟨dq, osq⟩, hw''⟩ := hw'
                subst hw''
                have hbl := (below_regrown w3 dq osq)
                generalize Sort.grow (redrawn w3 dq) osq = w4 at *
                have HB4 := Lib.hid (HB3.out.trans (hbl.mono HB3.out.size))
                have O4 := Lib.hid (own_.own_below O3.out hbl)
                clear hbl HB3 O3
                go_wp2_with fail
                go_roundw
                case rel => exact ⟨j + 1, by omega, by go_num, by rw [HV.out.1], O4.out, HB4.out⟩
                case measure => simp [intOf]; omega
            · have g1 : decide (dd ≤ g) = false := decide_eq_false hd
              have HV := Lib.hid (HNj.out (Or.inr (by
                rcases Int.lt_or_le dd (lsT (pst zs ps k) g L j) with h | h
                · exact absurd (HLT.out.1 h).1 hd
                · exact h)))
              clear hd HYj HNj HLT a0 a1 a2 a3 a4 a5 q0 q1
              go_wp2_with fail
              refine wp_region_quiet_below (by kernel_rfl) (by kernel_rfl) ?_
              repeat (
                with_reducible refine wpQuiet_step (fun K hK => ?_)
                go_simp
                refine hK _ ?_; clear hK K)
              with_reducible refine wpQuiet_nil ?_
              intro _ hw'
              obtain ⟨⟨dq, osq⟩, hw''⟩ := hw'
              subst hw''
              have hbl := (below_regrown w3 dq osq)
              generalize Sort.grow (redrawn w3 dq) osq = w4 at *
              have HB4 := Lib.hid (HB3.out.trans (hbl.mono HB3.out.size))
              have O4 := Lib.hid (own_.own_below O3.out hbl)
              clear hbl HB3 O3
              go_wp2_with fail
              go_roundw
              case rel => exact ⟨j + 1, by omega, by go_num, by rw [HV.out.1], O4.out, HB4.out⟩
              case measure => simp [intOf]; omega
        · obtain rfl : j = m := by omega
          generalize nrK (pst zs ps k) g L j = r at *
          have hwz := HB2.out.size
          have hlen : L.length ≤ 6 := by have := HLEN.out; omega
          have O5 := Lib.hid (O2.out.alloc (.cells #[.int .i64 r] 3))
          have B5 := Lib.hid (HB2.out.alloc hwz (.cells #[.int .i64 r] 3))
          go_wp2_with (at_builtin; refine wpList_append_any rfl (.tmp 68) (.tmp 70) 50 rfl w.heap.size 3 iI (.int .i64 0) 1 8 Tryz.underlying50 hiI hzI0 hzI1 hzI2 rfl (by decide) _ L.length (cellsI L) rfl O5.out ⟨wr.heap.size, 0, none⟩ 1 1 [.int .i64 r] rfl rfl (cell_one_new _ _ _) (own_.one_cell _ rfl) (by unfold maxLen; omega) (by omega) (by rw [World.size_alloc]; omega) ?_; intro v6 w6 o6 g6 n6; obtain ⟨A6, c6, rfl⟩ := own_sliceZ o6)
          have O6 := Lib.hid (show w6.ownsRow w.heap.size 3 1 (.slice A6 (L.length + 1) c6) (neT (pst zs ps) g j (k + 1)).length (cellsI (neT (pst zs ps) g j (k + 1))) by rw [HT.out]; exact own_growI o6)
          have B6 := Lib.hid (B5.out.grown g6 B5.out.size (own_.row_ge O5.out))
          clear o6 g6 n6 O5 B5
          go_wp2_with fail
          go_roundw
          case rel => exact ⟨k + 1, by omega, by go_num, O6.out, B6.out⟩
          case measure => simp [intOf]; omega
    · obtain rfl : k = n := by omega
      go_wp2_with fail
      go_ret2
      exact ⟨_, rfl, by rw [HE.out]; exact OK.out, HB.out⟩

end Go.Proofs.YtfigjfckelichaaGreatDoor.asgx
