/- spec's ScanTracks. -/
import Derived.Test.YtfigjfckelichaaGreatDoorTrkU
namespace Go.Proofs.YtfigjfckelichaaGreatDoor.trkx
open Go.RowKit Go.Proofs.YtfigjfckelichaaGreatDoor.ints Go.Proofs.YtfigjfckelichaaGreatDoor.lst Go.Proofs.YtfigjfckelichaaGreatDoor.in_ Go.Proofs.YtfigjfckelichaaGreatDoor.ats Go.Proofs.YtfigjfckelichaaGreatDoor.pos Go.Proofs.YtfigjfckelichaaGreatDoor.trk Go.Proofs.YtfigjfckelichaaGreatDoor.trkm Go.Proofs.YtfigjfckelichaaGreatDoor.trke Go.Proofs.YtfigjfckelichaaGreatDoor.intc Go.Proofs.YtfigjfckelichaaGreatDoor.rws Go.Proofs.YtfigjfckelichaaGreatDoor.trks Go.Proofs.YtfigjfckelichaaGreatDoor.trkt Go.Proofs.YtfigjfckelichaaGreatDoor.tailh Go.Proofs.YtfigjfckelichaaGreatDoor.trku
set_option linter.unusedSimpArgs false

/-- The hit that the inner loop has found among the first q ids. -/
def hvV (ids : List Int) (d : Int) (q : Nat) : Int := if idx ids d q < q then ((idx ids d q : Nat) : Int) else -1
theorem hv_yes {ids : List Int} {m q : Nat} {d : Int} (h : asB ids m = true) (hq : q < m) (hd : ids.getD q 0 = d) : hvV ids d (q + 1) = (q : Int) := by
  have hn : ¬ idx ids d q < q := fun hl => by
    have h1 := idx_at hl
    have h2 := asc_lt h _ q hl hq
    omega
  unfold hvV
  rw [idx, if_neg hn, if_pos hd, if_pos (by omega)]
theorem hv_no {ids : List Int} {q : Nat} {d : Int} (hd : ids.getD q 0 ≠ d) : hvV ids d (q + 1) = hvV ids d q := by
  unfold hvV
  by_cases hl : idx ids d q < q
  · rw [idx, if_pos hl, if_pos (by omega), if_pos hl]
  · rw [idx, if_neg hl, if_neg hd, if_neg (Nat.lt_irrefl _), if_neg hl]
theorem skB_cut {zs ids ps : List Int} {n m k : Nat} (h : skB zs n ids ps k = false) (hk : k ≤ m) : skB zs n ids ps m = false := by
  induction m with
  | zero => obtain rfl : k = 0 := by omega
            exact h
  | succ m ih =>
    rcases Nat.lt_or_ge k (m + 1) with h1 | h1
    · rw [skB, ih (by omega)]; rfl
    · obtain rfl : k = m + 1 := by omega
      exact h
theorem ch_yes {c : Nat → Option (List Int)} {k : Nat} {a b d f g q : Int} (h : c k = some (six a b d f g q)) : chL c (k + 1) = chL c k ++ six a b d f g q ∧ chN c (k + 1) = chN c k + 1 ∧ chD c (k + 1) = chD c k := by
  refine ⟨?_, ?_, ?_⟩
  · rw [chL, h]; rfl
  · rw [chN, h, if_neg (fun e => by injection e with e; cases e)]
  · rw [chD, h, if_neg (fun e => by injection e with e; cases e)]; rfl
theorem ch_drop {c : Nat → Option (List Int)} {k : Nat} (h : c k = some []) : chL c (k + 1) = chL c k ∧ chN c (k + 1) = chN c k ∧ chD c (k + 1) = chD c k + 1 := by
  refine ⟨?_, ?_, ?_⟩
  · rw [chL, h]; exact List.append_nil _
  · rw [chN, h, if_pos rfl]; rfl
  · rw [chD, h, if_pos rfl]
theorem own_setup {W : World} {B e s n tb : Nat} {v : Value} {xs : List Value} (h : W.ownsRow B e s v n xs) (hlt : ∀ g, v.ownBlock = some g → g < tb) (i : Nat) (u : Value) : (W.setCell ⟨tb, i, none⟩ u).ownsRow B e s v n xs :=
  own_kept_at h (grown_set (grown_refl _ (some tb)) i u) (fun g e e2 => by injection e2 with e2; have := hlt g e; omega)
theorem six_cells (a b d f g q : Int) : ∀ u ∈ [Value.int .i64 a, .int .i64 b, .int .i64 d, .int .i64 f, .int .i64 g, .int .i64 q], u.oneCell' = true := by
  intro u hu
  simp at hu
  rcases hu with rfl | rfl | rfl | rfl | rfl | rfl <;> rfl
theorem places_cells {ps : List Int} {w : World} {B q j : Nat} {D : Option Addr} (h : RdZ 2 w B D q ps) (hj : j < q) : ∃ b o, D = some ⟨b, o, none⟩ ∧ b < B ∧ w.cell? ⟨b, o + j * 2, none⟩ = some (.int .i64 (fld 2 ps j 0)) ∧ w.cell? ⟨b, o + j * 2 + 1, none⟩ = some (.int .i64 (fld 2 ps j 1)) := by
  obtain ⟨b, o, e, hb, hc⟩ := h.at_ hj
  exact ⟨b, o, e, hb, hc 0 (by omega), hc 1 (by omega)⟩

set_option maxRecDepth 100000 in
set_option maxHeartbeats 8000000 in
theorem scanTracks (zs ids ps : List Int) (A C D : Option Addr) (n cp m cq q c2 : Nat) (w : World) (hn : n ≤ 1048577) (hm : m ≤ 1048577) (hqn : q ≤ 1048577) (h1 : RdZ 6 w w.heap.size A n zs) (h2 : RdI w w.heap.size C m ids) (h4 : RdZ 2 w w.heap.size D q ps) :
    Calls Tryz.prog 61 #[.slice A n cp, .slice C m cq, .slice D q c2] w fun e w' => ∃ v, e = .returned (.tuple #[v, .int .i64 ((scD zs n ids m ps q : Nat) : Int), .bool (scB zs n ids m ps q)]) ∧ w'.ownsRow w.heap.size 25 6 v (scN zs n ids m ps q) (cellsI (scL zs n ids m ps q)) ∧ Below w.heap.size w w' := by
  have OE := Lib.hid (own_emptyZ w 25 6)
  have BE := Lib.hid ((Below.refl w.heap.size w).alloc (Nat.le_refl _) (.cells #[] 25))
  have HL := Lib.hid (fun (W : World) (hb : Below w.heap.size w W) => list14 zs A n cp W hn (h1.next hb))
  have HI := Lib.hid (fun (W : World) (hb : Below w.heap.size w W) => rising14 ids C m cq W hm (h2.next hb))
  have HNO := Lib.hid (fun (h : spB zs n ids m ps q = false) => show scB zs n ids m ps q = false ∧ scN zs n ids m ps q = 0 ∧ scL zs n ids m ps q = [] ∧ scD zs n ids m ps q = 0 from ⟨sc_no h, (scan_no (sc_no h)).2.1, (scan_no (sc_no h)).1, (scan_no (sc_no h)).2.2⟩)
  cases hz : tvB zs n
  · have HN := Lib.hid (HNO.out (by unfold spB; rw [hz]; rfl))
    rw [hz] at HL
    clear hz h1 h2 h4
    go_enter Tryz.func61, Tryz.ntmps61
    go_wp2_with fail
    refine (HL.out _ BE.out).mono ?_
    rintro e W1 ⟨rfl, hb⟩
    have O1 := Lib.hid (own_.own_below OE.out hb)
    have B1 := Lib.hid (BE.out.trans (hb.mono BE.out.size))
    clear hb
    go_wp2_with fail
    go_ret3
    exact ⟨_, by rw [HN.out.1, HN.out.2.2.2]; rfl, by rw [HN.out.2.1, HN.out.2.2.1]; exact O1.out, B1.out⟩
  rw [hz] at HL
  by_cases hmq : m = q
  · subst hmq
    have g0 : ((m : Int) != (m : Int)) = false := by simp
    cases hr : riB ids 1 999 m
    · have HN := Lib.hid (HNO.out (by unfold spB; rw [hr, Bool.false_and, Bool.and_false, Bool.and_false]))
      rw [hr] at HI
      clear hz hr h1 h2 h4
      go_enter Tryz.func61, Tryz.ntmps61
      go_wp2_with fail
      refine (HL.out _ BE.out).mono ?_
      rintro e W1 ⟨rfl, hb⟩
      have O1 := Lib.hid (own_.own_below OE.out hb)
      have B1 := Lib.hid (BE.out.trans (hb.mono BE.out.size))
      clear hb
      go_wp2_with fail
      refine (HI.out _ B1.out).mono ?_
      rintro e W2 ⟨rfl, hb⟩
      have O2 := Lib.hid (own_.own_below O1.out hb)
      have B2 := Lib.hid (B1.out.trans (hb.mono B1.out.size))
      clear hb
      go_wp2_with fail
      go_ret3
      exact ⟨_, by rw [HN.out.1, HN.out.2.2.2]; rfl, by rw [HN.out.2.1, HN.out.2.2.1]; exact O2.out, B2.out⟩
    rw [hr] at HI
    have HA := Lib.hid (riB_as hr)
    have HSK := Lib.hid (fun k (hk : k < m) (h : skB zs n ids ps (k + 1) = false) => HNO.out (show spB zs n ids m ps m = false by unfold spB; rw [skB_cut h hk, Bool.and_false, Bool.and_false, Bool.and_false]))
    have HSP := Lib.hid (fun (h : skB zs n ids ps m = true) => sc_is (show spB zs n ids m ps m = true by unfold spB; rw [hz, hr, h, decide_eq_true rfl]; rfl))
    have HF := Lib.hid (fun (d : Int) (W : World) (hb : Below w.heap.size w W) => find14 zs d A n cp W hn (h1.next hb))
    have HG := Lib.hid (fun x y W => poss.good7 x y W)
    have HZ := Lib.hid hz
    have HR1 := Lib.hid h1
    have HR2 := Lib.hid h2
    have HR4 := Lib.hid h4
    have HL2 := Lib.hid (fun (A : Option Addr) (c k : Nat) (zs : List Int) (W : World) (hk : k ≤ 6) h => list14 zs A k c W (show k ≤ 1048577 by omega) h)
    have hn6 := (tvB_yes hz).2
    obtain ⟨iT, hiT, hzT0, hzT1, hzT2⟩ := info_parts trke.infoS
    clear hz hr h1 h2 h4
    go_enter Tryz.func61, Tryz.ntmps61
    go_wp2_with fail
    refine (HL.out _ BE.out).mono ?_
    rintro e W1 ⟨rfl, hb⟩
    have O1 := Lib.hid (own_.own_below OE.out hb)
    have B1 := Lib.hid (BE.out.trans (hb.mono BE.out.size))
    clear hb
    go_wp2_with fail
    refine (HI.out _ B1.out).mono ?_
    rintro e W2 ⟨rfl, hb⟩
    have O2 := Lib.hid (own_.own_below O1.out hb)
    have B2 := Lib.hid (B1.out.trans (hb.mono B1.out.size))
    clear hb
    clear HL HI OE BE O1 B1
    go_wp2_with fail
    go_loopw [10] (fun i wr => ∃ k : Nat, k ≤ m ∧ i = .int .i64 k ∧ Below W2.heap.size W2 wr ∧ skB zs n ids ps k = true) (fun i _ => m - (intOf i).toNat)
    case atStart => exact ⟨0, Nat.zero_le _, rfl, Below.refl _ _, rfl⟩
    case round =>
      obtain ⟨k, hk, rfl, hb, hsk⟩ := hrel
      have O3 := Lib.hid (own_.own_below O2.out hb)
      have B3 := Lib.hid (B2.out.trans (hb.mono B2.out.size))
      have HB3 := Lib.hid hb
      by_cases hlt : k < m
      · have hlt2 : (k : Int) < (m : Int) := by omega
        obtain ⟨bi, oi, d, rfl, li, hx, pi⟩ := (HR2.out.next B3.out).at_ hlt
        obtain ⟨bp, op, rfl, lp, pp0, pp1⟩ := places_cells (HR4.out.next B3.out) hlt
        have hxd : ids.getD k 0 = d := by rw [List.getD_eq_getElem?_getD, hx]; rfl
        have HS := Lib.hid (show skB zs n ids ps (k + 1) = (hasId zs n d && pB (fld 2 ps k 0) (fld 2 ps k 1)) by
          rw [show skB zs n ids ps (k + 1) = (skB zs n ids ps k && (hasId zs n (ids.getD k 0) && pB (fld 2 ps k 0) (fld 2 ps k 1))) from rfl, hsk, Bool.true_and, hxd])
        have FD := Lib.hid (HF.out d wr B3.out)
        have GD := Lib.hid (HG.out (fld 2 ps k 0) (fld 2 ps k 1))
        have HSKk := Lib.hid (HSK.out k hlt)
        have HYN := Lib.hid (fun h => fd_no (zs := zs) (n := n) (d := d) h)
        have HYY := Lib.hid (fun h => fd_yes (zs := zs) (n := n) (d := d) h)
        clear hb hsk hxd hx HSP HF HG HSK HR1 HR2 HR4 HL2 HA HNO HZ
        generalize pB (fld 2 ps k 0) (fld 2 ps k 1) = pv at *
        generalize fld 2 ps k 0 = x at *
        generalize fld 2 ps k 1 = y at *
        cases hh : hasId zs n d
        · have HN := Lib.hid (HSKk.out (by rw [HS.out, hh]; rfl))
          rw [HYN.out hh] at FD
          clear hh HS HSKk HYN HYY
          go_wp2_with fail
          refine FD.out.mono ?_
          rintro e w' ⟨rfl, hw'⟩
          subst w'
          go_wp2_with fail
          go_ret3
          exact ⟨_, by rw [HN.out.1, HN.out.2.2.2]; rfl, by rw [HN.out.2.1, HN.out.2.2.1]; exact O3.out, B3.out⟩
        · obtain ⟨r, hr, -, hfd⟩ := HYY.out hh
          rw [hfd] at FD
          rw [hh, Bool.true_and] at HS
          have hr0 : ¬ (r : Int) < 0 := by omega
          clear hh HYN HYY hfd hr
          cases pv
          · have HN := Lib.hid (HSKk.out HS.out)
            clear HS HSKk
            go_wp2_with fail
            refine FD.out.mono ?_
            rintro e w' ⟨rfl, hw'⟩
            subst w'
            go_wp2_with fail
            refine (GD.out wr).mono ?_
            rintro e W4 ⟨rfl, hb⟩
            have O4 := Lib.hid (own_.own_below O3.out hb)
            have B4 := Lib.hid (B3.out.trans (hb.mono B3.out.size))
            clear hb pp0 pp1 pi
            go_wp2_with fail
            go_ret3
            exact ⟨_, by rw [HN.out.1, HN.out.2.2.2]; rfl, by rw [HN.out.2.1, HN.out.2.2.1]; exact O4.out, B4.out⟩
          · have HT := Lib.hid HS.out
            clear HS HSKk
            go_wp2_with fail
            refine FD.out.mono ?_
            rintro e w' ⟨rfl, hw'⟩
            subst w'
            go_wp2_with fail
            refine (GD.out wr).mono ?_
            rintro e W4 ⟨rfl, hb⟩
            have B4 := Lib.hid (HB3.out.trans (hb.mono HB3.out.size))
            clear hb pp0 pp1 pi
            go_wp2_with fail
            go_roundw
            case rel => exact ⟨k + 1, by omega, by go_num, B4.out, HT.out⟩
            case measure => simp [intOf]; omega
      · obtain rfl : k = m := by omega
        obtain ⟨hB, -, -, -⟩ := HSP.out hsk
        have HBB := Lib.hid hB
        clear hB hb HB3 hsk HSP HF HG HSK O2 B2
        rename World => W5
        go_wp2_with fail
        go_loopw [9, 11, 12] (fun v d i wr => ∃ i' : Nat, i' ≤ n ∧ i = .int .i64 i' ∧ d = .int .i64 ((chD (anyC zs ids k ps) i' : Nat) : Int) ∧ wr.ownsRow w.heap.size 25 6 v (chN (anyC zs ids k ps) i') (cellsI (chL (anyC zs ids k ps) i')) ∧ Below w.heap.size w wr) (fun _ _ i _ => n - (intOf i).toNat)
        case atStart => exact ⟨0, Nat.zero_le _, rfl, rfl, O3.out, B3.out⟩
        case round =>
          obtain ⟨i, hi, rfl, rfl, hO, hb⟩ := hrel
          rename World => W6
          have HO := Lib.hid hO
          have HB := Lib.hid hb
          have HLE := Lib.hid (chN_le (anyC zs ids k ps) i)
          clear hO hb O3 B3
          by_cases hlt : i < n
          · have hlt2 : (i : Int) < (n : Int) := by omega
            obtain ⟨b1, o1, rfl, l1, p0, p1, p2, p3, p4, p5⟩ := cellsE (HR1.out.next HB.out) hlt
            have HK := Lib.hid (show anyC zs ids k ps i = if idx ids (fld 6 zs i 0) k < k then some (six (fld 6 zs i 0) (sw (fld 6 zs i 4 + 1) 0) (fld 2 ps (idx ids (fld 6 zs i 0) k) 0) (fld 2 ps (idx ids (fld 6 zs i 0) k) 1) (fld 6 zs i 4 + 1) 0) else missC zs i from rfl)
            have hb4 := tkB_yes (tv_at HZ.out hlt)
            have HMO := Lib.hid (missOk_is HZ.out hlt)
            have HMR := Lib.hid (fun (h : missOk zs i = true) => missR_is HZ.out hlt h)
            have HMC := Lib.hid (fun (h : missOk zs i = true) => missC_yes h)
            have HMD := Lib.hid (fun (h : missOk zs i = false) => missC_no h)
            have HMY := Lib.hid (fun W h => miss14_yes (fld 6 zs i 0) (fld 6 zs i 1) (fld 6 zs i 2) (fld 6 zs i 3) (fld 6 zs i 4) (fld 6 zs i 5) W (by omega) (by omega) h)
            have HMN := Lib.hid (fun W h => miss14_no (fld 6 zs i 0) (fld 6 zs i 1) (fld 6 zs i 2) (fld 6 zs i 3) (fld 6 zs i 4) (fld 6 zs i 5) W h)
            have HHT := Lib.hid (fun x y W => hit14 (fld 6 zs i 0) (fld 6 zs i 1) (fld 6 zs i 2) (fld 6 zs i 3) (fld 6 zs i 4) (fld 6 zs i 5) x y W (by omega) (by omega))
            have HVY := Lib.hid (fun j (hj : j < k) (h : ids.getD j 0 = fld 6 zs i 0) => hv_yes (d := fld 6 zs i 0) HA.out hj h)
            have HVN := Lib.hid (fun j (h : ids.getD j 0 ≠ fld 6 zs i 0) => hv_no (q := j) h)
            have HIDX := Lib.hid (show hvV ids (fld 6 zs i 0) k = if idx ids (fld 6 zs i 0) k < k then ((idx ids (fld 6 zs i 0) k : Nat) : Int) else -1 from rfl)
            have CY := Lib.hid (fun a b d f g s => ch_yes (c := anyC zs ids k ps) (k := i) (a := a) (b := b) (d := d) (f := f) (g := g) (q := s))
            have CD := Lib.hid (fun h => ch_drop (c := anyC zs ids k ps) (k := i) h)
            clear HLE hb4
            have HLE := Lib.hid (chN_le (anyC zs ids k ps) i)
            clear HZ HA HBB HL2 HNO
            generalize chL (anyC zs ids k ps) i = L at *
            generalize chN (anyC zs ids k ps) i = N at *
            generalize chD (anyC zs ids k ps) i = DD at *
            generalize fld 6 zs i 1 = u1 at *
            generalize fld 6 zs i 2 = u2 at *
            generalize fld 6 zs i 3 = u3 at *
            generalize fld 6 zs i 4 = u4 at *
            generalize fld 6 zs i 5 = u5 at *
            generalize fld 6 zs i 0 = u0 at *
            go_wp2_with fail
            go_loopw [13, 14] (fun h j wx => ∃ r : Nat, r ≤ k ∧ j = .int .i64 r ∧ h = .int .i64 (hvV ids u0 r) ∧ Below W6.heap.size W6 wx) (fun _ j _ => k - (intOf j).toNat)
            case atStart => exact ⟨0, Nat.zero_le _, rfl, rfl, Below.refl _ _⟩
            case round =>
              obtain ⟨r, hr, rfl, rfl, hb⟩ := hrel
              rename World => W7
              have HB7 := Lib.hid hb
              by_cases hrk : r < k
              · have hrk2 : (r : Int) < (k : Int) := by omega
                obtain ⟨bi, oi, d, rfl, li, hx, pi⟩ := (HR2.out.next (HB.out.trans (hb.mono HB.out.size))).at_ hrk
                have pu := (hb.cell (p := ⟨b1, o1 + i * 6, none⟩) l1).trans p0
                have hxd : ids.getD r 0 = d := by rw [List.getD_eq_getElem?_getD, hx]; rfl
                have HVYr := Lib.hid (HVY.out r hrk)
                have HVNr := Lib.hid (HVN.out r)
                rw [hxd] at HVYr HVNr
                clear hxd hx hb HVY HVN p0 p1 p2 p3 p4 p5 HMO HMR HMC HMD HMY HMN HHT HIDX CY CD HK
                by_cases hd : d = u0
                · have g : (d == u0) = true := beq_iff_eq.mpr hd
                  have HT := Lib.hid (HVYr.out hd)
                  clear hd HVYr HVNr
                  generalize hvV ids u0 r = hv at *
                  go_wp2_with fail
                  go_quiet (fail)
                  go_wp2_with fail
                  go_roundw
                  case rel => exact ⟨r + 1, by omega, by go_num, by rw [HT.out], aid.below_drewN HB7.out _⟩
                  case measure => simp [intOf]; omega
                · have g : (d == u0) = false := beq_eq_false_iff_ne.mpr hd
                  have HT := Lib.hid (HVNr.out hd)
                  clear hd HVYr HVNr
                  generalize hvV ids u0 r = hv at *
                  go_wp2_with fail
                  go_quiet (fail)
                  go_wp2_with fail
                  go_roundw
                  case rel => exact ⟨r + 1, by omega, by go_num, by rw [HT.out], aid.below_drewN HB7.out _⟩
                  case measure => simp [intOf]; omega
              · obtain rfl : r = k := by omega
                have HO7 := Lib.hid (own_.own_below HO.out hb)
                have HBW := Lib.hid (HB.out.trans (hb.mono HB.out.size))
                have q0 := (hb.cell (p := ⟨b1, o1 + i * 6, none⟩) l1).trans p0
                have q1 := (hb.cell (p := ⟨b1, o1 + i * 6 + 1, none⟩) l1).trans p1
                have q2 := (hb.cell (p := ⟨b1, o1 + i * 6 + 2, none⟩) l1).trans p2
                have q3 := (hb.cell (p := ⟨b1, o1 + i * 6 + 3, none⟩) l1).trans p3
                have q4 := (hb.cell (p := ⟨b1, o1 + i * 6 + 4, none⟩) l1).trans p4
                have q5 := (hb.cell (p := ⟨b1, o1 + i * 6 + 5, none⟩) l1).trans p5
                clear hb p0 p1 p2 p3 p4 p5 HO HB HB7 HVY HVN
                by_cases hj : idx ids u0 r < r
                · rw [if_pos hj] at HK HIDX
                  rw [HIDX.out]
                  obtain ⟨bp, op, rfl, lp, pp0, pp1⟩ := places_cells (HR4.out.next HBW.out) hj
                  have HCY := Lib.hid (CY.out _ _ _ _ _ _ HK.out)
                  have HH := Lib.hid (HHT.out (fld 2 ps (idx ids u0 r) 0) (fld 2 ps (idx ids u0 r) 1))
                  clear HMO HMR HMC HMD HMY HMN HHT CY CD HK HIDX
                  generalize fld 2 ps (idx ids u0 r) 0 = x at *
                  generalize fld 2 ps (idx ids u0 r) 1 = y at *
                  generalize idx ids u0 r = j at *
                  generalize sw (u4 + 1) 0 = t at *
                  generalize u4 + 1 = hq4 at *
                  have hj0 : (0 : Int) ≤ (j : Int) := Int.natCast_nonneg _
                  have hj2 : (j : Int) < (r : Int) := by omega
                  have l1' : b1 < W7.heap.size := World.block_lt_of_cell? _ _ q0
                  have lp' : bp < W7.heap.size := World.block_lt_of_cell? _ _ pp0
                  go_upto_region 20 with fail
                  obtain ⟨A5, c5, rfl⟩ := own_sliceZ HO7.out
                  have LTB := Lib.hid (own_row_lt HO7.out)
                  have OT := Lib.hid (HO7.out.alloc (.cells #[.int .i64 0, .int .i64 0, .int .i64 0, .int .i64 0, .int .i64 0, .int .i64 0] 25))
                  have TB := Lib.hid (newS 25 #[.int .i64 0, .int .i64 0, .int .i64 0, .int .i64 0, .int .i64 0, .int .i64 0] W7)
                  have BT := Lib.hid (HBW.out.alloc HBW.out.size (.cells #[.int .i64 0, .int .i64 0, .int .i64 0, .int .i64 0, .int .i64 0, .int .i64 0] 25))
                  have LW := Lib.hid HBW.out.size
                  have CS := Lib.hid (show ∀ (cs : Array Value) (WZ : World), AtS 25 cs W7 WZ W7.heap.size → (World.cell? WZ ⟨b1, o1 + i * 6, none⟩ = some (.int .i64 u0) ∧ World.cell? WZ ⟨b1, o1 + i * 6 + 1, none⟩ = some (.int .i64 u1) ∧ World.cell? WZ ⟨b1, o1 + i * 6 + 2, none⟩ = some (.int .i64 u2) ∧ World.cell? WZ ⟨b1, o1 + i * 6 + 3, none⟩ = some (.int .i64 u3) ∧ World.cell? WZ ⟨b1, o1 + i * 6 + 4, none⟩ = some (.int .i64 u4) ∧ World.cell? WZ ⟨b1, o1 + i * 6 + 5, none⟩ = some (.int .i64 u5) ∧ World.cell? WZ ⟨bp, op + j * 2, none⟩ = some (.int .i64 x) ∧ World.cell? WZ ⟨bp, op + j * 2 + 1, none⟩ = some (.int .i64 y)) from fun cs WZ hzz =>
                    have hz := hzz.1
                    ⟨(hz.cell l1').trans q0, (hz.cell (p := ⟨b1, o1 + i * 6 + 1, none⟩) l1').trans q1, (hz.cell (p := ⟨b1, o1 + i * 6 + 2, none⟩) l1').trans q2, (hz.cell (p := ⟨b1, o1 + i * 6 + 3, none⟩) l1').trans q3, (hz.cell (p := ⟨b1, o1 + i * 6 + 4, none⟩) l1').trans q4, (hz.cell (p := ⟨b1, o1 + i * 6 + 5, none⟩) l1').trans q5, (hz.cell lp').trans pp0, (hz.cell (p := ⟨bp, op + j * 2 + 1, none⟩) lp').trans pp1⟩)
                  go_upto_region 21 with fail
                  generalize W7.alloc (.cells #[.int .i64 0, .int .i64 0, .int .i64 0, .int .i64 0, .int .i64 0, .int .i64 0] 25) = V0 at *
                  generalize htb : W7.heap.size = tb at *
                  have HTB := Lib.hid htb
                  clear htb q0 q1 q2 q3 q4 q5 pp0 pp1
                  have HSd := Lib.hid (CS.out _ V0.drew TB.out.drew)
                  refine wp_region_tail (S := fun w' => World.cell? w' ⟨b1, o1 + i * 6, none⟩ = some (.int .i64 u0) ∧ World.cell? w' ⟨b1, o1 + i * 6 + 1, none⟩ = some (.int .i64 u1) ∧ World.cell? w' ⟨b1, o1 + i * 6 + 2, none⟩ = some (.int .i64 u2) ∧ World.cell? w' ⟨b1, o1 + i * 6 + 3, none⟩ = some (.int .i64 u3) ∧ World.cell? w' ⟨b1, o1 + i * 6 + 4, none⟩ = some (.int .i64 u4) ∧ World.cell? w' ⟨b1, o1 + i * 6 + 5, none⟩ = some (.int .i64 u5) ∧ World.cell? w' ⟨bp, op + j * 2, none⟩ = some (.int .i64 x) ∧ World.cell? w' ⟨bp, op + j * 2 + 1, none⟩ = some (.int .i64 y)) 9 (by kernel_rfl) HSd.out (fun hHeld => ?_)
                  try simp only [Act.put, List.getElem_toArray, List.getElem_cons_succ, List.getElem_cons_zero, List.setIfInBounds_toArray, List.set_cons_succ, List.set_cons_zero]
                  refine wpAnyE_take (i := 0) (v := ?vq0) rfl (by decide +kernel) (fun _ _ _ h => h) (Or.inl ⟨by kernel_rfl, ?hq0⟩) (by assumption) ?rq0
                  case hq0 =>
                    intro wS hSw
                    obtain ⟨h0_, h1_, h2_, h3_, h4_, h5_, h6_, h7_⟩ := hSw
                    go_simp
                    try with_reducible rfl
                  try simp only [Act.put, List.getElem_toArray, List.getElem_cons_succ, List.getElem_cons_zero, List.setIfInBounds_toArray, List.set_cons_succ, List.set_cons_zero]
                  refine wpAnyE_take (i := 1) (v := ?vq1) rfl (by decide +kernel) (fun _ _ _ h => h) (Or.inl ⟨by kernel_rfl, ?hq1⟩) (by assumption) ?rq1
                  case hq1 =>
                    intro wS hSw
                    obtain ⟨h0_, h1_, h2_, h3_, h4_, h5_, h6_, h7_⟩ := hSw
                    go_simp
                    try with_reducible rfl
                  try simp only [Act.put, List.getElem_toArray, List.getElem_cons_succ, List.getElem_cons_zero, List.setIfInBounds_toArray, List.set_cons_succ, List.set_cons_zero]
                  refine wpAnyE_take (i := 2) (v := ?vq2) rfl (by decide +kernel) (fun _ _ _ h => h) (Or.inl ⟨by kernel_rfl, ?hq2⟩) (by assumption) ?rq2
                  case hq2 =>
                    intro wS hSw
                    obtain ⟨h0_, h1_, h2_, h3_, h4_, h5_, h6_, h7_⟩ := hSw
                    go_simp
                    try with_reducible rfl
                  try simp only [Act.put, List.getElem_toArray, List.getElem_cons_succ, List.getElem_cons_zero, List.setIfInBounds_toArray, List.set_cons_succ, List.set_cons_zero]
                  refine wpAnyE_take (i := 3) (v := ?vq3) rfl (by decide +kernel) (fun _ _ _ h => h) (Or.inl ⟨by kernel_rfl, ?hq3⟩) (by assumption) ?rq3
                  case hq3 =>
                    intro wS hSw
                    obtain ⟨h0_, h1_, h2_, h3_, h4_, h5_, h6_, h7_⟩ := hSw
                    go_simp
                    try with_reducible rfl
                  try simp only [Act.put, List.getElem_toArray, List.getElem_cons_succ, List.getElem_cons_zero, List.setIfInBounds_toArray, List.set_cons_succ, List.set_cons_zero]
                  refine wpAnyE_take (i := 4) (v := ?vq4) rfl (by decide +kernel) (fun _ _ _ h => h) (Or.inl ⟨by kernel_rfl, ?hq4⟩) (by assumption) ?rq4
                  case hq4 =>
                    intro wS hSw
                    obtain ⟨h0_, h1_, h2_, h3_, h4_, h5_, h6_, h7_⟩ := hSw
                    go_simp
                    try with_reducible rfl
                  try simp only [Act.put, List.getElem_toArray, List.getElem_cons_succ, List.getElem_cons_zero, List.setIfInBounds_toArray, List.set_cons_succ, List.set_cons_zero]
                  refine wpAnyE_take (i := 5) (v := ?vq5) rfl (by decide +kernel) (fun _ _ _ h => h) (Or.inl ⟨by kernel_rfl, ?hq5⟩) (by assumption) ?rq5
                  case hq5 =>
                    intro wS hSw
                    obtain ⟨h0_, h1_, h2_, h3_, h4_, h5_, h6_, h7_⟩ := hSw
                    go_simp
                    try with_reducible rfl
                  try simp only [Act.put, List.getElem_toArray, List.getElem_cons_succ, List.getElem_cons_zero, List.setIfInBounds_toArray, List.set_cons_succ, List.set_cons_zero]
                  refine wpAnyE_take (i := 6) (v := ?vq6) rfl (by decide +kernel) (fun _ _ _ h => h) (Or.inl ⟨by kernel_rfl, ?hq6⟩) (by assumption) ?rq6
                  case hq6 =>
                    intro wS hSw
                    obtain ⟨h0_, h1_, h2_, h3_, h4_, h5_, h6_, h7_⟩ := hSw
                    go_simp
                    try with_reducible rfl
                  try simp only [Act.put, List.getElem_toArray, List.getElem_cons_succ, List.getElem_cons_zero, List.setIfInBounds_toArray, List.set_cons_succ, List.set_cons_zero]
                  refine wpAnyE_take (i := 7) (v := ?vq7) rfl (by decide +kernel) (fun _ _ _ h => h) (Or.inl ⟨by kernel_rfl, ?hq7⟩) (by assumption) ?rq7
                  case hq7 =>
                    intro wS hSw
                    obtain ⟨h0_, h1_, h2_, h3_, h4_, h5_, h6_, h7_⟩ := hSw
                    go_simp
                    try with_reducible rfl
                  try simp only [Act.put, List.getElem_toArray, List.getElem_cons_succ, List.getElem_cons_zero, List.setIfInBounds_toArray, List.set_cons_succ, List.set_cons_zero]
                  refine wpAnyE_ready (rs := [8]) (by kernel_rfl) (by simp) ?_
                  refine AllReadyE.cons (i := 8) rfl (by decide) (fun K hK => ?_) AllReadyE.nil
                  go_simp
                  refine (HH.out _).mono ?_
                  rintro e W8 ⟨rfl, hb⟩
                  go_simp
                  have O8 := Lib.hid (own_.own_below (show V0.drew.ownsRow w.heap.size 25 6 (.slice A5 N c5) N (cellsI L) from OT.out) hb)
                  have T8 := Lib.hid (TB.out.drew.old hb)
                  have B8 := Lib.hid (BT.out.drew.trans (hb.mono BT.out.drew.size))
                  clear hb
                  refine hK.out _ _ (CS.out _ W8 T8.out) (fun hHeld => ?_)
                  clear hK K
                  try simp only [Act.put, List.getElem_toArray, List.getElem_cons_succ, List.getElem_cons_zero, List.setIfInBounds_toArray, List.set_cons_succ, List.set_cons_zero]
                  refine wpAnyE_ready (rs := [9]) (by kernel_rfl) (by simp) ?_
                  refine AllReadyE.last (i := 9) rfl rfl (fun K hK => ?_)
                  have s0 : W8.cell? ⟨tb, 0, none⟩ = some (.int .i64 0) := T8.out.cell 0
                  have r0 : W8.frozen? ⟨tb, 0, none⟩ = false := T8.out.frozen 0
                  have s1 : W8.cell? ⟨tb, 1, none⟩ = some (.int .i64 0) := T8.out.cell 1
                  have r1 : W8.frozen? ⟨tb, 1, none⟩ = false := T8.out.frozen 1
                  have s2 : W8.cell? ⟨tb, 2, none⟩ = some (.int .i64 0) := T8.out.cell 2
                  have r2 : W8.frozen? ⟨tb, 2, none⟩ = false := T8.out.frozen 2
                  have s3 : W8.cell? ⟨tb, 3, none⟩ = some (.int .i64 0) := T8.out.cell 3
                  have r3 : W8.frozen? ⟨tb, 3, none⟩ = false := T8.out.frozen 3
                  have s4 : W8.cell? ⟨tb, 4, none⟩ = some (.int .i64 0) := T8.out.cell 4
                  have r4 : W8.frozen? ⟨tb, 4, none⟩ = false := T8.out.frozen 4
                  have s5 : W8.cell? ⟨tb, 5, none⟩ = some (.int .i64 0) := T8.out.cell 5
                  have r5 : W8.frozen? ⟨tb, 5, none⟩ = false := T8.out.frozen 5
                  go_simp
                  refine hK.out _ _ ?_
                  clear hK K
                  try simp only [Act.put, List.getElem_toArray, List.getElem_cons_succ, List.getElem_cons_zero, List.setIfInBounds_toArray, List.set_cons_succ, List.set_cons_zero]
                  refine wpAnyE_done (by kernel_rfl) ?_ _
                  try simp only [List.getElem_toArray, List.getElem_cons_succ, List.getElem_cons_zero, List.setIfInBounds_toArray, List.set_cons_succ, List.set_cons_zero]
                  have OC := Lib.hid (own_setup (own_setup (own_setup (own_setup (own_setup (own_setup O8.out LTB.out 0 (.int .i64 u0)) LTB.out 1 (.int .i64 t)) LTB.out 2 (.int .i64 x)) LTB.out 3 (.int .i64 y)) LTB.out 4 (.int .i64 hq4)) LTB.out 5 (.int .i64 0))
                  have TC := Lib.hid (show AtS 25 #[.int .i64 u0, .int .i64 t, .int .i64 x, .int .i64 y, .int .i64 hq4, .int .i64 0] W7 ((((((W8.setCell ⟨tb, 0, none⟩ (.int .i64 u0)).setCell ⟨tb, 1, none⟩ (.int .i64 t)).setCell ⟨tb, 2, none⟩ (.int .i64 x)).setCell ⟨tb, 3, none⟩ (.int .i64 y)).setCell ⟨tb, 4, none⟩ (.int .i64 hq4)).setCell ⟨tb, 5, none⟩ (.int .i64 0)) tb from ((((((T8.out.set 0 (.int .i64 u0)).set 1 (.int .i64 t)).set 2 (.int .i64 x)).set 3 (.int .i64 y)).set 4 (.int .i64 hq4)).set 5 (.int .i64 0)))
                  have BC := Lib.hid ((((((B8.out.setCell (p := ⟨tb, 0, none⟩) LW.out (.int .i64 u0)).setCell (p := ⟨tb, 1, none⟩) LW.out (.int .i64 t)).setCell (p := ⟨tb, 2, none⟩) LW.out (.int .i64 x)).setCell (p := ⟨tb, 3, none⟩) LW.out (.int .i64 y)).setCell (p := ⟨tb, 4, none⟩) LW.out (.int .i64 hq4)).setCell (p := ⟨tb, 5, none⟩) LW.out (.int .i64 0))
                  clear s0 r0 s1 r1 s2 r2 s3 r3 s4 r4 s5 r5 O8 T8 B8 OT TB BT CS
                  generalize (((((W8.setCell ⟨tb, 0, none⟩ (.int .i64 u0)).setCell ⟨tb, 1, none⟩ (.int .i64 t)).setCell ⟨tb, 2, none⟩ (.int .i64 x)).setCell ⟨tb, 3, none⟩ (.int .i64 y)).setCell ⟨tb, 4, none⟩ (.int .i64 hq4)).setCell ⟨tb, 5, none⟩ (.int .i64 0) = W9 at *
                  have r0 : W9.cell? ⟨tb, 0, none⟩ = some (.int .i64 u0) := TC.out.cell 0
                  have rf0 := TC.out.frozen 0
                  have r1 : W9.cell? ⟨tb, 1, none⟩ = some (.int .i64 t) := TC.out.cell 1
                  have rf1 := TC.out.frozen 1
                  have r2 : W9.cell? ⟨tb, 2, none⟩ = some (.int .i64 x) := TC.out.cell 2
                  have rf2 := TC.out.frozen 2
                  have r3 : W9.cell? ⟨tb, 3, none⟩ = some (.int .i64 y) := TC.out.cell 3
                  have rf3 := TC.out.frozen 3
                  have r4 : W9.cell? ⟨tb, 4, none⟩ = some (.int .i64 hq4) := TC.out.cell 4
                  have rf4 := TC.out.frozen 4
                  have r5 : W9.cell? ⟨tb, 5, none⟩ = some (.int .i64 0) := TC.out.cell 5
                  have rf5 := TC.out.frozen 5
                  have hN := HLE.out
                  have hOs := OC.out
                  go_wp2_with (at_builtin; refine wpList_append_any rfl (.tmp 100) (.tmp 102) 33 rfl w.heap.size 25 iT (.agg #[.int .i64 0, .int .i64 0, .int .i64 0, .int .i64 0, .int .i64 0, .int .i64 0]) 6 48 Tryz.underlying33 hiT hzT0 hzT1 hzT2 rfl (by decide) _ N (cellsI L) rfl (OC.out.alloc (.cells #[.int .i64 u0, .int .i64 t, .int .i64 x, .int .i64 y, .int .i64 hq4, .int .i64 0] 25)) ⟨W9.heap.size, 0, none⟩ 1 1 [.int .i64 u0, .int .i64 t, .int .i64 x, .int .i64 y, .int .i64 hq4, .int .i64 0] rfl rfl (cells_new W9 25 #[.int .i64 u0, .int .i64 t, .int .i64 x, .int .i64 y, .int .i64 hq4, .int .i64 0]) (six_cells _ _ _ _ _ _) (by unfold maxLen; omega) (by omega) (by rw [World.size_alloc]; have := BC.out.size; omega) ?_; intro v9 w9 o9 g9 n9; obtain ⟨A9, c9, rfl⟩ := own_sliceZ o9)
                  have B9 := Lib.hid ((BC.out.alloc BC.out.size (.cells #[.int .i64 u0, .int .i64 t, .int .i64 x, .int .i64 y, .int .i64 hq4, .int .i64 0] 25)).grown g9 (by have := BC.out.size; rw [World.size_alloc]; omega) (own_.row_ge (OC.out.alloc (.cells #[.int .i64 u0, .int .i64 t, .int .i64 x, .int .i64 y, .int .i64 hq4, .int .i64 0] 25))))
                  have O9 := Lib.hid (show w9.ownsRow w.heap.size 25 6 (.slice A9 (N + 1) c9) (N + 1) (cellsI (chL (anyC zs ids r ps) (i + 1))) by rw [HCY.out.1]; unfold cellsI at o9 ⊢; rw [List.map_append]; exact o9)
                  clear o9 g9 n9 hOs
                  clear r0 rf0 r1 rf1 r2 rf2 r3 rf3 r4 rf4 r5 rf5
                  go_wp2_with fail
                  go_roundw
                  case rel => exact ⟨i + 1, by omega, by go_num, by rw [HCY.out.2.2], by rw [HCY.out.2.1]; exact O9.out, B9.out⟩
                  case measure => simp [intOf]; omega
                · rw [if_neg hj] at HK HIDX
                  rw [HIDX.out]
                  clear hj HIDX HHT
                  cases ho : missOk zs i
                  · have HMOi := HMO.out
                    rw [ho] at HMOi
                    rw [HMD.out ho] at HK
                    have HCD := Lib.hid (CD.out HK.out)
                    have HH := Lib.hid (fun W => HMN.out W HMOi.symm)
                    clear HMOi HMO HMR HMC HMD HMY HMN CY CD HK ho
                    go_upto_region 20 with fail
                    obtain ⟨A5, c5, rfl⟩ := own_sliceZ HO7.out
                    have LTB := Lib.hid (own_row_lt HO7.out)
                    have OT := Lib.hid (HO7.out.alloc (.cells #[.int .i64 0, .int .i64 0, .int .i64 0, .int .i64 0, .int .i64 0, .int .i64 0] 25))
                    have TB := Lib.hid (newS 25 #[.int .i64 0, .int .i64 0, .int .i64 0, .int .i64 0, .int .i64 0, .int .i64 0] W7)
                    have BT := Lib.hid (HBW.out.alloc HBW.out.size (.cells #[.int .i64 0, .int .i64 0, .int .i64 0, .int .i64 0, .int .i64 0, .int .i64 0] 25))
                    have LW := Lib.hid HBW.out.size
                    have x0 := (TB.out.1.cell (p := ⟨b1, o1 + i * 6, none⟩) (World.block_lt_of_cell? _ _ q0)).trans q0
                    have x1 := (TB.out.1.cell (p := ⟨b1, o1 + i * 6 + 1, none⟩) (World.block_lt_of_cell? _ _ q1)).trans q1
                    have x2 := (TB.out.1.cell (p := ⟨b1, o1 + i * 6 + 2, none⟩) (World.block_lt_of_cell? _ _ q2)).trans q2
                    have x3 := (TB.out.1.cell (p := ⟨b1, o1 + i * 6 + 3, none⟩) (World.block_lt_of_cell? _ _ q3)).trans q3
                    have x4 := (TB.out.1.cell (p := ⟨b1, o1 + i * 6 + 4, none⟩) (World.block_lt_of_cell? _ _ q4)).trans q4
                    have x5 := (TB.out.1.cell (p := ⟨b1, o1 + i * 6 + 5, none⟩) (World.block_lt_of_cell? _ _ q5)).trans q5
                    generalize W7.alloc (.cells #[.int .i64 0, .int .i64 0, .int .i64 0, .int .i64 0, .int .i64 0, .int .i64 0] 25) = V0 at *
                    generalize htb : W7.heap.size = tb at *
                    have HTB := Lib.hid htb
                    clear htb q0 q1 q2 q3 q4 q5
                    go_wp2_with fail
                    refine (HH.out _).mono ?_
                    rintro e W8 ⟨rfl, hb⟩
                    have O8 := Lib.hid (own_.own_below OT.out hb)
                    have T8 := Lib.hid (TB.out.old hb)
                    have B8 := Lib.hid (BT.out.trans (hb.mono BT.out.size))
                    clear hb x0 x1 x2 x3 x4 x5
                    have s0 : W8.cell? ⟨tb, 0, none⟩ = some (.int .i64 0) := T8.out.cell 0
                    have r0 : W8.frozen? ⟨tb, 0, none⟩ = false := T8.out.frozen 0
                    have s1 : W8.cell? ⟨tb, 1, none⟩ = some (.int .i64 0) := T8.out.cell 1
                    have r1 : W8.frozen? ⟨tb, 1, none⟩ = false := T8.out.frozen 1
                    have s2 : W8.cell? ⟨tb, 2, none⟩ = some (.int .i64 0) := T8.out.cell 2
                    have r2 : W8.frozen? ⟨tb, 2, none⟩ = false := T8.out.frozen 2
                    have s3 : W8.cell? ⟨tb, 3, none⟩ = some (.int .i64 0) := T8.out.cell 3
                    have r3 : W8.frozen? ⟨tb, 3, none⟩ = false := T8.out.frozen 3
                    have s4 : W8.cell? ⟨tb, 4, none⟩ = some (.int .i64 0) := T8.out.cell 4
                    have r4 : W8.frozen? ⟨tb, 4, none⟩ = false := T8.out.frozen 4
                    have s5 : W8.cell? ⟨tb, 5, none⟩ = some (.int .i64 0) := T8.out.cell 5
                    have r5 : W8.frozen? ⟨tb, 5, none⟩ = false := T8.out.frozen 5
                    have OC := Lib.hid (own_setup (own_setup (own_setup (own_setup (own_setup (own_setup O8.out LTB.out 0 (.int .i64 0)) LTB.out 1 (.int .i64 0)) LTB.out 2 (.int .i64 0)) LTB.out 3 (.int .i64 0)) LTB.out 4 (.int .i64 0)) LTB.out 5 (.int .i64 0))
                    have TC := Lib.hid (show AtS 25 #[.int .i64 0, .int .i64 0, .int .i64 0, .int .i64 0, .int .i64 0, .int .i64 0] W7 ((((((W8.setCell ⟨tb, 0, none⟩ (.int .i64 0)).setCell ⟨tb, 1, none⟩ (.int .i64 0)).setCell ⟨tb, 2, none⟩ (.int .i64 0)).setCell ⟨tb, 3, none⟩ (.int .i64 0)).setCell ⟨tb, 4, none⟩ (.int .i64 0)).setCell ⟨tb, 5, none⟩ (.int .i64 0)) tb from ((((((T8.out.set 0 (.int .i64 0)).set 1 (.int .i64 0)).set 2 (.int .i64 0)).set 3 (.int .i64 0)).set 4 (.int .i64 0)).set 5 (.int .i64 0)))
                    have BC := Lib.hid ((((((B8.out.setCell (p := ⟨tb, 0, none⟩) LW.out (.int .i64 0)).setCell (p := ⟨tb, 1, none⟩) LW.out (.int .i64 0)).setCell (p := ⟨tb, 2, none⟩) LW.out (.int .i64 0)).setCell (p := ⟨tb, 3, none⟩) LW.out (.int .i64 0)).setCell (p := ⟨tb, 4, none⟩) LW.out (.int .i64 0)).setCell (p := ⟨tb, 5, none⟩) LW.out (.int .i64 0))
                    have hN := HLE.out
                    have e1 : IntKind.i64.wrap ((DD : Int) + 1) = (DD : Int) + 1 := IntWalk.i64_in _ (by omega)
                    go_wp2_with fail
                    go_roundw
                    case rel => exact ⟨i + 1, by omega, by go_num, by rw [HCD.out.2.2]; exact congrArg _ (by omega), by rw [HCD.out.1, HCD.out.2.1]; exact OC.out, BC.out⟩
                    case measure => simp [intOf]; omega
                  · have HMOi := HMO.out
                    rw [ho] at HMOi
                    rw [HMC.out ho, HMR.out ho] at HK
                    have HCY := Lib.hid (CY.out _ _ _ _ _ _ HK.out)
                    have HH := Lib.hid (fun W => HMY.out W HMOi.symm)
                    clear HMOi HMO HMR HMC HMD HMY HMN CY CD HK ho
                    go_upto_region 20 with fail
                    obtain ⟨A5, c5, rfl⟩ := own_sliceZ HO7.out
                    have LTB := Lib.hid (own_row_lt HO7.out)
                    have OT := Lib.hid (HO7.out.alloc (.cells #[.int .i64 0, .int .i64 0, .int .i64 0, .int .i64 0, .int .i64 0, .int .i64 0] 25))
                    have TB := Lib.hid (newS 25 #[.int .i64 0, .int .i64 0, .int .i64 0, .int .i64 0, .int .i64 0, .int .i64 0] W7)
                    have BT := Lib.hid (HBW.out.alloc HBW.out.size (.cells #[.int .i64 0, .int .i64 0, .int .i64 0, .int .i64 0, .int .i64 0, .int .i64 0] 25))
                    have LW := Lib.hid HBW.out.size
                    have x0 := (TB.out.1.cell (p := ⟨b1, o1 + i * 6, none⟩) (World.block_lt_of_cell? _ _ q0)).trans q0
                    have x1 := (TB.out.1.cell (p := ⟨b1, o1 + i * 6 + 1, none⟩) (World.block_lt_of_cell? _ _ q1)).trans q1
                    have x2 := (TB.out.1.cell (p := ⟨b1, o1 + i * 6 + 2, none⟩) (World.block_lt_of_cell? _ _ q2)).trans q2
                    have x3 := (TB.out.1.cell (p := ⟨b1, o1 + i * 6 + 3, none⟩) (World.block_lt_of_cell? _ _ q3)).trans q3
                    have x4 := (TB.out.1.cell (p := ⟨b1, o1 + i * 6 + 4, none⟩) (World.block_lt_of_cell? _ _ q4)).trans q4
                    have x5 := (TB.out.1.cell (p := ⟨b1, o1 + i * 6 + 5, none⟩) (World.block_lt_of_cell? _ _ q5)).trans q5
                    generalize W7.alloc (.cells #[.int .i64 0, .int .i64 0, .int .i64 0, .int .i64 0, .int .i64 0, .int .i64 0] 25) = V0 at *
                    generalize htb : W7.heap.size = tb at *
                    have HTB := Lib.hid htb
                    clear htb q0 q1 q2 q3 q4 q5
                    go_wp2_with fail
                    refine (HH.out _).mono ?_
                    rintro e W8 ⟨rfl, hb⟩
                    have O8 := Lib.hid (own_.own_below OT.out hb)
                    have T8 := Lib.hid (TB.out.old hb)
                    have B8 := Lib.hid (BT.out.trans (hb.mono BT.out.size))
                    clear hb x0 x1 x2 x3 x4 x5
                    have s0 : W8.cell? ⟨tb, 0, none⟩ = some (.int .i64 0) := T8.out.cell 0
                    have r0 : W8.frozen? ⟨tb, 0, none⟩ = false := T8.out.frozen 0
                    have s1 : W8.cell? ⟨tb, 1, none⟩ = some (.int .i64 0) := T8.out.cell 1
                    have r1 : W8.frozen? ⟨tb, 1, none⟩ = false := T8.out.frozen 1
                    have s2 : W8.cell? ⟨tb, 2, none⟩ = some (.int .i64 0) := T8.out.cell 2
                    have r2 : W8.frozen? ⟨tb, 2, none⟩ = false := T8.out.frozen 2
                    have s3 : W8.cell? ⟨tb, 3, none⟩ = some (.int .i64 0) := T8.out.cell 3
                    have r3 : W8.frozen? ⟨tb, 3, none⟩ = false := T8.out.frozen 3
                    have s4 : W8.cell? ⟨tb, 4, none⟩ = some (.int .i64 0) := T8.out.cell 4
                    have r4 : W8.frozen? ⟨tb, 4, none⟩ = false := T8.out.frozen 4
                    have s5 : W8.cell? ⟨tb, 5, none⟩ = some (.int .i64 0) := T8.out.cell 5
                    have r5 : W8.frozen? ⟨tb, 5, none⟩ = false := T8.out.frozen 5
                    have OC := Lib.hid (own_setup (own_setup (own_setup (own_setup (own_setup (own_setup O8.out LTB.out 0 (.int .i64 u0)) LTB.out 1 (.int .i64 3)) LTB.out 2 (.int .i64 u2)) LTB.out 3 (.int .i64 u3)) LTB.out 4 (.int .i64 u4)) LTB.out 5 (.int .i64 (u5 + 1)))
                    have TC := Lib.hid (show AtS 25 #[.int .i64 u0, .int .i64 3, .int .i64 u2, .int .i64 u3, .int .i64 u4, .int .i64 (u5 + 1)] W7 ((((((W8.setCell ⟨tb, 0, none⟩ (.int .i64 u0)).setCell ⟨tb, 1, none⟩ (.int .i64 3)).setCell ⟨tb, 2, none⟩ (.int .i64 u2)).setCell ⟨tb, 3, none⟩ (.int .i64 u3)).setCell ⟨tb, 4, none⟩ (.int .i64 u4)).setCell ⟨tb, 5, none⟩ (.int .i64 (u5 + 1))) tb from ((((((T8.out.set 0 (.int .i64 u0)).set 1 (.int .i64 3)).set 2 (.int .i64 u2)).set 3 (.int .i64 u3)).set 4 (.int .i64 u4)).set 5 (.int .i64 (u5 + 1))))
                    have BC := Lib.hid ((((((B8.out.setCell (p := ⟨tb, 0, none⟩) LW.out (.int .i64 u0)).setCell (p := ⟨tb, 1, none⟩) LW.out (.int .i64 3)).setCell (p := ⟨tb, 2, none⟩) LW.out (.int .i64 u2)).setCell (p := ⟨tb, 3, none⟩) LW.out (.int .i64 u3)).setCell (p := ⟨tb, 4, none⟩) LW.out (.int .i64 u4)).setCell (p := ⟨tb, 5, none⟩) LW.out (.int .i64 (u5 + 1)))
                    go_upto_region 24 with fail
                    clear s0 r0 s1 r1 s2 r2 s3 r3 s4 r4 s5 r5 O8 T8 B8 OT TB BT
                    generalize (((((W8.setCell ⟨tb, 0, none⟩ (.int .i64 u0)).setCell ⟨tb, 1, none⟩ (.int .i64 3)).setCell ⟨tb, 2, none⟩ (.int .i64 u2)).setCell ⟨tb, 3, none⟩ (.int .i64 u3)).setCell ⟨tb, 4, none⟩ (.int .i64 u4)).setCell ⟨tb, 5, none⟩ (.int .i64 (u5 + 1)) = W9 at *
                    have r0 : W9.cell? ⟨tb, 0, none⟩ = some (.int .i64 u0) := TC.out.cell 0
                    have rf0 := TC.out.frozen 0
                    have r1 : W9.cell? ⟨tb, 1, none⟩ = some (.int .i64 3) := TC.out.cell 1
                    have rf1 := TC.out.frozen 1
                    have r2 : W9.cell? ⟨tb, 2, none⟩ = some (.int .i64 u2) := TC.out.cell 2
                    have rf2 := TC.out.frozen 2
                    have r3 : W9.cell? ⟨tb, 3, none⟩ = some (.int .i64 u3) := TC.out.cell 3
                    have rf3 := TC.out.frozen 3
                    have r4 : W9.cell? ⟨tb, 4, none⟩ = some (.int .i64 u4) := TC.out.cell 4
                    have rf4 := TC.out.frozen 4
                    have r5 : W9.cell? ⟨tb, 5, none⟩ = some (.int .i64 (u5 + 1)) := TC.out.cell 5
                    have rf5 := TC.out.frozen 5
                    have hN := HLE.out
                    have hOs := OC.out
                    go_wp2_with (at_builtin; refine wpList_append_any rfl (.tmp 100) (.tmp 102) 33 rfl w.heap.size 25 iT (.agg #[.int .i64 0, .int .i64 0, .int .i64 0, .int .i64 0, .int .i64 0, .int .i64 0]) 6 48 Tryz.underlying33 hiT hzT0 hzT1 hzT2 rfl (by decide) _ N (cellsI L) rfl (OC.out.alloc (.cells #[.int .i64 u0, .int .i64 3, .int .i64 u2, .int .i64 u3, .int .i64 u4, .int .i64 (u5 + 1)] 25)) ⟨W9.heap.size, 0, none⟩ 1 1 [.int .i64 u0, .int .i64 3, .int .i64 u2, .int .i64 u3, .int .i64 u4, .int .i64 (u5 + 1)] rfl rfl (cells_new W9 25 #[.int .i64 u0, .int .i64 3, .int .i64 u2, .int .i64 u3, .int .i64 u4, .int .i64 (u5 + 1)]) (six_cells _ _ _ _ _ _) (by unfold maxLen; omega) (by omega) (by rw [World.size_alloc]; have := BC.out.size; omega) ?_; intro v9 w9 o9 g9 n9; obtain ⟨A9, c9, rfl⟩ := own_sliceZ o9)
                    have B9 := Lib.hid ((BC.out.alloc BC.out.size (.cells #[.int .i64 u0, .int .i64 3, .int .i64 u2, .int .i64 u3, .int .i64 u4, .int .i64 (u5 + 1)] 25)).grown g9 (by have := BC.out.size; rw [World.size_alloc]; omega) (own_.row_ge (OC.out.alloc (.cells #[.int .i64 u0, .int .i64 3, .int .i64 u2, .int .i64 u3, .int .i64 u4, .int .i64 (u5 + 1)] 25))))
                    have O9 := Lib.hid (show w9.ownsRow w.heap.size 25 6 (.slice A9 (N + 1) c9) (N + 1) (cellsI (chL (anyC zs ids r ps) (i + 1))) by rw [HCY.out.1]; unfold cellsI at o9 ⊢; rw [List.map_append]; exact o9)
                    clear o9 g9 n9 hOs
                    clear r0 rf0 r1 rf1 r2 rf2 r3 rf3 r4 rf4 r5 rf5
                    go_wp2_with fail
                    go_roundw
                    case rel => exact ⟨i + 1, by omega, by go_num, by rw [HCY.out.2.2], by rw [HCY.out.2.1]; exact O9.out, B9.out⟩
                    case measure => simp [intOf]; omega
          · obtain rfl : i = n := by omega
            obtain ⟨A5, c5, rfl⟩ := own_sliceZ HO.out
            have HLN := Lib.hid (chL_length (fits_any zs ids k ps i) (anyC_B zs ids k ps i))
            have HOK := Lib.hid (any_ok (zs := zs) (ids := ids) (ps := ps) (m := k) (n := i) HZ.out)
            have hN := HLE.out
            have HTV := Lib.hid (show tvB (chL (anyC zs ids k ps) i) (chN (anyC zs ids k ps) i) = scB zs i ids k ps k by
              rw [HBB.out, ← HOK.out]; unfold tvB; rw [decide_eq_true (show chN (anyC zs ids k ps) i ≤ 6 by omega), Bool.and_true])
            have HLL := Lib.hid (HL2.out A5 c5 _ _ W6 (show chN (anyC zs ids k ps) i ≤ 6 by omega) (RdZ.of_own HO.out HLN.out))
            have HAN := Lib.hid (fun h => any_is (zs := zs) (ids := ids) (ps := ps) (m := k) (n := i) h)
            go_wp2_with fail
            refine HLL.out.mono ?_
            rintro e W7 ⟨rfl, hb⟩
            have O7 := Lib.hid (own_.own_below HO.out hb)
            have B7 := Lib.hid (HB.out.trans (hb.mono HB.out.size))
            clear hb HLL
            rw [HTV.out]
            cases hq : scB zs i ids k ps k
            · have HN := Lib.hid (show scB zs i ids k ps k = false ∧ scN zs i ids k ps k = 0 ∧ scL zs i ids k ps k = [] ∧ scD zs i ids k ps k = 0 from ⟨hq, (scan_no hq).2.1, (scan_no hq).1, (scan_no hq).2.2⟩)
              have OX := Lib.hid (own_emptyZ W7 25 6)
              have LX := Lib.hid B7.out.size
              have BX := Lib.hid (B7.out.alloc B7.out.size (.cells #[] 25))
              clear hq
              go_wp2_with fail
              go_ret3
              exact ⟨_, by rw [HN.out.1, HN.out.2.2.2]; rfl, by rw [HN.out.2.1, HN.out.2.2.1]; exact own_.own_base OX.out LX.out, BX.out⟩
            · have HY := Lib.hid (scan_yes hq)
              have HB1 := Lib.hid (HAN.out (by rw [← HBB.out]; exact hq))
              have HE := Lib.hid hq
              clear hq
              go_wp2_with fail
              go_ret3
              exact ⟨_, by rw [HE.out, HY.out.2.2, ← HB1.out.2.2]; rfl, by rw [HY.out.1, HY.out.2.1, ← HB1.out.1, ← HB1.out.2.1]; exact O7.out, B7.out⟩
  · have g0 : ((m : Int) != (q : Int)) = true := bne_iff_ne.mpr (by omega)
    have HN := Lib.hid (HNO.out (by unfold spB; rw [decide_eq_false hmq, Bool.false_and, Bool.and_false]))
    clear hmq hz h1 h2 h4
    go_enter Tryz.func61, Tryz.ntmps61
    go_wp2_with fail
    refine (HL.out _ BE.out).mono ?_
    rintro e W1 ⟨rfl, hb⟩
    have O1 := Lib.hid (own_.own_below OE.out hb)
    have B1 := Lib.hid (BE.out.trans (hb.mono BE.out.size))
    clear hb
    go_wp2_with fail
    go_ret3
    exact ⟨_, by rw [HN.out.1, HN.out.2.2.2]; rfl, by rw [HN.out.2.1, HN.out.2.2.1]; exact O1.out, B1.out⟩
end Go.Proofs.YtfigjfckelichaaGreatDoor.trkx
