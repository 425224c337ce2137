/- spec's lists of sectors: l17List, SectorsAt. Written by tools/gen_SlsD.py. -/
import Derived.Test.YtkndfklbonkbiaaSlsR
import Derived.Test.YtkndfklbonkbiaaSctW
import Derived.Test.YtkndfklbonkbiaaIntC
import Derived.Laws.Small
import Derived.Deep.QuietTactic
import Derived.BigQuiet
import Derived.Deep.CutRange
import Derived.Deep.CutBlock
import Derived.Lib.QuietBelow
namespace Go.Proofs.Ytkndfklbonkbiaa.slsd
open Go.RowKit Go.Proofs.Ytkndfklbonkbiaa.ints Go.Proofs.Ytkndfklbonkbiaa.lst Go.Proofs.Ytkndfklbonkbiaa.in_ Go.Proofs.Ytkndfklbonkbiaa.ats Go.Proofs.Ytkndfklbonkbiaa.pos Go.Proofs.Ytkndfklbonkbiaa.sct Go.Proofs.Ytkndfklbonkbiaa.sctj Go.Proofs.Ytkndfklbonkbiaa.sctb Go.Proofs.Ytkndfklbonkbiaa.sctr Go.Proofs.Ytkndfklbonkbiaa.slsa Go.Proofs.Ytkndfklbonkbiaa.slsr

set_option maxRecDepth 100000 in
set_option maxHeartbeats 4000000 in
theorem list17 (ps : List Se) (A : Option Addr) (n c : Nat) (w : World) (hn : n ≤ 1048576) (hs : ∀ (k : Nat) (p : Se), ps[k]? = some p → nc p ≤ 1048576) (h1 : RdS true w w.heap.size A n ps) :
    Calls Try.prog 44 #[.slice A n c] w fun e w' => e = .returned (.bool (lsB ps n)) ∧ Below w.heap.size w w' := by
  have HR := Lib.hid h1
  have HS0 := Lib.hid hs
  have HEND := Lib.hid (fun (h : n ≤ 6 → alS ps n = true ∧ ∀ k, k < n → 0 < k → (gt ps (k - 1)).1 < (gt ps k).1) => show lsB ps n = decide ((n : Int) ≤ 6) by
    by_cases hb : n ≤ 6
    · rw [ls_yes hb (h hb).1 (h hb).2, decide_eq_true (show (n : Int) ≤ 6 by omega)]
    · rw [ls_long hb, decide_eq_false (show ¬ (n : Int) ≤ 6 by omega)])
  clear h1 hs
  go_enter Try.func44, Try.ntmps44
  go_wp2_with fail
  go_loopw [3] (fun i wr => ∃ k : Nat, k ≤ n ∧ k ≤ 7 ∧ i = .int .i64 k ∧ Below w.heap.size w wr ∧ alS ps k = true ∧ ∀ j, j < k → 0 < j → (gt ps (j - 1)).1 < (gt ps j).1) (fun i _ => n - (intOf i).toNat)
  case atStart => exact ⟨0, Nat.zero_le _, by omega, rfl, Below.refl _ _, rfl, fun j h => by omega⟩
  case round =>
    obtain ⟨k, hk, hk7, rfl, hb, hck, hasc⟩ := hrel
    have HB := Lib.hid hb
    have HAS := Lib.hid hasc
    by_cases hlt : k < n
    · by_cases hk6 : k ≤ 6
      · have hlt2 : (k : Int) < (n : Int) := by omega
        have hk62 : (k : Int) ≤ 6 := by omega
        obtain ⟨p, hp⟩ := HR.out.get hlt
        obtain ⟨b1, o1, A1, c1, rfl, -, hat⟩ := RdS.at_ HR.out hp
        obtain ⟨p0, p1, -⟩ := hat wr hb
        have HGK := Lib.hid (show (gt ps k).1 = p.1 by rw [gt_of hp])
        have HST := Lib.hid (show alS ps (k + 1) = seP p by rw [alS_step hp, hck, Bool.true_and])
        have HN1 := Lib.hid (fun (h : alS ps (k + 1) = false) => ls_no1 (n := n) h hlt)
        have HN2 := Lib.hid (fun h0 h => ls_no2 (ps := ps) hlt h0 h)
        have hm := HS0.out k p hp
        have T1 := Lib.hid (fun d0 os => Calls.regrown_of (show Calls Try.prog 55 #[.agg #[.int .i64 p.1, .slice A1 (nc p) c1]] (Sort.grow (redrawn wr d0) os) (fun e w' => e = .returned (.bool (seP p)) ∧ Below (Sort.grow (redrawn wr d0) os).heap.size (Sort.grow (redrawn wr d0) os) w') from sctw.good17 p.1 p.2 A1 (nc p) c1 _ hm (hat _ (HB.out.trans ((below_regrown wr d0 os).mono HB.out.size))).2.2))
        have HZ := Lib.hid (show 0 < k → ∃ q, q + 1 = k ∧ wr.cell? ⟨b1, o1 + q * 2, none⟩ = some (.int .i64 (gt ps q).1) from fun h0 => by
          obtain ⟨p2, hp2⟩ := HR.out.get (show k - 1 < n by omega)
          obtain ⟨b2, o2, A2, c2, eA, -, hat2⟩ := RdS.at_ HR.out hp2
          obtain ⟨rfl, rfl⟩ : b1 = b2 ∧ o1 = o2 := by injection eA with e; injection e with e1 e2; exact ⟨e1, e2⟩
          exact ⟨k - 1, by omega, by rw [gt_of hp2]; exact (hat2 wr HB.out).1⟩)
        clear hb hck hasc hat hp HEND hm
        generalize seP p = pb at *
        generalize p.1 = d at *
        generalize nc p = m at *
        cases pb
        · have HN := Lib.hid (HN1.out HST.out)
          clear HZ HST HN1 HN2
          go_wp2_with fail
          have p0' := fun d0 os => cell_regrown p0 d0 os
          have p1' := fun d0 os => cell_regrown p1 d0 os
          clear p0 p1
          refine wp_region_quiet_below (by kernel_rfl) (by kernel_rfl) ?_
          repeat (
            with_reducible refine wpQuiet_step (fun K hK => ?_)
            go_simp
            first
              | (refine hK _ ?_; clear hK K)
              | (apply Exists.intro
                 refine ⟨fun _ => ?_, hK _ ?_⟩
                 (first
                   | (go_at_call 55; with_reducible exact T1.out _ _))
                 clear hK K))
          with_reducible refine wpQuiet_nil ?_
          intro _ hw'
          obtain ⟨⟨dq, osq⟩, hw''⟩ := hw'
          subst hw''
          have hbl := (below_regrown wr dq osq)
          clear p0' p1'
          generalize Sort.grow (redrawn wr dq) osq = w3 at *
          have hbq := Lib.hid (HB.out.trans (hbl.mono HB.out.size))
          clear HB hbl
          go_wp2_with fail
          go_ret
          exact ⟨by rw [HN.out]; rfl, hbq.out⟩
        rcases Nat.eq_zero_or_pos k with h0 | h0
        · have HT := Lib.hid HST.out
          subst h0
          rw [Nat.zero_mul, Nat.add_zero] at p0 p1
          clear HZ HST HN1 HN2
          go_wp2_with fail
          have p0' := fun d0 os => cell_regrown p0 d0 os
          have p1' := fun d0 os => cell_regrown p1 d0 os
          clear p0 p1
          refine wp_region_quiet_below (by kernel_rfl) (by kernel_rfl) ?_
          repeat (
            with_reducible refine wpQuiet_step (fun K hK => ?_)
            go_simp
            first
              | (refine hK _ ?_; clear hK K)
              | (apply Exists.intro
                 refine ⟨fun _ => ?_, hK _ ?_⟩
                 (first
                   | (go_at_call 55; with_reducible exact T1.out _ _))
                 clear hK K))
          with_reducible refine wpQuiet_nil ?_
          intro _ hw'
          obtain ⟨⟨dq, osq⟩, hw''⟩ := hw'
          subst hw''
          have hbl := (below_regrown wr dq osq)
          clear p0' p1'
          generalize Sort.grow (redrawn wr dq) osq = w3 at *
          have hbq := Lib.hid (HB.out.trans (hbl.mono HB.out.size))
          clear HB hbl
          go_wp2_with fail
          go_roundw
          case rel => exact ⟨0 + 1, by omega, by omega, by go_num, hbq.out, HT.out, fun j h h0 => by omega⟩
          case measure => simp [intOf]; omega
        obtain ⟨q, hq, q0⟩ := HZ.out h0
        have hpn2 : (q : Int) < (n : Int) := by omega
        have hp0 : (0 : Int) ≤ (q : Int) := Int.natCast_nonneg _
        have e1 : IntKind.i64.wrap ((k : Int) - 1) = (q : Int) := by rw [IntWalk.i64_in _ (by omega)]; omega
        have hk0 : decide (0 < k) = true := decide_eq_true h0
        have HQ := Lib.hid (show k - 1 = q by omega)
        have HT := Lib.hid HST.out
        clear HZ hq HST HN1
        by_cases hs : (gt ps q).1 < d
        · have HT2 := Lib.hid (show ∀ j, j < k + 1 → 0 < j → (gt ps (j - 1)).1 < (gt ps j).1 from fun j hj hj0 => by
            rcases Nat.lt_or_ge j k with h | h
            · exact HAS.out j h hj0
            · obtain rfl : j = k := by omega
              rw [HQ.out, HGK.out]
              exact hs)
          have hs2 : ¬ d ≤ (gt ps q).1 := by omega
          clear HN2 hs
          generalize (gt ps q).1 = z at *
          go_wp2_with fail
          have p0' := fun d0 os => cell_regrown p0 d0 os
          have p1' := fun d0 os => cell_regrown p1 d0 os
          have q0' := fun d0 os => cell_regrown q0 d0 os
          clear p0 p1 q0
          refine wp_region_quiet_below (by kernel_rfl) (by kernel_rfl) ?_
          repeat (
            with_reducible refine wpQuiet_step (fun K hK => ?_)
            go_simp
            first
              | (refine hK _ ?_; clear hK K)
              | (apply Exists.intro
                 refine ⟨fun _ => ?_, hK _ ?_⟩
                 (first
                   | (go_at_call 55; with_reducible exact T1.out _ _))
                 clear hK K))
          with_reducible refine wpQuiet_nil ?_
          intro _ hw'
          obtain ⟨⟨dq, osq⟩, hw''⟩ := hw'
          subst hw''
          have hbl := (below_regrown wr dq osq)
          clear p0' p1' q0'
          generalize Sort.grow (redrawn wr dq) osq = w3 at *
          have hbq := Lib.hid (HB.out.trans (hbl.mono HB.out.size))
          clear HB hbl
          go_wp2_with fail
          go_roundw
          case rel => exact ⟨k + 1, by omega, by omega, by go_num, hbq.out, HT.out, HT2.out⟩
          case measure => simp [intOf]; omega
        · have HN := Lib.hid (HN2.out h0 (by rw [HQ.out, HGK.out]; exact hs))
          have hs2 : d ≤ (gt ps q).1 := by omega
          clear HN2 hs
          generalize (gt ps q).1 = z at *
          go_wp2_with fail
          have p0' := fun d0 os => cell_regrown p0 d0 os
          have p1' := fun d0 os => cell_regrown p1 d0 os
          have q0' := fun d0 os => cell_regrown q0 d0 os
          clear p0 p1 q0
          refine wp_region_quiet_below (by kernel_rfl) (by kernel_rfl) ?_
          repeat (
            with_reducible refine wpQuiet_step (fun K hK => ?_)
            go_simp
            first
              | (refine hK _ ?_; clear hK K)
              | (apply Exists.intro
                 refine ⟨fun _ => ?_, hK _ ?_⟩
                 (first
                   | (go_at_call 55; with_reducible exact T1.out _ _))
                 clear hK K))
          with_reducible refine wpQuiet_nil ?_
          intro _ hw'
          obtain ⟨⟨dq, osq⟩, hw''⟩ := hw'
          subst hw''
          have hbl := (below_regrown wr dq osq)
          clear p0' p1' q0'
          generalize Sort.grow (redrawn wr dq) osq = w3 at *
          have hbq := Lib.hid (HB.out.trans (hbl.mono HB.out.size))
          clear HB hbl
          go_wp2_with fail
          go_ret
          exact ⟨by rw [HN.out]; rfl, hbq.out⟩
      · have HE := Lib.hid (HEND.out (fun h => by omega))
        have hlt2 : (k : Int) < (n : Int) := by omega
        have hk62 : ¬ (k : Int) ≤ 6 := by omega
        have hn6 : ¬ (n : Int) ≤ 6 := by omega
        clear hck HEND hasc
        go_wp2_with fail
        go_ret
        exact ⟨by rw [HE.out]; simp; omega, HB.out⟩
    · obtain rfl : k = n := by omega
      have HE := Lib.hid (HEND.out (fun _ => ⟨hck, fun j h h0 => HAS.out j h h0⟩))
      clear hck HEND hasc
      go_wp2_with fail
      go_ret
      exact ⟨by rw [HE.out]; rfl, HB.out⟩

theorem own_at {T : TypeId} {w W : World} {b s : Nat} (h : AtS T #[] w W b) : W.ownsRow w.heap.size T s (.slice (some ⟨b, 0, none⟩) 0 0) 0 [] :=
  ⟨by simp, .inr ⟨b, 0, #[], rfl, h.2.1, h.2.2.2, Nat.le_refl _, by unfold maxLen; omega, by simp, by simp⟩⟩
theorem own_atb {T : TypeId} {w W : World} {b s : Nat} (h : AtS T #[] w W b) : W.ownsRow b T s (.slice (some ⟨b, 0, none⟩) 0 0) 0 [] :=
  ⟨by simp, .inr ⟨b, 0, #[], rfl, Nat.le_refl _, h.2.2.2, Nat.le_refl _, by unfold maxLen; omega, by simp, by simp⟩⟩
theorem own_app {w : World} {B e : Nat} {v : Value} {L : List Int} {x : Int} (h : w.ownsRow B e 1 v (L.length + 1) (cellsI L ++ [.int .i64 x])) : w.ownsRow B e 1 v (L ++ [x]).length (cellsI (L ++ [x])) := own_growI h
set_option maxRecDepth 100000 in
set_option maxHeartbeats 4000000 in
theorem sectorsAt (ps : List Se) (px py : Int) (A : Option Addr) (n c : Nat) (w : World) (hn : n ≤ 1048576) (hs : ∀ (k : Nat) (p : Se), ps[k]? = some p → nc p ≤ 1048576) (h1 : RdS true w w.heap.size A n ps) :
    Calls Try.prog 7 #[.slice A n c, .agg #[.int .i64 px, .int .i64 py]] w fun e w' => ∃ v, e = .returned (.tuple #[v, .bool (satB ps n px py)]) ∧ w'.ownsRow w.heap.size 3 1 v (satV ps n px py).length (cellsI (satV ps n px py)) ∧ Below w.heap.size w w' := by
  have S0 := Lib.hid ((newS 31 #[.int .i64 px, .int .i64 py] w).alloc (.cells #[] 3))
  have S1 := Lib.hid ((newS 31 #[.int .i64 px, .int .i64 py] w).next 3 #[])
  rw [World.size_alloc] at S1
  have T0 := Lib.hid (fun (W : World) (hb : Below w.heap.size w W) => list17 ps A n c W hn hs (h1.next hb))
  have T1 := Lib.hid (fun W => poss.good7 px py W)
  cases hq0 : lsB ps n
  · rw [hq0] at T0
    have HE := Lib.hid (sat_no1 (px := px) (py := py) hq0)
    clear h1 hs hq0
    go_enter Try.func7, Try.ntmps7
    go_wp2_with fail
    generalize ((w.alloc (.cells #[.int .i64 px, .int .i64 py] 31)).alloc (.cells #[] 3)) = W0 at *
    refine (T0.out W0 S0.out.1).mono ?_
    rintro e V0 ⟨rfl, hb⟩
    have S2 := Lib.hid (S0.out.old hb)
    have S3 := Lib.hid (S1.out.old hb)
    clear hb
    have HV := Lib.hid (satV_no HE.out)
    have OX := Lib.hid (own_at S3.out (s := 1))
    have c0 : V0.cell? ⟨w.heap.size, 0, none⟩ = some (.int .i64 px) := S2.out.cell 0
    have c1 : V0.cell? ⟨w.heap.size, 1, none⟩ = some (.int .i64 py) := S2.out.cell 1
    go_wp2_with fail
    go_ret2
    exact ⟨_, by rw [HE.out]; rfl, by rw [HV.out]; exact OX.out, S2.out.1⟩
  rw [hq0] at T0
  cases hq1 : pB px py
  · rw [hq1] at T1
    have HE := Lib.hid (sat_no2 (ps := ps) (n := n) hq1)
    clear h1 hs hq0 hq1
    go_enter Try.func7, Try.ntmps7
    go_wp2_with fail
    generalize ((w.alloc (.cells #[.int .i64 px, .int .i64 py] 31)).alloc (.cells #[] 3)) = W0 at *
    refine (T0.out W0 S0.out.1).mono ?_
    rintro e V0 ⟨rfl, hb⟩
    have S2 := Lib.hid (S0.out.old hb)
    have S3 := Lib.hid (S1.out.old hb)
    clear hb
    have c0 : V0.cell? ⟨w.heap.size, 0, none⟩ = some (.int .i64 px) := S2.out.cell 0
    have c1 : V0.cell? ⟨w.heap.size, 1, none⟩ = some (.int .i64 py) := S2.out.cell 1
    go_wp2_with fail
    clear c0 c1
    refine (T1.out V0).mono ?_
    rintro e V1 ⟨rfl, hb⟩
    have S4 := Lib.hid (S2.out.old hb)
    have S5 := Lib.hid (S3.out.old hb)
    clear hb
    have HV := Lib.hid (satV_no HE.out)
    have OX := Lib.hid (own_at S5.out (s := 1))
    go_wp2_with fail
    go_ret2
    exact ⟨_, by rw [HE.out]; rfl, by rw [HV.out]; exact OX.out, S4.out.1⟩
  rw [hq1] at T1
  have HE := Lib.hid (sat_yes hq0 hq1)
  have HV := Lib.hid (satV_yes HE.out)
  have HP := Lib.hid hq1
  have HAL := Lib.hid (ls_parts hq0)
  have HR := Lib.hid h1
  have HS0 := Lib.hid hs
  obtain ⟨i0, hi, hz0, hz1, hz2⟩ := info_parts infoI
  clear h1 hs hq0 hq1
  go_enter Try.func7, Try.ntmps7
  go_wp2_with fail
  generalize ((w.alloc (.cells #[.int .i64 px, .int .i64 py] 31)).alloc (.cells #[] 3)) = W0 at *
  refine (T0.out W0 S0.out.1).mono ?_
  rintro e V0 ⟨rfl, hb⟩
  have S2 := Lib.hid (S0.out.old hb)
  have S3 := Lib.hid (S1.out.old hb)
  clear hb
  have c0 : V0.cell? ⟨w.heap.size, 0, none⟩ = some (.int .i64 px) := S2.out.cell 0
  have c1 : V0.cell? ⟨w.heap.size, 1, none⟩ = some (.int .i64 py) := S2.out.cell 1
  go_wp2_with fail
  clear c0 c1
  refine (T1.out V0).mono ?_
  rintro e V1 ⟨rfl, hb⟩
  have S4 := Lib.hid (S2.out.old hb)
  have S5 := Lib.hid (S3.out.old hb)
  clear hb
  have O1 := Lib.hid (own_atb S5.out (s := 1))
  have hv1 := S4.out.2.2.1
  clear S0 S1 S2 S3 S5 T0 T1
  go_wp2_with fail
  go_loopw [6, 7] (fun q i wr => ∃ k : Nat, k ≤ n ∧ i = .int .i64 k ∧ wr.ownsRow (w.heap.size + 1) 3 1 q (inL ps px py k).length (cellsI (inL ps px py k)) ∧ Below (w.heap.size + 1) V1 wr) (fun _ i _ => n - (intOf i).toNat)
  case atStart => exact ⟨0, Nat.zero_le _, rfl, O1.out, Below.refl _ _⟩
  case round =>
    obtain ⟨k, hk, rfl, hO, hb⟩ := hrel
    by_cases hlt : k < n
    · have hlt2 : (k : Int) < (n : Int) := by omega
      obtain ⟨p, hp⟩ := HR.out.get hlt
      obtain ⟨b1, o1, A1, c1, rfl, -, hat⟩ := RdS.at_ HR.out hp
      have HBW := Lib.hid (S4.out.1.trans (hb.mono (Nat.le_succ _)))
      have hbs := hb.size
      obtain ⟨p0, p1, -⟩ := hat wr HBW.out
      have P0 := Lib.hid (show ∀ W, Below wr.heap.size wr W → W.cell? ⟨b1, o1 + k * 2, none⟩ = some (.int .i64 p.1) from fun W h => (hat W (HBW.out.trans (h.mono HBW.out.size))).1)
      have hlen := inL_length ps px py k
      have hmm := HS0.out k p hp
      have hsv : seV p.1 p.2 (nc p) = true := by have := alS_all HAL.out.2 hlt; rw [gt_of hp] at this; exact this
      obtain ⟨⟨g3, -⟩, gp⟩ := se_corner hsv
      have D := Lib.hid (fun d0 os => Calls.regrown_of (show Calls Try.prog 46 #[.agg #[.int .i64 p.1, .slice A1 (nc p) c1], .agg #[.int .i64 px, .int .i64 py]] (Sort.grow (redrawn wr d0) os) (fun e w' => e = .returned (.bool (inS p px py)) ∧ Below (Sort.grow (redrawn wr d0) os).heap.size (Sort.grow (redrawn wr d0) os) w') from sctu.in17 p.1 p.2 px py A1 (nc p) c1 _ hmm (by omega) gp HP.out (hat _ (HBW.out.trans ((below_regrown wr d0 os).mono HBW.out.size))).2.2))
      have HY := Lib.hid (fun h => inL_yes (px := px) (py := py) hp h)
      have HN := Lib.hid (fun h => inL_not (px := px) (py := py) hp h)
      have HO := Lib.hid hO
      have HB := Lib.hid hb
      clear hO hat hp hmm hsv gp g3
      generalize inS p px py = pb at *
      generalize hLk : inL ps px py k = L at *
      generalize p.1 = d at *
      generalize nc p = m at *
      clear hLk
      have c0 : wr.cell? ⟨w.heap.size, 0, none⟩ = some (.int .i64 px) := (hb.cell (p := ⟨w.heap.size, 0, none⟩) (Nat.lt_succ_self _)).trans (S4.out.cell 0)
      have c1' : wr.cell? ⟨w.heap.size, 1, none⟩ = some (.int .i64 py) := (hb.cell (p := ⟨w.heap.size, 1, none⟩) (Nat.lt_succ_self _)).trans (S4.out.cell 1)
      have k1 := c1'
      clear c1' hb
      cases pb
      · have HX := Lib.hid (HN.out rfl)
        clear HY HN P0
        go_upto_region 7 with fail
        have p0' := fun d0 os => cell_regrown p0 d0 os
        have p1' := fun d0 os => cell_regrown p1 d0 os
        have c0' := fun d0 os => cell_regrown c0 d0 os
        have k1' := fun d0 os => cell_regrown k1 d0 os
        clear p0 p1 c0 k1
        refine wp_region_quiet_below (by kernel_rfl) (by kernel_rfl) ?_
        repeat (
          with_reducible refine wpQuiet_step (fun K hK => ?_)
          go_simp
          first
            | (refine hK _ ?_; clear hK K)
            | (apply Exists.intro
               refine ⟨fun _ => ?_, hK _ ?_⟩
               (first
                 | (go_at_call 46; with_reducible exact D.out _ _))
               clear hK K))
        with_reducible refine wpQuiet_nil ?_
        intro _ hw'
        obtain ⟨⟨dq, osq⟩, hw''⟩ := hw'
        subst hw''
        have hbl := (below_regrown wr dq osq)
        clear p0' p1' c0' k1'
        generalize Sort.grow (redrawn wr dq) osq = w3 at *
        have O3 := Lib.hid (own_.own_below HO.out hbl)
        have B3 := Lib.hid (HB.out.trans (hbl.mono (by omega)))
        clear hbl
        go_wp2_with fail
        go_roundw
        case rel => exact ⟨k + 1, by omega, by go_num, by rw [HX.out]; exact O3.out, B3.out⟩
        case measure => simp [intOf]; omega
      · have HX := Lib.hid (HY.out rfl)
        clear HY HN
        go_upto_region 7 with fail
        have p0' := fun d0 os => cell_regrown p0 d0 os
        have p1' := fun d0 os => cell_regrown p1 d0 os
        have c0' := fun d0 os => cell_regrown c0 d0 os
        have k1' := fun d0 os => cell_regrown k1 d0 os
        clear p0 p1 c0 k1
        refine wp_region_quiet_below (by kernel_rfl) (by kernel_rfl) ?_
        repeat (
          with_reducible refine wpQuiet_step (fun K hK => ?_)
          go_simp
          first
            | (refine hK _ ?_; clear hK K)
            | (apply Exists.intro
               refine ⟨fun _ => ?_, hK _ ?_⟩
               (first
                 | (go_at_call 46; with_reducible exact D.out _ _))
               clear hK K))
        with_reducible refine wpQuiet_nil ?_
        intro _ hw'
        obtain ⟨⟨dq, osq⟩, hw''⟩ := hw'
        subst hw''
        have hbl := (below_regrown wr dq osq)
        clear p0' p1' c0' k1'
        generalize Sort.grow (redrawn wr dq) osq = w3 at *
        have O3 := Lib.hid (own_.own_below HO.out hbl)
        have B3 := Lib.hid (HB.out.trans (hbl.mono (by omega)))
        have BW3 := Lib.hid (HBW.out.trans (hbl.mono HBW.out.size))
        have p0 := P0.out w3 hbl
        have hsz := hbl.size
        clear hbl
        go_wp2_with (at_builtin; (refine wpList_append_own _ rfl (.tmp 30) (.tmp 36) 26 rfl (w.heap.size + 1) 3 i0 (.int .i64 0) 1 8 Try.underlying26 hi hz0 hz1 hz2 rfl (by decide) _ L.length (cellsI L) rfl (O3.out.alloc _) ⟨w3.heap.size, 0, none⟩ 1 1 [.int .i64 d] rfl rfl (cell_one_new _ _ _) (own_.one_cell _ rfl) (by unfold maxLen; omega) (by omega) (by simp; omega) ?_; intro v' w4 hown' hgrow hnil))
        have HB' := Lib.hid (own_.below_append B3.out O3.out (by omega) hgrow)
        have HO' := Lib.hid (own_app hown')
        clear hown' hgrow hnil p0
        go_roundw
        case rel => exact ⟨k + 1, by omega, by go_num, by rw [HX.out]; exact HO'.out, HB'.out⟩
        case measure => simp [intOf]; omega
    · obtain rfl : k = n := by omega
      have HO := Lib.hid hO
      have HB := Lib.hid hb
      clear hO hb HR
      go_wp2_with fail
      go_ret2
      exact ⟨_, by rw [HE.out]; rfl, by rw [HV.out]; exact own_.own_base HO.out (Nat.le_succ _), S4.out.1.trans (HB.out.mono (Nat.le_succ _))⟩
end Go.Proofs.Ytkndfklbonkbiaa.slsd
