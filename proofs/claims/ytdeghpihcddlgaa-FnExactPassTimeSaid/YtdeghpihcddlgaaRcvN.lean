/- spec's PassTime. -/
import Derived.Test.YtdeghpihcddlgaaRcvJ
import Derived.Test.YtdeghpihcddlgaaRcvA
namespace Go.Proofs.Ytdeghpihcddlgaa.rcvn
open Go.RowKit Go.Proofs.Ytdeghpihcddlgaa.pos Go.Proofs.Ytdeghpihcddlgaa.in_ Go.Proofs.Ytdeghpihcddlgaa.rcv Go.Proofs.Ytdeghpihcddlgaa.rcvm Go.Proofs.Ytdeghpihcddlgaa.ats Go.Proofs.Ytdeghpihcddlgaa.lst Go.Proofs.Ytdeghpihcddlgaa.rcvh Go.Proofs.Ytdeghpihcddlgaa.rcvg Go.Proofs.Ytdeghpihcddlgaa.rcvj

theorem go_is (m : Int) (hs : List Hd) (t : Int) : goB m hs t = (vB m hs && (isIn t 0 9999 && decide (m ≤ t))) := rfl
set_option maxRecDepth 100000 in
set_option maxHeartbeats 16000000 in
theorem specPass (m : Int) (hs : List Hd) (t : Int) (A : Option Addr) (c : Nat) (w : World) (hn : hs.length ≤ 1048577) (h : RdH w w.heap.size A hs) :
    Calls Try.prog 29 #[.agg #[.int .i64 m, .slice A hs.length c], .int .i64 t] w fun e w' => ∃ v, e = .returned (.tuple #[.agg #[.int .i64 (ptM m hs t), v], .bool (goB m hs t)]) ∧ w'.ownsRow w.heap.size 54 10 v (ptV m hs t).length (rows (ptV m hs t)) ∧ Below w.heap.size w w' := by
  have B0 := Lib.hid ((newS 46 #[.int .i64 m, .slice A hs.length c] w).alloc (.cells #[.int .i64 0, .slice none 0 0] 46))
  have R0 := Lib.hid ((newS 46 #[.int .i64 m, .slice A hs.length c] w).next 46 #[.int .i64 0, .slice none 0 0])
  rw [World.size_alloc] at R0
  have HR := Lib.hid (fun (wr : World) (hb : Below w.heap.size w wr) => h.below hb (Nat.le_refl _))
  have GD := Lib.hid (fun W (hb : Below w.heap.size w W) => rcva.good9 m hs A c W hn (h.next hb))
  have M9 := Lib.hid (fun W => rcva.minute9 t W)
  obtain ⟨i0, hi, hz0, hz1, hz2⟩ := info_parts infoH
  have HN0 := Lib.hid (fun e => pt_none (m := m) (hs := hs) (t := t) e)
  have HY0 := Lib.hid (fun e => pt_some (m := m) (hs := hs) (t := t) e)
  have GO := Lib.hid (go_is m hs t)
  have VP := Lib.hid (fun (e : vB m hs = true) => v_parts e)
  have TI := Lib.hid (fun (e : isIn t 0 9999 = true) => (show 0 ≤ t ∧ t ≤ 9999 from of_decide_eq_true e))
  generalize hN : hs.length = n at *
  have HN := Lib.hid hN
  clear h hN
  go_enter Try.func29, Try.ntmps29
  go_wp2_with fail
  refine (GD.out _ B0.out.1).mono ?_
  rintro e V2 ⟨rfl, hb2⟩
  have B2 := Lib.hid (B0.out.old hb2)
  have R2 := Lib.hid (R0.out.old hb2)
  clear B0 R0 hb2 GD
  cases hvb : vB m hs
  · have HG := Lib.hid (show goB m hs t = false by rw [GO.out, hvb]; rfl)
    have HP := Lib.hid (HN0.out HG.out)
    clear hvb HN0 HY0 GO VP TI M9
    have r0 : V2.cell? ⟨w.heap.size + 1, 0, none⟩ = some (.int .i64 0) := R2.out.cell 0
    have r1 : V2.cell? ⟨w.heap.size + 1, 1, none⟩ = some (.slice none 0 0) := R2.out.cell 1
    have rf0 := R2.out.frozen 0
    have rf1 := R2.out.frozen 1
    have HE := Lib.hid ((R2.out.set 0 (.int .i64 0)).set 1 (.slice none 0 0))
    clear R2 B2
    go_wp2_with fail
    (try simp only [Exit.inBlock, Exit.then])
    have hl := HE.out.load Try.underlying46 rfl (by kernel_rfl)
    refine bodyPost_ret (v := .tuple #[.agg #[.int .i64 0, .slice none 0 0], .bool false]) ?_ rfl ⟨_, by rw [HP.out.1, HG.out], by rw [HP.out.2]; exact own_nil _ _ _ _, HE.out.1⟩
    rw [results_ct rfl]
    simp [asAddr, Result.andThen, hl]
  · go_wp2_with fail
    refine (M9.out _).mono ?_
    rintro e w' ⟨rfl, rfl⟩
    have a0 : V2.cell? ⟨w.heap.size, 0, none⟩ = some (.int .i64 m) := B2.out.cell 0
    cases hti : isIn t 0 9999
    · have HG := Lib.hid (show goB m hs t = false by rw [GO.out, hti]; simp)
      have HP := Lib.hid (HN0.out HG.out)
      clear hvb hti HN0 HY0 GO VP TI M9
      have r0 : V2.cell? ⟨w.heap.size + 1, 0, none⟩ = some (.int .i64 0) := R2.out.cell 0
      have r1 : V2.cell? ⟨w.heap.size + 1, 1, none⟩ = some (.slice none 0 0) := R2.out.cell 1
      have rf0 := R2.out.frozen 0
      have rf1 := R2.out.frozen 1
      have HE := Lib.hid ((R2.out.set 0 (.int .i64 0)).set 1 (.slice none 0 0))
      clear R2 B2
      go_wp2_with fail
      (try simp only [Exit.inBlock, Exit.then])
      have hl := HE.out.load Try.underlying46 rfl (by kernel_rfl)
      refine bodyPost_ret (v := .tuple #[.agg #[.int .i64 0, .slice none 0 0], .bool false]) ?_ rfl ⟨_, by rw [HP.out.1, HG.out], by rw [HP.out.2]; exact own_nil _ _ _ _, HE.out.1⟩
      rw [results_ct rfl]
      simp [asAddr, Result.andThen, hl]
    · by_cases hmt : m ≤ t
      rotate_left
      · have HG := Lib.hid (show goB m hs t = false by rw [GO.out, decide_eq_false hmt]; simp)
        have HP := Lib.hid (HN0.out HG.out)
        have gm : decide (t < m) = true := decide_eq_true (by omega)
        clear hvb hti HN0 HY0 GO VP TI M9 hmt
        have r0 : V2.cell? ⟨w.heap.size + 1, 0, none⟩ = some (.int .i64 0) := R2.out.cell 0
        have r1 : V2.cell? ⟨w.heap.size + 1, 1, none⟩ = some (.slice none 0 0) := R2.out.cell 1
        have rf0 := R2.out.frozen 0
        have rf1 := R2.out.frozen 1
        have HE := Lib.hid ((R2.out.set 0 (.int .i64 0)).set 1 (.slice none 0 0))
        clear R2 B2
        go_wp2_with fail
        (try simp only [Exit.inBlock, Exit.then])
        have hl := HE.out.load Try.underlying46 rfl (by kernel_rfl)
        refine bodyPost_ret (v := .tuple #[.agg #[.int .i64 0, .slice none 0 0], .bool false]) ?_ rfl ⟨_, by rw [HP.out.1, HG.out], by rw [HP.out.2]; exact own_nil _ _ _ _, HE.out.1⟩
        rw [results_ct rfl]
        simp [asAddr, Result.andThen, hl]
      · have HG := Lib.hid (show goB m hs t = true by rw [GO.out, hvb, hti, decide_eq_true hmt]; rfl)
        have HP := Lib.hid (HY0.out HG.out)
        have gm : decide (t < m) = false := decide_eq_false (by omega)
        have ht := TI.out hti
        have H6 := Lib.hid (VP.out hvb).2.1
        have h6 := H6.out
        obtain ⟨t0, t1⟩ := ht
        have AT := Lib.hid (fun k (hk : k < hs.length) => (one_at hvb hk).2)
        have ST := Lib.hid (fun k (hk : k < hs.length) => pt_step t hk)
        have LE := Lib.hid (fun k => pt_length (hs.take k) t)
        have S0 := Lib.hid (show ptL (hs.take 0) t = [] by simp [ptL])
        have SA := Lib.hid (show ptL (hs.take n) t = ptL hs t by rw [← HN.out, List.take_length])
        have B3 := Lib.hid (B2.out.alloc (.cells #[.int .i64 t, .slice none 0 0] 46))
        have R3 := Lib.hid (R2.out.alloc (.cells #[.int .i64 t, .slice none 0 0] 46))
        have Q3 := Lib.hid (R2.out.next 46 #[.int .i64 t, .slice none 0 0])
        have LQ := Lib.hid (show w.heap.size + 1 < V2.heap.size from R2.out.2.2.1)
        clear hvb hti HN0 HY0 GO VP TI M9 R2
        go_upto_region 4 with fail
        generalize V2.alloc (.cells #[.int .i64 t, .slice none 0 0] 46) = V3 at *
        generalize V2.heap.size = q at *
        clear a0 B2
        go_wp2_with fail
        go_loopw [7] (fun i wr => ∃ (k : Nat) (Av : Option Addr) (cv : Nat), k ≤ n ∧ i = .int .i64 k ∧ wr.ownsRow (q + 1) 54 10 (.slice Av (ptL (hs.take k) t).length cv) (ptL (hs.take k) t).length (rows (ptL (hs.take k) t)) ∧ AtS 46 #[.int .i64 t, .slice Av (ptL (hs.take k) t).length cv] w wr q ∧ AtS 46 #[.int .i64 m, .slice A n c] w wr w.heap.size ∧ AtS 46 #[.int .i64 0, .slice none 0 0] w wr (w.heap.size + 1)) (fun i _ => n - (intOf i).toNat)
        case atStart => exact ⟨0, none, 0, Nat.zero_le _, rfl, by rw [S0.out]; exact own_nil _ _ _ _, by rw [S0.out]; exact Q3.out, B3.out, R3.out⟩
        case round =>
          obtain ⟨k, Av, cv, hk, rfl, hown, hQ, hB, hR⟩ := hrel
          have BQ := Lib.hid hQ
          have BB := Lib.hid hB
          have BR := Lib.hid hR
          have HO := Lib.hid hown
          clear hown hQ hB hR B3 R3 Q3
          have a1 : wr.cell? ⟨w.heap.size, 1, none⟩ = some (.slice A n c) := BB.out.cell 1
          by_cases hlt : k < n
          · obtain ⟨b, o, rfl, hbl, c0, c1, c2, c3, c4, c5, c6, c7, c8, c9⟩ := (HR.out wr BB.out.1).cells (k := k) (by rw [HN.out]; exact hlt)
            have hlt2 : (k : Int) < (n : Int) := by omega
            obtain ⟨z1, z2⟩ := AT.out k (by rw [HN.out]; exact hlt)
            have HS := Lib.hid (ST.out k (by rw [HN.out]; exact hlt))
            have HL := Lib.hid (LE.out k)
            generalize hx hs k = z at *
            have BH := Lib.hid (BB.out.next 54 #[.int .i64 z.ad, .bool z.eo, .int .i64 z.ea, .int .i64 z.eb, .int .i64 z.et, .bool z.oo, .int .i64 z.oa, .int .i64 z.ob, .int .i64 z.ot, .int .i64 z.fr])
            have BQ1 := Lib.hid (BQ.out.alloc (.cells #[.int .i64 z.ad, .bool z.eo, .int .i64 z.ea, .int .i64 z.eb, .int .i64 z.et, .bool z.oo, .int .i64 z.oa, .int .i64 z.ob, .int .i64 z.ot, .int .i64 z.fr] 54))
            have BB1 := Lib.hid (BB.out.alloc (.cells #[.int .i64 z.ad, .bool z.eo, .int .i64 z.ea, .int .i64 z.eb, .int .i64 z.et, .bool z.oo, .int .i64 z.oa, .int .i64 z.ob, .int .i64 z.ot, .int .i64 z.fr] 54))
            have BR1 := Lib.hid (BR.out.alloc (.cells #[.int .i64 z.ad, .bool z.eo, .int .i64 z.ea, .int .i64 z.eb, .int .i64 z.et, .bool z.oo, .int .i64 z.oa, .int .i64 z.ob, .int .i64 z.ot, .int .i64 z.fr] 54))
            have HO1 := Lib.hid (HO.out.alloc (.cells #[.int .i64 z.ad, .bool z.eo, .int .i64 z.ea, .int .i64 z.eb, .int .i64 z.et, .bool z.oo, .int .i64 z.oa, .int .i64 z.ob, .int .i64 z.ot, .int .i64 z.fr] 54))
            have NEG := Lib.hid (fun e => Nat.lt_irrefl _ (own_row_lt HO.out wr.heap.size e))
            have QG := Lib.hid (show q + 1 ≤ wr.heap.size from BQ.out.2.2.1)
            clear BQ BB BR HO
            go_upto_region 8 with fail
            clear a1 c0 c1 c2 c3 c4 c5 c6 c7 c8 c9
            generalize wr.alloc (.cells #[.int .i64 z.ad, .bool z.eo, .int .i64 z.ea, .int .i64 z.eb, .int .i64 z.et, .bool z.oo, .int .i64 z.oa, .int .i64 z.ob, .int .i64 z.ot, .int .i64 z.fr] 54) = V at *
            generalize wr.heap.size = g at *
            have GQ := Lib.hid (show w.heap.size + 1 + 1 ≤ g by have := LQ.out; have := QG.out; omega)
            obtain ⟨d0, d1, d2, d3, d4, d5, d6, d7, d8, d9⟩ := ten BH.out
            obtain ⟨f0, f1, f2, f3, f4, f5, f6, f7, f8, f9⟩ := tenF BH.out
            have e1 := at_in ⟨t0, t1⟩ (show At t z.et by rcases z1 with x | x; exact .inl x; exact .inr (by omega))
            have e2 := at_in ⟨t0, t1⟩ (show At t z.ot by rcases z2 with x | x; exact .inl x; exact .inr (by omega))
            clear z1 z2
            clear e1 e2
            by_cases h1 : z.et < t - 10 <;> by_cases h2 : z.ot < t - 10
            · have g1 : decide (z.et < t - 10) = true := decide_eq_true h1
              have g2 : decide (z.ot < t - 10) = true := decide_eq_true h2
              have PY := Lib.hid (show ptOne t z = (⟨z.ad, false, 0, 0, -1, false, 0, 0, -1, z.fr⟩ : Hd) by unfold ptOne; simp only [if_pos h1, if_pos h2])
              have BH2 := Lib.hid (at_odd (at_even BH.out (.bool false) (.int .i64 0) (.int .i64 0) (.int .i64 (-1))) (.bool false) (.int .i64 0) (.int .i64 0) (.int .i64 (-1)))
              have HO2 := Lib.hid ((fourO (fourO HO1.out NEG.out 1 2 3 4 (.bool false) (.int .i64 0) (.int .i64 0) (.int .i64 (-1))) NEG.out 5 6 7 8 (.bool false) (.int .i64 0) (.int .i64 0) (.int .i64 (-1))))
              have BQ2 := Lib.hid (four5 (four BQ1.out QG.out (.bool false) (.int .i64 0) (.int .i64 0) (.int .i64 (-1))) QG.out (.bool false) (.int .i64 0) (.int .i64 0) (.int .i64 (-1)))
              have BB2 := Lib.hid (four5 (four BB1.out (show w.heap.size + 1 ≤ g by have := GQ.out; omega) (.bool false) (.int .i64 0) (.int .i64 0) (.int .i64 (-1))) (show w.heap.size + 1 ≤ g by have := GQ.out; omega) (.bool false) (.int .i64 0) (.int .i64 0) (.int .i64 (-1)))
              have BR2 := Lib.hid (four5 (four BR1.out GQ.out (.bool false) (.int .i64 0) (.int .i64 0) (.int .i64 (-1))) GQ.out (.bool false) (.int .i64 0) (.int .i64 0) (.int .i64 (-1)))
              clear BH HO1 BQ1 BB1 BR1 h1 h2
              go_upto_region 14 with fail
              generalize ((((((((((V.setCell ⟨g, 1, none⟩ (.bool false)).setCell ⟨g, 2, none⟩ (.int .i64 0)).setCell ⟨g, 3, none⟩ (.int .i64 0)).setCell ⟨g, 4, none⟩ (.int .i64 (-1)))).setCell ⟨g, 5, none⟩ (.bool false)).setCell ⟨g, 6, none⟩ (.int .i64 0)).setCell ⟨g, 7, none⟩ (.int .i64 0)).setCell ⟨g, 8, none⟩ (.int .i64 (-1)))) = V9 at *
              clear d0 d1 d2 d3 d4 d5 d6 d7 d8 d9 f0 f1 f2 f3 f4 f5 f6 f7 f8 f9
              obtain ⟨d0, d1, d2, d3, d4, d5, d6, d7, d8, d9⟩ := ten BH2.out
              have KP := Lib.hid (show keep (ptOne t z) = (decide (0 ≤ (-1 : Int)) || decide (0 ≤ (-1 : Int))) by rw [PY.out]; unfold keep; simp)
              have H0 := Lib.hid (show ptL (hs.take (k + 1)) t = ptL (hs.take k) t by rw [HS.out, KP.out]; simp)
              go_wp2_with fail
              go_roundw
              case rel => exact ⟨k + 1, Av, cv, by omega, by go_num, by rw [H0.out]; exact HO2.out, by rw [H0.out]; exact BQ2.out, BB2.out, BR2.out⟩
              case measure => simp [intOf]; omega
            · have g1 : decide (z.et < t - 10) = true := decide_eq_true h1
              have g2 : decide (z.ot < t - 10) = false := decide_eq_false h2
              have PY := Lib.hid (show ptOne t z = (⟨z.ad, false, 0, 0, -1, z.oo, z.oa, z.ob, z.ot, z.fr⟩ : Hd) by unfold ptOne; simp only [if_pos h1, if_neg h2])
              have BH2 := Lib.hid (at_even BH.out (.bool false) (.int .i64 0) (.int .i64 0) (.int .i64 (-1)))
              have HO2 := Lib.hid ((fourO HO1.out NEG.out 1 2 3 4 (.bool false) (.int .i64 0) (.int .i64 0) (.int .i64 (-1))))
              have BQ2 := Lib.hid (four BQ1.out QG.out (.bool false) (.int .i64 0) (.int .i64 0) (.int .i64 (-1)))
              have BB2 := Lib.hid (four BB1.out (show w.heap.size + 1 ≤ g by have := GQ.out; omega) (.bool false) (.int .i64 0) (.int .i64 0) (.int .i64 (-1)))
              have BR2 := Lib.hid (four BR1.out GQ.out (.bool false) (.int .i64 0) (.int .i64 0) (.int .i64 (-1)))
              clear BH HO1 BQ1 BB1 BR1 h1 h2
              go_upto_region 14 with fail
              generalize (((((V.setCell ⟨g, 1, none⟩ (.bool false)).setCell ⟨g, 2, none⟩ (.int .i64 0)).setCell ⟨g, 3, none⟩ (.int .i64 0)).setCell ⟨g, 4, none⟩ (.int .i64 (-1)))) = V9 at *
              clear d0 d1 d2 d3 d4 d5 d6 d7 d8 d9 f0 f1 f2 f3 f4 f5 f6 f7 f8 f9
              obtain ⟨d0, d1, d2, d3, d4, d5, d6, d7, d8, d9⟩ := ten BH2.out
              have KP := Lib.hid (show keep (ptOne t z) = (decide (0 ≤ (-1 : Int)) || decide (0 ≤ z.ot)) by rw [PY.out]; unfold keep; simp)
              generalize hk2 : decide (0 ≤ z.ot) = k2 at *
              rcases k2 with _ | _
              · have H0 := Lib.hid (show ptL (hs.take (k + 1)) t = ptL (hs.take k) t by rw [HS.out, KP.out]; simp)
                go_wp2_with fail
                go_roundw
                case rel => exact ⟨k + 1, Av, cv, by omega, by go_num, by rw [H0.out]; exact HO2.out, by rw [H0.out]; exact BQ2.out, BB2.out, BR2.out⟩
                case measure => simp [intOf]; omega
              · have H1 := Lib.hid (show ptL (hs.take (k + 1)) t = ptL (hs.take k) t ++ [(⟨z.ad, false, 0, 0, -1, z.oo, z.oa, z.ob, z.ot, z.fr⟩ : Hd)] by rw [HS.out, KP.out, PY.out]; simp)
                have hown := HO2.out
                have hlen := HL.out
                have hk6 : (hs.take k).length ≤ 6 := by rw [List.length_take, HN.out]; omega
                have HSZ := Lib.hid (show q + 1 ≤ V9.heap.size from BQ2.out.2.2.1)
                have hsz2 := HSZ.out
                generalize ptL (hs.take k) t = fa at *
                have q1 : V9.cell? ⟨q, 1, none⟩ = some (.slice Av fa.length cv) := BQ2.out.cell 1
                go_wp2_with (at_builtin; refine wpList_append_own _ rfl (.tmp 63) (.tmp 65) 44 rfl (q + 1) 54 i0 (hv zero) 10 80 Try.underlying44 hi hz0 hz1 hz2 rfl (by decide) _ fa.length (rows fa) rfl (hown.alloc _) ⟨V9.heap.size, 0, none⟩ 1 1 (row (⟨z.ad, false, 0, 0, -1, z.oo, z.oa, z.ob, z.ot, z.fr⟩ : Hd)) rfl rfl (cells_new _ _ #[.int .i64 z.ad, .bool false, .int .i64 0, .int .i64 0, .int .i64 (-1), .bool z.oo, .int .i64 z.oa, .int .i64 z.ob, .int .i64 z.ot, .int .i64 z.fr]) (row_cell _) (by unfold maxLen; omega) (by omega) (by simp; omega) ?_; intro v' w3 hown' hgrow hnil; have HO7 := Lib.hid (own_growH hown'); have BQ7 := Lib.hid (at_appB BQ2.out hown (Nat.lt_succ_self _) (Nat.le_trans (Nat.le_trans (Nat.le_succ _) (Nat.le_of_lt LQ.out)) (Nat.le_succ _)) hgrow); have BB7 := Lib.hid (at_appB BB2.out hown (Nat.lt_succ_of_lt (Nat.lt_of_le_of_lt (Nat.le_succ _) LQ.out)) (Nat.le_trans (Nat.le_trans (Nat.le_succ _) (Nat.le_of_lt LQ.out)) (Nat.le_succ _)) hgrow); have BR7 := Lib.hid (at_appB BR2.out hown (Nat.lt_succ_of_lt LQ.out) (Nat.le_trans (Nat.le_trans (Nat.le_succ _) (Nat.le_of_lt LQ.out)) (Nat.le_succ _)) hgrow); clear hown' hgrow hnil hown d0 d1 d2 d3 d4 d5 d6 d7 d8 d9 q1; obtain ⟨Av2, cv2, rfl⟩ := own_sliceZ HO7.out; have q2 : w3.cell? ⟨q, 1, none⟩ = some (.slice Av fa.length cv) := BQ7.out.cell 1; have q3 := BQ7.out.frozen 1)
                have LW := Lib.hid (show w.heap.size ≤ q by have := LQ.out; omega)
                have BQ8 := Lib.hid (BQ7.out.set 1 (.slice Av2 (fa.length + 1) cv2))
                have BB8 := Lib.hid (BB7.out.other (b' := q) LW.out (by have := LQ.out; omega) 1 (.slice Av2 (fa.length + 1) cv2))
                have BR8 := Lib.hid (BR7.out.other (b' := q) LW.out (by have := LQ.out; omega) 1 (.slice Av2 (fa.length + 1) cv2))
                have HO8 := Lib.hid (own_setbox HO7.out (Nat.lt_succ_self _) 1 (.slice Av2 (fa.length + 1) cv2))
                go_roundw
                case rel => exact ⟨k + 1, Av2, cv2, by omega, by go_num, by rw [H1.out]; exact HO8.out, by rw [H1.out, List.length_append]; exact BQ8.out, BB8.out, BR8.out⟩
                case measure => simp [intOf]; omega
            · have g1 : decide (z.et < t - 10) = false := decide_eq_false h1
              have g2 : decide (z.ot < t - 10) = true := decide_eq_true h2
              have PY := Lib.hid (show ptOne t z = (⟨z.ad, z.eo, z.ea, z.eb, z.et, false, 0, 0, -1, z.fr⟩ : Hd) by unfold ptOne; simp only [if_neg h1, if_pos h2])
              have BH2 := Lib.hid (at_odd BH.out (.bool false) (.int .i64 0) (.int .i64 0) (.int .i64 (-1)))
              have HO2 := Lib.hid ((fourO HO1.out NEG.out 5 6 7 8 (.bool false) (.int .i64 0) (.int .i64 0) (.int .i64 (-1))))
              have BQ2 := Lib.hid (four5 BQ1.out QG.out (.bool false) (.int .i64 0) (.int .i64 0) (.int .i64 (-1)))
              have BB2 := Lib.hid (four5 BB1.out (show w.heap.size + 1 ≤ g by have := GQ.out; omega) (.bool false) (.int .i64 0) (.int .i64 0) (.int .i64 (-1)))
              have BR2 := Lib.hid (four5 BR1.out GQ.out (.bool false) (.int .i64 0) (.int .i64 0) (.int .i64 (-1)))
              clear BH HO1 BQ1 BB1 BR1 h1 h2
              go_upto_region 14 with fail
              generalize (((((V.setCell ⟨g, 5, none⟩ (.bool false)).setCell ⟨g, 6, none⟩ (.int .i64 0)).setCell ⟨g, 7, none⟩ (.int .i64 0)).setCell ⟨g, 8, none⟩ (.int .i64 (-1)))) = V9 at *
              clear d0 d1 d2 d3 d4 d5 d6 d7 d8 d9 f0 f1 f2 f3 f4 f5 f6 f7 f8 f9
              obtain ⟨d0, d1, d2, d3, d4, d5, d6, d7, d8, d9⟩ := ten BH2.out
              have KP := Lib.hid (show keep (ptOne t z) = (decide (0 ≤ z.et) || decide (0 ≤ (-1 : Int))) by rw [PY.out]; unfold keep; simp)
              generalize hk1 : decide (0 ≤ z.et) = k1 at *
              rcases k1 with _ | _
              · have H0 := Lib.hid (show ptL (hs.take (k + 1)) t = ptL (hs.take k) t by rw [HS.out, KP.out]; simp)
                go_wp2_with fail
                go_roundw
                case rel => exact ⟨k + 1, Av, cv, by omega, by go_num, by rw [H0.out]; exact HO2.out, by rw [H0.out]; exact BQ2.out, BB2.out, BR2.out⟩
                case measure => simp [intOf]; omega
              · have H1 := Lib.hid (show ptL (hs.take (k + 1)) t = ptL (hs.take k) t ++ [(⟨z.ad, z.eo, z.ea, z.eb, z.et, false, 0, 0, -1, z.fr⟩ : Hd)] by rw [HS.out, KP.out, PY.out]; simp)
                have hown := HO2.out
                have hlen := HL.out
                have hk6 : (hs.take k).length ≤ 6 := by rw [List.length_take, HN.out]; omega
                have HSZ := Lib.hid (show q + 1 ≤ V9.heap.size from BQ2.out.2.2.1)
                have hsz2 := HSZ.out
                generalize ptL (hs.take k) t = fa at *
                have q1 : V9.cell? ⟨q, 1, none⟩ = some (.slice Av fa.length cv) := BQ2.out.cell 1
                go_wp2_with (at_builtin; refine wpList_append_own _ rfl (.tmp 63) (.tmp 65) 44 rfl (q + 1) 54 i0 (hv zero) 10 80 Try.underlying44 hi hz0 hz1 hz2 rfl (by decide) _ fa.length (rows fa) rfl (hown.alloc _) ⟨V9.heap.size, 0, none⟩ 1 1 (row (⟨z.ad, z.eo, z.ea, z.eb, z.et, false, 0, 0, -1, z.fr⟩ : Hd)) rfl rfl (cells_new _ _ #[.int .i64 z.ad, .bool z.eo, .int .i64 z.ea, .int .i64 z.eb, .int .i64 z.et, .bool false, .int .i64 0, .int .i64 0, .int .i64 (-1), .int .i64 z.fr]) (row_cell _) (by unfold maxLen; omega) (by omega) (by simp; omega) ?_; intro v' w3 hown' hgrow hnil; have HO7 := Lib.hid (own_growH hown'); have BQ7 := Lib.hid (at_appB BQ2.out hown (Nat.lt_succ_self _) (Nat.le_trans (Nat.le_trans (Nat.le_succ _) (Nat.le_of_lt LQ.out)) (Nat.le_succ _)) hgrow); have BB7 := Lib.hid (at_appB BB2.out hown (Nat.lt_succ_of_lt (Nat.lt_of_le_of_lt (Nat.le_succ _) LQ.out)) (Nat.le_trans (Nat.le_trans (Nat.le_succ _) (Nat.le_of_lt LQ.out)) (Nat.le_succ _)) hgrow); have BR7 := Lib.hid (at_appB BR2.out hown (Nat.lt_succ_of_lt LQ.out) (Nat.le_trans (Nat.le_trans (Nat.le_succ _) (Nat.le_of_lt LQ.out)) (Nat.le_succ _)) hgrow); clear hown' hgrow hnil hown d0 d1 d2 d3 d4 d5 d6 d7 d8 d9 q1; obtain ⟨Av2, cv2, rfl⟩ := own_sliceZ HO7.out; have q2 : w3.cell? ⟨q, 1, none⟩ = some (.slice Av fa.length cv) := BQ7.out.cell 1; have q3 := BQ7.out.frozen 1)
                have LW := Lib.hid (show w.heap.size ≤ q by have := LQ.out; omega)
                have BQ8 := Lib.hid (BQ7.out.set 1 (.slice Av2 (fa.length + 1) cv2))
                have BB8 := Lib.hid (BB7.out.other (b' := q) LW.out (by have := LQ.out; omega) 1 (.slice Av2 (fa.length + 1) cv2))
                have BR8 := Lib.hid (BR7.out.other (b' := q) LW.out (by have := LQ.out; omega) 1 (.slice Av2 (fa.length + 1) cv2))
                have HO8 := Lib.hid (own_setbox HO7.out (Nat.lt_succ_self _) 1 (.slice Av2 (fa.length + 1) cv2))
                go_roundw
                case rel => exact ⟨k + 1, Av2, cv2, by omega, by go_num, by rw [H1.out]; exact HO8.out, by rw [H1.out, List.length_append]; exact BQ8.out, BB8.out, BR8.out⟩
                case measure => simp [intOf]; omega
            · have g1 : decide (z.et < t - 10) = false := decide_eq_false h1
              have g2 : decide (z.ot < t - 10) = false := decide_eq_false h2
              have PY := Lib.hid (show ptOne t z = (⟨z.ad, z.eo, z.ea, z.eb, z.et, z.oo, z.oa, z.ob, z.ot, z.fr⟩ : Hd) by unfold ptOne; simp only [if_neg h1, if_neg h2])
              have BH2 := Lib.hid BH.out
              have HO2 := Lib.hid (HO1.out)
              have BQ2 := Lib.hid BQ1.out
              have BB2 := Lib.hid BB1.out
              have BR2 := Lib.hid BR1.out
              clear BH HO1 BQ1 BB1 BR1 h1 h2
              go_upto_region 14 with fail
              generalize V = V9 at *
              clear d0 d1 d2 d3 d4 d5 d6 d7 d8 d9 f0 f1 f2 f3 f4 f5 f6 f7 f8 f9
              obtain ⟨d0, d1, d2, d3, d4, d5, d6, d7, d8, d9⟩ := ten BH2.out
              have KP := Lib.hid (show keep (ptOne t z) = (decide (0 ≤ z.et) || decide (0 ≤ z.ot)) by rw [PY.out]; unfold keep; simp)
              generalize hk1 : decide (0 ≤ z.et) = k1 at *
              generalize hk2 : decide (0 ≤ z.ot) = k2 at *
              rcases k1 with _ | _ <;> rcases k2 with _ | _
              · have H0 := Lib.hid (show ptL (hs.take (k + 1)) t = ptL (hs.take k) t by rw [HS.out, KP.out]; simp)
                go_wp2_with fail
                go_roundw
                case rel => exact ⟨k + 1, Av, cv, by omega, by go_num, by rw [H0.out]; exact HO2.out, by rw [H0.out]; exact BQ2.out, BB2.out, BR2.out⟩
                case measure => simp [intOf]; omega
              · have H1 := Lib.hid (show ptL (hs.take (k + 1)) t = ptL (hs.take k) t ++ [(⟨z.ad, z.eo, z.ea, z.eb, z.et, z.oo, z.oa, z.ob, z.ot, z.fr⟩ : Hd)] by rw [HS.out, KP.out, PY.out]; simp)
                have hown := HO2.out
                have hlen := HL.out
                have hk6 : (hs.take k).length ≤ 6 := by rw [List.length_take, HN.out]; omega
                have HSZ := Lib.hid (show q + 1 ≤ V9.heap.size from BQ2.out.2.2.1)
                have hsz2 := HSZ.out
                generalize ptL (hs.take k) t = fa at *
                have q1 : V9.cell? ⟨q, 1, none⟩ = some (.slice Av fa.length cv) := BQ2.out.cell 1
                go_wp2_with (at_builtin; refine wpList_append_own _ rfl (.tmp 63) (.tmp 65) 44 rfl (q + 1) 54 i0 (hv zero) 10 80 Try.underlying44 hi hz0 hz1 hz2 rfl (by decide) _ fa.length (rows fa) rfl (hown.alloc _) ⟨V9.heap.size, 0, none⟩ 1 1 (row (⟨z.ad, z.eo, z.ea, z.eb, z.et, z.oo, z.oa, z.ob, z.ot, z.fr⟩ : Hd)) rfl rfl (cells_new _ _ #[.int .i64 z.ad, .bool z.eo, .int .i64 z.ea, .int .i64 z.eb, .int .i64 z.et, .bool z.oo, .int .i64 z.oa, .int .i64 z.ob, .int .i64 z.ot, .int .i64 z.fr]) (row_cell _) (by unfold maxLen; omega) (by omega) (by simp; omega) ?_; intro v' w3 hown' hgrow hnil; have HO7 := Lib.hid (own_growH hown'); have BQ7 := Lib.hid (at_appB BQ2.out hown (Nat.lt_succ_self _) (Nat.le_trans (Nat.le_trans (Nat.le_succ _) (Nat.le_of_lt LQ.out)) (Nat.le_succ _)) hgrow); have BB7 := Lib.hid (at_appB BB2.out hown (Nat.lt_succ_of_lt (Nat.lt_of_le_of_lt (Nat.le_succ _) LQ.out)) (Nat.le_trans (Nat.le_trans (Nat.le_succ _) (Nat.le_of_lt LQ.out)) (Nat.le_succ _)) hgrow); have BR7 := Lib.hid (at_appB BR2.out hown (Nat.lt_succ_of_lt LQ.out) (Nat.le_trans (Nat.le_trans (Nat.le_succ _) (Nat.le_of_lt LQ.out)) (Nat.le_succ _)) hgrow); clear hown' hgrow hnil hown d0 d1 d2 d3 d4 d5 d6 d7 d8 d9 q1; obtain ⟨Av2, cv2, rfl⟩ := own_sliceZ HO7.out; have q2 : w3.cell? ⟨q, 1, none⟩ = some (.slice Av fa.length cv) := BQ7.out.cell 1; have q3 := BQ7.out.frozen 1)
                have LW := Lib.hid (show w.heap.size ≤ q by have := LQ.out; omega)
                have BQ8 := Lib.hid (BQ7.out.set 1 (.slice Av2 (fa.length + 1) cv2))
                have BB8 := Lib.hid (BB7.out.other (b' := q) LW.out (by have := LQ.out; omega) 1 (.slice Av2 (fa.length + 1) cv2))
                have BR8 := Lib.hid (BR7.out.other (b' := q) LW.out (by have := LQ.out; omega) 1 (.slice Av2 (fa.length + 1) cv2))
                have HO8 := Lib.hid (own_setbox HO7.out (Nat.lt_succ_self _) 1 (.slice Av2 (fa.length + 1) cv2))
                go_roundw
                case rel => exact ⟨k + 1, Av2, cv2, by omega, by go_num, by rw [H1.out]; exact HO8.out, by rw [H1.out, List.length_append]; exact BQ8.out, BB8.out, BR8.out⟩
                case measure => simp [intOf]; omega
              · have H1 := Lib.hid (show ptL (hs.take (k + 1)) t = ptL (hs.take k) t ++ [(⟨z.ad, z.eo, z.ea, z.eb, z.et, z.oo, z.oa, z.ob, z.ot, z.fr⟩ : Hd)] by rw [HS.out, KP.out, PY.out]; simp)
                have hown := HO2.out
                have hlen := HL.out
                have hk6 : (hs.take k).length ≤ 6 := by rw [List.length_take, HN.out]; omega
                have HSZ := Lib.hid (show q + 1 ≤ V9.heap.size from BQ2.out.2.2.1)
                have hsz2 := HSZ.out
                generalize ptL (hs.take k) t = fa at *
                have q1 : V9.cell? ⟨q, 1, none⟩ = some (.slice Av fa.length cv) := BQ2.out.cell 1
                go_wp2_with (at_builtin; refine wpList_append_own _ rfl (.tmp 63) (.tmp 65) 44 rfl (q + 1) 54 i0 (hv zero) 10 80 Try.underlying44 hi hz0 hz1 hz2 rfl (by decide) _ fa.length (rows fa) rfl (hown.alloc _) ⟨V9.heap.size, 0, none⟩ 1 1 (row (⟨z.ad, z.eo, z.ea, z.eb, z.et, z.oo, z.oa, z.ob, z.ot, z.fr⟩ : Hd)) rfl rfl (cells_new _ _ #[.int .i64 z.ad, .bool z.eo, .int .i64 z.ea, .int .i64 z.eb, .int .i64 z.et, .bool z.oo, .int .i64 z.oa, .int .i64 z.ob, .int .i64 z.ot, .int .i64 z.fr]) (row_cell _) (by unfold maxLen; omega) (by omega) (by simp; omega) ?_; intro v' w3 hown' hgrow hnil; have HO7 := Lib.hid (own_growH hown'); have BQ7 := Lib.hid (at_appB BQ2.out hown (Nat.lt_succ_self _) (Nat.le_trans (Nat.le_trans (Nat.le_succ _) (Nat.le_of_lt LQ.out)) (Nat.le_succ _)) hgrow); have BB7 := Lib.hid (at_appB BB2.out hown (Nat.lt_succ_of_lt (Nat.lt_of_le_of_lt (Nat.le_succ _) LQ.out)) (Nat.le_trans (Nat.le_trans (Nat.le_succ _) (Nat.le_of_lt LQ.out)) (Nat.le_succ _)) hgrow); have BR7 := Lib.hid (at_appB BR2.out hown (Nat.lt_succ_of_lt LQ.out) (Nat.le_trans (Nat.le_trans (Nat.le_succ _) (Nat.le_of_lt LQ.out)) (Nat.le_succ _)) hgrow); clear hown' hgrow hnil hown d0 d1 d2 d3 d4 d5 d6 d7 d8 d9 q1; obtain ⟨Av2, cv2, rfl⟩ := own_sliceZ HO7.out; have q2 : w3.cell? ⟨q, 1, none⟩ = some (.slice Av fa.length cv) := BQ7.out.cell 1; have q3 := BQ7.out.frozen 1)
                have LW := Lib.hid (show w.heap.size ≤ q by have := LQ.out; omega)
                have BQ8 := Lib.hid (BQ7.out.set 1 (.slice Av2 (fa.length + 1) cv2))
                have BB8 := Lib.hid (BB7.out.other (b' := q) LW.out (by have := LQ.out; omega) 1 (.slice Av2 (fa.length + 1) cv2))
                have BR8 := Lib.hid (BR7.out.other (b' := q) LW.out (by have := LQ.out; omega) 1 (.slice Av2 (fa.length + 1) cv2))
                have HO8 := Lib.hid (own_setbox HO7.out (Nat.lt_succ_self _) 1 (.slice Av2 (fa.length + 1) cv2))
                go_roundw
                case rel => exact ⟨k + 1, Av2, cv2, by omega, by go_num, by rw [H1.out]; exact HO8.out, by rw [H1.out, List.length_append]; exact BQ8.out, BB8.out, BR8.out⟩
                case measure => simp [intOf]; omega
              · have H1 := Lib.hid (show ptL (hs.take (k + 1)) t = ptL (hs.take k) t ++ [(⟨z.ad, z.eo, z.ea, z.eb, z.et, z.oo, z.oa, z.ob, z.ot, z.fr⟩ : Hd)] by rw [HS.out, KP.out, PY.out]; simp)
                have hown := HO2.out
                have hlen := HL.out
                have hk6 : (hs.take k).length ≤ 6 := by rw [List.length_take, HN.out]; omega
                have HSZ := Lib.hid (show q + 1 ≤ V9.heap.size from BQ2.out.2.2.1)
                have hsz2 := HSZ.out
                generalize ptL (hs.take k) t = fa at *
                have q1 : V9.cell? ⟨q, 1, none⟩ = some (.slice Av fa.length cv) := BQ2.out.cell 1
                go_wp2_with (at_builtin; refine wpList_append_own _ rfl (.tmp 63) (.tmp 65) 44 rfl (q + 1) 54 i0 (hv zero) 10 80 Try.underlying44 hi hz0 hz1 hz2 rfl (by decide) _ fa.length (rows fa) rfl (hown.alloc _) ⟨V9.heap.size, 0, none⟩ 1 1 (row (⟨z.ad, z.eo, z.ea, z.eb, z.et, z.oo, z.oa, z.ob, z.ot, z.fr⟩ : Hd)) rfl rfl (cells_new _ _ #[.int .i64 z.ad, .bool z.eo, .int .i64 z.ea, .int .i64 z.eb, .int .i64 z.et, .bool z.oo, .int .i64 z.oa, .int .i64 z.ob, .int .i64 z.ot, .int .i64 z.fr]) (row_cell _) (by unfold maxLen; omega) (by omega) (by simp; omega) ?_; intro v' w3 hown' hgrow hnil; have HO7 := Lib.hid (own_growH hown'); have BQ7 := Lib.hid (at_appB BQ2.out hown (Nat.lt_succ_self _) (Nat.le_trans (Nat.le_trans (Nat.le_succ _) (Nat.le_of_lt LQ.out)) (Nat.le_succ _)) hgrow); have BB7 := Lib.hid (at_appB BB2.out hown (Nat.lt_succ_of_lt (Nat.lt_of_le_of_lt (Nat.le_succ _) LQ.out)) (Nat.le_trans (Nat.le_trans (Nat.le_succ _) (Nat.le_of_lt LQ.out)) (Nat.le_succ _)) hgrow); have BR7 := Lib.hid (at_appB BR2.out hown (Nat.lt_succ_of_lt LQ.out) (Nat.le_trans (Nat.le_trans (Nat.le_succ _) (Nat.le_of_lt LQ.out)) (Nat.le_succ _)) hgrow); clear hown' hgrow hnil hown d0 d1 d2 d3 d4 d5 d6 d7 d8 d9 q1; obtain ⟨Av2, cv2, rfl⟩ := own_sliceZ HO7.out; have q2 : w3.cell? ⟨q, 1, none⟩ = some (.slice Av fa.length cv) := BQ7.out.cell 1; have q3 := BQ7.out.frozen 1)
                have LW := Lib.hid (show w.heap.size ≤ q by have := LQ.out; omega)
                have BQ8 := Lib.hid (BQ7.out.set 1 (.slice Av2 (fa.length + 1) cv2))
                have BB8 := Lib.hid (BB7.out.other (b' := q) LW.out (by have := LQ.out; omega) 1 (.slice Av2 (fa.length + 1) cv2))
                have BR8 := Lib.hid (BR7.out.other (b' := q) LW.out (by have := LQ.out; omega) 1 (.slice Av2 (fa.length + 1) cv2))
                have HO8 := Lib.hid (own_setbox HO7.out (Nat.lt_succ_self _) 1 (.slice Av2 (fa.length + 1) cv2))
                go_roundw
                case rel => exact ⟨k + 1, Av2, cv2, by omega, by go_num, by rw [H1.out]; exact HO8.out, by rw [H1.out, List.length_append]; exact BQ8.out, BB8.out, BR8.out⟩
                case measure => simp [intOf]; omega
          · obtain rfl : k = n := by omega
            have HF2 := Lib.hid (show ptV m hs t = ptL (hs.take k) t by rw [HP.out.2, SA.out])
            generalize hf : ptL (hs.take k) t = fa at *
            clear hf
            have r0 : wr.cell? ⟨w.heap.size + 1, 0, none⟩ = some (.int .i64 0) := BR.out.cell 0
            have r1 : wr.cell? ⟨w.heap.size + 1, 1, none⟩ = some (.slice none 0 0) := BR.out.cell 1
            have q0 : wr.cell? ⟨q, 0, none⟩ = some (.int .i64 t) := BQ.out.cell 0
            have q1 : wr.cell? ⟨q, 1, none⟩ = some (.slice Av fa.length cv) := BQ.out.cell 1
            have rf0 := BR.out.frozen 0
            have rf1 := BR.out.frozen 1
            have HE := Lib.hid ((BR.out.set 0 (.int .i64 t)).set 1 (.slice Av fa.length cv))
            have HO9 := Lib.hid (own_setbox (own_setbox HO.out (Nat.lt_succ_of_lt LQ.out) 0 (.int .i64 t)) (Nat.lt_succ_of_lt LQ.out) 1 (.slice Av fa.length cv))
            go_wp2_with fail
            (try simp only [Exit.inBlock, Exit.then])
            have hl := HE.out.load Try.underlying46 rfl (by kernel_rfl)
            refine bodyPost_ret (v := .tuple #[.agg #[.int .i64 t, .slice Av fa.length cv], .bool true]) ?_ rfl ⟨_, by rw [HP.out.1, HG.out], by rw [HF2.out]; exact own_.own_base HO9.out (Nat.le_trans (Nat.le_trans (Nat.le_succ _) (Nat.le_of_lt LQ.out)) (Nat.le_succ _)), HE.out.1⟩
            rw [results_ct rfl]
            simp [asAddr, Result.andThen, hl]
end Go.Proofs.Ytdeghpihcddlgaa.rcvn
