/- spec.BlindPoints: the keys that have come and how often each has come, two lists that grow in one loop. -/
import Derived.Test.YtpbopiecfnedgabBlnK
namespace Go.Proofs.Ytpbopiecfnedgab.blns
open Go.RowKit Go.Proofs.Ytpbopiecfnedgab.ints Go.Proofs.Ytpbopiecfnedgab.lst Go.Proofs.Ytpbopiecfnedgab.ats Go.Proofs.Ytpbopiecfnedgab.intc Go.Proofs.Ytpbopiecfnedgab.sit Go.Proofs.Ytpbopiecfnedgab.loc Go.Proofs.Ytpbopiecfnedgab.bln Go.Proofs.Ytpbopiecfnedgab.rws Go.Proofs.Ytpbopiecfnedgab.tailh

set_option maxRecDepth 100000 in
set_option maxHeartbeats 16000000 in
theorem blindS (zs : List Int) (A : Option Addr) (n c : Nat) (w : World) (hn : n ≤ 1048577) (h1 : RdZ 2 w w.heap.size A n zs) :
    Calls Try.prog 34 #[.slice A n c] w fun e w' => e = .returned (.tuple #[.int .i64 (blV zs n), .bool (siB zs n)]) ∧ Below w.heap.size w w' := by
  have G := sits.good10 zs A n c w hn h1
  cases hs : siB zs n
  · rw [hs] at G
    have HV := Lib.hid (blV_no hs)
    have G := Lib.hid G
    clear hs h1
    go_enter Try.func34, Try.ntmps34
    go_wp2_with fail
    refine G.out.mono ?_
    rintro e w1 ⟨rfl, hb⟩
    have HB := Lib.hid hb
    clear hb
    go_wp2_with fail
    go_ret2
    exact ⟨by rw [HV.out]; rfl, HB.out⟩
  rw [hs] at G
  have HV := Lib.hid (blV_yes hs)
  obtain ⟨hn1, hn5, hon, -⟩ := siB_yes hs
  have HOK := Lib.hid (okL_on hon)
  have HON := Lib.hid hon
  have HDS := Lib.hid (fun k j (hk : k < 961) (hj : j < n) => ds_in hon hj (p_on hk))
  obtain ⟨iI, hiI, hzI0, hzI1, hzI2⟩ := info_parts infoI
  obtain ⟨iL, hiL, hzL0, hzL1, hzL2⟩ := info_parts infoL
  have HR := Lib.hid h1
  have G := Lib.hid G
  clear hs h1 hon
  go_enter Try.func34, Try.ntmps34
  go_wp2_with fail
  refine G.out.mono ?_
  rintro e w1 ⟨rfl, hb⟩
  have S0 : SB w1.heap.size ((w1.alloc (.cells #[] 23)).alloc (.cells #[] 3)) (.slice (some ⟨w1.heap.size, 0, none⟩) 0 0) (.slice (some ⟨(w1.alloc (.cells #[] 23)).heap.size, 0, none⟩) 0 0) (seenT (kyT zs n) 0) (timT (kyT zs n) 0) :=
    ⟨[], (own_emptyZ w1 23 1).alloc _, Ins.nil .., own_.own_base (own_emptyZ (w1.alloc (.cells #[] 23)) 3 1) (by rw [World.size_alloc]; omega), fun i u g h => by simp at h⟩
  rw [World.size_alloc] at S0
  have S0 := Lib.hid S0
  have B0 := Lib.hid (((Below.refl w1.heap.size w1).alloc (Nat.le_refl _) (.cells #[] 23)).alloc (by rw [World.size_alloc]; omega) (.cells #[] 3))
  have HB1 := Lib.hid hb
  clear hb G
  go_upto_region 5 with fail
  generalize (w1.alloc (.cells #[] 23)).alloc (.cells #[] 3) = W0 at *
  generalize w1.heap.size + 1 = b5 at *
  have HR1 := Lib.hid (fun (W : World) (hb : Below w1.heap.size w1 W) => HR.out.below (HB1.out.trans (hb.mono HB1.out.size)) (Nat.le_refl _))
  have HRN := Lib.hid (fun (W : World) (hb : Below w1.heap.size w1 W) => Go.Proofs.Ytpbopiecfnedgab.intc.RdZ.more (HR1.out W hb) (Nat.le_trans HB1.out.size hb.size))
  clear HR HR1
  go_wp2_with fail
  go_loopw [4, 5, 6, 7, 8, 9, 10, 11] (fun v4 v5 yv _ _ _ _ _ wr => ∃ y : Nat, y ≤ 31 ∧ yv = .int .i64 y ∧ SB w1.heap.size wr v4 v5 (seenT (kyT zs n) (y * 31)) (timT (kyT zs n) (y * 31)) ∧ Below w1.heap.size w1 wr) (fun _ _ yv _ _ _ _ _ _ => 31 - (intOf yv).toNat)
  case atStart => exact ⟨0, by omega, rfl, S0.out, B0.out⟩
  case round =>
    obtain ⟨y, hy, rfl, hsb, hb⟩ := hrel
    clear S0 B0
    have HS := Lib.hid hsb
    have HB := Lib.hid hb
    clear hsb hb
    by_cases hyl : y < 31
    · have hy30 : (y : Int) ≤ 30 := by omega
      generalize wr = Wy at *
      go_wp2_with fail
      go_loopw [4, 5, 7, 8, 9, 10, 11] (fun v4 v5 xv _ _ _ _ wr => ∃ x : Nat, x ≤ 31 ∧ xv = .int .i64 x ∧ SB w1.heap.size wr v4 v5 (seenT (kyT zs n) (y * 31 + x)) (timT (kyT zs n) (y * 31 + x)) ∧ Below w1.heap.size w1 wr) (fun _ _ xv _ _ _ _ _ => 31 - (intOf xv).toNat)
      case atStart => exact ⟨0, by omega, rfl, HS.out, HB.out⟩
      case round =>
        obtain ⟨x, hx, rfl, hsb, hb⟩ := hrel
        clear HS HB
        have HS := Lib.hid hsb
        have HB := Lib.hid hb
        clear hsb hb
        by_cases hxl : x < 31
        · have hx30 : (x : Int) ≤ 30 := by omega
          obtain ⟨⟨A4, c4, rfl⟩, A5, c5, rfl⟩ := HS.out.slices
          obtain ⟨N, hN⟩ : ∃ N, N = y * 31 + x := ⟨_, rfl⟩
          have hN9 : N < 961 := by omega
          obtain ⟨e1, e2⟩ := p_row (x := x) (y := y) hxl
          have AR := sitt.arrivals10 zs (pX N) (pY N) 0 A n c wr (by omega) HOK.out (okP_on (p_on hN9)) (by omega) (by omega) (HRN.out wr HB.out)
          rw [hN, e1, e2] at AR
          have AR := Lib.hid AR
          have HN1 := Lib.hid (show y * 31 + (x + 1) = N + 1 by omega)
          have HKA := Lib.hid (fun j (hj : j < n) => ky_at (zs := zs) (k := N) hj)
          have HDA := Lib.hid (fun j (hj : j < n) => avT_at (zs := zs) (x := (x : Int)) (y := (y : Int)) (t := 0) hj)
          have HD := Lib.hid (fun j (hj : j < n) => show 0 ≤ ds zs (x : Int) (y : Int) j ∧ ds zs (x : Int) (y : Int) j ≤ 60 from by have := HDS.out N j hN9 hj; rw [hN, e1, e2] at this; exact this)
          have HE12 := Lib.hid (show pX N = (x : Int) ∧ pY N = (y : Int) from by rw [hN]; exact ⟨e1, e2⟩)
          rw [← hN] at HS ⊢
          clear e1 e2 hN
          have hLK := kyT_length zs n N
          have hLD := avT_length zs (x : Int) (y : Int) 0 n
          generalize hK : kyT zs n N = KY at *
          generalize avT zs (x : Int) (y : Int) 0 n = DV at *
          have HK := Lib.hid hK
          clear hK
          go_wp2_with fail
          refine AR.out.mono ?_
          rintro e W1 ⟨v8, rfl, ho, hb⟩
          generalize wr = Wx at *
          obtain ⟨g8, c8, rfl, hg8, hg81⟩ : ∃ g8 c8, v8 = .slice (some ⟨g8, 0, none⟩) n c8 ∧ Wx.heap.size ≤ g8 ∧ g8 < W1.heap.size := by
            rcases ho.2 with ⟨_, h0⟩ | ⟨g, cap, cur, rfl, hge, hh, _⟩
            · omega
            · exact ⟨g, cap, rfl, hge, (Array.getElem?_eq_some_iff.1 hh).1⟩
          have HO := Lib.hid ho
          have HB1' := Lib.hid hb
          clear ho hb AR
          go_wp2_with fail
          go_loopw [9] (fun iv wr => ∃ j : Nat, j ≤ n ∧ iv = .int .i64 ((j : Int) - 1) ∧ wr.ownsRow Wx.heap.size 3 1 (.slice (some ⟨g8, 0, none⟩) n c8) n (cellsI (mix KY DV j)) ∧ Below Wx.heap.size Wx wr) (fun iv _ => (intOf iv + 1).toNat)
          case atStart => exact ⟨n, Nat.le_refl _, by first | rfl | go_num, by rw [mix_all hLK hLD]; exact HO.out, HB1'.out⟩
          case round =>
            obtain ⟨j, hj, rfl, ho, hb⟩ := hrel
            clear HO HB1' hg81
            have HO := Lib.hid ho
            have HBi := Lib.hid hb
            clear ho hb
            by_cases hj0 : 0 < j
            · obtain ⟨q, rfl⟩ : ∃ q, j = q + 1 := ⟨j - 1, by omega⟩
              have hq : q < n := by omega
              have hqi : (q : Int) < (n : Int) := by omega
              have hq0 : (0 : Int) ≤ (q : Int) := Int.natCast_nonneg _
              have hn0i : (0 : Int) < (n : Int) := by omega
              have hn0 : 0 < n := by omega
              have eq1 : ((q + 1 : Nat) : Int) - 1 = (q : Int) := by omega
              rw [eq1]
              have hk := HKA.out q hq
              rw [HE12.out.1, HE12.out.2] at hk
              have hd := HDA.out q hq
              have hd0 := HDA.out 0 (by omega)
              have dq := HD.out q hq
              have d0 := HD.out 0 (by omega)
              have hc1 : wr.cell? ⟨g8, q, none⟩ = some (.int .i64 (0 + ds zs (x : Int) (y : Int) q)) := by rw [HO.out.cellAt q (by omega)]; unfold cellsI; rw [List.getElem?_map, mix_at (Nat.lt_succ_self _) hd]; rfl
              have hc2 : wr.cell? ⟨g8, 0, none⟩ = some (.int .i64 (0 + ds zs (x : Int) (y : Int) 0)) := by rw [HO.out.cellAt 0 (by omega)]; unfold cellsI; rw [List.getElem?_map, mix_at (Nat.succ_pos _) hd0]; rfl
              rw [Int.zero_add] at hc1 hc2
              have HC := Lib.hid (And.intro (show wr.drew.cell? ⟨g8, q, none⟩ = _ from hc1) (show wr.drew.cell? ⟨g8, 0, none⟩ = _ from hc2))
              have HF := Lib.hid (show wr.drew.frozen? ⟨g8, q, none⟩ = false from HO.out.frozenAt q)
              have st := ((show wr.drew.ownsRow Wx.heap.size 3 1 (.slice (some ⟨g8, 0, none⟩) n c8) n (cellsI (mix KY DV (q + 1))) from HO.out).stored q (.int .i64 (ds zs (x : Int) (y : Int) q - ds zs (x : Int) (y : Int) 0))).1
              rw [mix_set hLD hq hk] at st
              have HST := Lib.hid st
              have HBs := Lib.hid (HBi.out.drew.setCell (p := ⟨g8, q, none⟩) hg8 (.int .i64 (ds zs (x : Int) (y : Int) q - ds zs (x : Int) (y : Int) 0)))
              clear hk hd hd0 st HO hc1 hc2
              generalize ds zs (x : Int) (y : Int) q = dq' at *
              generalize ds zs (x : Int) (y : Int) 0 = d0' at *
              have ez2 : IntKind.i64.wrap (dq' - d0') = dq' - d0' := IntWalk.i64_in _ (by omega)
              go_upto_region 15 with fail
              refine wp_region_tail (S := fun w' => World.cell? w' ⟨g8, q, none⟩ = some (.int .i64 dq') ∧ World.cell? w' ⟨g8, 0, none⟩ = some (.int .i64 d0')) 11 (by kernel_rfl) HC.out (fun hHeld => ?_)
              try simp only [Act.put]
              refine wpAnyE_take (i := 0) (v := ?vqs0) rfl (by decide +kernel) (fun _ _ _ h => h) (Or.inl ⟨by rfl, ?hqs0⟩) (by assumption) ?rqs0
              case hqs0 =>
                intro wS hSw
                obtain ⟨h0, h1⟩ := hSw
                go_simp
                try with_reducible rfl
              try simp only [Act.put]
              refine wpAnyE_take (i := 1) (v := ?vqs1) rfl (by decide +kernel) (fun _ _ _ h => h) (Or.inl ⟨by rfl, ?hqs1⟩) (by assumption) ?rqs1
              case hqs1 =>
                intro wS hSw
                obtain ⟨h0, h1⟩ := hSw
                go_simp
                try with_reducible rfl
              try simp only [Act.put]
              refine wpAnyE_take (i := 2) (v := ?vqs2) rfl (by decide +kernel) (fun _ _ _ h => h) (Or.inl ⟨by rfl, ?hqs2⟩) (by assumption) ?rqs2
              case hqs2 =>
                intro wS hSw
                obtain ⟨h0, h1⟩ := hSw
                go_simp
                try with_reducible rfl
              try simp only [Act.put]
              refine wpAnyE_take (i := 3) (v := ?vqs3) rfl (by decide +kernel) (fun _ _ _ h => h) (Or.inl ⟨by rfl, ?hqs3⟩) (by assumption) ?rqs3
              case hqs3 =>
                intro wS hSw
                obtain ⟨h0, h1⟩ := hSw
                go_simp
                try with_reducible rfl
              try simp only [Act.put]
              refine wpAnyE_take (i := 4) (v := ?vqs4) rfl (by decide +kernel) (fun _ _ _ h => h) (Or.inl ⟨by rfl, ?hqs4⟩) (by assumption) ?rqs4
              case hqs4 =>
                intro wS hSw
                obtain ⟨h0, h1⟩ := hSw
                go_simp
                try with_reducible rfl
              try simp only [Act.put]
              refine wpAnyE_take (i := 5) (v := ?vqs5) rfl (by decide +kernel) (fun _ _ _ h => h) (Or.inl ⟨by rfl, ?hqs5⟩) (by assumption) ?rqs5
              case hqs5 =>
                intro wS hSw
                obtain ⟨h0, h1⟩ := hSw
                go_simp
                try with_reducible rfl
              try simp only [Act.put]
              refine wpAnyE_take (i := 6) (v := ?vqs6) rfl (by decide +kernel) (fun _ _ _ h => h) (Or.inl ⟨by rfl, ?hqs6⟩) (by assumption) ?rqs6
              case hqs6 =>
                intro wS hSw
                obtain ⟨h0, h1⟩ := hSw
                go_simp
                try with_reducible rfl
              try simp only [Act.put]
              refine wpAnyE_take (i := 7) (v := ?vqs7) rfl (by decide +kernel) (fun _ _ _ h => h) (Or.inl ⟨by rfl, ?hqs7⟩) (by assumption) ?rqs7
              case hqs7 =>
                intro wS hSw
                obtain ⟨h0, h1⟩ := hSw
                go_simp
                try with_reducible rfl
              try simp only [Act.put]
              refine wpAnyE_take (i := 8) (v := ?vqs8) rfl (by decide +kernel) (fun _ _ _ h => h) (Or.inl ⟨by rfl, ?hqs8⟩) (by assumption) ?rqs8
              case hqs8 =>
                intro wS hSw
                obtain ⟨h0, h1⟩ := hSw
                go_simp
                try with_reducible rfl
              try simp only [Act.put]
              refine wpAnyE_take (i := 9) (v := ?vqs9) rfl (by decide +kernel) (fun _ _ _ h => h) (Or.inl ⟨by rfl, ?hqs9⟩) (by assumption) ?rqs9
              case hqs9 =>
                intro wS hSw
                obtain ⟨h0, h1⟩ := hSw
                go_simp
                try with_reducible rfl
              try simp only [Act.put]
              refine wpAnyE_take (i := 10) (v := ?vqs10) rfl (by decide +kernel) (fun _ _ _ h => h) (Or.inl ⟨by rfl, ?hqs10⟩) (by assumption) ?rqs10
              case hqs10 =>
                intro wS hSw
                obtain ⟨h0, h1⟩ := hSw
                go_simp
                try with_reducible rfl
              try simp only [Act.put]
              refine wpAnyE_ready (rs := [11]) (by kernel_rfl) (by simp) ?_
              refine AllReadyE.last (i := 11) rfl rfl (fun K hK => ?_)
              have f4 := HF.out
              have s4 := HC.out.1
              go_simp
              refine hK.out _ _ ?_
              clear hK K f4 s4
              try simp only [Act.put]
              refine wpAnyE_done (by kernel_rfl) ?_ _
              try simp only [List.getElem_toArray, List.getElem_cons_succ, List.getElem_cons_zero, List.setIfInBounds_toArray, List.set_cons_succ, List.set_cons_zero]
              go_wp2_with fail
              go_roundw
              case rel => exact ⟨q, by omega, by go_num, HST.out, HBs.out⟩
              case measure => (simp [intOf]; try omega)
            · obtain rfl : j = 0 := by omega
              have eq0 : ((0 : Nat) : Int) - 1 = -1 := rfl
              rw [eq0]
              have ho := HO.out
              rw [mix_zero] at ho
              generalize wr = Wq at *
              have HQ := Lib.hid ho
              have HRK := Lib.hid (fun (W : World) (hb : Below Wq.heap.size Wq W) => rd_of_own (own_.own_below ho hb) hLK)
              clear ho HO HKA HDA HD hj0 hj eq0
              have HEL := Lib.hid (fun (i : Nat) (x : List Int) (h : (seenT (kyT zs n) N)[i]? = some x) => show x.length = n from by
                obtain ⟨k, _, rfl⟩ := (seen_mem (kyT zs n) N).1 (List.mem_of_getElem? h)
                exact kyT_length zs n k)
              have hS9 := seen_len (kyT zs n) N
              have hT9 : (timT (kyT zs n) N).length ≤ 961 := by rw [tim_len]; omega
              have HOLD := Lib.hid (fun (p : Nat) (h : (seenT (kyT zs n) N)[p]? = some KY) => show ∃ c : Nat, c ≤ 961 ∧ (timT (kyT zs n) N)[p]? = some (c : Int) ∧ seenT (kyT zs n) (N + 1) = seenT (kyT zs n) N ∧ timT (kyT zs n) (N + 1) = (timT (kyT zs n) N).set p ((c : Int) + 1) from by
                rw [← HK.out] at h
                exact ⟨_, Nat.le_trans (cF_le _ _ _) (by omega), tim_at _ h, (step_old _ h).1, (step_old _ h).2⟩)
              have HNEW := Lib.hid (fun (h : ∀ i, i < (seenT (kyT zs n) N).length → (seenT (kyT zs n) N)[i]? ≠ some KY) => show seenT (kyT zs n) (N + 1) = seenT (kyT zs n) N ++ [KY] ∧ timT (kyT zs n) (N + 1) = timT (kyT zs n) N ++ [1] from by
                rw [← HK.out] at h ⊢
                refine step_new _ (fun hm => ?_)
                obtain ⟨i, hi⟩ := List.getElem?_of_mem hm
                exact h i (List.getElem?_eq_some_iff.1 hi).1 hi)
              have HSq := Lib.hid (HS.out.below HBi.out)
              have hBx := HB.out.size
              have hBq := HBi.out.size
              have HS0 := Lib.hid HS.out
              clear HS HK hLD
              generalize seenT (kyT zs n) N = SS at *
              generalize timT (kyT zs n) N = TT at *
              go_wp2_with fail
              go_loopw [10, 11] (fun av kv wr => ∃ k j : Nat, k ≤ SS.length ∧ kv = .int .i64 k ∧ wr = Wq.drewN j ∧ ((av = .int .i64 (-1) ∧ ∀ i, i < k → SS[i]? ≠ some KY) ∨ ∃ p : Nat, av = .int .i64 p ∧ SS[p]? = some KY)) (fun av kv _ => SS.length - (intOf kv).toNat)
              case atStart => exact ⟨0, 0, Nat.zero_le _, rfl, rfl, .inl ⟨rfl, fun i h => absurd h (Nat.not_lt_zero _)⟩⟩
              case round =>
                obtain ⟨k, j, hk, rfl, rfl, hav⟩ := hrel
                rcases hav with ⟨rfl, hno⟩ | ⟨p, rfl, hp⟩
                · have HNO := Lib.hid hno
                  clear hno
                  by_cases hlt : k < SS.length
                  · have hlt' : (k : Int) < (SS.length : Int) := by omega
                    obtain ⟨xk, hxk⟩ : ∃ x, SS[k]? = some x := ⟨_, List.getElem?_eq_getElem hlt⟩
                    have hl := HEL.out k xk hxk
                    obtain ⟨ob, oc, A, c, e, hc, hr⟩ := HSq.out.read hxk
                    rw [hl] at hc hr
                    have HC := Lib.hid (same1 xk KY A (some ⟨g8, 0, none⟩) n c c8 (Wq.drewN j) (by omega) hr (HRK.out Wq (Below.refl _ _)))
                    have HX := Lib.hid hxk
                    clear hxk hr hl
                    cases e
                    by_cases hxy : xk = KY
                    · have hd : decide (xk = KY) = true := decide_eq_true hxy
                      rw [hd] at HC
                      rw [hxy] at HX
                      clear hxy hd
                      go_wp2_with fail
                      refine HC.out.mono ?_
                      rintro e w' ⟨rfl, j2, rfl⟩
                      go_wp2_with fail
                      go_roundw
                      case rel => exact ⟨k + 1, _, by omega, by go_num, by first | rfl | rw [World.drewN_drewN], .inr ⟨k, rfl, HX.out⟩⟩
                      case measure => (simp [intOf]; try omega)
                    · have hd : decide (xk = KY) = false := decide_eq_false hxy
                      rw [hd] at HC
                      have HXN := Lib.hid hxy
                      clear hxy hd
                      go_wp2_with fail
                      refine HC.out.mono ?_
                      rintro e w' ⟨rfl, j2, rfl⟩
                      go_wp2_with fail
                      go_roundw
                      case rel =>
                        refine ⟨k + 1, _, by omega, by go_num, by first | rfl | rw [World.drewN_drewN], .inl ⟨rfl, fun i hi => ?_⟩⟩
                        rcases Nat.lt_or_ge i k with h | h
                        · exact HNO.out i h
                        · obtain rfl : i = k := by omega
                          rw [HX.out]
                          exact fun e => HXN.out (Option.some.inj e)
                      case measure => (simp [intOf]; try omega)
                  · obtain rfl : k = SS.length := by omega
                    have HNW := Lib.hid (HNEW.out HNO.out)
                    have HQV := Lib.hid (show (Wq.drewN j).ownsRow Wx.heap.size 3 1 (.slice (some ⟨g8, 0, none⟩) n c8) n (cellsI KY) from HQ.out)
                    have HBV := Lib.hid (below_drewN HBi.out j)
                    have hBV : w1.heap.size ≤ (Wq.drewN j).heap.size := by have := HBV.out.size; omega
                    clear HSq HQ HBi HRK HNO hlt
                    generalize Wq.drewN j = V at *
                    obtain ⟨us, hus, hpush⟩ := SB.begin HS0.out hBx HBV.out HQV.out (.cells #[.slice (some ⟨g8, 0, none⟩) n c8] 23)
                    have HUS := Lib.hid hus
                    have HP := Lib.hid hpush
                    clear hus hpush HQV HS0
                    go_upto_region 24 with (at_builtin; refine wpList_append_any rfl (.tmp 69) (.tmp 71) 83 rfl w1.heap.size 23 iL (.slice none 0 0) 1 24 Try.underlying83 hiL hzL0 hzL1 hzL2 rfl (by decide) _ SS.length us rfl HUS.out ⟨V.heap.size, 0, none⟩ 1 1 [.slice (some ⟨g8, 0, none⟩) n c8] rfl rfl (cell_new1 _ _ _) (own_.one_cell _ rfl) (by unfold maxLen; omega) (by omega) (by rw [World.size_alloc]; omega) ?_; intro v3 w3 o3 g3 n3; obtain ⟨A3, c3, rfl⟩ := own_sliceZ o3)
                    have S3 := Lib.hid (HP.out _ _ g3 o3)
                    have E3 := Lib.hid (((HB.out.trans (HBV.out.mono hBx)).alloc hBV (.cells #[.slice (some ⟨g8, 0, none⟩) n c8] 23)).grown g3 (by rw [World.size_alloc]; omega) (fun k e => (HUS.out.lt k e).1))
                    have h3z := g3.size
                    rw [World.size_alloc] at h3z
                    have T3 := Lib.hid (S3.out.times.alloc (.cells #[.int .i64 1] 3))
                    clear g3 o3 n3 HP HUS
                    go_wp2_with (at_builtin; refine wpList_append_any rfl (.tmp 73) (.tmp 74) 23 rfl w1.heap.size 3 iI (.int .i64 0) 1 8 Try.underlying23 hiI hzI0 hzI1 hzI2 rfl (by decide) _ TT.length (cellsI TT) rfl T3.out ⟨w3.heap.size, 0, none⟩ 1 1 [.int .i64 1] rfl rfl (cell_new1 _ _ _) (own_.one_cell _ rfl) (by unfold maxLen; omega) (by omega) (by rw [World.size_alloc]; omega) ?_; intro v4 w4 o4 g4 n4; obtain ⟨A4, c4, rfl⟩ := own_sliceZ o4)
                    go_roundw
                    case rel =>
                      refine ⟨x + 1, by omega, by go_num, ?_, (E3.out.alloc (by omega) (.cells #[.int .i64 1] 3)).grown g4 (by rw [World.size_alloc]; omega) (fun k e => (T3.out.lt k e).1)⟩
                      rw [HN1.out, HNW.out.1, HNW.out.2]
                      exact (S3.out.below ((Below.refl _ _).alloc (Nat.le_refl _) (.cells #[.int .i64 1] 3))).tick g4 o4 n4
                    case measure => (simp [intOf]; try omega)
                · obtain ⟨c, hc9, hct, hs1, hs2⟩ := HOLD.out p hp
                  have HN2 := Lib.hid (And.intro hs1 hs2)
                  have hpl := (List.getElem?_eq_some_iff.1 hct).1
                  have hSV : SB w1.heap.size (Wq.drewN j) _ _ SS TT := HSq.out
                  have ht := hSV.times
                  obtain ⟨g5, rfl, hg5⟩ : ∃ g5, A5 = some ⟨g5, 0, none⟩ ∧ w1.heap.size ≤ g5 := by
                    rcases ht.2 with ⟨h0, _⟩ | ⟨g, cap, cur, h0, hge, _⟩
                    · injection h0 with h1 h2 h3
                      omega
                    · injection h0 with h1 h2 h3
                      exact ⟨g, h1, hge⟩
                  have hcell : (Wq.drewN j).cell? ⟨g5, p, none⟩ = some (.int .i64 (c : Int)) := by
                    rw [ht.cellAt p (by omega)]
                    unfold cellsI
                    rw [List.getElem?_map, hct]; rfl
                  have hfz := ht.frozenAt p
                  have HSB := Lib.hid (hSV.bump (k := p) (z := (c : Int) + 1))
                  have HBV := Lib.hid (below_drewN (HB.out.trans (HBi.out.mono hBx)) j)
                  have HBW := Lib.hid (HBV.out.setCell (p := ⟨g5, p, none⟩) hg5 (.int .i64 ((c : Int) + 1)))
                  clear hSV ht hs1 hs2 hct hp HSq HQ HBi HRK HOLD HNEW HBV
                  generalize Wq.drewN j = V at *
                  have hpl' : (p : Int) < (TT.length : Int) := by omega
                  have hp0 : (0 : Int) ≤ (p : Int) := Int.natCast_nonneg _
                  have hw : IntKind.i64.wrap ((c : Int) + 1) = (c : Int) + 1 := IntWalk.i64_in _ (by omega)
                  by_cases hlt : k < SS.length
                  · have hlt' : (k : Int) < (SS.length : Int) := by omega
                    go_wp2_with fail
                    go_roundw
                    case rel =>
                      refine ⟨x + 1, by omega, by go_num, ?_, HBW.out⟩
                      rw [HN1.out, HN2.out.1, HN2.out.2]
                      exact HSB.out
                    case measure => (simp [intOf]; try omega)
                  · obtain rfl : k = SS.length := by omega
                    go_wp2_with fail
                    go_roundw
                    case rel =>
                      refine ⟨x + 1, by omega, by go_num, ?_, HBW.out⟩
                      rw [HN1.out, HN2.out.1, HN2.out.2]
                      exact HSB.out
                    case measure => (simp [intOf]; try omega)
        · obtain rfl : x = 31 := by omega
          go_wp2_with fail
          go_roundw
          case rel =>
            refine ⟨y + 1, by omega, by go_num, ?_, HB.out⟩
            rw [show (y + 1) * 31 = y * 31 + 31 by omega]
            exact HS.out
          case measure => (simp [intOf]; try omega)
    · obtain rfl : y = 31 := by omega
      obtain ⟨⟨A4, c4, rfl⟩, A5, c5, rfl⟩ := HS.out.slices
      have hrd := rd_of_own HS.out.times rfl
      have hnd := seen_nodup (kyT zs n) (31 * 31)
      have hall : sumF (kyT zs n) 961 (seenT (kyT zs n) (31 * 31)) = blF (kyT zs n) 961 := sum_all _ hnd (fun k hk => (seen_mem _ _).2 ⟨k, hk, rfl⟩)
      have hble := blF_le (kyT zs n) 961
      have htl := tim_len (kyT zs n) (31 * 31)
      have hsl := seen_len (kyT zs n) (31 * 31)
      have HT := Lib.hid (fun (k : Nat) (h : k < (timT (kyT zs n) (31 * 31)).length) => show ∃ c m : Nat, (timT (kyT zs n) (31 * 31))[k]? = some (c : Int) ∧ sumF (kyT zs n) 961 ((seenT (kyT zs n) (31 * 31)).take (k + 1)) = sumF (kyT zs n) 961 ((seenT (kyT zs n) (31 * 31)).take k) + (if 1 < c then c else 0) ∧ m = 0 from by
        have h' : k < (seenT (kyT zs n) (31 * 31)).length := by omega
        have hx := List.getElem?_eq_getElem h'
        exact ⟨_, 0, tim_at _ hx, sum_take _ _ _ _ _ hx, rfl⟩)
      have HLE := Lib.hid (fun (k : Nat) => show sumF (kyT zs n) 961 ((seenT (kyT zs n) (31 * 31)).take k) ≤ 961 from by
        have h1 := sum_le_all (kyT zs n) 961 ((seenT (kyT zs n) (31 * 31)).take k) ((seenT (kyT zs n) (31 * 31)).drop k)
        rw [List.take_append_drop] at h1
        omega)
      have HALL := Lib.hid (show sumF (kyT zs n) 961 ((seenT (kyT zs n) (31 * 31)).take (timT (kyT zs n) (31 * 31)).length) = blN zs n from by
        rw [List.take_of_length_le (by omega), hall]; rfl)
      have HRD := Lib.hid hrd
      clear HS hrd hnd hall hble
      generalize hSS : seenT (kyT zs n) (31 * 31) = SS at *
      generalize hTT : timT (kyT zs n) (31 * 31) = TT at *
      clear hSS hTT
      have hT9 : TT.length ≤ 961 := by omega
      clear htl
      generalize wr = Wz at *
      go_wp2_with fail
      go_loopw [12, 13] (fun nv kv wr => ∃ k : Nat, k ≤ TT.length ∧ kv = .int .i64 k ∧ wr = Wz ∧ nv = .int .i64 ((sumF (kyT zs n) 961 (SS.take k) : Nat) : Int)) (fun nv kv _ => TT.length - (intOf kv).toNat)
      case atStart => exact ⟨0, Nat.zero_le _, rfl, rfl, rfl⟩
      case round =>
        obtain ⟨k, hk, rfl, rfl, rfl⟩ := hrel
        by_cases hlt : k < TT.length
        · have hlt' : (k : Int) < (TT.length : Int) := by omega
          obtain ⟨c, _, hc, hsum, _⟩ := HT.out k hlt
          obtain ⟨b1, o1, t, rfl, _, ht, e1⟩ := HRD.out.at_ hlt
          obtain rfl : (c : Int) = t := Option.some.inj (hc.symm.trans ht)
          have hs0 := HLE.out k
          have hs1 := HLE.out (k + 1)
          rw [hsum] at hs1
          have HSU := Lib.hid hsum
          clear hsum hc ht HT HLE
          generalize sumF (kyT zs n) 961 (SS.take k) = s at *
          by_cases hc1 : 1 < c
          · have hc1' : (1 : Int) < (c : Int) := by omega
            rw [if_pos hc1] at HSU hs1
            have hw : IntKind.i64.wrap ((s : Int) + (c : Int)) = ((s + c : Nat) : Int) := by rw [IntWalk.i64_in _ (by omega)]; omega
            go_wp2_with fail
            go_roundw
            case rel => exact ⟨k + 1, by omega, by go_num, by first | rfl | trivial, by rw [HSU.out, Int.natCast_add]⟩
            case measure => (simp [intOf]; try omega)
          · have hc1' : ¬ (1 : Int) < (c : Int) := by omega
            rw [if_neg hc1] at HSU hs1
            go_wp2_with fail
            go_roundw
            case rel => exact ⟨k + 1, by omega, by go_num, by first | rfl | trivial, by rw [HSU.out, Nat.add_zero]⟩
            case measure => (simp [intOf]; try omega)
        · obtain rfl : k = TT.length := by omega
          have HF := Lib.hid (show blV zs n = ((sumF (kyT zs n) 961 (SS.take TT.length) : Nat) : Int) from by rw [HV.out, HALL.out])
          generalize sumF (kyT zs n) 961 (SS.take TT.length) = s at *
          go_wp2_with fail
          go_ret2
          exact ⟨by rw [HF.out]; rfl, HB1.out.trans (HB.out.mono HB1.out.size)⟩
end Go.Proofs.Ytpbopiecfnedgab.blns
