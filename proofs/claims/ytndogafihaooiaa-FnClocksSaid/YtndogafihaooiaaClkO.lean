/- spec's median of the differences: l12Offset, OffsetOf. -/
import Derived.Test.YtndogafihaooiaaClkS
namespace Go.Proofs.Ytndogafihaooiaa.clko
open Go.RowKit Go.Proofs.Ytndogafihaooiaa.ints Go.Proofs.Ytndogafihaooiaa.lst Go.Proofs.Ytndogafihaooiaa.in_ Go.Proofs.Ytndogafihaooiaa.ats Go.Proofs.Ytndogafihaooiaa.clk Go.Proofs.Ytndogafihaooiaa.ins Go.Proofs.Ytndogafihaooiaa.clks

set_option maxRecDepth 100000 in
set_option maxHeartbeats 8000000 in
theorem offset12 (zs : List Int) (A : Option Addr) (n c : Nat) (w : World) (h0 : 0 < n) (hn : n ≤ 12) (hck : ckT zs n = true) (h1 : RdZ 2 w w.heap.size A n zs) :
    Calls Try.prog 66 #[.slice A n c] w fun e w' => e = .returned (.int .i64 (mdT zs n)) ∧ Below w.heap.size w w' := by
  have HLL := Lib.hid (fun k => srL_length zs k)
  have HDF := Lib.hid (fun k (hk : k < n) => df_in hck hk)
  have HINS := Lib.hid (fun k j (hj : j ≤ k) h1 h2 => srL_ins (zs := zs) (k := k) (j := j) hj h1 h2)
  have HMD := Lib.hid (show mdT zs n = (srL zs n).getD ((n - 1) / 2) 0 from rfl)
  have HR := Lib.hid h1
  obtain ⟨i0, hi, hz0, hz1, hz2⟩ := info_parts infoI
  clear hck h1
  go_enter Try.func66, Try.ntmps66
  go_wp2_with fail
  go_loopw [3, 4] (fun v i wr => ∃ (k g cap : Nat), k ≤ n ∧ i = .int .i64 k ∧ v = .slice (some ⟨g, 0, none⟩) k cap ∧ k ≤ cap ∧ wr.ownsRow w.heap.size 3 1 (.slice (some ⟨g, 0, none⟩) k cap) k (cellsI (srL zs k)) ∧ Below w.heap.size w wr) (fun _ i _ => n - (intOf i).toNat)
  case atStart => exact ⟨0, w.heap.size, 0, Nat.zero_le _, rfl, rfl, Nat.le_refl _, by rw [srL_zero]; exact own_emptyZ _ _ _, (Below.refl _ _).alloc (Nat.le_refl _) _⟩
  case round =>
    obtain ⟨k, g, cap, hk, rfl, rfl, hkc, hown, hb⟩ := hrel
    have HL := Lib.hid (HLL.out k)
    by_cases hlt : k < n
    · have hlt2 : (k : Int) < (n : Int) := by omega
      obtain ⟨b1, o1, rfl, l1, p0, p1⟩ := cellsP (HR.out.below hb (Nat.le_refl _)) hlt
      have HL1 := Lib.hid (HLL.out (k + 1))
      have HIk := Lib.hid (HINS.out k)
      have e1 : IntKind.i64.wrap (fld 2 zs k 1 - fld 2 zs k 0) = df zs k := by
        have := HDF.out k hlt
        unfold df at this
        rw [IntWalk.i64_in _ (by omega)]; rfl
      have HO := Lib.hid hown
      have HB := Lib.hid hb
      clear hown hb HDF HINS HMD
      generalize df zs k = y at *
      generalize fld 2 zs k 0 = u at *
      generalize fld 2 zs k 1 = v at *
      go_upto_region 5 with fail
      go_quiet (fail)
      clear p0 p1 e1
      go_upto_block 2 with fail
      go_cut [6] from 27 to 39 (fun q wz => ∃ j : Nat, j ≤ k ∧ q = .int .i64 j ∧ (j = 0 ∨ (srL zs k).getD (j - 1) 0 ≤ y) ∧ (∀ i, j ≤ i → i < k → y < (srL zs k).getD i 0) ∧ wz.ownsRow w.heap.size 3 1 (.slice (some ⟨g, 0, none⟩) k cap) k (cellsI (srL zs k)) ∧ Below w.heap.size w wz)
      case first =>
        go_wp2_with fail
        go_loopw [6] (fun q wz => ∃ j : Nat, j ≤ k ∧ q = .int .i64 j ∧ (∀ i, j ≤ i → i < k → y < (srL zs k).getD i 0) ∧ wz.ownsRow w.heap.size 3 1 (.slice (some ⟨g, 0, none⟩) k cap) k (cellsI (srL zs k)) ∧ Below w.heap.size w wz) (fun q _ => (intOf q).toNat)
        case atStart => exact ⟨k, Nat.le_refl _, rfl, fun i h1 h2 => absurd h2 (by omega), own_.own_drewN HO.out _, aid.below_drewN HB.out _⟩
        case round =>
          obtain ⟨j, hj, rfl, hall, ho, hb2⟩ := hrel
          have HA := Lib.hid hall
          have HO2 := Lib.hid ho
          have HB2 := Lib.hid hb2
          clear hall hb2
          rcases Nat.eq_zero_or_pos j with hj0 | hj0
          · subst hj0
            clear ho
            go_wp2_with fail
            go_meet
            exact ⟨0, Nat.zero_le _, rfl, Or.inl rfl, HA.out, HO2.out, HB2.out⟩
          · obtain ⟨p, hp⟩ : ∃ p, p + 1 = j := ⟨j - 1, by omega⟩
            have HP := Lib.hid hp
            have hpk : (p : Int) < (k : Int) := by omega
            have hp0 : (0 : Int) ≤ (p : Int) := Int.natCast_nonneg _
            have e2 : IntKind.i64.wrap ((j : Int) - 1) = (p : Int) := by rw [IntWalk.i64_in _ (by omega)]; omega
            have hj1 : decide (0 < j) = true := decide_eq_true hj0
            have s0 := own_at ho HL.out (show p < k by omega)
            clear ho hp
            generalize ha : (srL zs k).getD p 0 = a at *
            have HAA := Lib.hid ha
            clear ha
            by_cases hya : y < a
            · go_wp2_with fail
              go_roundw
              case rel =>
                refine ⟨p, by omega, rfl, fun i h1 h2 => ?_, HO2.out, HB2.out⟩
                by_cases e : i = p
                · rw [e, HAA.out]; exact hya
                · exact HA.out i (by have := HP.out; omega) h2
              case measure => (have := HP.out; simp [intOf]; omega)
            · have hya2 : a ≤ y := by omega
              go_wp2_with fail
              go_meet
              exact ⟨j, hj, rfl, Or.inr (by rw [show j - 1 = p by have := HP.out; omega, HAA.out]; exact hya2), HA.out, HO2.out, HB2.out⟩
      case rest =>
        obtain ⟨j, hj, rfl, hA, hBB, ho, hb⟩ := hcut
        have INS := Lib.hid (HIk.out j hj hA hBB)
        have HC := Lib.hid (fun i (hi : i < k) => show wc.cell? ⟨g, i, none⟩ = some (.int .i64 ((srL zs k).getD i 0)) ∧ g < wc.heap.size from ⟨own_at ho HL.out hi, own_lt ho⟩)
        have BW := Lib.hid hb
        clear hA hBB ho hb HO HB HIk
        by_cases hcj : cap = j
        · go_upto_region 9 with fail
          have k0 : (0 : Int) ≤ (j : Int) := Int.natCast_nonneg _
          have k1 : (j : Int) ≤ (cap : Int) := by omega
          have k2 : (j : Int) ≤ (k : Int) := by omega
          have k3 : (k : Int) ≤ (cap : Int) := by omega
          have SRC1 := Lib.hid (ins.src_take HC.out HL.out hj)
          have cA := two_last wc 3 y
          have cB := two_first wc 3 y
          have L1 := Lib.hid (show (cellsI ((srL zs k).take j)).length = j by unfold cellsI; rw [List.length_map, List.length_take, HL.out]; omega)
          have L2 := Lib.hid (show (cellsI ((srL zs k).drop j)).length = k - j by unfold cellsI; rw [List.length_map, List.length_drop, HL.out])
          have SRC2 := Lib.hid (ins.src_none (w := wc) (k := j) g 0 HL.out (by omega))
          go_region_held3 (fun w' => Below wc.heap.size wc w') (first
            | exact (Below.refl _ _).drew
            | assumption
            | exact ((Below.refl _ _).alloc (Nat.le_refl _) _).drew
            | exact (((Below.refl _ _).alloc (Nat.le_refl _) _).alloc (by rw [World.size_alloc]; omega) _).drew
            | exact Below.alloc (by assumption) (Below.size (by assumption)) _) (first
            | (refine step_append_any rfl (.tmp 40) (.tmp 43) 38 rfl wc.heap.size 3 i0 (.int .i64 0) Try.underlying38 hi hz0 hz1 hz2 rfl _ 0 [] rfl (by first | exact own_.own_empty wc _ | exact (own_.own_empty wc _).alloc _ | exact own_second wc _ _) _ j _ (cellsI ((srL zs k).take j)) rfl L1.out (SRC1.out _ (by assumption)) (ints_one _) (by omega) (Below.size (by assumption)) ?_
               intro v1 w1 o1 g1
               rw [Nat.zero_add, List.nil_append] at o1
               have hB1 := below_step (by assumption) (Below.size (by assumption)) (by first | exact own_.own_empty wc _ | exact (own_.own_empty wc _).alloc _ | exact own_second wc _ _) g1)
            | (refine step_append_any rfl (.tmp 44) (.tmp 46) 38 rfl wc.heap.size 3 i0 (.int .i64 0) Try.underlying38 hi hz0 hz1 hz2 rfl _ j (cellsI ((srL zs k).take j)) rfl (by first | exact o1 | exact o1.alloc _) _ 1 1 [.int .i64 y] rfl rfl (by first | exact cell_one_new _ _ _ | exact news_far g1 cA (show some (wc.heap.size + 1) ≠ some wc.heap.size by simp) | exact news_far g1 cB (show some wc.heap.size ≠ some (wc.heap.size + 1) by simp)) (own_.one_cell _ rfl) (by omega) (Below.size (by assumption)) ?_
               intro v2 w2 o2 g2
               have hB2 := below_step (by assumption) (Below.size (by assumption)) (by first | exact o1 | exact o1.alloc _) g2)
            | (refine step_append_any rfl (.tmp 47) (.tmp 50) 38 rfl wc.heap.size 3 i0 (.int .i64 0) Try.underlying38 hi hz0 hz1 hz2 rfl _ (j + 1) (cellsI ((srL zs k).take j) ++ [Value.int .i64 y]) rfl o2 _ (k - j) _ (cellsI ((srL zs k).drop j)) rfl L2.out (SRC2.out _ (by assumption)) (ints_one _) (by omega) (Below.size (by assumption)) ?_
               intro v3 w3 o3 g3
               have hB3 := below_step (by assumption) (Below.size (by assumption)) o2 g3))
          all_goals (
            have o4 := own_three HL.out hj (by assumption)
            rw [INS.out, HL1.out] at o4
            obtain ⟨g4, c4, rfl, hc4, hg4⟩ := own_posC o4 (Nat.succ_pos k)
            have O4 := Lib.hid (own_.own_base o4 BW.out.size)
            have B4 := Lib.hid (BW.out.trans ((show Below wc.heap.size wc _ by assumption).mono BW.out.size))
            have HC4 := Lib.hid hc4
            clear o1 o2 o3 g1 g2 g3 hB1 hB2 hB3 o4 hc4
            go_wp2_with fail
            go_roundw
            case rel => exact ⟨k + 1, g4, c4, by omega, by go_num, rfl, HC4.out, O4.out, B4.out⟩
            case measure => simp [intOf]; omega
          )
        · go_upto_region 9 with fail
          have k0 : (0 : Int) ≤ (j : Int) := Int.natCast_nonneg _
          have k1 : (j : Int) ≤ (cap : Int) := by omega
          have k2 : (j : Int) ≤ (k : Int) := by omega
          have k3 : (k : Int) ≤ (cap : Int) := by omega
          have SRC1 := Lib.hid (ins.src_take HC.out HL.out hj)
          have cA := two_last wc 3 y
          have cB := two_first wc 3 y
          have L1 := Lib.hid (show (cellsI ((srL zs k).take j)).length = j by unfold cellsI; rw [List.length_map, List.length_take, HL.out]; omega)
          have L2 := Lib.hid (show (cellsI ((srL zs k).drop j)).length = k - j by unfold cellsI; rw [List.length_map, List.length_drop, HL.out])
          have SRC2 := Lib.hid (ins.src_drop (k := j) HC.out HL.out)
          go_region_held3 (fun w' => Below wc.heap.size wc w') (first
            | exact (Below.refl _ _).drew
            | assumption
            | exact ((Below.refl _ _).alloc (Nat.le_refl _) _).drew
            | exact (((Below.refl _ _).alloc (Nat.le_refl _) _).alloc (by rw [World.size_alloc]; omega) _).drew
            | exact Below.alloc (by assumption) (Below.size (by assumption)) _) (first
            | (refine step_append_any rfl (.tmp 40) (.tmp 43) 38 rfl wc.heap.size 3 i0 (.int .i64 0) Try.underlying38 hi hz0 hz1 hz2 rfl _ 0 [] rfl (by first | exact own_.own_empty wc _ | exact (own_.own_empty wc _).alloc _ | exact own_second wc _ _) _ j _ (cellsI ((srL zs k).take j)) rfl L1.out (SRC1.out _ (by assumption)) (ints_one _) (by omega) (Below.size (by assumption)) ?_
               intro v1 w1 o1 g1
               rw [Nat.zero_add, List.nil_append] at o1
               have hB1 := below_step (by assumption) (Below.size (by assumption)) (by first | exact own_.own_empty wc _ | exact (own_.own_empty wc _).alloc _ | exact own_second wc _ _) g1)
            | (refine step_append_any rfl (.tmp 44) (.tmp 46) 38 rfl wc.heap.size 3 i0 (.int .i64 0) Try.underlying38 hi hz0 hz1 hz2 rfl _ j (cellsI ((srL zs k).take j)) rfl (by first | exact o1 | exact o1.alloc _) _ 1 1 [.int .i64 y] rfl rfl (by first | exact cell_one_new _ _ _ | exact news_far g1 cA (show some (wc.heap.size + 1) ≠ some wc.heap.size by simp) | exact news_far g1 cB (show some wc.heap.size ≠ some (wc.heap.size + 1) by simp)) (own_.one_cell _ rfl) (by omega) (Below.size (by assumption)) ?_
               intro v2 w2 o2 g2
               have hB2 := below_step (by assumption) (Below.size (by assumption)) (by first | exact o1 | exact o1.alloc _) g2)
            | (refine step_append_any rfl (.tmp 47) (.tmp 50) 38 rfl wc.heap.size 3 i0 (.int .i64 0) Try.underlying38 hi hz0 hz1 hz2 rfl _ (j + 1) (cellsI ((srL zs k).take j) ++ [Value.int .i64 y]) rfl o2 _ (k - j) _ (cellsI ((srL zs k).drop j)) rfl L2.out (SRC2.out _ (by assumption)) (ints_one _) (by omega) (Below.size (by assumption)) ?_
               intro v3 w3 o3 g3
               have hB3 := below_step (by assumption) (Below.size (by assumption)) o2 g3))
          all_goals (
            have o4 := own_three HL.out hj (by assumption)
            rw [INS.out, HL1.out] at o4
            obtain ⟨g4, c4, rfl, hc4, hg4⟩ := own_posC o4 (Nat.succ_pos k)
            have O4 := Lib.hid (own_.own_base o4 BW.out.size)
            have B4 := Lib.hid (BW.out.trans ((show Below wc.heap.size wc _ by assumption).mono BW.out.size))
            have HC4 := Lib.hid hc4
            clear o1 o2 o3 g1 g2 g3 hB1 hB2 hB3 o4 hc4
            go_wp2_with fail
            go_roundw
            case rel => exact ⟨k + 1, g4, c4, by omega, by go_num, rfl, HC4.out, O4.out, B4.out⟩
            case measure => simp [intOf]; omega
          )
    · obtain rfl : k = n := by omega
      obtain ⟨m, hm⟩ : ∃ m, m + 1 = k := ⟨k - 1, by omega⟩
      obtain ⟨q, hq⟩ : ∃ q, q = m / 2 := ⟨_, rfl⟩
      have e5 : IntKind.i64.wrap ((k : Int) - 1) = (m : Int) := by rw [IntWalk.i64_in _ (by omega)]; omega
      have e6 : (m : Int).tdiv 2 = (q : Int) := by rw [hq]; rfl
      have e7 : IntKind.i64.wrap ((m : Int).tdiv 2) = (q : Int) := by rw [e6, IntWalk.i64_in _ (by omega)]
      have hq0 : (0 : Int) ≤ (q : Int) := Int.natCast_nonneg _
      have hqk : (q : Int) < (k : Int) := by omega
      have s0 := own_at hown HL.out (show q < k by omega)
      have HE := Lib.hid (show mdT zs k = (srL zs k).getD q 0 by rw [HMD.out, hq, show k - 1 = m by omega])
      have BX := Lib.hid hb
      generalize (srL zs k).getD q 0 = x at *
      clear hq hm hown hb
      go_wp2_with fail
      go_ret
      exact ⟨by rw [HE.out]; rfl, BX.out⟩

set_option maxRecDepth 100000 in
theorem offsetOf (zs : List Int) (A : Option Addr) (n c : Nat) (w : World) (hn : n ≤ 1048577) (h1 : RdZ 2 w w.heap.size A n zs) :
    Calls Try.prog 22 #[.slice A n c] w fun e w' => e = .returned (.tuple #[.int .i64 (ofV zs n), .bool (ckB zs n)]) ∧ Below w.heap.size w w' := by
  have T := good12 zs A n c w hn h1
  cases hq : ckB zs n
  · rw [hq] at T
    have HV := Lib.hid (of_no hq)
    have T := Lib.hid T
    clear h1 hq
    go_enter Try.func22, Try.ntmps22
    go_wp2_with fail
    refine T.out.mono ?_
    rintro e w2 ⟨rfl, hb⟩
    go_wp2_with fail
    go_ret2
    exact ⟨by rw [HV.out]; rfl, hb⟩
  · rw [hq] at T
    have HV := Lib.hid (of_yes hq)
    have T := Lib.hid T
    have CO := Lib.hid (fun W (hb : Below w.heap.size w W) => offset12 zs A n c W (ckB_yes hq).2.1 (ckB_yes hq).2.2 (ckB_yes hq).1 (h1.next hb))
    clear h1 hq
    go_enter Try.func22, Try.ntmps22
    go_wp2_with fail
    refine T.out.mono ?_
    rintro e w2 ⟨rfl, hb⟩
    have BX := Lib.hid hb
    clear hb
    go_wp2_with fail
    refine (CO.out w2 BX.out).mono ?_
    rintro e w3 ⟨rfl, hb⟩
    have BY := Lib.hid (BX.out.trans (hb.mono BX.out.size))
    clear hb
    go_wp2_with fail
    go_ret2
    exact ⟨by rw [HV.out]; rfl, BY.out⟩
end Go.Proofs.Ytndogafihaooiaa.clko
