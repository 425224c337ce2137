/- HelpfulSite of both. -/
import Derived.Test.YtpbopiecfnedgabLocS
import Derived.Test.YtpbopiecfnedgabLocI
import Derived.Test.YtpbopiecfnedgabSitG
import Derived.Test.YtpbopiecfnedgabSitH
namespace Go.Proofs.Ytpbopiecfnedgab.loch
open Go.RowKit Go.Proofs.Ytpbopiecfnedgab.ints Go.Proofs.Ytpbopiecfnedgab.lst Go.Proofs.Ytpbopiecfnedgab.sit Go.Proofs.Ytpbopiecfnedgab.in_ Go.Proofs.Ytpbopiecfnedgab.ats Go.Proofs.Ytpbopiecfnedgab.sits Go.Proofs.Ytpbopiecfnedgab.sitt Go.Proofs.Ytpbopiecfnedgab.sitv Go.Proofs.Ytpbopiecfnedgab.intc Go.Proofs.Ytpbopiecfnedgab.loc Go.Proofs.Ytpbopiecfnedgab.locs Go.Proofs.Ytpbopiecfnedgab.sith

set_option maxRecDepth 100000 in
set_option maxHeartbeats 4000000 in
theorem helpfulI (zs xs : List Int) (t : Int) (A C : Option Addr) (n c m q : Nat) (w : World) (hc : n ≤ c) (hq : m ≤ q) (hn : n ≤ 1048576) (hm : m ≤ 1048576) (h1 : RdZ 2 w w.heap.size A n zs) (h2 : RdI w w.heap.size C m xs) :
    Calls Try.prog 37 #[.slice A n c, .slice C m q, .int .i64 t] w fun e w' => e = .returned (.tuple #[.int .i64 (hfV zs n xs m t), .bool (hfB zs n xs m t)]) ∧ Below w.heap.size w w' := by
  have T := siti.areArrivals zs xs A C n c m q w hc (by omega) (by omega) h1 h2
  have T1 := Lib.hid (fun W => loci.isTolerance t W)
  have H1 := Lib.hid h1
  have H2 := Lib.hid h2
  clear h1 h2
  cases hq0 : ltB zs n xs m t
  · have HE := Lib.hid (show hfB zs n xs m t = false by unfold hfB; rw [hq0]; rfl)
    have HV := Lib.hid (hfV_no HE.out)
    clear H1 H2
    cases ha : arB zs n xs m
    · rw [ha] at T
      have T := Lib.hid T
      clear hq0 ha
      go_enter Try.func37, Try.ntmps37
      go_wp2_with fail
      refine T.out.mono ?_
      rintro e w1 ⟨rfl, hb⟩
      go_wp2_with fail
      go_ret2
      exact ⟨by rw [HE.out, HV.out]; rfl, hb⟩
    · have hi : isIn t 0 5 = false := by unfold ltB at hq0; rw [ha] at hq0; exact hq0
      rw [ha] at T
      rw [hi] at T1
      have T := Lib.hid T
      clear hq0 ha hi
      go_enter Try.func37, Try.ntmps37
      go_wp2_with fail
      refine T.out.mono ?_
      rintro e w1 ⟨rfl, hb⟩
      go_wp2_with fail
      refine (T1.out _).mono ?_
      rintro e w' ⟨rfl, rfl⟩
      go_wp2_with fail
      go_ret2
      exact ⟨by rw [HE.out, HV.out]; rfl, hb⟩
  rw [(ltB_yes hq0).1] at T
  have hi : isIn t 0 5 = true := decide_eq_true (ltB_yes hq0).2
  rw [hi] at T1
  have T := Lib.hid T
  clear hi
  obtain rfl : m = n := (arB_yes (ltB_yes hq0).1).2.2
  have hsi := (arB_yes (ltB_yes hq0).1).2.1
  have hai := (arB_yes (ltB_yes hq0).1).1
  have hn1 := (siB_yes hsi).1
  have hn5 := (siB_yes hsi).2.1
  have hon := (siB_yes hsi).2.2.1
  by_cases hone : m = 1
  · have HE := Lib.hid (show hfB zs m xs m t = false by unfold hfB; rw [decide_eq_false (fun h => h hone)]; simp)
    have HV := Lib.hid (hfV_no HE.out)
    have o1 : ((m : Int) == 1) = true := beq_iff_eq.mpr (by omega)
    clear hq0 hsi hai hon hone
    go_enter Try.func37, Try.ntmps37
    go_wp2_with fail
    refine T.out.mono ?_
    rintro e w1 ⟨rfl, hb⟩
    go_wp2_with fail
    refine (T1.out _).mono ?_
    rintro e w' ⟨rfl, rfl⟩
    go_wp2_with fail
    go_ret2
    exact ⟨by rw [HE.out, HV.out]; rfl, hb⟩
  have o1 : ((m : Int) == 1) = false := beq_eq_false_iff_ne.mpr (by omega)
  have HE := Lib.hid (show hfB zs m xs m t = true by unfold hfB; rw [hq0, decide_eq_true (show m ≠ 1 from hone)]; rfl)
  have HV := Lib.hid (hfV_yes HE.out)
  obtain ⟨b, o, rfl, hbl, -⟩ := H1.out.2 (by omega)
  obtain ⟨b2, o2, rfl, hbl2, -⟩ := H2.out.2 (by omega)
  have hn2 : 2 ≤ m := by omega
  have hL1 := Lib.hid H1.out.1
  have hL2 := Lib.hid H2.out.1
  have HON := Lib.hid (fun k (hk : k < m) => drT_on (i := k) H1.out.1 hk hon)
  have HAI := Lib.hid (fun k (hk : k < m) => drI_ai (i := k) H2.out.1 hk hai)
  have HLT := Lib.hid (fun k (hk : k < m) => drT_length (i := k) H1.out.1 hk)
  have HLI := Lib.hid (fun k (hk : k < m) => drI_length (i := k) H2.out.1 hk)
  have HY := Lib.hid (fun k (h : hfM zs xs m t 0 k < (hfC zs xs m t k : Int)) => hfM_yes h)
  have HN := Lib.hid (fun k (h : ¬ hfM zs xs m t 0 k < (hfC zs xs m t k : Int)) => hfM_no (by omega) h)
  have HIN := Lib.hid (fun k => hfM_in zs xs m t 0 k (by omega))
  have HCL := Lib.hid (fun k => hfC_le zs xs m t k)
  have HTL := Lib.hid (fun k (h : 0 < k) => hfT_lt zs xs m t k h)
  clear hq0 hsi hai hon hone
  go_enter Try.func37, Try.ntmps37
  go_wp2_with fail
  refine T.out.mono ?_
  rintro e w1 ⟨rfl, hb⟩
  have HB := Lib.hid hb
  clear hb T
  go_wp2_with fail
  refine (T1.out _).mono ?_
  rintro e w' ⟨rfl, rfl⟩
  clear T1
  go_wp2_with fail
  go_loopw [8, 9, 28] (fun u v i wr => ∃ k : Nat, k ≤ m ∧ i = .int .i64 k ∧ u = .int .i64 (hfT zs xs m t k : Int) ∧ v = .int .i64 (hfM zs xs m t 0 k) ∧ Below w.heap.size w wr) (fun _ _ i _ => m - (intOf i).toNat)
  case atStart => exact ⟨0, by omega, rfl, rfl, rfl, HB.out⟩
  case round =>
    obtain ⟨k, hk, rfl, rfl, rfl, hb⟩ := hrel
    clear HB
    by_cases hlt : k < m
    · have hlt2 : (k : Int) < (m : Int) := by omega
      have W1 := Lib.hid (sitg.without zs k b o m c wr hlt hn2 (by omega) hc (H1.out.next hb))
      have W2 := Lib.hid (fun W (hw : Below wr.heap.size wr W) => sith.without xs k b2 o2 m q W hlt hn2 (by omega) hq (H2.out.next (hb.trans (hw.mono hb.size))))
      have W3 := Lib.hid (fun (A' C' : Option Addr) (c' q' : Nat) W (r1 : RdZ 2 W W.heap.size A' (m - 1) (drT zs k)) (r2 : RdI W W.heap.size C' (m - 1) (drI xs k)) => show Calls Try.prog 71 #[.slice A' (m - 1) c', .slice C' (m - 1) q', .int .i64 t] W fun e w' => ∃ v, e = .returned v ∧ w'.ownsRow W.heap.size 32 2 v (hfC zs xs m t k) (cellsI (ftT (drT zs k) (drI xs k) (m - 1) t 961)) ∧ Below W.heap.size W w' from loci.pointsThatFit (drT zs k) (drI xs k) t A' C' (m - 1) c' q' W (by omega) (by omega) (HON.out k hlt) (HAI.out k hlt) r1 r2)
      have hl1 := Lib.hid (HLT.out k hlt)
      have hl2 := Lib.hid (HLI.out k hlt)
      have HYk := Lib.hid (HY.out k)
      have HNk := Lib.hid (HN.out k)
      obtain ⟨z0, z1⟩ := HIN.out k
      have hcl := HCL.out k
      have HB := Lib.hid hb
      clear hb
      generalize ftT (drT zs k) (drI xs k) (m - 1) t 961 = L at *
      generalize hfC zs xs m t k = N at *
      generalize hfT zs xs m t k = f1 at *
      generalize hfM zs xs m t 0 k = g1 at *
      go_wp2_with fail
      refine W1.out.mono ?_
      rintro e w2 ⟨v1, rfl, ho1, hb1⟩
      obtain ⟨A1, c1, rfl⟩ := own_sliceZ ho1
      have R1 := Lib.hid (RdZ.of_own ho1 hl1.out)
      have B1 := Lib.hid hb1
      clear ho1 hb1 W1
      go_wp2_with fail
      refine (W2.out w2 B1.out).mono ?_
      rintro e w3 ⟨v2, rfl, ho2, hb2⟩
      obtain ⟨A2, c2, rfl⟩ := own_sliceZ ho2
      have R2 := Lib.hid (rd_of_own ho2 hl2.out)
      have R1' := Lib.hid (R1.out.next hb2)
      have B2 := Lib.hid (B1.out.trans (hb2.mono B1.out.size))
      clear ho2 hb2 W2 R1
      go_wp2_with fail
      refine (W3.out A1 A2 c1 c2 w3 R1'.out R2.out).mono ?_
      rintro e w4 ⟨v3, rfl, ho3, hb3⟩
      obtain ⟨A3, c3, rfl⟩ := own_sliceZ ho3
      have B3 := Lib.hid (HB.out.trans ((B2.out.trans (hb3.mono B2.out.size)).mono HB.out.size))
      clear ho3 hb3 W3 R1' R2 B1 B2
      by_cases hs : g1 < (N : Int)
      · have HQ := Lib.hid (HYk.out hs)
        clear HYk HNk
        go_wp2_with fail
        go_roundw
        case rel => exact ⟨k + 1, by omega, by go_num, by rw [HQ.out.1], by rw [HQ.out.2], B3.out⟩
        case measure => simp [intOf]; omega
      · have HQ := Lib.hid (HNk.out (by omega))
        have hs3 : (N : Int) ≤ g1 := by omega
        clear HYk HNk
        go_wp2_with fail
        go_roundw
        case rel => exact ⟨k + 1, by omega, by go_num, by rw [HQ.out.1], by rw [HQ.out.2], B3.out⟩
        case measure => simp [intOf]; omega
    · obtain rfl : k = m := by omega
      generalize hfT zs xs k t k = f1 at *
      go_wp2_with fail
      go_ret2
      exact ⟨by rw [HE.out, HV.out]; rfl, hb⟩

set_option maxRecDepth 100000 in
set_option maxHeartbeats 8000000 in
theorem helpfulS (zs xs : List Int) (t : Int) (A C : Option Addr) (n c m q : Nat) (w : World) (hc : n ≤ c) (hq : m ≤ q) (hn : n ≤ 1048576) (hm : m ≤ 1048576) (h1 : RdZ 2 w w.heap.size A n zs) (h2 : RdI w w.heap.size C m xs) :
    Calls Try.prog 36 #[.slice A n c, .slice C m q, .int .i64 t] w fun e w' => e = .returned (.tuple #[.int .i64 (hfV zs n xs m t), .bool (hfB zs n xs m t)]) ∧ Below w.heap.size w w' := by
  have T := asked11 zs xs t A C n c m q w hn hm h1 h2
  have H1 := Lib.hid h1
  have H2 := Lib.hid h2
  clear h1 h2
  cases hq0 : ltB zs n xs m t
  · have HE := Lib.hid (show hfB zs n xs m t = false by unfold hfB; rw [hq0]; rfl)
    have HV := Lib.hid (hfV_no HE.out)
    rw [hq0] at T
    have T := Lib.hid T
    clear H1 H2 hq0
    go_enter Try.func36, Try.ntmps36
    go_wp2_with fail
    refine T.out.mono ?_
    rintro e w1 ⟨rfl, hb⟩
    go_wp2_with fail
    go_ret2
    exact ⟨by rw [HE.out, HV.out]; rfl, hb⟩
  rw [hq0] at T
  have T := Lib.hid T
  obtain rfl : m = n := (arB_yes (ltB_yes hq0).1).2.2
  have hsi := (arB_yes (ltB_yes hq0).1).2.1
  have hai := (arB_yes (ltB_yes hq0).1).1
  have hn1 := (siB_yes hsi).1
  have hn5 := (siB_yes hsi).2.1
  have hon := (siB_yes hsi).2.2.1
  by_cases hone : m = 1
  · have HE := Lib.hid (show hfB zs m xs m t = false by unfold hfB; rw [decide_eq_false (fun h => h hone)]; simp)
    have HV := Lib.hid (hfV_no HE.out)
    have o1 : ((m : Int) == 1) = true := beq_iff_eq.mpr (by omega)
    clear hq0 hsi hai hon hone
    go_enter Try.func36, Try.ntmps36
    go_wp2_with fail
    refine T.out.mono ?_
    rintro e w1 ⟨rfl, hb⟩
    go_wp2_with fail
    go_ret2
    exact ⟨by rw [HE.out, HV.out]; rfl, hb⟩
  have o1 : ((m : Int) == 1) = false := beq_eq_false_iff_ne.mpr (by omega)
  have HE := Lib.hid (show hfB zs m xs m t = true by unfold hfB; rw [hq0, decide_eq_true (show m ≠ 1 from hone)]; rfl)
  have HV := Lib.hid (hfV_yes HE.out)
  obtain ⟨b, o, rfl, hbl, -⟩ := H1.out.2 (by omega)
  obtain ⟨b2, o2, rfl, hbl2, -⟩ := H2.out.2 (by omega)
  have hn2 : 2 ≤ m := by omega
  have hL1 := Lib.hid H1.out.1
  have hL2 := Lib.hid H2.out.1
  have HON := Lib.hid (fun k (hk : k < m) => drT_on (i := k) H1.out.1 hk hon)
  have HAI := Lib.hid (fun k (hk : k < m) => drI_ai (i := k) H2.out.1 hk hai)
  have HLT := Lib.hid (fun k (hk : k < m) => drT_length (i := k) H1.out.1 hk)
  have HLI := Lib.hid (fun k (hk : k < m) => drI_length (i := k) H2.out.1 hk)
  have HY := Lib.hid (fun k (h : hfM zs xs m t (-1) k < (hfC zs xs m t k : Int)) => hfM_yes h)
  have HN := Lib.hid (fun k (h : ¬ hfM zs xs m t (-1) k < (hfC zs xs m t k : Int)) => hfM_no (by omega) h)
  have HIN := Lib.hid (fun k => hfM_in zs xs m t (-1) k (by omega))
  have HCL := Lib.hid (fun k => hfC_le zs xs m t k)
  have HTL := Lib.hid (fun k (h : 0 < k) => hfT_lt zs xs m t k h)
  clear hq0 hsi hai hon hone
  obtain ⟨iS, hiS, hzS0, hzS1, hzS2⟩ := info_parts infoS
  obtain ⟨iI, hiI, hzI0, hzI1, hzI2⟩ := info_parts infoI
  go_enter Try.func36, Try.ntmps36
  go_wp2_with fail
  refine T.out.mono ?_
  rintro e w1 ⟨rfl, hb⟩
  have HB := Lib.hid hb
  clear hb T
  go_wp2_with fail
  go_loopw [8, 9, 10] (fun u v i wr => ∃ k : Nat, k ≤ m ∧ i = .int .i64 k ∧ u = .int .i64 (hfT zs xs m t k : Int) ∧ v = .int .i64 (hfM zs xs m t (-1) k) ∧ Below w.heap.size w wr) (fun _ _ i _ => m - (intOf i).toNat)
  case atStart => exact ⟨0, by omega, rfl, rfl, rfl, HB.out⟩
  case round =>
    obtain ⟨k, hk, rfl, rfl, rfl, hb⟩ := hrel
    clear HB
    by_cases hlt : k < m
    · have hlt2 : (k : Int) < (m : Int) := by omega
      have W3 := Lib.hid (fun (A' C' : Option Addr) (c' q' : Nat) W (r1 : RdZ 2 W W.heap.size A' (m - 1) (drT zs k)) (r2 : RdI W W.heap.size C' (m - 1) (drI xs k)) => show Calls Try.prog 69 #[.slice A' (m - 1) c', .slice C' (m - 1) q', .int .i64 t] W fun e w' => ∃ v, e = .returned v ∧ w'.ownsRow W.heap.size 32 2 v (hfC zs xs m t k) (cellsI (ftT (drT zs k) (drI xs k) (m - 1) t 961)) ∧ Below W.heap.size W w' from fitting11 (drT zs k) (drI xs k) t A' C' (m - 1) c' q' W (by omega) (by omega) (HON.out k hlt) (HAI.out k hlt) r1 r2)
      have hl1 := Lib.hid (HLT.out k hlt)
      have hl2 := Lib.hid (HLI.out k hlt)
      have HYk := Lib.hid (HY.out k)
      have HNk := Lib.hid (HN.out k)
      obtain ⟨z0, z1⟩ := HIN.out k
      have hcl := HCL.out k
      have BV := Lib.hid hb
      clear hb HY HN HIN HCL HTL HON HAI HLT HLI
      generalize ftT (drT zs k) (drI xs k) (m - 1) t 961 = L at *
      generalize hfC zs xs m t k = N at *
      generalize hfT zs xs m t k = f1 at *
      generalize hfM zs xs m t (-1) k = g1 at *
      obtain ⟨p, hp⟩ : ∃ p : Nat, p = k + 1 := ⟨_, rfl⟩
      have e2 : IntKind.i64.wrap ((k : Int) + 1) = (p : Int) := by rw [IntWalk.i64_in _ (by omega)]; omega
      have HP := Lib.hid hp
      have k0 : (0 : Int) ≤ (k : Int) := Int.natCast_nonneg _
      have k1 : (k : Int) ≤ (c : Int) := by omega
      have k1q : (k : Int) ≤ (q : Int) := by omega
      have k2 : (p : Int) ≤ (m : Int) := by omega
      have k3 : (m : Int) ≤ (c : Int) := by omega
      have k3q : (m : Int) ≤ (q : Int) := by omega
      have k4 : (0 : Int) ≤ (p : Int) := by omega
      have k5 : (p : Int) ≤ (c : Int) := by omega
      have k5q : (p : Int) ≤ (q : Int) := by omega
      have kp : (k : Int) ≤ (p : Int) := by omega
      have hkn : k + (m - p) ≤ 1048576 := by omega
      have hpm : p ≤ m := by omega
      clear hp
      generalize wr = V at *
      go_upto_region 7 with fail
      have SRC1 := Lib.hid (src_take (k := k) (H1.out.next BV.out) (by omega))
      have SRC2 := Lib.hid (src_drop (k := p) (H1.out.next BV.out) (by omega))
      have LL1 := Lib.hid (show (cellsI (zs.take (k * 2))).length = k * 2 by unfold cellsI; rw [List.length_map, List.length_take, hL1.out]; omega)
      have LL2 := Lib.hid (show (cellsI (zs.drop (p * 2))).length = (m - p) * 2 by unfold cellsI; rw [List.length_map, List.length_drop, hL1.out]; omega)
      go_cut [11] from 30 to 39 (fun v wz => ∃ AX cX, v = .slice AX (m - 1) cX ∧ wz.ownsRow V.heap.size 32 2 (.slice AX (m - 1) cX) (m - 1) (cellsI (drT zs k)) ∧ Below V.heap.size V wz)
      case first =>
        by_cases hcc : c = p
        · have HD0 := Lib.hid (show cellsI (zs.drop ((k + 1) * 2)) = [] by unfold cellsI; rw [List.drop_eq_nil_of_le (by rw [hL1.out]; have := HP.out; omega)]; rfl)
          have HKM := Lib.hid (show m ≤ k + 1 by have := HP.out; omega)
          obtain rfl : p = c := hcc.symm
          go_region_held3 (fun w' => Below V.heap.size V w') (first
            | exact (Below.refl _ _).drew
            | assumption
            | exact ((Below.refl _ _).alloc (Nat.le_refl _) _).drew
            | exact Below.alloc (by assumption) (Below.size (by assumption)) _) (first
            | (refine step_append_sz rfl (.tmp 30) (.tmp 33) 29 rfl V.heap.size 32 iS (.agg #[.int .i64 0, .int .i64 0]) 2 16 Try.underlying29 hiS hzS0 hzS1 hzS2 rfl (by decide) _ 0 [] rfl (own_emptyZ V _ 2) _ k _ (cellsI (zs.take (k * 2))) rfl LL1.out (SRC1.out _ (by assumption)) (ints_one _) (by unfold maxLen; omega) (by omega) (Below.size (by assumption)) ?_
               intro v1 w2 oA gA nA
               rw [Nat.zero_add, List.nil_append] at oA
               have hB1 : Below V.heap.size V w2 := (((Below.refl V.heap.size V).alloc (Nat.le_refl _) (.cells #[] 32)).drew).grown gA (by simp) (own_.row_ge (own_emptyZ V 32 2)))
            | (refine step_append_sz rfl (.tmp 34) (.tmp 38) 29 rfl V.heap.size 32 iS (.agg #[.int .i64 0, .int .i64 0]) 2 16 Try.underlying29 hiS hzS0 hzS1 hzS2 rfl (by decide) _ k (cellsI (zs.take (k * 2))) rfl oA _ 0 _ [] rfl rfl (fun j u hu => by simp at hu) (fun u hu => by simp at hu) (by unfold maxLen; omega) (by omega) (Below.size hB1) ?_
               intro v2 w3 oB gB nB
               have hB2 : Below V.heap.size V w3 := hB1.grown gB hB1.size (own_.row_ge oA)))
          all_goals (
            have OX := own_two (n := m) (by rw [HD0.out, List.append_nil] ; rw [List.append_nil] at oB; rw [show k + (m - (k + 1)) = k + 0 by have := HKM.out; omega]; exact oB) hlt
            obtain ⟨AX, cX, rfl⟩ := own_sliceZ OX
            clear oA gA nA hB1 oB gB nB
            go_wp2_with fail
            go_meet
            exact ⟨AX, cX, rfl, OX, hB2⟩)
        · go_region_held3 (fun w' => Below V.heap.size V w') (first
            | exact (Below.refl _ _).drew
            | assumption
            | exact ((Below.refl _ _).alloc (Nat.le_refl _) _).drew
            | exact Below.alloc (by assumption) (Below.size (by assumption)) _) (first
            | (refine step_append_sz rfl (.tmp 30) (.tmp 33) 29 rfl V.heap.size 32 iS (.agg #[.int .i64 0, .int .i64 0]) 2 16 Try.underlying29 hiS hzS0 hzS1 hzS2 rfl (by decide) _ 0 [] rfl (own_emptyZ V _ 2) _ k _ (cellsI (zs.take (k * 2))) rfl LL1.out (SRC1.out _ (by assumption)) (ints_one _) (by unfold maxLen; omega) (by omega) (Below.size (by assumption)) ?_
               intro v1 w2 oA gA nA
               rw [Nat.zero_add, List.nil_append] at oA
               have hB1 : Below V.heap.size V w2 := (((Below.refl V.heap.size V).alloc (Nat.le_refl _) (.cells #[] 32)).drew).grown gA (by simp) (own_.row_ge (own_emptyZ V 32 2)))
            | (refine step_append_sz rfl (.tmp 34) (.tmp 38) 29 rfl V.heap.size 32 iS (.agg #[.int .i64 0, .int .i64 0]) 2 16 Try.underlying29 hiS hzS0 hzS1 hzS2 rfl (by decide) _ k (cellsI (zs.take (k * 2))) rfl oA _ (m - p) _ (cellsI (zs.drop (p * 2))) rfl LL2.out (SRC2.out _ hB1) (ints_one _) (by unfold maxLen; omega) (by omega) (Below.size hB1) ?_
               intro v2 w3 oB gB nB
               have hB2 : Below V.heap.size V w3 := hB1.grown gB hB1.size (own_.row_ge oA)))
          all_goals (
            have OX := own_two (n := m) (by rw [← HP.out]; exact oB) hlt
            obtain ⟨AX, cX, rfl⟩ := own_sliceZ OX
            clear oA gA nA hB1 oB gB nB
            go_wp2_with fail
            go_meet
            exact ⟨AX, cX, rfl, OX, hB2⟩)
      case rest =>
        obtain ⟨AX, cX, rfl, ho1, hb1⟩ := hcut
        have R1 := Lib.hid (RdZ.of_own ho1 hl1.out)
        have BV2 := Lib.hid (BV.out.trans (hb1.mono BV.out.size))
        clear ho1 hb1 SRC1 SRC2 LL1 LL2 BV
        generalize wc = V2 at *
        go_upto_region 8 with fail
        have SRC1 := Lib.hid (srcI_take (k := k) (H2.out.next BV2.out) (by omega))
        have SRC2 := Lib.hid (srcI_drop (k := p) (H2.out.next BV2.out) (by omega))
        have LL1 := Lib.hid (show (cellsI (xs.take k)).length = k * 1 by unfold cellsI; rw [List.length_map, List.length_take, hL2.out]; omega)
        have LL2 := Lib.hid (show (cellsI (xs.drop p)).length = (m - p) * 1 by unfold cellsI; rw [List.length_map, List.length_drop, hL2.out]; omega)
        go_cut [12] from 40 to 49 (fun v wz => ∃ AY cY, v = .slice AY (m - 1) cY ∧ wz.ownsRow V2.heap.size 3 1 (.slice AY (m - 1) cY) (m - 1) (cellsI (drI xs k)) ∧ Below V2.heap.size V2 wz)
        case first =>
          by_cases hcc : q = p
          · have HD0 := Lib.hid (show cellsI (xs.drop (k + 1)) = [] by unfold cellsI; rw [List.drop_eq_nil_of_le (by rw [hL2.out]; have := HP.out; omega)]; rfl)
            have HKM := Lib.hid (show m ≤ k + 1 by have := HP.out; omega)
            obtain rfl : p = q := hcc.symm
            go_region_held3 (fun w' => Below V2.heap.size V2 w') (first
              | exact (Below.refl _ _).drew
              | assumption
              | exact ((Below.refl _ _).alloc (Nat.le_refl _) _).drew
              | exact Below.alloc (by assumption) (Below.size (by assumption)) _) (first
              | (refine step_append_sz rfl (.tmp 40) (.tmp 43) 23 rfl V2.heap.size 3 iI (.int .i64 0) 1 8 Try.underlying23 hiI hzI0 hzI1 hzI2 rfl (by decide) _ 0 [] rfl (own_emptyZ V2 _ 1) _ k _ (cellsI (xs.take k)) rfl LL1.out (SRC1.out _ (by assumption)) (ints_one _) (by unfold maxLen; omega) (by omega) (Below.size (by assumption)) ?_
                 intro v1 w2 oA gA nA
                 rw [Nat.zero_add, List.nil_append] at oA
                 have hB1 : Below V2.heap.size V2 w2 := (((Below.refl V2.heap.size V2).alloc (Nat.le_refl _) (.cells #[] 3)).drew).grown gA (by simp) (own_.row_ge (own_emptyZ V2 3 1)))
              | (refine step_append_sz rfl (.tmp 44) (.tmp 48) 23 rfl V2.heap.size 3 iI (.int .i64 0) 1 8 Try.underlying23 hiI hzI0 hzI1 hzI2 rfl (by decide) _ k (cellsI (xs.take k)) rfl oA _ 0 _ [] rfl rfl (fun j u hu => by simp at hu) (fun u hu => by simp at hu) (by unfold maxLen; omega) (by omega) (Below.size hB1) ?_
                 intro v2 w3 oB gB nB
                 have hB2 : Below V2.heap.size V2 w3 := hB1.grown gB hB1.size (own_.row_ge oA)))
            all_goals (
              have OX := ownI_two (n := m) (by rw [HD0.out, List.append_nil] ; rw [List.append_nil] at oB; rw [show k + (m - (k + 1)) = k + 0 by have := HKM.out; omega]; exact oB) hlt
              obtain ⟨AY, cY, rfl⟩ := own_sliceZ OX
              clear oA gA nA hB1 oB gB nB
              go_wp2_with fail
              go_meet
              exact ⟨AY, cY, rfl, OX, hB2⟩)
          · go_region_held3 (fun w' => Below V2.heap.size V2 w') (first
              | exact (Below.refl _ _).drew
              | assumption
              | exact ((Below.refl _ _).alloc (Nat.le_refl _) _).drew
              | exact Below.alloc (by assumption) (Below.size (by assumption)) _) (first
              | (refine step_append_sz rfl (.tmp 40) (.tmp 43) 23 rfl V2.heap.size 3 iI (.int .i64 0) 1 8 Try.underlying23 hiI hzI0 hzI1 hzI2 rfl (by decide) _ 0 [] rfl (own_emptyZ V2 _ 1) _ k _ (cellsI (xs.take k)) rfl LL1.out (SRC1.out _ (by assumption)) (ints_one _) (by unfold maxLen; omega) (by omega) (Below.size (by assumption)) ?_
                 intro v1 w2 oA gA nA
                 rw [Nat.zero_add, List.nil_append] at oA
                 have hB1 : Below V2.heap.size V2 w2 := (((Below.refl V2.heap.size V2).alloc (Nat.le_refl _) (.cells #[] 3)).drew).grown gA (by simp) (own_.row_ge (own_emptyZ V2 3 1)))
              | (refine step_append_sz rfl (.tmp 44) (.tmp 48) 23 rfl V2.heap.size 3 iI (.int .i64 0) 1 8 Try.underlying23 hiI hzI0 hzI1 hzI2 rfl (by decide) _ k (cellsI (xs.take k)) rfl oA _ (m - p) _ (cellsI (xs.drop p)) rfl LL2.out (SRC2.out _ hB1) (ints_one _) (by unfold maxLen; omega) (by omega) (Below.size hB1) ?_
                 intro v2 w3 oB gB nB
                 have hB2 : Below V2.heap.size V2 w3 := hB1.grown gB hB1.size (own_.row_ge oA)))
            all_goals (
              have OX := ownI_two (n := m) (by rw [← HP.out]; exact oB) hlt
              obtain ⟨AY, cY, rfl⟩ := own_sliceZ OX
              clear oA gA nA hB1 oB gB nB
              go_wp2_with fail
              go_meet
              exact ⟨AY, cY, rfl, OX, hB2⟩)
        case rest =>
          obtain ⟨AY, cY, rfl, ho2, hb2⟩ := hcut
          have R2 := Lib.hid (rd_of_own ho2 hl2.out)
          have R1' := Lib.hid (R1.out.next hb2)
          have BV3 := Lib.hid (BV2.out.trans (hb2.mono BV2.out.size))
          clear ho2 hb2 SRC1 SRC2 LL1 LL2 BV2 R1
          generalize wc = V3 at *
          go_wp2_with fail
          refine (W3.out AX AY cX cY V3 R1'.out R2.out).mono ?_
          rintro e w4 ⟨v3, rfl, ho3, hb3⟩
          obtain ⟨A3, c3, rfl⟩ := own_sliceZ ho3
          have B3 := Lib.hid (BV3.out.trans (hb3.mono BV3.out.size))
          clear ho3 hb3 W3 R1' R2 BV3
          by_cases hs : g1 < (N : Int)
          · have HQ := Lib.hid (HYk.out hs)
            clear HYk HNk
            go_wp2_with fail
            go_roundw
            case rel => exact ⟨p, by omega, rfl, by rw [HP.out, HQ.out.1], by rw [HP.out, HQ.out.2], B3.out⟩
            case measure => (have := HP.out; simp [intOf]; omega)
          · have HQ := Lib.hid (HNk.out (by omega))
            have hs3 : (N : Int) ≤ g1 := by omega
            clear HYk HNk
            go_wp2_with fail
            go_roundw
            case rel => exact ⟨p, by omega, rfl, by rw [HP.out, HQ.out.1], by rw [HP.out, HQ.out.2], B3.out⟩
            case measure => (have := HP.out; simp [intOf]; omega)
    · obtain rfl : k = m := by omega
      generalize hfT zs xs k t k = f1 at *
      go_wp2_with fail
      go_ret2
      exact ⟨by rw [HE.out, HV.out]; rfl, hb⟩

end Go.Proofs.Ytpbopiecfnedgab.loch
