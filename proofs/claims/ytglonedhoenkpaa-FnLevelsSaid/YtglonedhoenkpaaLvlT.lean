/- spec's valid lists of chapter 18: l18Good, IsValidClearances. -/
import Derived.Test.YtglonedhoenkpaaLvlS
import Derived.Test.YtglonedhoenkpaaLvlE
import Derived.Test.YtglonedhoenkpaaIntC
import Derived.Laws.Small
import Derived.Deep.QuietTactic
import Derived.BigQuiet
import Derived.Deep.RegionHeld3
import Derived.Deep.CutRange
import Derived.Deep.CutBlock
import Derived.Lib.QuietBelow
namespace Go.Proofs.Ytglonedhoenkpaa.lvlt
open Go.RowKit Go.Proofs.Ytglonedhoenkpaa.ints Go.Proofs.Ytglonedhoenkpaa.lst Go.Proofs.Ytglonedhoenkpaa.in_ Go.Proofs.Ytglonedhoenkpaa.ats Go.Proofs.Ytglonedhoenkpaa.putq Go.Proofs.Ytglonedhoenkpaa.vel Go.Proofs.Ytglonedhoenkpaa.lvl Go.Proofs.Ytglonedhoenkpaa.lvle Go.Proofs.Ytglonedhoenkpaa.lvls

theorem cv_end {zs : List Int} {n : Nat} (h : okT zs n = true) : cvB zs n = decide ((n : Int) ≤ 10) := by
  by_cases hn : n ≤ 10
  · rw [cvB_of h hn, decide_eq_true (show (n : Int) ≤ 10 by omega)]
  · rw [cvB_len (by omega), decide_eq_false (show ¬ (n : Int) ≤ 10 by omega)]
theorem ok_no1 {zs : List Int} {n k : Nat} (hk : k < n) (h : clK zs k = false) : cvB zs n = false := cvB_no (okT_cut (k := k + 1) (by rw [okT, h]; simp) hk)
theorem ok_no2 {zs : List Int} {n k : Nat} (hk : k < n) (h : befK zs k = false) : cvB zs n = false := cvB_no (okT_cut (k := k + 1) (by rw [okT, h]; simp) hk)
theorem ok_no3 {zs : List Int} {n k : Nat} (hk : k < n) (h : noK zs k = false) : cvB zs n = false := cvB_no (okT_cut (k := k + 1) (by rw [okT, h]; simp) hk)
theorem ok_on {zs : List Int} {k : Nat} (h0 : okT zs k = true) (h1 : clK zs k = true) (h2 : befK zs k = true) (h3 : noK zs k = true) : okT zs (k + 1) = true := by rw [okT, h0, h1, h2, h3]; rfl
theorem bef_zero {zs : List Int} {k : Nat} (h : k = 0) : befK zs k = true := befK_iff.2 (fun h0 => by omega)
theorem bef_is {zs : List Int} {k p : Nat} (h : p + 1 = k) : befK zs k = (decide (fld 5 zs p 0 < fld 5 zs k 0) || (decide (fld 5 zs p 0 = fld 5 zs k 0) && decide (fld 5 zs p 4 ≤ fld 5 zs k 3))) := by
  subst h
  unfold befK befB
  rw [decide_eq_false (by omega), Bool.false_or, Nat.add_sub_cancel]

set_option maxRecDepth 100000 in
set_option maxHeartbeats 4000000 in
theorem good18 (zs : List Int) (A : Option Addr) (n c : Nat) (w : World) (hn : n ≤ 1048577) (h1 : RdZ 5 w w.heap.size A n zs) :
    Calls Try.prog 56 #[.slice A n c] w fun e w' => e = .returned (.bool (cvB zs n)) ∧ Below w.heap.size w w' := by
  have HR := Lib.hid h1
  clear h1
  go_enter Try.func56, Try.ntmps56
  go_wp2_with fail
  go_loopw [3] (fun i wr => ∃ k : Nat, k ≤ n ∧ i = .int .i64 k ∧ Below w.heap.size w wr ∧ okT zs k = true) (fun i _ => n - (intOf i).toNat)
  case atStart => exact ⟨0, Nat.zero_le _, rfl, Below.refl _ _, rfl⟩
  case round =>
    obtain ⟨k, hk, rfl, hb, hok⟩ := hrel
    by_cases hlt : k < n
    · obtain ⟨b1, o1, rfl, l1, p0, p1, p2, p3, p4⟩ := cellsE (HR.out.below hb (Nat.le_refl _)) hlt
      have hlt2 : (k : Int) < (n : Int) := by omega
      have HLT := Lib.hid hlt
      have HOK := Lib.hid hok
      have X1 := Lib.hid (fun W => cleared18 (fld 5 zs k 0) (fld 5 zs k 1) (fld 5 zs k 2) (fld 5 zs k 3) (fld 5 zs k 4) W)
      have HCN := Lib.hid (fun (h : clB (fld 5 zs k 0) (fld 5 zs k 1) (fld 5 zs k 2) (fld 5 zs k 3) (fld 5 zs k 4) = false) => ok_no1 hlt h)
      have HCY := Lib.hid (fun (h : clB (fld 5 zs k 0) (fld 5 zs k 1) (fld 5 zs k 2) (fld 5 zs k 3) (fld 5 zs k 4) = true) => show clK zs k = true from h)
      have HBI := Lib.hid (fun p (h : p + 1 = k) => bef_is (zs := zs) h)
      have HB0 := Lib.hid hb
      obtain ⟨x0, hx0⟩ : ∃ x, fld 5 zs k 0 = x := ⟨_, rfl⟩
      obtain ⟨x1, hx1⟩ : ∃ x, fld 5 zs k 1 = x := ⟨_, rfl⟩
      obtain ⟨x2, hx2⟩ : ∃ x, fld 5 zs k 2 = x := ⟨_, rfl⟩
      obtain ⟨x3, hx3⟩ : ∃ x, fld 5 zs k 3 = x := ⟨_, rfl⟩
      obtain ⟨x4, hx4⟩ : ∃ x, fld 5 zs k 4 = x := ⟨_, rfl⟩
      have HNK := Lib.hid (fun j (hj : j + 1 ≤ k) (h : noT zs (fld 5 zs k 0) (fld 5 zs k 1) (fld 5 zs k 2) (fld 5 zs k 3) (fld 5 zs k 4) (j + 1) = false) => show noK zs k = false from noT_cut h hj)
      have HNJ := Lib.hid (fun (h : noT zs (fld 5 zs k 0) (fld 5 zs k 1) (fld 5 zs k 2) (fld 5 zs k 3) (fld 5 zs k 4) k = true) => show noK zs k = true from h)
      rw [hx0, hx1, hx2, hx3, hx4] at X1 HCN HCY HNK HNJ
      rw [hx0] at p0
      rw [hx1] at p1
      rw [hx2] at p2
      rw [hx3] at p3
      rw [hx4] at p4
      have HF0 := Lib.hid hx0
      have HF1 := Lib.hid hx1
      have HF2 := Lib.hid hx2
      have HF3 := Lib.hid hx3
      have HF4 := Lib.hid hx4
      clear hx0 hx1 hx2 hx3 hx4 hok hb hlt
      cases hcl : clB x0 x1 x2 x3 x4
      · rw [hcl] at X1
        have HE := Lib.hid (HCN.out hcl)
        clear hcl
        go_wp2_with fail
        refine (X1.out _).mono ?_
        rintro e w2 ⟨rfl, hb2⟩
        have BX := Lib.hid (HB0.out.trans (hb2.mono HB0.out.size))
        clear hb2
        go_wp2_with fail
        go_ret
        exact ⟨by rw [HE.out]; rfl, BX.out⟩
      · rw [hcl] at X1
        have HCL := Lib.hid (HCY.out hcl)
        clear hcl
        go_wp2_with fail
        refine (X1.out _).mono ?_
        rintro e w6 ⟨rfl, hb2⟩
        have HB := Lib.hid (HB0.out.trans (hb2.mono HB0.out.size))
        clear hb2 p0 p1 p2 p3 p4
        rcases Nat.eq_zero_or_pos k with h0 | h0
        · have HBF := Lib.hid (bef_zero (zs := zs) h0)
          have hk1 : decide ((0 : Int) < (k : Int)) = false := decide_eq_false (by omega)
          have hk2 : decide (0 < k) = false := decide_eq_false (by omega)
          clear h0
          go_upto_region 6 with fail
          refine wp_region_quiet_below (by kernel_rfl) (by kernel_rfl) ?_
          repeat (
            with_reducible refine wpQuiet_step (fun K hK => ?_)
            go_simp
            refine hK _ ?_; clear hK K)
          with_reducible refine wpQuiet_nil ?_
          intro _ hw'
          obtain ⟨⟨dq, osq⟩, hw''⟩ := hw'
          subst hw''
          have hbl := (below_regrown w6 dq osq)
          generalize Sort.grow (redrawn w6 dq) osq = w7 at *
          have B7 := Lib.hid (HB.out.trans (hbl.mono HB.out.size))
          clear hbl
          go_wp2_with fail
          go_loopw [4] (fun i wr => ∃ j : Nat, j ≤ k ∧ i = .int .i64 j ∧ Below w.heap.size w wr ∧ noT zs x0 x1 x2 x3 x4 j = true) (fun i _ => k - (intOf i).toNat)
          case atStart => exact ⟨0, Nat.zero_le _, rfl, B7.out, rfl⟩
          case round =>
            obtain ⟨j, hj, rfl, hb, hno⟩ := hrel
            have HJ := Lib.hid hb
            by_cases hlj : j < k
            · have hlj2 : (j : Int) < (k : Int) := by omega
              have hjn2 : (j : Int) < (n : Int) := by have := HLT.out; omega
              obtain ⟨b2, o2, eB, l2, r0, r1, r2, r3, r4⟩ := cellsE (HR.out.below hb (Nat.le_refl _)) (show j < n by have := HLT.out; omega)
              obtain ⟨b3, o3, eC, l3, s0, s1, s2, s3, s4⟩ := cellsE (HR.out.below hb (Nat.le_refl _)) HLT.out
              obtain ⟨rfl, rfl⟩ : b1 = b2 ∧ o1 = o2 := by injection eB with e; injection e with e1 e2; exact ⟨e1, e2⟩
              obtain ⟨rfl, rfl⟩ : b1 = b3 ∧ o1 = o3 := by injection eC with e; injection e with e1 e2; exact ⟨e1, e2⟩
              rw [HF0.out] at s0
              rw [HF1.out] at s1
              rw [HF2.out] at s2
              rw [HF3.out] at s3
              rw [HF4.out] at s4
              have D1 := Lib.hid (fun W d0 os => Calls.regrown_of (conflict18 (fld 5 zs j 0) (fld 5 zs j 1) (fld 5 zs j 2) (fld 5 zs j 3) (fld 5 zs j 4) x0 x1 x2 x3 x4 (Sort.grow (redrawn W d0) os)))
              have HNN := Lib.hid (show noT zs x0 x1 x2 x3 x4 (j + 1) = !cfB (fld 5 zs j 0) (fld 5 zs j 1) (fld 5 zs j 2) (fld 5 zs j 3) (fld 5 zs j 4) x0 x1 x2 x3 x4 by rw [noT, hno, Bool.true_and]; rfl)
              have HLJ := Lib.hid hlj
              clear hb hno eB eC hlj
              generalize cfB (fld 5 zs j 0) (fld 5 zs j 1) (fld 5 zs j 2) (fld 5 zs j 3) (fld 5 zs j 4) x0 x1 x2 x3 x4 = pb at *
              generalize fld 5 zs j 0 = y0 at *
              generalize fld 5 zs j 1 = y1 at *
              generalize fld 5 zs j 2 = y2 at *
              generalize fld 5 zs j 3 = y3 at *
              generalize fld 5 zs j 4 = y4 at *
              cases pb
              · have HT := Lib.hid HNN.out
                clear HNN
                go_upto_region 11 with fail
                have r0' := fun d0 os => cell_regrown r0 d0 os
                have r1' := fun d0 os => cell_regrown r1 d0 os
                have r2' := fun d0 os => cell_regrown r2 d0 os
                have r3' := fun d0 os => cell_regrown r3 d0 os
                have r4' := fun d0 os => cell_regrown r4 d0 os
                have s0' := fun d0 os => cell_regrown s0 d0 os
                have s1' := fun d0 os => cell_regrown s1 d0 os
                have s2' := fun d0 os => cell_regrown s2 d0 os
                have s3' := fun d0 os => cell_regrown s3 d0 os
                have s4' := fun d0 os => cell_regrown s4 d0 os
                clear r0 r1 r2 r3 r4 s0 s1 s2 s3 s4
                refine wp_region_quiet_below (by kernel_rfl) (by kernel_rfl) ?_
                repeat (
                  with_reducible refine wpQuiet_step (fun K hK => ?_)
                  go_simp
                  first
                    | (refine hK _ ?_; clear hK K)
                    | (apply Exists.intro
                       refine ⟨fun _ => ?_, hK _ ?_⟩
                       (first
                         | (go_at_call 61; with_reducible exact D1.out _ _ _))
                       clear hK K))
                with_reducible refine wpQuiet_nil ?_
                intro _ hw'
                obtain ⟨⟨dq, osq⟩, hw''⟩ := hw'
                subst hw''
                have hbl := (below_regrown wr dq osq)
                clear r0' r1' r2' r3' r4' s0' s1' s2' s3' s4'
                generalize Sort.grow (redrawn wr dq) osq = w8 at *
                have B8 := Lib.hid (HJ.out.trans (hbl.mono HJ.out.size))
                clear hbl
                go_wp2_with fail
                go_roundw
                case rel => exact ⟨j + 1, by have := HLJ.out; omega, by go_num, B8.out, HT.out⟩
                case measure => have := HLJ.out; have := HLT.out; simp [intOf]; omega
              · have HE := Lib.hid (ok_no3 HLT.out (HNK.out j (by have := HLJ.out; omega) HNN.out))
                clear HNN
                go_upto_region 11 with fail
                have r0' := fun d0 os => cell_regrown r0 d0 os
                have r1' := fun d0 os => cell_regrown r1 d0 os
                have r2' := fun d0 os => cell_regrown r2 d0 os
                have r3' := fun d0 os => cell_regrown r3 d0 os
                have r4' := fun d0 os => cell_regrown r4 d0 os
                have s0' := fun d0 os => cell_regrown s0 d0 os
                have s1' := fun d0 os => cell_regrown s1 d0 os
                have s2' := fun d0 os => cell_regrown s2 d0 os
                have s3' := fun d0 os => cell_regrown s3 d0 os
                have s4' := fun d0 os => cell_regrown s4 d0 os
                clear r0 r1 r2 r3 r4 s0 s1 s2 s3 s4
                refine wp_region_quiet_below (by kernel_rfl) (by kernel_rfl) ?_
                repeat (
                  with_reducible refine wpQuiet_step (fun K hK => ?_)
                  go_simp
                  first
                    | (refine hK _ ?_; clear hK K)
                    | (apply Exists.intro
                       refine ⟨fun _ => ?_, hK _ ?_⟩
                       (first
                         | (go_at_call 61; with_reducible exact D1.out _ _ _))
                       clear hK K))
                with_reducible refine wpQuiet_nil ?_
                intro _ hw'
                obtain ⟨⟨dq, osq⟩, hw''⟩ := hw'
                subst hw''
                have hbl := (below_regrown wr dq osq)
                clear r0' r1' r2' r3' r4' s0' s1' s2' s3' s4'
                generalize Sort.grow (redrawn wr dq) osq = w8 at *
                have B8 := Lib.hid (HJ.out.trans (hbl.mono HJ.out.size))
                clear hbl
                go_wp2_with fail
                go_ret
                exact ⟨by rw [HE.out]; rfl, B8.out⟩
            · obtain rfl : j = k := by omega
              have HON := Lib.hid (ok_on HOK.out HCL.out HBF.out (HNJ.out hno))
              clear hb hno hlj
              go_wp2_with fail
              go_roundw
              case rel => exact ⟨j + 1, by have := HLT.out; omega, by go_num, HJ.out, HON.out⟩
              case measure => have := HLT.out; simp [intOf]; omega
        · obtain ⟨p, hp⟩ : ∃ p, p + 1 = k := ⟨k - 1, by omega⟩
          have HBP := HBI.out p hp
          rw [HF0.out, HF3.out] at HBP
          have hk1 : decide ((0 : Int) < (k : Int)) = true := decide_eq_true (by omega)
          have hk2 : decide (0 < k) = true := decide_eq_true h0
          have hpn2 : (p : Int) < (n : Int) := by have := HLT.out; omega
          have hp0 : (0 : Int) ≤ (p : Int) := Int.natCast_nonneg _
          have e1 : IntKind.i64.wrap ((k : Int) - 1) = (p : Int) := by rw [IntWalk.i64_in _ (by have := HLT.out; omega)]; omega
          obtain ⟨b2, o2, eB, l2, q0, q1, q2, q3, q4⟩ := cellsE (HR.out.below HB.out (Nat.le_refl _)) (show p < n by have := HLT.out; omega)
          obtain ⟨b3, o3, eC, l3, p0, p1, p2, p3, p4⟩ := cellsE (HR.out.below HB.out (Nat.le_refl _)) HLT.out
          obtain ⟨rfl, rfl⟩ : b1 = b2 ∧ o1 = o2 := by injection eB with e; injection e with e1 e2; exact ⟨e1, e2⟩
          obtain ⟨rfl, rfl⟩ : b1 = b3 ∧ o1 = o3 := by injection eC with e; injection e with e1 e2; exact ⟨e1, e2⟩
          rw [HF0.out] at p0
          rw [HF3.out] at p3
          have HBP := Lib.hid HBP
          clear eB eC h0 hp q1 q2 q3 p1 p2 p4
          generalize fld 5 zs p 0 = v0 at *
          generalize fld 5 zs p 4 = v4 at *
          by_cases g0 : x0 < v0
          · have g0b : decide (x0 < v0) = true := decide_eq_true g0
            have HE := Lib.hid (ok_no2 HLT.out (by rw [HBP.out, decide_eq_false (show ¬ v0 < x0 by omega), decide_eq_false (show ¬ v0 = x0 by omega)]; rfl))
            clear HBP g0
            go_upto_region 6 with fail
            have p0' := fun d0 os => cell_regrown p0 d0 os
            have p3' := fun d0 os => cell_regrown p3 d0 os
            have q0' := fun d0 os => cell_regrown q0 d0 os
            have q4' := fun d0 os => cell_regrown q4 d0 os
            clear p0 p3 q0 q4
            refine wp_region_quiet_below (by kernel_rfl) (by kernel_rfl) ?_
            repeat (
              with_reducible refine wpQuiet_step (fun K hK => ?_)
              go_simp
              refine hK _ ?_; clear hK K)
            with_reducible refine wpQuiet_nil ?_
            intro _ hw'
            obtain ⟨⟨dq, osq⟩, hw''⟩ := hw'
            subst hw''
            have hbl := (below_regrown w6 dq osq)
            clear p0' p3' q0' q4'
            generalize Sort.grow (redrawn w6 dq) osq = w7 at *
            have B7 := Lib.hid (HB.out.trans (hbl.mono HB.out.size))
            clear hbl
            go_wp2_with fail
            go_ret
            exact ⟨by rw [HE.out]; rfl, B7.out⟩
          · have g0b : decide (x0 < v0) = false := decide_eq_false g0
            by_cases g1 : v0 = x0
            · have g1b : (v0 == x0) = true := beq_iff_eq.mpr g1
              by_cases g2 : x3 < v4
              · have g2b : decide (x3 < v4) = true := decide_eq_true g2
                have HE := Lib.hid (ok_no2 HLT.out (by rw [HBP.out, decide_eq_false (show ¬ v0 < x0 by omega), decide_eq_false (show ¬ v4 ≤ x3 by omega), Bool.and_false]; rfl))
                clear HBP g0 g1 g2
                go_upto_region 6 with fail
                have p0' := fun d0 os => cell_regrown p0 d0 os
                have p3' := fun d0 os => cell_regrown p3 d0 os
                have q0' := fun d0 os => cell_regrown q0 d0 os
                have q4' := fun d0 os => cell_regrown q4 d0 os
                clear p0 p3 q0 q4
                refine wp_region_quiet_below (by kernel_rfl) (by kernel_rfl) ?_
                repeat (
                  with_reducible refine wpQuiet_step (fun K hK => ?_)
                  go_simp
                  refine hK _ ?_; clear hK K)
                with_reducible refine wpQuiet_nil ?_
                intro _ hw'
                obtain ⟨⟨dq, osq⟩, hw''⟩ := hw'
                subst hw''
                have hbl := (below_regrown w6 dq osq)
                clear p0' p3' q0' q4'
                generalize Sort.grow (redrawn w6 dq) osq = w7 at *
                have B7 := Lib.hid (HB.out.trans (hbl.mono HB.out.size))
                clear hbl
                go_wp2_with fail
                go_ret
                exact ⟨by rw [HE.out]; rfl, B7.out⟩
              · have g2b : decide (x3 < v4) = false := decide_eq_false g2
                have HBF := Lib.hid (show befK zs k = true by rw [HBP.out, decide_eq_true g1, decide_eq_true (show v4 ≤ x3 by omega)]; simp)
                clear HBP g0 g1 g2
                go_upto_region 6 with fail
                have p0' := fun d0 os => cell_regrown p0 d0 os
                have p3' := fun d0 os => cell_regrown p3 d0 os
                have q0' := fun d0 os => cell_regrown q0 d0 os
                have q4' := fun d0 os => cell_regrown q4 d0 os
                clear p0 p3 q0 q4
                refine wp_region_quiet_below (by kernel_rfl) (by kernel_rfl) ?_
                repeat (
                  with_reducible refine wpQuiet_step (fun K hK => ?_)
                  go_simp
                  refine hK _ ?_; clear hK K)
                with_reducible refine wpQuiet_nil ?_
                intro _ hw'
                obtain ⟨⟨dq, osq⟩, hw''⟩ := hw'
                subst hw''
                have hbl := (below_regrown w6 dq osq)
                clear p0' p3' q0' q4'
                generalize Sort.grow (redrawn w6 dq) osq = w7 at *
                have B7 := Lib.hid (HB.out.trans (hbl.mono HB.out.size))
                clear hbl
                go_wp2_with fail
                go_loopw [4] (fun i wr => ∃ j : Nat, j ≤ k ∧ i = .int .i64 j ∧ Below w.heap.size w wr ∧ noT zs x0 x1 x2 x3 x4 j = true) (fun i _ => k - (intOf i).toNat)
                case atStart => exact ⟨0, Nat.zero_le _, rfl, B7.out, rfl⟩
                case round =>
                  obtain ⟨j, hj, rfl, hb, hno⟩ := hrel
                  have HJ := Lib.hid hb
                  by_cases hlj : j < k
                  · have hlj2 : (j : Int) < (k : Int) := by omega
                    have hjn2 : (j : Int) < (n : Int) := by have := HLT.out; omega
                    obtain ⟨b2, o2, eB, l2, r0, r1, r2, r3, r4⟩ := cellsE (HR.out.below hb (Nat.le_refl _)) (show j < n by have := HLT.out; omega)
                    obtain ⟨b3, o3, eC, l3, s0, s1, s2, s3, s4⟩ := cellsE (HR.out.below hb (Nat.le_refl _)) HLT.out
                    obtain ⟨rfl, rfl⟩ : b1 = b2 ∧ o1 = o2 := by injection eB with e; injection e with e1 e2; exact ⟨e1, e2⟩
                    obtain ⟨rfl, rfl⟩ : b1 = b3 ∧ o1 = o3 := by injection eC with e; injection e with e1 e2; exact ⟨e1, e2⟩
                    rw [HF0.out] at s0
                    rw [HF1.out] at s1
                    rw [HF2.out] at s2
                    rw [HF3.out] at s3
                    rw [HF4.out] at s4
                    have D1 := Lib.hid (fun W d0 os => Calls.regrown_of (conflict18 (fld 5 zs j 0) (fld 5 zs j 1) (fld 5 zs j 2) (fld 5 zs j 3) (fld 5 zs j 4) x0 x1 x2 x3 x4 (Sort.grow (redrawn W d0) os)))
                    have HNN := Lib.hid (show noT zs x0 x1 x2 x3 x4 (j + 1) = !cfB (fld 5 zs j 0) (fld 5 zs j 1) (fld 5 zs j 2) (fld 5 zs j 3) (fld 5 zs j 4) x0 x1 x2 x3 x4 by rw [noT, hno, Bool.true_and]; rfl)
                    have HLJ := Lib.hid hlj
                    clear hb hno eB eC hlj
                    generalize cfB (fld 5 zs j 0) (fld 5 zs j 1) (fld 5 zs j 2) (fld 5 zs j 3) (fld 5 zs j 4) x0 x1 x2 x3 x4 = pb at *
                    generalize fld 5 zs j 0 = y0 at *
                    generalize fld 5 zs j 1 = y1 at *
                    generalize fld 5 zs j 2 = y2 at *
                    generalize fld 5 zs j 3 = y3 at *
                    generalize fld 5 zs j 4 = y4 at *
                    cases pb
                    · have HT := Lib.hid HNN.out
                      clear HNN
                      go_upto_region 11 with fail
                      have r0' := fun d0 os => cell_regrown r0 d0 os
                      have r1' := fun d0 os => cell_regrown r1 d0 os
                      have r2' := fun d0 os => cell_regrown r2 d0 os
                      have r3' := fun d0 os => cell_regrown r3 d0 os
                      have r4' := fun d0 os => cell_regrown r4 d0 os
                      have s0' := fun d0 os => cell_regrown s0 d0 os
                      have s1' := fun d0 os => cell_regrown s1 d0 os
                      have s2' := fun d0 os => cell_regrown s2 d0 os
                      have s3' := fun d0 os => cell_regrown s3 d0 os
                      have s4' := fun d0 os => cell_regrown s4 d0 os
                      clear r0 r1 r2 r3 r4 s0 s1 s2 s3 s4
                      refine wp_region_quiet_below (by kernel_rfl) (by kernel_rfl) ?_
                      repeat (
                        with_reducible refine wpQuiet_step (fun K hK => ?_)
                        go_simp
                        first
                          | (refine hK _ ?_; clear hK K)
                          | (apply Exists.intro
                             refine ⟨fun _ => ?_, hK _ ?_⟩
                             (first
                               | (go_at_call 61; with_reducible exact D1.out _ _ _))
                             clear hK K))
                      with_reducible refine wpQuiet_nil ?_
                      intro _ hw'
                      obtain ⟨⟨dq, osq⟩, hw''⟩ := hw'
                      subst hw''
                      have hbl := (below_regrown wr dq osq)
                      clear r0' r1' r2' r3' r4' s0' s1' s2' s3' s4'
                      generalize Sort.grow (redrawn wr dq) osq = w8 at *
                      have B8 := Lib.hid (HJ.out.trans (hbl.mono HJ.out.size))
                      clear hbl
                      go_wp2_with fail
                      go_roundw
                      case rel => exact ⟨j + 1, by have := HLJ.out; omega, by go_num, B8.out, HT.out⟩
                      case measure => have := HLJ.out; have := HLT.out; simp [intOf]; omega
                    · have HE := Lib.hid (ok_no3 HLT.out (HNK.out j (by have := HLJ.out; omega) HNN.out))
                      clear HNN
                      go_upto_region 11 with fail
                      have r0' := fun d0 os => cell_regrown r0 d0 os
                      have r1' := fun d0 os => cell_regrown r1 d0 os
                      have r2' := fun d0 os => cell_regrown r2 d0 os
                      have r3' := fun d0 os => cell_regrown r3 d0 os
                      have r4' := fun d0 os => cell_regrown r4 d0 os
                      have s0' := fun d0 os => cell_regrown s0 d0 os
                      have s1' := fun d0 os => cell_regrown s1 d0 os
                      have s2' := fun d0 os => cell_regrown s2 d0 os
                      have s3' := fun d0 os => cell_regrown s3 d0 os
                      have s4' := fun d0 os => cell_regrown s4 d0 os
                      clear r0 r1 r2 r3 r4 s0 s1 s2 s3 s4
                      refine wp_region_quiet_below (by kernel_rfl) (by kernel_rfl) ?_
                      repeat (
                        with_reducible refine wpQuiet_step (fun K hK => ?_)
                        go_simp
                        first
                          | (refine hK _ ?_; clear hK K)
                          | (apply Exists.intro
                             refine ⟨fun _ => ?_, hK _ ?_⟩
                             (first
                               | (go_at_call 61; with_reducible exact D1.out _ _ _))
                             clear hK K))
                      with_reducible refine wpQuiet_nil ?_
                      intro _ hw'
                      obtain ⟨⟨dq, osq⟩, hw''⟩ := hw'
                      subst hw''
                      have hbl := (below_regrown wr dq osq)
                      clear r0' r1' r2' r3' r4' s0' s1' s2' s3' s4'
                      generalize Sort.grow (redrawn wr dq) osq = w8 at *
                      have B8 := Lib.hid (HJ.out.trans (hbl.mono HJ.out.size))
                      clear hbl
                      go_wp2_with fail
                      go_ret
                      exact ⟨by rw [HE.out]; rfl, B8.out⟩
                  · obtain rfl : j = k := by omega
                    have HON := Lib.hid (ok_on HOK.out HCL.out HBF.out (HNJ.out hno))
                    clear hb hno hlj
                    go_wp2_with fail
                    go_roundw
                    case rel => exact ⟨j + 1, by have := HLT.out; omega, by go_num, HJ.out, HON.out⟩
                    case measure => have := HLT.out; simp [intOf]; omega
            · have g1b : (v0 == x0) = false := beq_eq_false_iff_ne.mpr g1
              have HBF := Lib.hid (show befK zs k = true by rw [HBP.out, decide_eq_true (show v0 < x0 by omega)]; rfl)
              clear HBP g0 g1
              go_upto_region 6 with fail
              have p0' := fun d0 os => cell_regrown p0 d0 os
              have p3' := fun d0 os => cell_regrown p3 d0 os
              have q0' := fun d0 os => cell_regrown q0 d0 os
              have q4' := fun d0 os => cell_regrown q4 d0 os
              clear p0 p3 q0 q4
              refine wp_region_quiet_below (by kernel_rfl) (by kernel_rfl) ?_
              repeat (
                with_reducible refine wpQuiet_step (fun K hK => ?_)
                go_simp
                refine hK _ ?_; clear hK K)
              with_reducible refine wpQuiet_nil ?_
              intro _ hw'
              obtain ⟨⟨dq, osq⟩, hw''⟩ := hw'
              subst hw''
              have hbl := (below_regrown w6 dq osq)
              clear p0' p3' q0' q4'
              generalize Sort.grow (redrawn w6 dq) osq = w7 at *
              have B7 := Lib.hid (HB.out.trans (hbl.mono HB.out.size))
              clear hbl
              go_wp2_with fail
              go_loopw [4] (fun i wr => ∃ j : Nat, j ≤ k ∧ i = .int .i64 j ∧ Below w.heap.size w wr ∧ noT zs x0 x1 x2 x3 x4 j = true) (fun i _ => k - (intOf i).toNat)
              case atStart => exact ⟨0, Nat.zero_le _, rfl, B7.out, rfl⟩
              case round =>
                obtain ⟨j, hj, rfl, hb, hno⟩ := hrel
                have HJ := Lib.hid hb
                by_cases hlj : j < k
                · have hlj2 : (j : Int) < (k : Int) := by omega
                  have hjn2 : (j : Int) < (n : Int) := by have := HLT.out; omega
                  obtain ⟨b2, o2, eB, l2, r0, r1, r2, r3, r4⟩ := cellsE (HR.out.below hb (Nat.le_refl _)) (show j < n by have := HLT.out; omega)
                  obtain ⟨b3, o3, eC, l3, s0, s1, s2, s3, s4⟩ := cellsE (HR.out.below hb (Nat.le_refl _)) HLT.out
                  obtain ⟨rfl, rfl⟩ : b1 = b2 ∧ o1 = o2 := by injection eB with e; injection e with e1 e2; exact ⟨e1, e2⟩
                  obtain ⟨rfl, rfl⟩ : b1 = b3 ∧ o1 = o3 := by injection eC with e; injection e with e1 e2; exact ⟨e1, e2⟩
                  rw [HF0.out] at s0
                  rw [HF1.out] at s1
                  rw [HF2.out] at s2
                  rw [HF3.out] at s3
                  rw [HF4.out] at s4
                  have D1 := Lib.hid (fun W d0 os => Calls.regrown_of (conflict18 (fld 5 zs j 0) (fld 5 zs j 1) (fld 5 zs j 2) (fld 5 zs j 3) (fld 5 zs j 4) x0 x1 x2 x3 x4 (Sort.grow (redrawn W d0) os)))
                  have HNN := Lib.hid (show noT zs x0 x1 x2 x3 x4 (j + 1) = !cfB (fld 5 zs j 0) (fld 5 zs j 1) (fld 5 zs j 2) (fld 5 zs j 3) (fld 5 zs j 4) x0 x1 x2 x3 x4 by rw [noT, hno, Bool.true_and]; rfl)
                  have HLJ := Lib.hid hlj
                  clear hb hno eB eC hlj
                  generalize cfB (fld 5 zs j 0) (fld 5 zs j 1) (fld 5 zs j 2) (fld 5 zs j 3) (fld 5 zs j 4) x0 x1 x2 x3 x4 = pb at *
                  generalize fld 5 zs j 0 = y0 at *
                  generalize fld 5 zs j 1 = y1 at *
                  generalize fld 5 zs j 2 = y2 at *
                  generalize fld 5 zs j 3 = y3 at *
                  generalize fld 5 zs j 4 = y4 at *
                  cases pb
                  · have HT := Lib.hid HNN.out
                    clear HNN
                    go_upto_region 11 with fail
                    have r0' := fun d0 os => cell_regrown r0 d0 os
                    have r1' := fun d0 os => cell_regrown r1 d0 os
                    have r2' := fun d0 os => cell_regrown r2 d0 os
                    have r3' := fun d0 os => cell_regrown r3 d0 os
                    have r4' := fun d0 os => cell_regrown r4 d0 os
                    have s0' := fun d0 os => cell_regrown s0 d0 os
                    have s1' := fun d0 os => cell_regrown s1 d0 os
                    have s2' := fun d0 os => cell_regrown s2 d0 os
                    have s3' := fun d0 os => cell_regrown s3 d0 os
                    have s4' := fun d0 os => cell_regrown s4 d0 os
                    clear r0 r1 r2 r3 r4 s0 s1 s2 s3 s4
                    refine wp_region_quiet_below (by kernel_rfl) (by kernel_rfl) ?_
                    repeat (
                      with_reducible refine wpQuiet_step (fun K hK => ?_)
                      go_simp
                      first
                        | (refine hK _ ?_; clear hK K)
                        | (apply Exists.intro
                           refine ⟨fun _ => ?_, hK _ ?_⟩
                           (first
                             | (go_at_call 61; with_reducible exact D1.out _ _ _))
                           clear hK K))
                    with_reducible refine wpQuiet_nil ?_
                    intro _ hw'
                    obtain ⟨⟨dq, osq⟩, hw''⟩ := hw'
                    subst hw''
                    have hbl := (below_regrown wr dq osq)
                    clear r0' r1' r2' r3' r4' s0' s1' s2' s3' s4'
                    generalize Sort.grow (redrawn wr dq) osq = w8 at *
                    have B8 := Lib.hid (HJ.out.trans (hbl.mono HJ.out.size))
                    clear hbl
                    go_wp2_with fail
                    go_roundw
                    case rel => exact ⟨j + 1, by have := HLJ.out; omega, by go_num, B8.out, HT.out⟩
                    case measure => have := HLJ.out; have := HLT.out; simp [intOf]; omega
                  · have HE := Lib.hid (ok_no3 HLT.out (HNK.out j (by have := HLJ.out; omega) HNN.out))
                    clear HNN
                    go_upto_region 11 with fail
                    have r0' := fun d0 os => cell_regrown r0 d0 os
                    have r1' := fun d0 os => cell_regrown r1 d0 os
                    have r2' := fun d0 os => cell_regrown r2 d0 os
                    have r3' := fun d0 os => cell_regrown r3 d0 os
                    have r4' := fun d0 os => cell_regrown r4 d0 os
                    have s0' := fun d0 os => cell_regrown s0 d0 os
                    have s1' := fun d0 os => cell_regrown s1 d0 os
                    have s2' := fun d0 os => cell_regrown s2 d0 os
                    have s3' := fun d0 os => cell_regrown s3 d0 os
                    have s4' := fun d0 os => cell_regrown s4 d0 os
                    clear r0 r1 r2 r3 r4 s0 s1 s2 s3 s4
                    refine wp_region_quiet_below (by kernel_rfl) (by kernel_rfl) ?_
                    repeat (
                      with_reducible refine wpQuiet_step (fun K hK => ?_)
                      go_simp
                      first
                        | (refine hK _ ?_; clear hK K)
                        | (apply Exists.intro
                           refine ⟨fun _ => ?_, hK _ ?_⟩
                           (first
                             | (go_at_call 61; with_reducible exact D1.out _ _ _))
                           clear hK K))
                    with_reducible refine wpQuiet_nil ?_
                    intro _ hw'
                    obtain ⟨⟨dq, osq⟩, hw''⟩ := hw'
                    subst hw''
                    have hbl := (below_regrown wr dq osq)
                    clear r0' r1' r2' r3' r4' s0' s1' s2' s3' s4'
                    generalize Sort.grow (redrawn wr dq) osq = w8 at *
                    have B8 := Lib.hid (HJ.out.trans (hbl.mono HJ.out.size))
                    clear hbl
                    go_wp2_with fail
                    go_ret
                    exact ⟨by rw [HE.out]; rfl, B8.out⟩
                · obtain rfl : j = k := by omega
                  have HON := Lib.hid (ok_on HOK.out HCL.out HBF.out (HNJ.out hno))
                  clear hb hno hlj
                  go_wp2_with fail
                  go_roundw
                  case rel => exact ⟨j + 1, by have := HLT.out; omega, by go_num, HJ.out, HON.out⟩
                  case measure => have := HLT.out; simp [intOf]; omega
    · obtain rfl : k = n := by omega
      have HE := Lib.hid (cv_end hok)
      have BX := Lib.hid hb
      clear hb hok hlt HR
      go_wp2_with fail
      go_ret
      exact ⟨by rw [HE.out]; rfl, BX.out⟩
theorem isValidClearances (zs : List Int) (A : Option Addr) (n c : Nat) (w : World) (hn : n ≤ 1048577) (h1 : RdZ 5 w w.heap.size A n zs) :
    Calls Try.prog 44 #[.slice A n c] w fun e w' => e = .returned (.bool (cvB zs n)) ∧ Below w.heap.size w w' := by
  have H := Lib.hid (good18 zs A n c w hn h1)
  clear h1
  generalize cvB zs n = p at *
  go_enter Try.func44, Try.ntmps44
  go_wp2_with fail
  refine H.out.mono ?_
  rintro e w2 ⟨rfl, hb⟩
  go_wp2_with fail
  go_ret
  exact ⟨rfl, hb⟩
end Go.Proofs.Ytglonedhoenkpaa.lvlt
