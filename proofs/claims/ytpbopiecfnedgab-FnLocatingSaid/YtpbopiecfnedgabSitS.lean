/- spec's functions of chapter 10 on points, lists of sites and lists of arrivals: l10Point, l10Distance, l10Good, l10Reach, l10Asked, IsValidSites, SiteDistance. -/
import Derived.Test.YtpbopiecfnedgabSit
import Derived.Test.YtpbopiecfnedgabAtS
import Derived.Test.YtpbopiecfnedgabPosT
import Derived.WalkKit
import Derived.IntWalk
import Derived.BigQuiet
import Derived.Deep.QuietTactic
namespace Go.Proofs.Ytpbopiecfnedgab.sits
open Go.RowKit Go.Proofs.Ytpbopiecfnedgab.ints Go.Proofs.Ytpbopiecfnedgab.lst Go.Proofs.Ytpbopiecfnedgab.sit Go.Proofs.Ytpbopiecfnedgab.in_ Go.Proofs.Ytpbopiecfnedgab.ats Go.Proofs.Ytpbopiecfnedgab.post

theorem cells2 {w : World} {B n k : Nat} {A : Option Addr} {zs : List Int} (h : RdZ 2 w B A n zs) (hk : k < n) :
    ∃ b o, A = some ⟨b, o, none⟩ ∧ b < B ∧ w.cell? ⟨b, o + k * 2, none⟩ = some (.int .i64 (fld 2 zs k 0)) ∧ w.cell? ⟨b, o + k * 2 + 1, none⟩ = some (.int .i64 (fld 2 zs k 1)) := by
  obtain ⟨b, o, e, hb, hc⟩ := h.at_ hk
  exact ⟨b, o, e, hb, hc 0 (by omega), hc 1 (by omega)⟩

theorem point10 (x y : Int) (w : World) : Calls Try.prog 63 #[.agg #[.int .i64 x, .int .i64 y]] w fun e w' => e = .returned (.bool (onB x y)) ∧ Below w.heap.size w w' := by
  have H1 := Lib.hid (fun w => l1In x 0 30 w)
  have H2 := Lib.hid (fun w => l1In y 0 30 w)
  unfold onB
  generalize isIn x 0 30 = p at *
  generalize isIn y 0 30 = q at *
  cases p
  · go_enter Try.func63, Try.ntmps63
    go_wp2_with fail
    refine (H1.out _).mono ?_
    rintro e w1 ⟨rfl, rfl⟩
    go_wp2_with fail
    go_ret
    exact ⟨rfl, (Below.refl _ _).alloc (Nat.le_refl _) _⟩
  · go_enter Try.func63, Try.ntmps63
    go_wp2_with fail
    refine (H1.out _).mono ?_
    rintro e w1 ⟨rfl, rfl⟩
    go_wp2_with fail
    refine (H2.out _).mono ?_
    rintro e w1 ⟨rfl, rfl⟩
    go_wp2_with fail
    go_ret
    exact ⟨rfl, (Below.refl _ _).alloc (Nat.le_refl _) _⟩

theorem distance10 (x y a b : Int) (h1 : okP x y) (h2 : okP a b) (w : World) :
    Calls Try.prog 100 #[.agg #[.int .i64 x, .int .i64 y], .agg #[.int .i64 a, .int .i64 b]] w fun e w' => e = .returned (.int .i64 (dist x y a b)) ∧ Below w.heap.size w w' := by
  obtain ⟨⟨p0, p1⟩, p2, p3⟩ := h1
  obtain ⟨⟨q0, q1⟩, q2, q3⟩ := h2
  have G1 := Lib.hid (fun w d => aid.quiet_left (abs7 (x - a) (World.drewN w d) (by omega) (by omega)))
  have G2 := Lib.hid (fun w d => aid.quiet_left (abs7 (y - b) (World.drewN w d) (by omega) (by omega)))
  have e1 : IntKind.i64.wrap (x - a) = x - a := IntWalk.i64_in _ (by omega)
  have e2 : IntKind.i64.wrap (y - b) = y - b := IntWalk.i64_in _ (by omega)
  have E0 := Lib.hid (show Below w.heap.size w ((w.alloc (.cells #[.int .i64 x, .int .i64 y] 32)).alloc (.cells #[.int .i64 a, .int .i64 b] 32)) from ((Below.refl _ _).alloc (Nat.le_refl _) _).alloc (by rw [World.size_alloc]; omega) _)
  unfold dist
  have u0 : (0 : Int) ≤ ((x - a).natAbs : Int) := by omega
  have u1 : ((x - a).natAbs : Int) ≤ 2000 := by omega
  have v0 : (0 : Int) ≤ ((y - b).natAbs : Int) := by omega
  have v1 : ((y - b).natAbs : Int) ≤ 2000 := by omega
  generalize ((x - a).natAbs : Int) = u at *
  generalize ((y - b).natAbs : Int) = v at *
  have e3 : IntKind.i64.wrap (u + v) = u + v := IntWalk.i64_in _ (by omega)
  go_enter Try.func100, Try.ntmps100
  go_wp2_with fail
  go_quiet ((go_at_call 99; first | (with_reducible exact G1.out _ _) | (with_reducible exact G2.out _ _)))
  go_wp2_with fail
  go_ret
  exact ⟨rfl, aid.below_drewN E0.out _⟩

set_option maxRecDepth 100000 in
set_option maxHeartbeats 2000000 in
theorem good10 (zs : List Int) (A : Option Addr) (n c : Nat) (w : World) (hn : n ≤ 1048577) (h1 : RdZ 2 w w.heap.size A n zs) :
    Calls Try.prog 76 #[.slice A n c] w fun e w' => e = .returned (.bool (siB zs n)) ∧ Below w.heap.size w w' := by
  have HI := Lib.hid (fun (x : Int) w => l1In x 1 5 w)
  go_enter Try.func76, Try.ntmps76
  go_wp2
  go_loopw [3] (fun i wr => ∃ k : Nat, k ≤ n ∧ k ≤ 6 ∧ i = .int .i64 k ∧ Below w.heap.size w wr ∧ onT zs k = true ∧ difT zs k = true) (fun i _ => n - (intOf i).toNat)
  case atStart => exact ⟨0, Nat.zero_le _, Nat.zero_le _, rfl, Below.refl _ _, rfl, rfl⟩
  case round =>
    obtain ⟨k, hk, hk2, rfl, hb, hon, hdif⟩ := hrel
    by_cases hlt : k < n
    · have hlt2 : (k : Int) < (n : Int) := by omega
      by_cases h20 : k ≤ 5
      · obtain ⟨b1, o1, rfl, l1, p0, p1⟩ := cells2 (h1.below hb (Nat.le_refl _)) hlt
        have h21 : (k : Int) ≤ 5 := by omega
        have X1 := Lib.hid (fun w => point10 (fld 2 zs k 0) (fld 2 zs k 1) w)
        have HB := Lib.hid hb
        have HON := Lib.hid hon
        have HDI := Lib.hid hdif
        have HR := Lib.hid h1
        have HLT := Lib.hid hlt
        clear h1 hb hon hdif
        go_wp2_with fail
        refine (X1.out _).mono ?_
        rintro e w2 ⟨rfl, hb2⟩
        have hbq := Lib.hid (HB.out.trans (hb2.mono HB.out.size))
        clear p0 p1 hb2 HB X1
        cases hg : onB (fld 2 zs k 0) (fld 2 zs k 1)
        · have HN := Lib.hid (siB_on (n := n) (onT_no hlt hg))
          clear hg
          go_wp2_with fail
          go_ret
          exact ⟨by rw [HN.out]; rfl, hbq.out⟩
        · have HG := Lib.hid hg
          clear hg
          go_wp2_with fail
          go_loopw [4] (fun i wr => ∃ j : Nat, j ≤ k ∧ i = .int .i64 j ∧ Below w.heap.size w wr ∧ newT zs k j = true) (fun i _ => k - (intOf i).toNat)
          case atStart => exact ⟨0, Nat.zero_le _, rfl, hbq.out, rfl⟩
          case round =>
            obtain ⟨j, hj, rfl, hb3, hnew⟩ := hrel
            clear hbq
            by_cases hjk : j < k
            · have hjk2 : (j : Int) < (k : Int) := by omega
              have hjn : (j : Int) < (n : Int) := by omega
              obtain ⟨b2, o2, eA, l2, p0, p1⟩ := cells2 (HR.out.below hb3 (Nat.le_refl _)) HLT.out
              obtain ⟨b3, o3, eA3, l3, q0, q1⟩ := cells2 (HR.out.below hb3 (Nat.le_refl _)) (show j < n by omega)
              obtain ⟨rfl, rfl⟩ : b1 = b2 ∧ o1 = o2 := by injection eA with e; injection e with e1 e2; exact ⟨e1, e2⟩
              obtain ⟨rfl, rfl⟩ : b1 = b3 ∧ o1 = o3 := by injection eA3 with e; injection e with e1 e2; exact ⟨e1, e2⟩
              have HB := Lib.hid hb3
              have HNE := Lib.hid hnew
              have HS : sameB zs k j = decide (fld 2 zs j 0 = fld 2 zs k 0 ∧ fld 2 zs j 1 = fld 2 zs k 1) := rfl
              have HD := Lib.hid (fun (h : sameB zs k j = true) => newT_no (n := k) hjk h)
              have HX := Lib.hid (fun (h : newT zs k k = false) => siB_dif (n := n) (difT_no HLT.out h))
              have HT := Lib.hid (show newT zs k (j + 1) = (newT zs k j && !sameB zs k j) from rfl)
              clear hb3 hnew eA eA3 hlt
              generalize fld 2 zs k 0 = x at *
              generalize fld 2 zs k 1 = y at *
              generalize fld 2 zs j 0 = u at *
              generalize fld 2 zs j 1 = v at *
              by_cases ex : u = x
              · have ex1 : (u == x) = true := by simpa using ex
                by_cases ey : v = y
                · have ey1 : (v == y) = true := by simpa using ey
                  rw [decide_eq_true ⟨ex, ey⟩] at HS
                  have HN := Lib.hid (HX.out (HD.out HS))
                  clear HS ex ey
                  go_wp2_with fail
                  go_quiet (fail)
                  go_wp2_with fail
                  go_ret
                  exact ⟨by rw [HN.out]; rfl, aid.below_drewN HB.out _⟩
                · have ey1 : (v == y) = false := by simpa using ey
                  rw [decide_eq_false (fun h => ey h.2)] at HS
                  have HN := Lib.hid (show newT zs k (j + 1) = true by rw [HT.out, HNE.out, HS]; rfl)
                  clear HS ex ey
                  go_wp2_with fail
                  go_quiet (fail)
                  go_wp2_with fail
                  go_roundw
                  case rel => exact ⟨j + 1, by omega, by go_num, aid.below_drewN HB.out _, HN.out⟩
                  case measure => simp [intOf]; omega
              · have ex1 : (u == x) = false := by simpa using ex
                rw [decide_eq_false (fun h => ex h.1)] at HS
                have HN := Lib.hid (show newT zs k (j + 1) = true by rw [HT.out, HNE.out, HS]; rfl)
                clear HS ex
                go_wp2_with fail
                go_quiet (fail)
                go_wp2_with fail
                go_roundw
                case rel => exact ⟨j + 1, by omega, by go_num, aid.below_drewN HB.out _, HN.out⟩
                case measure => simp [intOf]; omega
            · obtain rfl : j = k := by omega
              have HB := Lib.hid hb3
              have H1 := Lib.hid (show onT zs (j + 1) = true by rw [onT, HON.out, HG.out]; rfl)
              have H2 := Lib.hid (show difT zs (j + 1) = true by rw [difT, HDI.out, hnew]; rfl)
              clear hb3 hnew
              go_wp2_with fail
              go_roundw
              case rel => exact ⟨j + 1, by omega, by omega, by go_num, HB.out, H1.out, H2.out⟩
              case measure => simp [intOf]; omega
      · have h21 : ¬ (k : Int) ≤ 5 := by omega
        have hx : isIn (n : Int) 1 5 = false := decide_eq_false (by omega)
        have HN := Lib.hid (siB_len (zs := zs) (n := n) (by omega))
        have X := Lib.hid (fun w => HI.out (n : Int) w)
        rw [hx] at X
        clear h1 hon hdif hx
        go_wp2_with fail
        refine (X.out _).mono ?_
        rintro e w2 ⟨rfl, rfl⟩
        go_wp2_with fail
        go_ret
        exact ⟨by rw [HN.out]; rfl, hb⟩
    · obtain rfl : k = n := by omega
      have HN : siB zs k = isIn (k : Int) 1 5 := by
        by_cases h : 1 ≤ k ∧ k ≤ 5
        · rw [siB_of h.1 h.2 hon hdif]
          exact (decide_eq_true (by omega)).symm
        · rw [siB_len h]
          exact (decide_eq_false (by omega)).symm
      have HN := Lib.hid HN
      have X := Lib.hid (fun w => HI.out (k : Int) w)
      clear h1 hon hdif
      generalize isIn (k : Int) 1 5 = p at *
      go_wp2_with fail
      refine (X.out _).mono ?_
      rintro e w2 ⟨rfl, rfl⟩
      go_wp2_with fail
      go_ret
      exact ⟨by rw [HN.out]; rfl, hb⟩

theorem isValidSites (zs : List Int) (A : Option Addr) (n c : Nat) (w : World) (hn : n ≤ 1048577) (h1 : RdZ 2 w w.heap.size A n zs) :
    Calls Try.prog 46 #[.slice A n c] w fun e w' => e = .returned (.bool (siB zs n)) ∧ Below w.heap.size w w' := by
  have H := Lib.hid (good10 zs A n c w hn h1)
  generalize siB zs n = p at *
  clear h1
  go_enter Try.func46, Try.ntmps46
  go_wp2_with fail
  refine H.out.mono ?_
  rintro e w1 ⟨rfl, hb⟩
  go_wp2_with fail
  go_ret
  exact ⟨rfl, hb⟩

/-- Both points lie on the ground. -/
def sdB (x y a b : Int) : Bool := onB x y && onB a b
def sdV (x y a b : Int) : Int := if sdB x y a b then dist x y a b else 0
set_option maxRecDepth 100000 in
set_option maxHeartbeats 1000000 in
theorem asked10 (zs xs : List Int) (A B : Option Addr) (n c m d : Nat) (w : World) (hn : n ≤ 1048577) (hm : m ≤ 1048577) (h1 : RdZ 2 w w.heap.size A n zs) (h2 : RdI w w.heap.size B m xs) :
    Calls Try.prog 62 #[.slice A n c, .slice B m d] w fun e w' => e = .returned (.bool (arB zs n xs m)) ∧ Below w.heap.size w w' := by
  have HG := Lib.hid (fun w' (hb : Below w.heap.size w w') => good10 zs A n c w' hn (h1.next hb))
  have HI := Lib.hid (fun (x : Int) w => l1In x 0 100060 w)
  have HX := Lib.hid h2.1
  clear h1
  go_enter Try.func62, Try.ntmps62
  go_wp2
  go_loop [5] (fun i => ∃ k : Nat, k ≤ m ∧ i = .int .i64 k ∧ aiT xs k = true) (fun i => m - (intOf i).toNat)
  case atStart => exact ⟨0, Nat.zero_le _, rfl, rfl⟩
  case round =>
    obtain ⟨k, hk, rfl, hai⟩ := hrel
    by_cases hlt : k < m
    · obtain ⟨b, o, x, rfl, hbl, hx, hc⟩ := h2.at_ hlt
      have hlt2 : (k : Int) < (m : Int) := by omega
      have X := Lib.hid (fun w => HI.out x w)
      have hxd : xs.getD k 0 = x := by rw [List.getD_eq_getElem?_getD, hx]; rfl
      have HN := Lib.hid (fun (h : isIn (xs.getD k 0) 0 100060 = false) => arB_ai (zs := zs) (n := n) (aiT_no (xs := xs) (n := m) hlt h))
      have HS := Lib.hid (show aiT xs (k + 1) = (aiT xs k && isIn (xs.getD k 0) 0 100060) from rfl)
      rw [hai] at HS
      rw [hxd] at HS HN
      clear hxd hx hai h2
      generalize isIn x 0 100060 = p at *
      cases p
      · have HE := Lib.hid (HN.out rfl)
        clear HN
        go_wp2_with fail
        refine (X.out _).mono ?_
        rintro e w' ⟨rfl, rfl⟩
        go_wp2_with fail
        go_ret
        exact ⟨by rw [HE.out]; rfl, Below.refl _ _⟩
      · go_wp2_with fail
        refine (X.out _).mono ?_
        rintro e w' ⟨rfl, rfl⟩
        go_wp2_with fail
        go_round
        case rel => exact ⟨k + 1, by omega, by go_num, by rw [HS.out]; rfl⟩
        case measure => simp [intOf]; omega
    · obtain rfl : k = m := by omega
      have HA := Lib.hid hai
      clear hai h2
      cases hg : siB zs n
      · have G := Lib.hid (HG.out w (Below.refl _ _))
        rw [hg] at G
        have HE := Lib.hid (arB_si (xs := xs) (m := k) hg)
        clear hg
        go_wp2_with fail
        refine G.out.mono ?_
        rintro e w' ⟨rfl, hb⟩
        go_wp2_with fail
        go_ret
        exact ⟨by rw [HE.out]; rfl, hb⟩
      · have G := Lib.hid (HG.out w (Below.refl _ _))
        rw [hg] at G
        by_cases hkn : k = n
        · have HE := Lib.hid (arB_of HA.out hg hkn)
          have q1 : ((k : Int) == (n : Int)) = true := beq_iff_eq.mpr (by omega)
          clear hg hkn
          go_wp2_with fail
          refine G.out.mono ?_
          rintro e w' ⟨rfl, hb⟩
          go_wp2_with fail
          go_ret
          exact ⟨by rw [HE.out]; rfl, hb⟩
        · have HE := Lib.hid (arB_ne (zs := zs) (xs := xs) hkn)
          have q1 : ((k : Int) == (n : Int)) = false := beq_eq_false_iff_ne.mpr (by omega)
          clear hg hkn
          go_wp2_with fail
          refine G.out.mono ?_
          rintro e w' ⟨rfl, hb⟩
          go_wp2_with fail
          go_ret
          exact ⟨by rw [HE.out]; rfl, hb⟩
end Go.Proofs.Ytpbopiecfnedgab.sits
