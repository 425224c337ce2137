/- spec's ReleaseLevels, NearestLevel. -/
import Derived.Test.YtglonedhoenkpaaLvlU
import Derived.Laws.Small
import Derived.Deep.QuietTactic
import Derived.BigQuiet
import Derived.Deep.RegionHeld3
import Derived.Deep.CutRange
import Derived.Deep.CutBlock
import Derived.Lib.QuietBelow
import Derived.OwnWalk
namespace Go.Proofs.Ytglonedhoenkpaa.lvlv
open Go.RowKit Go.Proofs.Ytglonedhoenkpaa.ints Go.Proofs.Ytglonedhoenkpaa.lst Go.Proofs.Ytglonedhoenkpaa.in_ Go.Proofs.Ytglonedhoenkpaa.ats Go.Proofs.Ytglonedhoenkpaa.putq Go.Proofs.Ytglonedhoenkpaa.vel Go.Proofs.Ytglonedhoenkpaa.lvl Go.Proofs.Ytglonedhoenkpaa.lvle Go.Proofs.Ytglonedhoenkpaa.lvls Go.Proofs.Ytglonedhoenkpaa.lvlt Go.Proofs.Ytglonedhoenkpaa.lvlu

theorem most18 (a b : Int) (w : World) : Calls Try.prog 67 #[.int .i64 a, .int .i64 b] w fun e w' => e = .returned (.int .i64 (most a b)) ∧ w = w' := by
  unfold most
  by_cases h : a < b
  · have g : decide (b < a) = false := decide_eq_false (by omega)
    have g2 : decide (a < b) = true := decide_eq_true h
    rw [if_pos h]
    clear h
    go_enter Try.func67, Try.ntmps67
    go_wp2_with fail
    go_ret
    exact ⟨rfl, rfl⟩
  · rw [if_neg h]
    by_cases h2 : b < a
    · have g : decide (b < a) = true := decide_eq_true h2
      have g2 : decide (a < b) = false := decide_eq_false h
      clear h h2
      go_enter Try.func67, Try.ntmps67
      go_wp2_with fail
      go_ret
      exact ⟨rfl, rfl⟩
    · obtain rfl : a = b := by omega
      have g : decide (a < a) = false := decide_eq_false h
      clear h h2
      go_enter Try.func67, Try.ntmps67
      go_wp2_with fail
      go_ret
      exact ⟨rfl, rfl⟩
theorem own_grow5 {w : World} {B e n : Nat} {v : Value} {zs : List Int} {a l u f t : Int} (h : w.ownsRow B e 5 v (n + 1) (cellsI zs ++ [.int .i64 a, .int .i64 l, .int .i64 u, .int .i64 f, .int .i64 t])) : w.ownsRow B e 5 v (n + 1) (cellsI (zs ++ five a l u f t)) := by
  unfold cellsI at h ⊢
  rw [List.map_append]
  exact h
theorem five_cells (a l u f t : Int) : ∀ x ∈ [Value.int .i64 a, .int .i64 l, .int .i64 u, .int .i64 f, .int .i64 t], x.oneCell' = true := by
  intro x hx
  simp at hx
  rcases hx with rfl | rfl | rfl | rfl | rfl <;> rfl
theorem own_len5 {w : World} {B e n : Nat} {v : Value} {zs : List Int} (h : w.ownsRow B e 5 v n (cellsI zs)) : zs.length = n * 5 := by
  have := h.1
  unfold cellsI at this
  rwa [List.length_map] at this
set_option maxRecDepth 100000 in
set_option maxHeartbeats 4000000 in
theorem releaseLevels (zs : List Int) (m : Int) (A : Option Addr) (n c : Nat) (w : World) (_hc : n ≤ c) (hn : n ≤ 1048576) (h1 : RdZ 5 w w.heap.size A n zs) :
    Calls Try.prog 26 #[.slice A n c, .int .i64 m] w fun e w' => ∃ v, e = .returned (.tuple #[v, .bool (rlB zs n m)]) ∧ w'.ownsRow w.heap.size 26 5 v (rlN zs n m) (cellsI (rlV zs n m)) ∧ Below w.heap.size w w' := by
  have S0 := Lib.hid (newS 26 #[] w)
  have T0 := Lib.hid (fun (W : World) (hb : Below w.heap.size w W) => good18 zs A n c W (by omega) (h1.next hb))
  have T1 := Lib.hid (fun W => l1In m 0 1440 W)
  cases hq0 : cvB zs n
  · rw [hq0] at T0
    have HE := Lib.hid (show rlB zs n m = false by unfold rlB; rw [hq0]; rfl)
    clear h1 hq0
    go_enter Try.func26, Try.ntmps26
    go_wp2_with fail
    generalize (w.alloc (.cells #[] 26)) = W0 at *
    have AN0 := Lib.hid (Below.refl W0.heap.size W0)
    refine (T0.out W0 (S0.out.1.trans (AN0.out.mono S0.out.1.size))).mono ?_
    rintro e V0 ⟨rfl, hb⟩
    have AN1 := Lib.hid (AN0.out.trans (hb.mono AN0.out.size))
    clear hb
    have HV := Lib.hid (rlV_no HE.out)
    have HN0 := Lib.hid (rlN_no HE.out)
    have BX := Lib.hid (S0.out.1.trans (AN1.out.mono S0.out.1.size))
    have OX := Lib.hid (own_at (S0.out.old AN1.out) (s := 5))
    go_wp2_with fail
    go_ret2
    exact ⟨_, by rw [HE.out]; rfl, by rw [HV.out, HN0.out]; exact OX.out, BX.out⟩
  rw [hq0] at T0
  cases hq1 : isIn m 0 1440
  · rw [hq1] at T1
    have HE := Lib.hid (show rlB zs n m = false by unfold rlB; rw [hq1, Bool.and_false])
    clear h1 hq0 hq1
    go_enter Try.func26, Try.ntmps26
    go_wp2_with fail
    generalize (w.alloc (.cells #[] 26)) = W0 at *
    have AN0 := Lib.hid (Below.refl W0.heap.size W0)
    refine (T0.out W0 (S0.out.1.trans (AN0.out.mono S0.out.1.size))).mono ?_
    rintro e V0 ⟨rfl, hb⟩
    have AN1 := Lib.hid (AN0.out.trans (hb.mono AN0.out.size))
    clear hb
    go_wp2_with fail
    refine (T1.out V0).mono ?_
    rintro e w' ⟨rfl, rfl⟩
    have HV := Lib.hid (rlV_no HE.out)
    have HN0 := Lib.hid (rlN_no HE.out)
    have BX := Lib.hid (S0.out.1.trans (AN1.out.mono S0.out.1.size))
    have OX := Lib.hid (own_at (S0.out.old AN1.out) (s := 5))
    go_wp2_with fail
    go_ret2
    exact ⟨_, by rw [HE.out]; rfl, by rw [HV.out, HN0.out]; exact OX.out, BX.out⟩
  rw [hq1] at T1
  have HE := Lib.hid (show rlB zs n m = true by unfold rlB; rw [hq0, hq1]; rfl)
  have HV := Lib.hid (rlV_yes HE.out)
  have HN0 := Lib.hid (rlN_yes HE.out)
  have HC := Lib.hid hq0
  have HR := Lib.hid h1
  clear hq0 hq1 h1
  obtain ⟨i0, hi, hz0, hz1, hz2⟩ := info_parts infoS
  go_enter Try.func26, Try.ntmps26
  go_wp2_with fail
  generalize (w.alloc (.cells #[] 26)) = W0 at *
  have AN0 := Lib.hid (Below.refl W0.heap.size W0)
  refine (T0.out W0 (S0.out.1.trans (AN0.out.mono S0.out.1.size))).mono ?_
  rintro e V0 ⟨rfl, hb⟩
  have AN1 := Lib.hid (AN0.out.trans (hb.mono AN0.out.size))
  clear hb
  go_wp2_with fail
  refine (T1.out V0).mono ?_
  rintro e w' ⟨rfl, rfl⟩
  have B1 := Lib.hid (S0.out.1.trans (AN1.out.mono S0.out.1.size))
  have O1 := Lib.hid (own_at (S0.out.old AN1.out) (s := 5))
  clear S0
  go_wp2_with fail
  go_loopw [6, 7] (fun q i wr => ∃ k : Nat, k ≤ n ∧ i = .int .i64 k ∧ wr.ownsRow w.heap.size 26 5 q (rlC zs m k) (cellsI (rlT zs m k)) ∧ Below w.heap.size w wr) (fun _ i _ => n - (intOf i).toNat)
  case atStart => exact ⟨0, Nat.zero_le _, rfl, O1.out, B1.out⟩
  case round =>
    obtain ⟨k, hk, rfl, hO, hb⟩ := hrel
    by_cases hlt : k < n
    · obtain ⟨b1, o1, rfl, l1, p0, p1, p2, p3, p4⟩ := cellsE (HR.out.below hb (Nat.le_refl _)) hlt
      have hlt2 : (k : Int) < (n : Int) := by omega
      have hpar := cv_parts HC.out hlt
      have HYT := Lib.hid (fun h => rlT_yes (zs := zs) (m := m) (k := k) h)
      have HNT := Lib.hid (fun h => rlT_not (zs := zs) (m := m) (k := k) h)
      have HYC := Lib.hid (fun h => rlC_yes (zs := zs) (m := m) (k := k) h)
      have HNC := Lib.hid (fun h => rlC_not (zs := zs) (m := m) (k := k) h)
      have hlen := rlC_le zs m k
      have HO := Lib.hid (hO.alloc (.cells #[.int .i64 (fld 5 zs k 0), .int .i64 (fld 5 zs k 1), .int .i64 (fld 5 zs k 2), .int .i64 (fld 5 zs k 3), .int .i64 (fld 5 zs k 4)] 26))
      have HB := Lib.hid (hb.alloc hb.size (.cells #[.int .i64 (fld 5 zs k 0), .int .i64 (fld 5 zs k 1), .int .i64 (fld 5 zs k 2), .int .i64 (fld 5 zs k 3), .int .i64 (fld 5 zs k 4)] 26))
      have SA := Lib.hid (newS 26 #[.int .i64 (fld 5 zs k 0), .int .i64 (fld 5 zs k 1), .int .i64 (fld 5 zs k 2), .int .i64 (fld 5 zs k 3), .int .i64 (fld 5 zs k 4)] wr)
      have HLT := Lib.hid hlt
      have LBW := Lib.hid hb.size
      have HLB := Lib.hid (own_row_lt hO)
      have HMT := Lib.hid (show most (fld 5 zs k 3) m < fld 5 zs k 4 ↔ m < fld 5 zs k 4 by unfold most; split <;> omega)
      have M1 := Lib.hid (fun W => most18 (fld 5 zs k 3) m W)
      clear hO hb hlt hpar
      generalize rlT zs m k = L at *
      generalize rlC zs m k = N at *
      generalize most (fld 5 zs k 3) m = M at *
      generalize fld 5 zs k 0 = u0 at *
      generalize fld 5 zs k 1 = u1 at *
      generalize fld 5 zs k 2 = u2 at *
      generalize fld 5 zs k 3 = u3 at *
      generalize fld 5 zs k 4 = u4 at *
      go_upto_region 8 with fail
      clear p0 p1 p2 p3 p4
      generalize wr.alloc (.cells #[.int .i64 u0, .int .i64 u1, .int .i64 u2, .int .i64 u3, .int .i64 u4] 26) = WA at *
      generalize hbx : wr.heap.size = bx at *
      have d0 : WA.cell? ⟨bx, 0, none⟩ = some (.int .i64 u0) := SA.out.cell 0
      have d1 : WA.cell? ⟨bx, 1, none⟩ = some (.int .i64 u1) := SA.out.cell 1
      have d2 : WA.cell? ⟨bx, 2, none⟩ = some (.int .i64 u2) := SA.out.cell 2
      have d3 : WA.cell? ⟨bx, 3, none⟩ = some (.int .i64 u3) := SA.out.cell 3
      have d4 : WA.cell? ⟨bx, 4, none⟩ = some (.int .i64 u4) := SA.out.cell 4
      have gf := SA.out.frozen 3
      have SM := Lib.hid (SA.out.set 3 (.int .i64 M))
      have OM := Lib.hid (own_kept_at HO.out (grown_set (grown_refl WA (some bx)) 3 (.int .i64 M)) (fun g1 e1 e2 => by injection e2 with e2; have := HLB.out g1 e1; omega))
      have BM := Lib.hid (HB.out.setCell (p := ⟨bx, 3, none⟩) LBW.out (.int .i64 M))
      have hsz := BM.out.size
      clear hbx
      go_wp2_with fail
      refine (M1.out WA).mono ?_
      rintro e w' ⟨rfl, rfl⟩
      go_upto_region 9 with fail
      clear d0 d1 d2 d3 d4 gf
      generalize WA.setCell ⟨bx, 3, none⟩ (.int .i64 M) = WM at *
      have d0 : WM.cell? ⟨bx, 0, none⟩ = some (.int .i64 u0) := SM.out.cell 0
      have d1 : WM.cell? ⟨bx, 1, none⟩ = some (.int .i64 u1) := SM.out.cell 1
      have d2 : WM.cell? ⟨bx, 2, none⟩ = some (.int .i64 u2) := SM.out.cell 2
      have d3 : WM.cell? ⟨bx, 3, none⟩ = some (.int .i64 M) := SM.out.cell 3
      have d4 : WM.cell? ⟨bx, 4, none⟩ = some (.int .i64 u4) := SM.out.cell 4
      by_cases g : m < u4
      · have gb : decide (M < u4) = true := decide_eq_true (HMT.out.2 g)
        have HT := Lib.hid (HYT.out g)
        have HCC := Lib.hid (HYC.out g)
        clear HYT HNT HYC HNC g
        go_wp2_with (at_builtin; (refine wpList_append_own _ rfl (.tmp 39) (.tmp 41) 24 rfl w.heap.size 26 i0 (.agg #[.int .i64 0, .int .i64 0, .int .i64 0, .int .i64 0, .int .i64 0]) 5 40 Try.underlying24 hi hz0 hz1 hz2 rfl (by decide) _ N (cellsI L) rfl (OM.out.alloc _) ⟨WM.heap.size, 0, none⟩ 1 1 [.int .i64 u0, .int .i64 u1, .int .i64 u2, .int .i64 M, .int .i64 u4] rfl rfl (cells_new WM 26 #[.int .i64 u0, .int .i64 u1, .int .i64 u2, .int .i64 M, .int .i64 u4]) (five_cells _ _ _ _ _) (by unfold maxLen; have := HLT.out; omega) (by have := HLT.out; omega) (by simp; omega) ?_; intro v' w3 hown' hgrow hnil))
        have HB' := Lib.hid (own_.below_append BM.out OM.out hsz hgrow)
        have HO' := Lib.hid (own_grow5 hown')
        clear hown' hgrow hnil d0 d1 d2 d3 d4
        go_roundw
        case rel => exact ⟨k + 1, by have := HLT.out; omega, by go_num, by rw [HT.out, HCC.out]; exact HO'.out, HB'.out⟩
        case measure => have := HLT.out; simp [intOf]; omega
      · have gb : decide (M < u4) = false := decide_eq_false (fun h => by have := HMT.out.1 h; omega)
        have HT := Lib.hid (HNT.out (by omega))
        have HCC := Lib.hid (HNC.out (by omega))
        clear HYT HNT HYC HNC g
        go_wp2_with fail
        go_roundw
        case rel => exact ⟨k + 1, by have := HLT.out; omega, by go_num, by rw [HT.out, HCC.out]; exact OM.out, BM.out⟩
        case measure => have := HLT.out; simp [intOf]; omega
    · obtain rfl : k = n := by omega
      have HO := Lib.hid hO
      have HB := Lib.hid hb
      clear hO hb HR hlt
      go_wp2_with fail
      go_ret2
      exact ⟨_, by rw [HE.out]; rfl, by rw [HV.out, HN0.out]; exact HO.out, HB.out⟩

theorem most13 (x : Int) (w : World) (h0 : -8000000 ≤ x) (h1 : x ≤ 8000000) :
    Calls Try.prog 67 #[.int .i64 x, .int .i64 (-x)] w fun e w' => e = .returned (.int .i64 (x.natAbs : Int)) ∧ w = w' := by
  by_cases h : 0 < x
  · have e1 : (x.natAbs : Int) = x := by omega
    rw [e1]
    have g : decide (-x < x) = true := decide_eq_true (by omega)
    clear e1
    go_enter Try.func67, Try.ntmps67
    go_wp2_with fail
    go_ret
    exact ⟨rfl, rfl⟩
  · have e1 : (x.natAbs : Int) = -x := by omega
    rw [e1]
    have g : decide (-x < x) = false := decide_eq_false (by omega)
    clear e1
    go_enter Try.func67, Try.ntmps67
    go_wp2_with fail
    go_ret
    exact ⟨rfl, rfl⟩
theorem size13 (x : Int) (w : World) (h0 : -8000000 ≤ x) (h1 : x ≤ 8000000) :
    Calls Try.prog 77 #[.int .i64 x] w fun e w' => e = .returned (.int .i64 (x.natAbs : Int)) ∧ w = w' := by
  have H1 := Lib.hid (fun w => most13 x w h0 h1)
  generalize (x.natAbs : Int) = v at *
  go_enter Try.func77, Try.ntmps77
  go_wp2_with fail
  refine (H1.out _).mono ?_
  rintro e w1 ⟨rfl, rfl⟩
  go_wp2_with fail
  go_ret
  exact ⟨rfl, rfl⟩
theorem far_abs (a b : Int) : far a b = ((a - b).natAbs : Int) := by unfold far; split <;> omega
theorem nr_small {zs : List Int} {n : Nat} {a f t l : Int} {r : Int → Bool} (k : Nat) (hk : k ≤ (frT zs n a f t 41).length) : 0 ≤ nrT r l (frT zs n a f t 41) k ∧ nrT r l (frT zs n a f t 41) k ≤ 410 := by
  rcases nrT_at (r := r) (l := l) (xs := frT zs n a f t 41) k with h | ⟨i, h1, h2, h3⟩
  · omega
  · have := lvB_yes (frT_at (zs := zs) (n := n) (a := a) (f := f) (t := t) (Nat.le_refl 41) (show i < (frT zs n a f t 41).length by omega)); omega
set_option maxRecDepth 100000 in
set_option maxHeartbeats 4000000 in
theorem nearestLevel (zs : List Int) (x y a f t l : Int) (A : Option Addr) (n c : Nat) (w : World) (_hc : n ≤ c) (hn : n ≤ 1048576) (h1 : RdZ 5 w w.heap.size A n zs) :
    Calls Try.prog 36 #[.slice A n c, .agg #[.int .i64 x, .int .i64 y], .int .i64 a, .int .i64 f, .int .i64 t, .int .i64 l] w fun e w' => e = .returned (.tuple #[.int .i64 (nrV zs n x y a f t l), .bool (nrO zs n x y a f t l)]) ∧ Below w.heap.size w w' := by
  have S0 := Lib.hid (newS 50 #[.int .i64 x, .int .i64 y] w)
  have FC := Lib.hid (fun (W : World) (hb : Below w.heap.size w W) => freeLevels zs a f t A n c W _hc hn (h1.next hb))
  have T0 := Lib.hid (fun W => vels.good8 x y W)
  have TS := Lib.hid (fun h W => vels.square8 x y h W)
  have T2 := Lib.hid (fun W => level18 l W)
  have RR := Lib.hid (fun z (hz : lvB z = true) W => right18 x y z hz W)
  have HBAD := Lib.hid (fun (h : nrB zs n x y a f t l = false) => show nrV zs n x y a f t l = 0 ∧ nrO zs n x y a f t l = false from ⟨nrV_no h, by unfold nrO; rw [nrV_no h]; rfl⟩)
  have HMB := Lib.hid (mB_sq x y)
  have e1 : (sq x y == 0) = decide (sq x y = 0) := by rfl
  clear h1
  cases hF : frB zs n a f t
  · rw [hF] at FC
    have H0 := HBAD.out (by unfold nrB; rw [hF]; rfl)
    have HE := Lib.hid H0.1
    have HOO := Lib.hid H0.2
    clear H0 HBAD
    clear hF
    go_enter Try.func36, Try.ntmps36
    go_wp2_with fail
    generalize w.alloc (.cells #[.int .i64 x, .int .i64 y] 50) = W0 at *
    refine (FC.out W0 S0.out.1).mono ?_
    rintro e V1 ⟨v, rfl, ho, hb⟩
    obtain ⟨A1, c1, rfl⟩ := own_sliceZ ho
    have S1 := Lib.hid (S0.out.old hb)
    have HO1 := Lib.hid ho
    clear hb ho
    have BX := Lib.hid S1.out.1
    have c0 : V1.cell? ⟨w.heap.size, 0, none⟩ = some (.int .i64 x) := S1.out.cell 0
    have c1' : V1.cell? ⟨w.heap.size, 1, none⟩ = some (.int .i64 y) := S1.out.cell 1
    go_wp2_with fail
    go_ret2
    exact ⟨by rw [HE.out, HOO.out]; rfl, BX.out⟩
  · rw [hF] at FC
    cases hv : vB x y
    · rw [hv] at T0
      have H0 := HBAD.out (by unfold nrB; rw [HMB.out, hv]; simp)
      have HE := Lib.hid H0.1
      have HOO := Lib.hid H0.2
      clear H0 HBAD
      clear hF hv
      go_enter Try.func36, Try.ntmps36
      go_wp2_with fail
      generalize w.alloc (.cells #[.int .i64 x, .int .i64 y] 50) = W0 at *
      refine (FC.out W0 S0.out.1).mono ?_
      rintro e V1 ⟨v, rfl, ho, hb⟩
      obtain ⟨A1, c1, rfl⟩ := own_sliceZ ho
      have S1 := Lib.hid (S0.out.old hb)
      have HO1 := Lib.hid ho
      clear hb ho
      have c0 : V1.cell? ⟨w.heap.size, 0, none⟩ = some (.int .i64 x) := S1.out.cell 0
      have c1' : V1.cell? ⟨w.heap.size, 1, none⟩ = some (.int .i64 y) := S1.out.cell 1
      go_wp2_with fail
      clear c0 c1'
      refine (T0.out V1).mono ?_
      rintro e V2 ⟨rfl, hb⟩
      have S2 := Lib.hid (S1.out.old hb)
      have HO2 := Lib.hid (own_.own_below HO1.out hb)
      clear hb
      have BX := Lib.hid S2.out.1
      have c0 : V2.cell? ⟨w.heap.size, 0, none⟩ = some (.int .i64 x) := S2.out.cell 0
      have c1' : V2.cell? ⟨w.heap.size, 1, none⟩ = some (.int .i64 y) := S2.out.cell 1
      go_wp2_with fail
      go_ret2
      exact ⟨by rw [HE.out, HOO.out]; rfl, BX.out⟩
    · rw [hv] at T0
      have T1 := Lib.hid (fun W => TS.out hv W)
      cases hs : decide (sq x y = 0)
      · cases hL : lvB l
        · rw [hL] at T2
          have H0 := HBAD.out (by unfold nrB; rw [hL, Bool.and_false, Bool.and_false])
          have HE := Lib.hid H0.1
          have HOO := Lib.hid H0.2
          clear H0 HBAD
          clear hF hv hL TS HMB
          generalize sq x y = s at *
          go_enter Try.func36, Try.ntmps36
          go_wp2_with fail
          generalize w.alloc (.cells #[.int .i64 x, .int .i64 y] 50) = W0 at *
          refine (FC.out W0 S0.out.1).mono ?_
          rintro e V1 ⟨v, rfl, ho, hb⟩
          obtain ⟨A1, c1, rfl⟩ := own_sliceZ ho
          have S1 := Lib.hid (S0.out.old hb)
          have HO1 := Lib.hid ho
          clear hb ho
          have c0 : V1.cell? ⟨w.heap.size, 0, none⟩ = some (.int .i64 x) := S1.out.cell 0
          have c1' : V1.cell? ⟨w.heap.size, 1, none⟩ = some (.int .i64 y) := S1.out.cell 1
          go_wp2_with fail
          clear c0 c1'
          refine (T0.out V1).mono ?_
          rintro e V2 ⟨rfl, hb⟩
          have S2 := Lib.hid (S1.out.old hb)
          have HO2 := Lib.hid (own_.own_below HO1.out hb)
          clear hb
          have c0 : V2.cell? ⟨w.heap.size, 0, none⟩ = some (.int .i64 x) := S2.out.cell 0
          have c1' : V2.cell? ⟨w.heap.size, 1, none⟩ = some (.int .i64 y) := S2.out.cell 1
          go_wp2_with fail
          clear c0 c1'
          refine (T1.out V2).mono ?_
          rintro e V3 ⟨rfl, hb⟩
          have S3 := Lib.hid (S2.out.old hb)
          have HO3 := Lib.hid (own_.own_below HO2.out hb)
          clear hb
          have c0 : V3.cell? ⟨w.heap.size, 0, none⟩ = some (.int .i64 x) := S3.out.cell 0
          have c1' : V3.cell? ⟨w.heap.size, 1, none⟩ = some (.int .i64 y) := S3.out.cell 1
          go_wp2_with fail
          clear c0 c1'
          refine (T2.out V3).mono ?_
          rintro e w' ⟨rfl, rfl⟩
          have BX := Lib.hid S3.out.1
          have c0 : V3.cell? ⟨w.heap.size, 0, none⟩ = some (.int .i64 x) := S3.out.cell 0
          have c1' : V3.cell? ⟨w.heap.size, 1, none⟩ = some (.int .i64 y) := S3.out.cell 1
          go_wp2_with fail
          go_ret2
          exact ⟨by rw [HE.out, HOO.out]; rfl, BX.out⟩
        · rw [hL] at T2
          have HB := Lib.hid (show nrB zs n x y a f t l = true by unfold nrB; rw [hF, HMB.out, hv, hs, hL]; rfl)
          have HV := Lib.hid (nrV_yes HB.out)
          have HOD := Lib.hid (show nrO zs n x y a f t l = decide (0 < nrV zs n x y a f t l) from rfl)
          have HSM := Lib.hid (fun k hk => nr_small (zs := zs) (n := n) (a := a) (f := f) (t := t) (l := l) (r := rtB x y) k hk)
          have HLV := Lib.hid (fun i (hi : i < (frT zs n a f t 41).length) => frT_at (zs := zs) (n := n) (a := a) (f := f) (t := t) (Nat.le_refl 41) hi)
          have HLL := Lib.hid (frT_length zs n a f t 41)
          have HL := Lib.hid (lvB_yes hL)
          rw [frV_yes hF] at FC
          generalize frT zs n a f t 41 = xs at *
          rw [HV.out] at HOD
          obtain ⟨NR_, hNR⟩ : ∃ g : Nat → Int, g = nrT (rtB x y) l xs := ⟨_, rfl⟩
          have HN0 := Lib.hid (show NR_ 0 = 0 by rw [hNR]; rfl)
          have HN1 := Lib.hid (fun k h => show NR_ (k + 1) = NR_ k by rw [hNR]; exact nrT_not (r := rtB x y) (l := l) (xs := xs) (k := k) h)
          have HN2 := Lib.hid (fun k h1 (h2 : NR_ k = 0 ∨ far (xs.getD k 0) l < far (NR_ k) l) => show NR_ (k + 1) = xs.getD k 0 by rw [hNR] at h2 ⊢; exact nrT_yes (r := rtB x y) (l := l) (xs := xs) (k := k) h1 h2)
          have HN3 := Lib.hid (fun k (h1 : NR_ k ≠ 0) (h2 : ¬ far (xs.getD k 0) l < far (NR_ k) l) => show NR_ (k + 1) = NR_ k by rw [hNR] at h1 h2 ⊢; exact nrT_far (r := rtB x y) (l := l) (xs := xs) (k := k) h1 h2)
          rw [← hNR] at HV HOD HSM
          obtain ⟨mm, hmm⟩ : ∃ mm, xs.length = mm := ⟨_, rfl⟩
          have HM := Lib.hid hmm
          have HLV' := Lib.hid (fun i (hi : i < mm) => HLV.out i (by rw [HM.out]; exact hi))
          have HSM' := Lib.hid (fun k (hk : k ≤ mm) => HSM.out k (by rw [HM.out]; exact hk))
          rw [hmm] at FC HV HOD HLL
          clear hF HBAD hL hNR hmm HLV HSM hv TS HMB HB
          generalize sq x y = s at *
          go_enter Try.func36, Try.ntmps36
          go_wp2_with fail
          generalize w.alloc (.cells #[.int .i64 x, .int .i64 y] 50) = W0 at *
          refine (FC.out W0 S0.out.1).mono ?_
          rintro e V1 ⟨v, rfl, ho, hb⟩
          obtain ⟨A1, c1, rfl⟩ := own_sliceZ ho
          have S1 := Lib.hid (S0.out.old hb)
          have HO1 := Lib.hid ho
          clear hb ho
          have c0 : V1.cell? ⟨w.heap.size, 0, none⟩ = some (.int .i64 x) := S1.out.cell 0
          have c1' : V1.cell? ⟨w.heap.size, 1, none⟩ = some (.int .i64 y) := S1.out.cell 1
          go_wp2_with fail
          clear c0 c1'
          refine (T0.out V1).mono ?_
          rintro e V2 ⟨rfl, hb⟩
          have S2 := Lib.hid (S1.out.old hb)
          have HO2 := Lib.hid (own_.own_below HO1.out hb)
          clear hb
          have c0 : V2.cell? ⟨w.heap.size, 0, none⟩ = some (.int .i64 x) := S2.out.cell 0
          have c1' : V2.cell? ⟨w.heap.size, 1, none⟩ = some (.int .i64 y) := S2.out.cell 1
          go_wp2_with fail
          clear c0 c1'
          refine (T1.out V2).mono ?_
          rintro e V3 ⟨rfl, hb⟩
          have S3 := Lib.hid (S2.out.old hb)
          have HO3 := Lib.hid (own_.own_below HO2.out hb)
          clear hb
          have c0 : V3.cell? ⟨w.heap.size, 0, none⟩ = some (.int .i64 x) := S3.out.cell 0
          have c1' : V3.cell? ⟨w.heap.size, 1, none⟩ = some (.int .i64 y) := S3.out.cell 1
          go_wp2_with fail
          clear c0 c1'
          refine (T2.out V3).mono ?_
          rintro e w' ⟨rfl, rfl⟩
          have HRI := Lib.hid (RdI.of_own (n := mm) (by rw [HM.out]; exact HO3.out) HM.out.symm)
          clear HO1 HO2 HO3 FC T0 T1 T2
          go_wp2_with fail
          go_loopw [16, 17] (fun s i wr => ∃ k : Nat, k ≤ mm ∧ i = .int .i64 k ∧ s = .int .i64 (NR_ k) ∧ Below V3.heap.size V3 wr) (fun _ i _ => mm - (intOf i).toNat)
          case atStart => exact ⟨0, Nat.zero_le _, rfl, by rw [HN0.out], Below.refl _ _⟩
          case round =>
            obtain ⟨k, hk, rfl, rfl, hb⟩ := hrel
            by_cases hlt : k < mm
            · obtain ⟨b1, o1, z, rfl, l1, hz, pz⟩ := (HRI.out.below hb (Nat.le_refl _)).at_ hlt
              have hzd : xs.getD k 0 = z := by rw [List.getD_eq_getElem?_getD, hz]; rfl
              have hlt2 : (k : Int) < (mm : Int) := by omega
              have H1 := Lib.hid (HN1.out k)
              have H2 := Lib.hid (HN2.out k)
              have H3 := Lib.hid (HN3.out k)
              have hsm := HSM'.out k (by omega)
              have hlv := HLV'.out k hlt
              have hll := HL.out
              have hm41 := HLL.out
              rw [hzd] at H1 H2 H3 hlv
              have D1 := Lib.hid (fun W d0 os => Calls.regrown_of (RR.out z hlv (Sort.grow (redrawn W d0) os)))
              have hlv := lvB_yes hlv
              have SB := Lib.hid (S3.out.old hb)
              have e2 : IntKind.i64.wrap (z - l) = z - l := IntWalk.i64_in _ (by omega)
              have e3 : IntKind.i64.wrap (NR_ k - l) = NR_ k - l := IntWalk.i64_in _ (by omega)
              have Z1 := fun w => size13 (z - l) w (by omega) (by omega)
              have Z2 := fun w => size13 (NR_ k - l) w (by omega) (by omega)
              rw [← far_abs] at Z1 Z2
              have D2 := Lib.hid (fun W d0 os => same_regrown (Z1 (Sort.grow (redrawn W d0) os)))
              have D3 := Lib.hid (fun W d0 os => same_regrown (Z2 (Sort.grow (redrawn W d0) os)))
              have hz0 : z ≠ 0 := by omega
              have HLT := Lib.hid hlt
              have HB := Lib.hid hb
              have PZ := Lib.hid pz
              have LBW := Lib.hid (Nat.lt_of_lt_of_le l1 hb.size)
              obtain ⟨N1, hN1⟩ : ∃ N1, NR_ (k + 1) = N1 := ⟨_, rfl⟩
              rw [hN1] at H1 H2 H3
              have HN1' := Lib.hid hN1
              clear hb hz hzd hN1 HN0 HN1 HN2 HN3 HSM' HLV' HL hlt hlv hll hsm hz0 Z1 Z2
              generalize NR_ k = N at *
              generalize rtB x y z = r at *
              generalize far z l = g1 at *
              generalize far N l = g2 at *
              generalize hd1 : z - l = d1 at *
              generalize hd2 : N - l = d2 at *
              have c00 : wr.cell? ⟨w.heap.size, 0, none⟩ = some (.int .i64 x) := SB.out.cell 0
              have c01 : wr.cell? ⟨w.heap.size, 1, none⟩ = some (.int .i64 y) := SB.out.cell 1
              cases r
              · have HE := Lib.hid (H1.out rfl)
                clear H1 H2 H3
                go_upto_region 8 with fail
                have c00' := fun d0 os => cell_regrown c00 d0 os
                have c01' := fun d0 os => cell_regrown c01 d0 os
                have pz' := fun d0 os => cell_regrown pz d0 os
                clear c00 c01 pz
                refine wp_region_quiet_below (by kernel_rfl) (by kernel_rfl) ?_
                repeat (
                  with_reducible refine wpQuiet_step (fun K hK => ?_)
                  go_simp
                  first
                    | (refine hK _ ?_; clear hK K)
                    | (apply Exists.intro
                       refine ⟨fun _ => ?_, hK _ ?_⟩
                       (first
                         | (go_at_call 76; with_reducible exact D1.out _ _ _)
                         | (go_at_call 77; with_reducible exact D2.out _ _ _)
                         | (go_at_call 77; with_reducible exact D3.out _ _ _))
                       clear hK K))
                with_reducible refine wpQuiet_nil ?_
                intro _ hw'
                obtain ⟨⟨dq, osq⟩, hw''⟩ := hw'
                subst hw''
                have hbl := (below_regrown wr dq osq)
                clear c00' c01' pz'
                generalize Sort.grow (redrawn wr dq) osq = w3 at *
                have BX := Lib.hid (HB.out.trans (hbl.mono HB.out.size))
                clear hbl
                go_wp2_with fail
                go_roundw
                case rel => exact ⟨k + 1, by have := HLT.out; omega, by go_num, by rw [HN1'.out, HE.out], BX.out⟩
                case measure => have := HLT.out; simp [intOf]; omega
              · by_cases h0 : N = 0
                · have HE := Lib.hid (H2.out rfl (.inl h0))
                  have h0b : (N == 0) = true := beq_iff_eq.mpr h0
                  clear H1 H2 H3 h0
                  go_upto_region 8 with fail
                  have c00' := fun d0 os => cell_regrown c00 d0 os
                  have c01' := fun d0 os => cell_regrown c01 d0 os
                  have pz' := fun d0 os => cell_regrown pz d0 os
                  clear c00 c01 pz
                  refine wp_region_quiet_below (by kernel_rfl) (by kernel_rfl) ?_
                  repeat (
                    with_reducible refine wpQuiet_step (fun K hK => ?_)
                    go_simp
                    first
                      | (refine hK _ ?_; clear hK K)
                      | (apply Exists.intro
                         refine ⟨fun _ => ?_, hK _ ?_⟩
                         (first
                           | (go_at_call 76; with_reducible exact D1.out _ _ _)
                           | (go_at_call 77; with_reducible exact D2.out _ _ _)
                           | (go_at_call 77; with_reducible exact D3.out _ _ _))
                         clear hK K))
                  with_reducible refine wpQuiet_nil ?_
                  intro _ hw'
                  obtain ⟨⟨dq, osq⟩, hw''⟩ := hw'
                  subst hw''
                  have hbl := (below_regrown wr dq osq)
                  clear c00' c01' pz'
                  generalize Sort.grow (redrawn wr dq) osq = w3 at *
                  have BX := Lib.hid (HB.out.trans (hbl.mono HB.out.size))
                  have pz : w3.cell? ⟨b1, o1 + k, none⟩ = some (.int .i64 z) := (hbl.cell (p := ⟨b1, o1 + k, none⟩) LBW.out).trans PZ.out
                  clear hbl
                  go_wp2_with fail
                  go_roundw
                  case rel => exact ⟨k + 1, by have := HLT.out; omega, by go_num, by rw [HN1'.out, HE.out], BX.out⟩
                  case measure => have := HLT.out; simp [intOf]; omega
                · have h0b : (N == 0) = false := beq_eq_false_iff_ne.mpr h0
                  by_cases hg : g1 < g2
                  · have HE := Lib.hid (H2.out rfl (.inr hg))
                    have hgb : decide (g1 < g2) = true := decide_eq_true hg
                    clear H1 H2 H3 h0
                    go_upto_region 8 with fail
                    have c00' := fun d0 os => cell_regrown c00 d0 os
                    have c01' := fun d0 os => cell_regrown c01 d0 os
                    have pz' := fun d0 os => cell_regrown pz d0 os
                    clear c00 c01 pz
                    refine wp_region_quiet_below (by kernel_rfl) (by kernel_rfl) ?_
                    repeat (
                      with_reducible refine wpQuiet_step (fun K hK => ?_)
                      go_simp
                      first
                        | (refine hK _ ?_; clear hK K)
                        | (apply Exists.intro
                           refine ⟨fun _ => ?_, hK _ ?_⟩
                           (first
                             | (go_at_call 76; with_reducible exact D1.out _ _ _)
                             | (go_at_call 77; with_reducible exact D2.out _ _ _)
                             | (go_at_call 77; with_reducible exact D3.out _ _ _))
                           clear hK K))
                    with_reducible refine wpQuiet_nil ?_
                    intro _ hw'
                    obtain ⟨⟨dq, osq⟩, hw''⟩ := hw'
                    subst hw''
                    have hbl := (below_regrown wr dq osq)
                    clear c00' c01' pz'
                    generalize Sort.grow (redrawn wr dq) osq = w3 at *
                    have BX := Lib.hid (HB.out.trans (hbl.mono HB.out.size))
                    have pz : w3.cell? ⟨b1, o1 + k, none⟩ = some (.int .i64 z) := (hbl.cell (p := ⟨b1, o1 + k, none⟩) LBW.out).trans PZ.out
                    clear hbl
                    go_wp2_with fail
                    go_roundw
                    case rel => exact ⟨k + 1, by have := HLT.out; omega, by go_num, by rw [HN1'.out, HE.out], BX.out⟩
                    case measure => have := HLT.out; simp [intOf]; omega
                  · have HE := Lib.hid (H3.out h0 (by omega))
                    have hgb : decide (g1 < g2) = false := decide_eq_false hg
                    clear H1 H2 H3 h0
                    go_upto_region 8 with fail
                    have c00' := fun d0 os => cell_regrown c00 d0 os
                    have c01' := fun d0 os => cell_regrown c01 d0 os
                    have pz' := fun d0 os => cell_regrown pz d0 os
                    clear c00 c01 pz
                    refine wp_region_quiet_below (by kernel_rfl) (by kernel_rfl) ?_
                    repeat (
                      with_reducible refine wpQuiet_step (fun K hK => ?_)
                      go_simp
                      first
                        | (refine hK _ ?_; clear hK K)
                        | (apply Exists.intro
                           refine ⟨fun _ => ?_, hK _ ?_⟩
                           (first
                             | (go_at_call 76; with_reducible exact D1.out _ _ _)
                             | (go_at_call 77; with_reducible exact D2.out _ _ _)
                             | (go_at_call 77; with_reducible exact D3.out _ _ _))
                           clear hK K))
                    with_reducible refine wpQuiet_nil ?_
                    intro _ hw'
                    obtain ⟨⟨dq, osq⟩, hw''⟩ := hw'
                    subst hw''
                    have hbl := (below_regrown wr dq osq)
                    clear c00' c01' pz'
                    generalize Sort.grow (redrawn wr dq) osq = w3 at *
                    have BX := Lib.hid (HB.out.trans (hbl.mono HB.out.size))
                    clear hbl
                    go_wp2_with fail
                    go_roundw
                    case rel => exact ⟨k + 1, by have := HLT.out; omega, by go_num, by rw [HN1'.out, HE.out], BX.out⟩
                    case measure => have := HLT.out; simp [intOf]; omega
            · obtain rfl : k = mm := by omega
              have BX := Lib.hid (S3.out.1.trans (hb.mono S3.out.1.size))
              clear hb hlt HN0 HN1 HN2 HN3 HSM' HLV' HL
              go_wp2_with fail
              go_ret2
              exact ⟨by rw [HV.out, HOD.out]; rfl, BX.out⟩
      · have HNB := Lib.hid (show nrB zs n x y a f t l = false by unfold nrB; rw [HMB.out, hv, hs]; simp)
        have H0 := HBAD.out (by exact HNB.out)
        have HE := Lib.hid H0.1
        have HOO := Lib.hid H0.2
        clear H0 HBAD
        clear hF hv TS HMB HNB
        generalize sq x y = s at *
        go_enter Try.func36, Try.ntmps36
        go_wp2_with fail
        generalize w.alloc (.cells #[.int .i64 x, .int .i64 y] 50) = W0 at *
        refine (FC.out W0 S0.out.1).mono ?_
        rintro e V1 ⟨v, rfl, ho, hb⟩
        obtain ⟨A1, c1, rfl⟩ := own_sliceZ ho
        have S1 := Lib.hid (S0.out.old hb)
        have HO1 := Lib.hid ho
        clear hb ho
        have c0 : V1.cell? ⟨w.heap.size, 0, none⟩ = some (.int .i64 x) := S1.out.cell 0
        have c1' : V1.cell? ⟨w.heap.size, 1, none⟩ = some (.int .i64 y) := S1.out.cell 1
        go_wp2_with fail
        clear c0 c1'
        refine (T0.out V1).mono ?_
        rintro e V2 ⟨rfl, hb⟩
        have S2 := Lib.hid (S1.out.old hb)
        have HO2 := Lib.hid (own_.own_below HO1.out hb)
        clear hb
        have c0 : V2.cell? ⟨w.heap.size, 0, none⟩ = some (.int .i64 x) := S2.out.cell 0
        have c1' : V2.cell? ⟨w.heap.size, 1, none⟩ = some (.int .i64 y) := S2.out.cell 1
        go_wp2_with fail
        clear c0 c1'
        refine (T1.out V2).mono ?_
        rintro e V3 ⟨rfl, hb⟩
        have S3 := Lib.hid (S2.out.old hb)
        have HO3 := Lib.hid (own_.own_below HO2.out hb)
        clear hb
        have BX := Lib.hid S3.out.1
        have c0 : V3.cell? ⟨w.heap.size, 0, none⟩ = some (.int .i64 x) := S3.out.cell 0
        have c1' : V3.cell? ⟨w.heap.size, 1, none⟩ = some (.int .i64 y) := S3.out.cell 1
        go_wp2_with fail
        go_ret2
        exact ⟨by rw [HE.out, HOO.out]; rfl, BX.out⟩
end Go.Proofs.Ytglonedhoenkpaa.lvlv
