/- impl's LevelConflicts, FreeLevels, ClearedAt. -/
import Derived.Test.YtglonedhoenkpaaLvlC
import Derived.Test.YtglonedhoenkpaaSortI
import Derived.Laws.Small
import Derived.Deep.QuietTactic
import Derived.BigQuiet
import Derived.Deep.RegionHeld3
import Derived.Deep.CutRange
import Derived.Deep.CutBlock
namespace Go.Proofs.Ytglonedhoenkpaa.lvld
open Go.RowKit Go.Proofs.Ytglonedhoenkpaa.ints Go.Proofs.Ytglonedhoenkpaa.lst Go.Proofs.Ytglonedhoenkpaa.in_ Go.Proofs.Ytglonedhoenkpaa.ats Go.Proofs.Ytglonedhoenkpaa.putq Go.Proofs.Ytglonedhoenkpaa.vel Go.Proofs.Ytglonedhoenkpaa.lvl Go.Proofs.Ytglonedhoenkpaa.lvle Go.Proofs.Ytglonedhoenkpaa.lvla Go.Proofs.Ytglonedhoenkpaa.lvlb Go.Proofs.Ytglonedhoenkpaa.lvlc

theorem comp_is {zs : List Int} {a l u f t : Int} {n : Nat} (h : cvB zs n = true) : Lib.compact (cfL zs a l u f t n) = lcT zs a l u f t n := by
  have h1 := (cfL_asc (a := a) (l := l) (u := u) (f := f) (t := t) h n (Nat.le_refl _)).1
  have h2 := asc.compact_eq (zs := cfL zs a l u f t n) (lcT_asc zs a l u f t n) (fun z => lcT_mem)
  rwa [List.mergeSort_of_pairwise (h1.imp (fun hab => decide_eq_true hab))] at h2
set_option maxRecDepth 100000 in
set_option maxHeartbeats 4000000 in
theorem levelConflicts (zs : List Int) (a l u f t : Int) (A : Option Addr) (n c : Nat) (w : World) (hc : n ≤ c) (hn : n ≤ 1048576) (h1 : RdZ 5 w w.heap.size A n zs) :
    Calls Try.prog 19 #[.slice A n c, .agg #[.int .i64 a, .int .i64 l, .int .i64 u, .int .i64 f, .int .i64 t]] w fun e w' => ∃ v, e = .returned (.tuple #[v, .bool (lcB zs n a l u f t)]) ∧ w'.ownsRow w.heap.size 3 1 v (lcV zs n a l u f t).length (cellsI (lcV zs n a l u f t)) ∧ Below w.heap.size w w' := by
  have S0 := Lib.hid (newS 26 #[.int .i64 a, .int .i64 l, .int .i64 u, .int .i64 f, .int .i64 t] w)
  have T0 := Lib.hid (fun (W : World) (hb : Below w.heap.size w W) => isValidClearances zs A n c W hc (by omega) (h1.next hb))
  have T1 := Lib.hid (fun W => isCleared a l u f t W)
  cases hq0 : cvB zs n
  · rw [hq0] at T0
    have HE := Lib.hid (show lcB zs n a l u f t = false by unfold lcB; rw [hq0]; rfl)
    clear h1 hq0
    go_enter Try.func19, Try.ntmps19
    go_wp2_with fail
    generalize (w.alloc (.cells #[.int .i64 a, .int .i64 l, .int .i64 u, .int .i64 f, .int .i64 t] 26)) = W0 at *
    have AN0 := Lib.hid (Below.refl W0.heap.size W0)
    refine (T0.out W0 (S0.out.1.trans (AN0.out.mono S0.out.1.size))).mono ?_
    rintro e V0 ⟨rfl, hb⟩
    have AN1 := Lib.hid (AN0.out.trans (hb.mono AN0.out.size))
    clear hb
    have HV := Lib.hid (lcV_no HE.out)
    have BX := Lib.hid (S0.out.1.trans (AN1.out.mono S0.out.1.size))
    go_wp2_with fail
    go_ret2
    exact ⟨_, by rw [HE.out]; rfl, by rw [HV.out]; exact World.ownsRow_nil .., BX.out⟩
  rw [hq0] at T0
  cases hq1 : clB a l u f t
  · rw [hq1] at T1
    have HE := Lib.hid (show lcB zs n a l u f t = false by unfold lcB; rw [hq1, Bool.and_false])
    clear h1 hq0 hq1
    go_enter Try.func19, Try.ntmps19
    go_wp2_with fail
    generalize (w.alloc (.cells #[.int .i64 a, .int .i64 l, .int .i64 u, .int .i64 f, .int .i64 t] 26)) = W0 at *
    have AN0 := Lib.hid (Below.refl W0.heap.size W0)
    refine (T0.out W0 (S0.out.1.trans (AN0.out.mono S0.out.1.size))).mono ?_
    rintro e V0 ⟨rfl, hb⟩
    have AN1 := Lib.hid (AN0.out.trans (hb.mono AN0.out.size))
    clear hb
    have c00 : V0.cell? ⟨w.heap.size, 0, none⟩ = some (.int .i64 a) := (S0.out.old AN1.out).cell 0
    have c01 : V0.cell? ⟨w.heap.size, 1, none⟩ = some (.int .i64 l) := (S0.out.old AN1.out).cell 1
    have c02 : V0.cell? ⟨w.heap.size, 2, none⟩ = some (.int .i64 u) := (S0.out.old AN1.out).cell 2
    have c03 : V0.cell? ⟨w.heap.size, 3, none⟩ = some (.int .i64 f) := (S0.out.old AN1.out).cell 3
    have c04 : V0.cell? ⟨w.heap.size, 4, none⟩ = some (.int .i64 t) := (S0.out.old AN1.out).cell 4
    go_wp2_with fail
    clear c00 c01 c02 c03 c04
    refine (T1.out V0).mono ?_
    rintro e V1 ⟨rfl, hb⟩
    have AN2 := Lib.hid (AN1.out.trans (hb.mono AN1.out.size))
    clear hb
    have HV := Lib.hid (lcV_no HE.out)
    have BX := Lib.hid (S0.out.1.trans (AN2.out.mono S0.out.1.size))
    go_wp2_with fail
    go_ret2
    exact ⟨_, by rw [HE.out]; rfl, by rw [HV.out]; exact World.ownsRow_nil .., BX.out⟩
  rw [hq1] at T1
  have HE := Lib.hid (show lcB zs n a l u f t = true by unfold lcB; rw [hq0, hq1]; rfl)
  have HV := Lib.hid (lcV_yes HE.out)
  have HCM := Lib.hid (comp_is (a := a) (l := l) (u := u) (f := f) (t := t) hq0)
  have CO := Lib.hid (fun (W : World) (hb : Below w.heap.size w W) => conflictsOf zs a l u f t A n c W (by omega) (by have := (cvB_yes hq0).1; rw [ok_is, Bool.and_eq_true] at this; exact this.1) hq1 (h1.next hb))
  have CM := Lib.hid (fun v (W : World) (hB : w.heap.size ≤ W.heap.size) ho => sorti.compact w.heap.size v (cfL zs a l u f t n) W (by have := cfL_length zs a l u f t n; omega) hB ho)
  clear hq0 hq1 h1
  go_enter Try.func19, Try.ntmps19
  go_wp2_with fail
  generalize (w.alloc (.cells #[.int .i64 a, .int .i64 l, .int .i64 u, .int .i64 f, .int .i64 t] 26)) = W0 at *
  have AN0 := Lib.hid (Below.refl W0.heap.size W0)
  refine (T0.out W0 (S0.out.1.trans (AN0.out.mono S0.out.1.size))).mono ?_
  rintro e V0 ⟨rfl, hb⟩
  have AN1 := Lib.hid (AN0.out.trans (hb.mono AN0.out.size))
  clear hb
  have c00 : V0.cell? ⟨w.heap.size, 0, none⟩ = some (.int .i64 a) := (S0.out.old AN1.out).cell 0
  have c01 : V0.cell? ⟨w.heap.size, 1, none⟩ = some (.int .i64 l) := (S0.out.old AN1.out).cell 1
  have c02 : V0.cell? ⟨w.heap.size, 2, none⟩ = some (.int .i64 u) := (S0.out.old AN1.out).cell 2
  have c03 : V0.cell? ⟨w.heap.size, 3, none⟩ = some (.int .i64 f) := (S0.out.old AN1.out).cell 3
  have c04 : V0.cell? ⟨w.heap.size, 4, none⟩ = some (.int .i64 t) := (S0.out.old AN1.out).cell 4
  go_wp2_with fail
  clear c00 c01 c02 c03 c04
  refine (T1.out V0).mono ?_
  rintro e V1 ⟨rfl, hb⟩
  have AN2 := Lib.hid (AN1.out.trans (hb.mono AN1.out.size))
  clear hb
  have c00 : V1.cell? ⟨w.heap.size, 0, none⟩ = some (.int .i64 a) := (S0.out.old AN2.out).cell 0
  have c01 : V1.cell? ⟨w.heap.size, 1, none⟩ = some (.int .i64 l) := (S0.out.old AN2.out).cell 1
  have c02 : V1.cell? ⟨w.heap.size, 2, none⟩ = some (.int .i64 u) := (S0.out.old AN2.out).cell 2
  have c03 : V1.cell? ⟨w.heap.size, 3, none⟩ = some (.int .i64 f) := (S0.out.old AN2.out).cell 3
  have c04 : V1.cell? ⟨w.heap.size, 4, none⟩ = some (.int .i64 t) := (S0.out.old AN2.out).cell 4
  go_wp2_with fail
  clear c00 c01 c02 c03 c04
  refine (CO.out V1 (S0.out.1.trans (AN2.out.mono S0.out.1.size))).mono ?_
  rintro e V2 ⟨v, rfl, ho, hb⟩
  have HO := Lib.hid ho
  clear ho
  have LB := Lib.hid (Nat.le_trans S0.out.1.size AN2.out.size)
  have AN3 := Lib.hid (AN2.out.trans (hb.mono AN2.out.size))
  clear hb
  go_wp2_with fail
  refine (CM.out v V2 (Nat.le_trans S0.out.1.size AN3.out.size) (own_.own_base HO.out LB.out)).mono ?_
  rintro e V3 ⟨v3, rfl, ho3, hbb⟩
  rw [HCM.out] at ho3
  have O3 := Lib.hid ho3
  have B3 := Lib.hid (hbb w (S0.out.1.trans (AN3.out.mono S0.out.1.size)))
  clear ho3 hbb
  go_wp2_with fail
  go_ret2
  exact ⟨_, by rw [HE.out]; rfl, by rw [HV.out]; exact O3.out, B3.out⟩

theorem lc_len {zs : List Int} {n : Nat} {a f t : Int} {j : Nat} (hj : j < 41) (h : frB zs n a f t = true) : (lcV zs n a (lev j) (lev j) f t).length = 0 ↔ noT zs a (lev j) (lev j) f t n = true := by
  rw [lcV_yes (by rw [frB_lc zs n a f t hj]; exact h), lcT_nil]
set_option maxRecDepth 100000 in
set_option maxHeartbeats 4000000 in
theorem freeLevels (zs : List Int) (a f t : Int) (A : Option Addr) (n c : Nat) (w : World) (hc : n ≤ c) (hn : n ≤ 1048576) (h1 : RdZ 5 w w.heap.size A n zs) :
    Calls Try.prog 30 #[.slice A n c, .int .i64 a, .int .i64 f, .int .i64 t] w fun e w' => ∃ v, e = .returned (.tuple #[v, .bool (frB zs n a f t)]) ∧ w'.ownsRow w.heap.size 3 1 v (frV zs n a f t).length (cellsI (frV zs n a f t)) ∧ Below w.heap.size w w' := by
  have LC := Lib.hid (fun j (hj : j < 41) (W : World) (hb : Below w.heap.size w W) => (show Calls Try.prog 19 #[.slice A n c, .agg #[.int .i64 a, .int .i64 (lev j), .int .i64 (lev j), .int .i64 f, .int .i64 t]] W (fun e w' => ∃ v, e = .returned (.tuple #[v, .bool (frB zs n a f t)]) ∧ w'.ownsRow W.heap.size 3 1 v (lcV zs n a (lev j) (lev j) f t).length (cellsI (lcV zs n a (lev j) (lev j) f t)) ∧ Below W.heap.size W w') from by rw [← frB_lc zs n a f t hj]; exact levelConflicts zs a (lev j) (lev j) f t A n c W hc hn (h1.next hb)))
  have HLN := Lib.hid (fun j (hj : j < 41) h => lc_len (zs := zs) (n := n) (a := a) (f := f) (t := t) hj h)
  have HFV := Lib.hid (fun h => frV_yes (zs := zs) (n := n) (a := a) (f := f) (t := t) h)
  have HFN := Lib.hid (fun h => frV_no (zs := zs) (n := n) (a := a) (f := f) (t := t) h)
  have HY := Lib.hid (fun j h => frT_yes (zs := zs) (n := n) (a := a) (f := f) (t := t) (j := j) h)
  have HN := Lib.hid (fun j h => frT_not (zs := zs) (n := n) (a := a) (f := f) (t := t) (j := j) h)
  have HLe := Lib.hid (fun j => frT_length zs n a f t j)
  obtain ⟨i0, hi, hz0, hz1, hz2⟩ := info_parts infoI
  clear h1
  go_enter Try.func30, Try.ntmps30
  go_wp2_with fail
  go_loopw [10, 11] (fun q i wr => ∃ j : Nat, j ≤ 41 ∧ (frB zs n a f t = true ∨ j = 0) ∧ i = .int .i64 (lev j) ∧ wr.ownsRow w.heap.size 3 1 q (frT zs n a f t j).length (cellsI (frT zs n a f t j)) ∧ Below w.heap.size w wr) (fun _ i _ => (430 - intOf i).toNat)
  case atStart => exact ⟨0, by omega, Or.inr rfl, rfl, World.ownsRow_nil .., Below.refl _ _⟩
  case round =>
    obtain ⟨j, hj, hor, rfl, hO, hb⟩ := hrel
    by_cases hlt : j < 41
    · have D := Lib.hid (fun (W : World) hb => LC.out j hlt W hb)
      have hlen := HLe.out j
      have HLNj := Lib.hid (HLN.out j hlt)
      have HYj := Lib.hid (HY.out j)
      have HNj := Lib.hid (HN.out j)
      have HLJ := Lib.hid (show lev (j + 1) = lev j + 10 by unfold lev; omega)
      have hl1 : lev j ≤ 410 := by unfold lev; omega
      have hl2 : 10 ≤ lev j := by unfold lev; omega
      have HO := Lib.hid (hO.alloc (.cells #[.int .i64 a, .int .i64 (lev j), .int .i64 (lev j), .int .i64 f, .int .i64 t] 26))
      have HB := Lib.hid (hb.alloc hb.size (.cells #[.int .i64 a, .int .i64 (lev j), .int .i64 (lev j), .int .i64 f, .int .i64 t] 26))
      have HOR := Lib.hid hor
      have HJ := Lib.hid hlt
      obtain ⟨F, hF⟩ : ∃ F, frB zs n a f t = F := ⟨_, rfl⟩
      rw [hF] at D
      have HFX := Lib.hid hF
      clear hO hb LC HLN HY HN HLe hor hj hlt hF
      generalize frT zs n a f t j = L at *
      generalize lev j = q at *
      go_wp2_with fail
      refine (D.out _ HB.out).mono ?_
      rintro e w2 ⟨v2, rfl, ho2, hb2⟩
      obtain ⟨A2, c2, rfl⟩ := own_sliceZ ho2
      have O2 := Lib.hid (own_.own_below HO.out hb2)
      have B2 := Lib.hid (HB.out.trans (hb2.mono HB.out.size))
      have hsz := B2.out.size
      clear hb2 ho2 HO HB D
      cases F
      · have HV := Lib.hid (HFN.out HFX.out)
        clear HYj HNj HLNj HFN HFV
        go_wp2_with fail
        go_ret2
        exact ⟨_, by rw [HFX.out]; rfl, by rw [HV.out]; exact World.ownsRow_nil .., B2.out⟩
      · have HLK := Lib.hid (HLNj.out HFX.out)
        generalize (lcV zs n a q q f t).length = N at *
        clear HLNj HFN HFV
        by_cases hz : N = 0
        · have HE := Lib.hid (HYj.out (HLK.out.1 hz))
          have hn1 : ((N : Int) == 0) = true := by rw [hz]; rfl
          have hn2 : (N == 0) = true := by rw [hz]; rfl
          clear HYj HNj hz HLK
          go_wp2_with (at_builtin; (refine wpList_append_own _ rfl (.tmp 36) (.tmp 38) 32 rfl w.heap.size 3 i0 (.int .i64 0) 1 8 Try.underlying32 hi hz0 hz1 hz2 rfl (by decide) _ L.length (cellsI L) rfl (O2.out.alloc _) ⟨w2.heap.size, 0, none⟩ 1 1 [.int .i64 q] rfl rfl (cell_one_new _ _ _) (own_.one_cell _ rfl) (by unfold maxLen; have := HJ.out; omega) (by have := HJ.out; omega) (by simp; omega) ?_; intro v' w3 hown' hgrow hnil))
          have HB' := Lib.hid (own_.below_append B2.out O2.out hsz hgrow)
          have HO' := Lib.hid (own_app hown')
          clear hown' hgrow hnil
          go_roundw
          case rel => exact ⟨j + 1, by have := HJ.out; omega, Or.inl HFX.out, by rw [HLJ.out], by rw [HE.out]; exact HO'.out, HB'.out⟩
          case measure => simp [intOf]; omega
        · have HE := Lib.hid (HNj.out (by cases hq : noT zs a q q f t n; rfl; exact absurd (HLK.out.2 hq) hz))
          have hn1 : ((N : Int) == 0) = false := beq_eq_false_iff_ne.mpr (by omega)
          have hn2 : (N == 0) = false := beq_eq_false_iff_ne.mpr hz
          clear HYj HNj hz HLK
          go_wp2_with fail
          go_roundw
          case rel => exact ⟨j + 1, by have := HJ.out; omega, Or.inl HFX.out, by rw [HLJ.out], by rw [HE.out]; exact O2.out, B2.out⟩
          case measure => simp [intOf]; omega
    · obtain rfl : j = 41 := by omega
      have HF := Lib.hid (show frB zs n a f t = true by rcases hor with h | h; exact h; cases h)
      have HV := Lib.hid (HFV.out HF.out)
      have hl1 : ¬ lev 41 ≤ 410 := by unfold lev; omega
      have HO := Lib.hid hO
      have HB := Lib.hid hb
      clear hO hb hor LC HLN HFV HFN HY HN HLe hlt
      generalize lev 41 = q at *
      go_wp2_with fail
      go_ret2
      exact ⟨_, by rw [HF.out]; rfl, by rw [HV.out]; exact HO.out, HB.out⟩
set_option maxRecDepth 100000 in
set_option maxHeartbeats 4000000 in
theorem clearedAt (zs : List Int) (a m : Int) (A : Option Addr) (n c : Nat) (w : World) (hc : n ≤ c) (hn : n ≤ 1048576) (h1 : RdZ 5 w w.heap.size A n zs) :
    Calls Try.prog 22 #[.slice A n c, .int .i64 a, .int .i64 m] w fun e w' => e = .returned (.tuple #[.int .i64 (caL zs n a m), .int .i64 (caU zs n a m), .bool (caB zs n a m)]) ∧ Below w.heap.size w w' := by
  have T0 := Lib.hid (fun (W : World) (hb : Below w.heap.size w W) => isValidClearances zs A n c W hc (by omega) (h1.next hb))
  cases hq0 : cvB zs n
  · rw [hq0] at T0
    have HE := Lib.hid (show caB zs n a m = false from caB_no hq0)
    clear h1 hq0
    go_enter Try.func22, Try.ntmps22
    go_wp2_with fail
    have AN0 := Lib.hid (Below.refl w.heap.size w)
    refine (T0.out w AN0.out).mono ?_
    rintro e V0 ⟨rfl, hb⟩
    have AN1 := Lib.hid (AN0.out.trans (hb.mono AN0.out.size))
    clear hb
    have BX := Lib.hid AN1.out
    have H1 := Lib.hid (caL_no HE.out)
    have H2 := Lib.hid (caU_no HE.out)
    go_wp2_with fail
    go_ret3
    exact ⟨by rw [HE.out, H1.out, H2.out]; rfl, BX.out⟩
  rw [hq0] at T0
  have HC := Lib.hid hq0
  have HR := Lib.hid h1
  clear hq0 h1
  go_enter Try.func22, Try.ntmps22
  go_wp2_with fail
  have AN0 := Lib.hid (Below.refl w.heap.size w)
  refine (T0.out w AN0.out).mono ?_
  rintro e V0 ⟨rfl, hb⟩
  have AN1 := Lib.hid (AN0.out.trans (hb.mono AN0.out.size))
  clear hb
  have B1 := Lib.hid AN1.out
  clear AN1
  go_wp2_with fail
  go_loopw [16] (fun i wr => ∃ k : Nat, k ≤ n ∧ i = .int .i64 k ∧ Below w.heap.size w wr ∧ fsT (atK zs a m) k = k) (fun i _ => n - (intOf i).toNat)
  case atStart => exact ⟨0, Nat.zero_le _, rfl, B1.out, rfl⟩
  case round =>
    obtain ⟨k, hk, rfl, hb, hfs⟩ := hrel
    by_cases hlt : k < n
    · obtain ⟨b1, o1, rfl, l1, p0, p1, p2, p3, p4⟩ := cellsE (HR.out.below hb (Nat.le_refl _)) hlt
      have hlt2 : (k : Int) < (n : Int) := by omega
      have HYES := Lib.hid (fun h => ca_found (zs := zs) (n := n) (k := k) (a := a) (m := m) HC.out hlt hfs h)
      have HNO := Lib.hid (fun h => fsT_not (p := atK zs a m) (k := k) hfs h)
      have HAT := Lib.hid (show atK zs a m k = (decide (fld 5 zs k 0 = a) && (decide (fld 5 zs k 3 ≤ m) && decide (m < fld 5 zs k 4))) from rfl)
      have HLT := Lib.hid hlt
      have HB := Lib.hid (hb.alloc hb.size (.cells #[.int .i64 (fld 5 zs k 0), .int .i64 (fld 5 zs k 1), .int .i64 (fld 5 zs k 2), .int .i64 (fld 5 zs k 3), .int .i64 (fld 5 zs k 4)] 26))
      clear hb hfs HR HC hlt
      generalize atK zs a m k = pb at *
      generalize fld 5 zs k 0 = u0 at *
      generalize fld 5 zs k 1 = u1 at *
      generalize fld 5 zs k 2 = u2 at *
      generalize fld 5 zs k 3 = u3 at *
      generalize fld 5 zs k 4 = u4 at *
      by_cases g0 : u0 = a
      · have g0b : (u0 == a) = true := beq_iff_eq.mpr g0
        by_cases g1 : u3 ≤ m
        · have g1b : decide (u3 ≤ m) = true := decide_eq_true g1
          by_cases g2 : m < u4
          · have g2b : decide (m < u4) = true := decide_eq_true g2
            have HE := Lib.hid (HYES.out (by rw [HAT.out, decide_eq_true g0, decide_eq_true g1, decide_eq_true g2]; rfl))
            clear g0 g1 g2 HAT HYES HNO
            go_wp2_with fail
            go_quiet (fail)
            go_wp2_with fail
            go_ret3
            exact ⟨by rw [HE.out.1, HE.out.2.1, HE.out.2.2]; rfl, by first | exact HB.out | exact HB.out.drewN _ | exact aid.below_drewN HB.out _⟩
          · have g2b : decide (m < u4) = false := decide_eq_false g2
            have HE := Lib.hid (HNO.out (by rw [HAT.out, decide_eq_false g2, Bool.and_false, Bool.and_false]))
            clear g0 g1 g2 HAT HYES HNO
            go_wp2_with fail
            go_roundw
            case rel => exact ⟨k + 1, by have := HLT.out; omega, by go_num, HB.out, HE.out⟩
            case measure => have := HLT.out; simp [intOf]; omega
        · have g1b : decide (u3 ≤ m) = false := decide_eq_false g1
          have HE := Lib.hid (HNO.out (by rw [HAT.out, decide_eq_false g1, Bool.false_and, Bool.and_false]))
          clear g0 g1 HAT HYES HNO
          go_wp2_with fail
          go_roundw
          case rel => exact ⟨k + 1, by have := HLT.out; omega, by go_num, HB.out, HE.out⟩
          case measure => have := HLT.out; simp [intOf]; omega
      · have g0b : (u0 == a) = false := beq_eq_false_iff_ne.mpr g0
        have HE := Lib.hid (HNO.out (by rw [HAT.out, decide_eq_false g0, Bool.false_and]))
        clear g0 HAT HYES HNO
        go_wp2_with fail
        go_roundw
        case rel => exact ⟨k + 1, by have := HLT.out; omega, by go_num, HB.out, HE.out⟩
        case measure => have := HLT.out; simp [intOf]; omega
    · obtain rfl : k = n := by omega
      have HE := Lib.hid (ca_none hfs)
      have H1 := Lib.hid (caL_no HE.out)
      have H2 := Lib.hid (caU_no HE.out)
      have BX := Lib.hid hb
      clear hb hfs HR HC hlt
      go_wp2_with fail
      go_ret3
      exact ⟨by rw [HE.out, H1.out, H2.out]; rfl, BX.out⟩

end Go.Proofs.Ytglonedhoenkpaa.lvld
