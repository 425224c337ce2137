/- Slices of frames: the laws' eqFrameS and markFrameS, and spec's l5List. -/
import Derived.Test.YtpjpdfannnafbaaFrmZ
import Derived.Test.YtpjpdfannnafbaaFrmS
import Derived.Deep.Heap
namespace Go.Proofs.Ytpjpdfannnafbaa.frmw
open Go.RowKit Go.Proofs.Ytpjpdfannnafbaa.ints Go.Proofs.Ytpjpdfannnafbaa.frmz Go.Proofs.Ytpjpdfannnafbaa.frm Go.Proofs.Ytpjpdfannnafbaa.frms

/-- The three cells of element k, in the form of the walk. -/
theorem cells3 {w : World} {B n k : Nat} {A : Option Addr} {zs : List Int} (h : RdZ 3 w B A n zs) (hk : k < n) :
    ∃ b o, A = some ⟨b, o, none⟩ ∧ b < B ∧ w.cell? ⟨b, o + k * 3, none⟩ = some (.int .i64 (fld 3 zs k 0)) ∧ w.cell? ⟨b, o + k * 3 + 1, none⟩ = some (.int .i64 (fld 3 zs k 1)) ∧ w.cell? ⟨b, o + k * 3 + 2, none⟩ = some (.int .i64 (fld 3 zs k 2)) := by
  obtain ⟨b, o, e, hb, hc⟩ := h.at_ hk
  exact ⟨b, o, e, hb, hc 0 (by omega), hc 1 (by omega), hc 2 (by omega)⟩

set_option maxRecDepth 100000 in
set_option maxHeartbeats 1000000 in
theorem eqF (zs : List Int) (A C : Option Addr) (n c d : Nat) (w : World) (hn : n ≤ 1048577) (h1 : RdZ 3 w w.heap.size A n zs) (h2 : RdZ 3 w w.heap.size C n zs) :
    Calls Try.prog 35 #[.slice A n c, .slice C n d] w fun e w' => e = .returned (.bool true) ∧ Below w.heap.size w w' := by
  go_enter Try.func35, Try.ntmps35
  go_wp2
  go_loopw [5] (fun i wr => ∃ k : Nat, k ≤ n ∧ i = .int .i64 k ∧ Below w.heap.size w wr) (fun i _ => n - (intOf i).toNat)
  case atStart => exact ⟨0, Nat.zero_le _, rfl, Below.refl _ _⟩
  case round =>
    obtain ⟨k, hk, rfl, hb⟩ := hrel
    by_cases hlt : k < n
    · obtain ⟨b1, o1, rfl, l1, p0, p1, p2⟩ := cells3 (h1.below hb (Nat.le_refl _)) hlt
      obtain ⟨b2, o2, rfl, l2, r0, r1, r2⟩ := cells3 (h2.below hb (Nat.le_refl _)) hlt
      have hlt2 : (k : Int) < (n : Int) := by omega
      have X1 := Lib.hid (fun w d0 os => Calls.regrown_of (frml.eqFrame (fld 3 zs k 0) (fld 3 zs k 1) (fld 3 zs k 2) (Sort.grow (redrawn w d0) os)))
      have HB := Lib.hid hb
      clear h1 h2 hb
      go_wp2_with fail
      have p0' := fun d0 os => cell_regrown p0 d0 os
      have p1' := fun d0 os => cell_regrown p1 d0 os
      have p2' := fun d0 os => cell_regrown p2 d0 os
      have r0' := fun d0 os => cell_regrown r0 d0 os
      have r1' := fun d0 os => cell_regrown r1 d0 os
      have r2' := fun d0 os => cell_regrown r2 d0 os
      clear p0 p1 p2 r0 r1 r2
      refine wp_region_quiet_below (by kernel_rfl) (by kernel_rfl) ?_
      repeat (quiet_step (first
        | (go_at_call 29; with_reducible exact X1.out _ _ _)))
      refine wpQuiet_nil ?_
      intro _ hw'
      obtain ⟨⟨dq, osq⟩, hw''⟩ := hw'
      subst hw''
      have hbq := Lib.hid (HB.out.trans ((below_regrown wr dq osq).mono HB.out.size))
      clear p0' p1' p2' r0' r1' r2'
      generalize Sort.grow (redrawn wr dq) osq = w3 at *
      go_wp2_with fail
      go_roundw
      case rel => exact ⟨k + 1, by omega, by go_num, hbq.out⟩
      case measure => simp [intOf]; omega
    · clear h1 h2
      go_wp2
      go_ret
      exact ⟨rfl, hb⟩

theorem grown_set {w w1 : World} {g : Nat} (h : w.grownBy w1 (some g)) (o : Nat) (u : Value) : w.grownBy (w1.setCell ⟨g, o, none⟩ u) (some g) :=
  ⟨h.os, h.tape, h.output, by simpa [World.setCell] using h.size, fun k hk hne => (Go.Deep.blk_setCell_other w1 ⟨g, o, none⟩ u k (fun e => hne (by rw [show k = g from e]))).trans (h.block k hk hne)⟩
theorem grown_refl (w : World) (r : Option Nat) : w.grownBy w r := ⟨rfl, rfl, rfl, Nat.le_refl _, fun _ _ _ => rfl⟩
theorem own_kept {w w' : World} {B e size n : Nat} {v : Value} {xs : List Value} {r : Option Nat} (h : w.ownsRow B e size v n xs) (hg : w.grownBy w' r) (hr : ∀ g, r = some g → g < B) : w'.ownsRow B e size v n xs :=
  ⟨h.1, h.2.imp id (fun ⟨g, cap, cur, a, b, c, d⟩ => ⟨g, cap, cur, a, b, (hg.block g (by
    rcases Nat.lt_or_ge g w.heap.size with h | h
    · exact h
    · rw [Array.getElem?_eq_none h] at c; cases c) (fun e => by have := hr g e.symm; omega)).trans c, d⟩)⟩
theorem own_row_lt {w : World} {B e size n : Nat} {v : Value} {xs : List Value} (h : w.ownsRow B e size v n xs) : ∀ g, v.ownBlock = some g → g < w.heap.size := by
  intro g hg
  rcases h.2 with ⟨rfl, _⟩ | ⟨g', cap, cur, rfl, _, hh, _⟩
  · simp [Value.ownBlock] at hg
  · simp [Value.ownBlock] at hg
    subst hg
    rcases Nat.lt_or_ge g' w.heap.size with h | h
    · exact h
    · rw [Array.getElem?_eq_none h] at hh; cases hh

set_option maxRecDepth 100000 in
set_option maxHeartbeats 1000000 in
theorem markF (B : Nat) (A : Option Addr) (k n c : Nat) (xs : List Value) (w : World) (hk : k + n * 3 ≤ 4194304) (h : w.ownsRow B 25 3 (.slice A n c) n xs) :
    Calls Try.prog 36 #[.slice A n c, .int .i64 (k : Int)] w fun e w' => e = .returned (.int .i64 ((k + n * 3 : Nat) : Int)) ∧ Below B w w' ∧ w.grownBy w' (Value.slice A n c).ownBlock := by
  have hl : xs.length = n * 3 := by have := h.1; omega
  go_enter Try.func36, Try.ntmps36
  go_wp2
  go_loopw [1, 5] (fun q i wr => ∃ j : Nat, j ≤ n ∧ i = .int .i64 j ∧ q = .int .i64 ((k + j * 3 : Nat) : Int) ∧ Below B w wr ∧ wr.ownsRow B 25 3 (.slice A n c) n (half k (j * 3) xs) ∧ w.grownBy wr (Value.slice A n c).ownBlock) (fun _ i _ => n - (intOf i).toNat)
  case atStart => exact ⟨0, Nat.zero_le _, rfl, rfl, Below.refl _ _, by rw [Nat.zero_mul, half_zero]; exact h, grown_refl _ _⟩
  case round =>
    obtain ⟨j, hj, rfl, rfl, hb, hown, hgr⟩ := hrel
    by_cases hlt : j < n
    · have hform : ∃ g, A = some ⟨g, 0, none⟩ ∧ B ≤ g := by
        rcases hown.2 with ⟨_, h0⟩ | ⟨g, _, _, hv, hg, _⟩
        · omega
        · injection hv with hA; exact ⟨g, hA, hg⟩
      obtain ⟨g, rfl, hBg⟩ := hform
      obtain ⟨u0, hu0⟩ := half_at (k := k) (xs := xs) (j := j * 3) (by omega)
      have f0 := half_set (k := k) (xs := xs) (j := j * 3) (by omega)
      have f1 := half_set (k := k) (xs := xs) (j := j * 3 + 1) (by omega)
      have f2 := half_set (k := k) (xs := xs) (j := j * 3 + 2) (by omega)
      obtain ⟨u1, hu1⟩ : ∃ u, (half k (j * 3) xs)[j * 3 + 1]? = some u := ⟨_, List.getElem?_eq_getElem (by rw [half_length (by omega)]; omega)⟩
      obtain ⟨u2, hu2⟩ : ∃ u, (half k (j * 3) xs)[j * 3 + 2]? = some u := ⟨_, List.getElem?_eq_getElem (by rw [half_length (by omega)]; omega)⟩
      have hlt2 : (j : Int) < (n : Int) := by omega
      have e1 : ((k + (j * 3 + 1) : Nat) : Int) = ((k + j * 3 : Nat) : Int) + 1 := by omega
      have e2 : ((k + (j * 3 + 2) : Nat) : Int) = ((k + j * 3 : Nat) : Int) + 1 + 1 := by omega
      have HGR := Lib.hid (show w.grownBy wr (some g) from hgr)
      have e3 : ((k + (j + 1) * 3 : Nat) : Int) = ((k + j * 3 : Nat) : Int) + 1 + 1 + 1 := by omega
      rw [e1] at f1
      rw [e2] at f2
      have E3 := Lib.hid e3
      have HL := Lib.hid hl
      have b1 : ((k + j * 3 : Nat) : Int) ≤ 4194304 := by omega
      have b0 : (0 : Int) ≤ ((k + j * 3 : Nat) : Int) := by omega
      have s0 := (hown.cellAt (j * 3) (by omega)).trans hu0
      have s1 := (hown.cellAt (j * 3 + 1) (by omega)).trans hu1
      have s2 := (hown.cellAt (j * 3 + 2) (by omega)).trans hu2
      have r0 := hown.frozenAt (j * 3)
      have r1 := hown.frozenAt (j * 3 + 1)
      have r2 := hown.frozenAt (j * 3 + 2)
      have st0 := (hown.stored (j * 3) (.int .i64 ((k + j * 3 : Nat) : Int))).1
      rw [f0] at st0
      have st1 := (st0.stored (j * 3 + 1) (.int .i64 (((k + j * 3 : Nat) : Int) + 1))).1
      rw [f1] at st1
      have st2 := (st1.stored (j * 3 + 2) (.int .i64 (((k + j * 3 : Nat) : Int) + 1 + 1))).1
      rw [f2] at st2
      have ST := Lib.hid st2
      have HB := Lib.hid (((hb.setCell (p := ⟨g, j * 3, none⟩) hBg (.int .i64 ((k + j * 3 : Nat) : Int))).setCell (p := ⟨g, j * 3 + 1, none⟩) hBg (.int .i64 (((k + j * 3 : Nat) : Int) + 1))).setCell (p := ⟨g, j * 3 + 2, none⟩) hBg (.int .i64 (((k + j * 3 : Nat) : Int) + 1 + 1)))
      have HG3 := Lib.hid (grown_set (grown_set (grown_set HGR.out (j * 3) (.int .i64 ((k + j * 3 : Nat) : Int))) (j * 3 + 1) (.int .i64 (((k + j * 3 : Nat) : Int) + 1))) (j * 3 + 2) (.int .i64 (((k + j * 3 : Nat) : Int) + 1 + 1)))
      clear hgr HGR h e1 e2 e3 hl hown st0 st1 st2 hb hu0 hu1 hu2 f0 f1 f2
      generalize ((k + j * 3 : Nat) : Int) = m at *
      go_wp2_with fail
      go_roundw
      case rel => exact ⟨j + 1, by omega, by go_num, by rw [E3.out], HB.out, by rw [show (j + 1) * 3 = j * 3 + 2 + 1 by omega]; exact ST.out, HG3.out⟩
      case measure => simp [intOf]; omega
    · obtain rfl : j = n := by omega
      clear h
      go_wp2
      go_ret
      exact ⟨rfl, hb, hgr⟩

/-- Whether a list of frames has at most twenty, all valid. -/
def goodAt (zs : List Int) (k : Nat) : Bool := good (fld 3 zs k 0) (fld 3 zs k 1) (fld 3 zs k 2)
def listB (zs : List Int) (n : Nat) : Bool := decide (n ≤ 20) && (List.range n).all (goodAt zs)
theorem list_no {zs : List Int} {n k : Nat} (hk : k < n) (h : goodAt zs k = false) : listB zs n = false := by
  unfold listB
  cases e : (List.range n).all (goodAt zs)
  · simp
  · rw [List.all_eq_true.mp e k (List.mem_range.mpr hk)] at h; cases h
theorem list_long {zs : List Int} {n : Nat} (h : ¬ n ≤ 20) : listB zs n = false := by unfold listB; rw [decide_eq_false h]; rfl
theorem list_yes {zs : List Int} {n : Nat} (h : n ≤ 20) (ha : ∀ k, k < n → goodAt zs k = true) : listB zs n = true := by
  unfold listB
  rw [decide_eq_true h, Bool.true_and]
  exact List.all_eq_true.mpr fun k hk => ha k (List.mem_range.mp hk)

set_option maxRecDepth 100000 in
set_option maxHeartbeats 1000000 in
theorem l5List (zs : List Int) (A : Option Addr) (n c : Nat) (w : World) (hn : n ≤ 1048577) (h1 : RdZ 3 w w.heap.size A n zs) :
    Calls Try.prog 51 #[.slice A n c] w fun e w' => e = .returned (.bool (listB zs n)) ∧ Below w.heap.size w w' := by
  go_enter Try.func51, Try.ntmps51
  go_wp2
  go_loopw [3] (fun i wr => ∃ k : Nat, k ≤ n ∧ k ≤ 21 ∧ i = .int .i64 k ∧ Below w.heap.size w wr ∧ ∀ j, j < k → goodAt zs j = true) (fun i _ => n - (intOf i).toNat)
  case atStart => exact ⟨0, Nat.zero_le _, Nat.zero_le _, rfl, Below.refl _ _, fun _ h => absurd h (Nat.not_lt_zero _)⟩
  case round =>
    obtain ⟨k, hk, hk2, rfl, hb, ha⟩ := hrel
    by_cases hlt : k < n
    · have hlt2 : (k : Int) < (n : Int) := by omega
      by_cases h20 : k ≤ 20
      · obtain ⟨b1, o1, rfl, l1, p0, p1, p2⟩ := cells3 (h1.below hb (Nat.le_refl _)) hlt
        have h21 : (k : Int) ≤ 20 := by omega
        have X1 := Lib.hid (fun w => good5 (fld 3 zs k 0) (fld 3 zs k 1) (fld 3 zs k 2) w)
        have HB := Lib.hid hb
        have HA := Lib.hid ha
        clear h1 hb ha
        go_wp2_with fail
        refine (X1.out _).mono ?_
        rintro e w2 ⟨rfl, hb2⟩
        have hbq := Lib.hid (HB.out.trans (hb2.mono HB.out.size))
        clear p0 p1 p2
        cases hg : good (fld 3 zs k 0) (fld 3 zs k 1) (fld 3 zs k 2)
        · have HN := Lib.hid (list_no (zs := zs) (n := n) hlt hg)
          go_wp2_with fail
          go_ret
          exact ⟨by rw [HN.out]; rfl, hbq.out⟩
        · go_wp2_with fail
          go_roundw
          case rel =>
            refine ⟨k + 1, by omega, by omega, by go_num, hbq.out, fun j hj => ?_⟩
            rcases Nat.lt_or_ge j k with h | h
            · exact HA.out j h
            · obtain rfl : j = k := by omega
              exact hg
          case measure => simp [intOf]; omega
      · have h21 : ¬ (k : Int) ≤ 20 := by omega
        have hn20 : ¬ (n : Int) ≤ 20 := by omega
        have HN := Lib.hid (list_long (zs := zs) (n := n) (by omega))
        clear h1 ha
        go_wp2
        go_ret
        exact ⟨by rw [HN.out]; rfl, hb⟩
    · obtain rfl : k = n := by omega
      have HN : listB zs k = decide ((k : Int) ≤ 20) := by
        by_cases h : k ≤ 20
        · rw [list_yes h ha, decide_eq_true (by omega)]
        · rw [list_long h, decide_eq_false (by omega)]
      have HN := Lib.hid HN
      clear h1 ha
      go_wp2
      go_ret
      exact ⟨by rw [HN.out]; rfl, hb⟩
end Go.Proofs.Ytpjpdfannnafbaa.frmw
