/- The laws' helpers on slices of places: eqPlaceS, markPlaceS, heldPlaceS, vPlaces. -/
import Derived.Test.YtkmmogdiekillaaLst
import Derived.Test.YtkmmogdiekillaaPosX
namespace Go.Proofs.Ytkmmogdiekillaa.pose
open Go.RowKit Go.Proofs.Ytkmmogdiekillaa.ints Go.Proofs.Ytkmmogdiekillaa.lst

/-- The two cells of element k, in the form of the walk. -/
theorem cells2 {w : World} {B n k : Nat} {A : Option Addr} {zs : List Int} (h : RdZ 2 w B A n zs) (hk : k < n) :
    ∃ b o, A = some ⟨b, o, none⟩ ∧ b < B ∧ w.cell? ⟨b, o + k * 2, none⟩ = some (.int .i64 (fld 2 zs k 0)) ∧ w.cell? ⟨b, o + k * 2 + 1, none⟩ = some (.int .i64 (fld 2 zs k 1)) := by
  obtain ⟨b, o, e, hb, hc⟩ := h.at_ hk
  exact ⟨b, o, e, hb, hc 0 (by omega), hc 1 (by omega)⟩

set_option maxRecDepth 100000 in
set_option maxHeartbeats 1000000 in
theorem eqP (zs : List Int) (A C : Option Addr) (n c d : Nat) (w : World) (hn : n ≤ 1048577) (h1 : RdZ 2 w w.heap.size A n zs) (h2 : RdZ 2 w w.heap.size C n zs) :
    Calls Try.prog 46 #[.slice A n c, .slice C n d] w fun e w' => e = .returned (.bool true) ∧ Below w.heap.size w w' := by
  go_enter Try.func46, Try.ntmps46
  go_wp2
  go_loopw [5] (fun i wr => ∃ k : Nat, k ≤ n ∧ i = .int .i64 k ∧ Below w.heap.size w wr) (fun i _ => n - (intOf i).toNat)
  case atStart => exact ⟨0, Nat.zero_le _, rfl, Below.refl _ _⟩
  case round =>
    obtain ⟨k, hk, rfl, hb⟩ := hrel
    by_cases hlt : k < n
    · obtain ⟨b1, o1, rfl, l1, p0, p1⟩ := cells2 (h1.below hb (Nat.le_refl _)) hlt
      obtain ⟨b2, o2, rfl, l2, r0, r1⟩ := cells2 (h2.below hb (Nat.le_refl _)) hlt
      have hlt2 : (k : Int) < (n : Int) := by omega
      have X1 := Lib.hid (fun w d0 os => Calls.regrown_of (posx.eqPlace (fld 2 zs k 0) (fld 2 zs k 1) (Sort.grow (redrawn w d0) os)))
      have HB := Lib.hid hb
      clear h1 h2 hb
      go_wp2_with fail
      have p0' := fun d0 os => cell_regrown p0 d0 os
      have p1' := fun d0 os => cell_regrown p1 d0 os
      have r0' := fun d0 os => cell_regrown r0 d0 os
      have r1' := fun d0 os => cell_regrown r1 d0 os
      clear p0 p1 r0 r1
      refine wp_region_quiet_below (by kernel_rfl) (by kernel_rfl) ?_
      repeat (quiet_step (first
        | (go_at_call 45; with_reducible exact X1.out _ _ _)))
      refine wpQuiet_nil ?_
      intro _ hw'
      obtain ⟨⟨dq, osq⟩, hw''⟩ := hw'
      subst hw''
      have hbq := Lib.hid (HB.out.trans ((below_regrown wr dq osq).mono HB.out.size))
      clear p0' p1' r0' r1'
      generalize Sort.grow (redrawn wr dq) osq = w3 at *
      go_wp2_with fail
      go_roundw
      case rel => exact ⟨k + 1, by omega, by go_num, hbq.out⟩
      case measure => simp [intOf]; omega
    · clear h1 h2
      go_wp2
      go_ret
      exact ⟨rfl, hb⟩

set_option maxRecDepth 100000 in
set_option maxHeartbeats 1000000 in
theorem markP (B : Nat) (A : Option Addr) (k n c : Nat) (xs : List Value) (w : World) (hk : k + n * 2 ≤ 4194304) (h : w.ownsRow B 25 2 (.slice A n c) n xs) :
    Calls Try.prog 47 #[.slice A n c, .int .i64 (k : Int)] w fun e w' => e = .returned (.int .i64 ((k + n * 2 : Nat) : Int)) ∧ Below B w w' ∧ w.grownBy w' (Value.slice A n c).ownBlock ∧ w'.ownsRow B 25 2 (.slice A n c) n (cellsI (marksI k (n * 2))) := by
  have hl : xs.length = n * 2 := by have := h.1; omega
  go_enter Try.func47, Try.ntmps47
  go_wp2
  go_loopw [1, 5] (fun q i wr => ∃ j : Nat, j ≤ n ∧ i = .int .i64 j ∧ q = .int .i64 ((k + j * 2 : Nat) : Int) ∧ Below B w wr ∧ wr.ownsRow B 25 2 (.slice A n c) n (half k (j * 2) xs) ∧ w.grownBy wr (Value.slice A n c).ownBlock) (fun _ i _ => n - (intOf i).toNat)
  case atStart => exact ⟨0, Nat.zero_le _, rfl, rfl, Below.refl _ _, by rw [Nat.zero_mul, half_zero]; exact h, grown_refl _ _⟩
  case round =>
    obtain ⟨j, hj, rfl, rfl, hb, hown, hgr⟩ := hrel
    by_cases hlt : j < n
    · have hform : ∃ g, A = some ⟨g, 0, none⟩ ∧ B ≤ g := by
        rcases hown.2 with ⟨_, h0⟩ | ⟨g, _, _, hv, hg, _⟩
        · omega
        · injection hv with hA; exact ⟨g, hA, hg⟩
      obtain ⟨g, rfl, hBg⟩ := hform
      obtain ⟨u0, hu0⟩ := half_at (k := k) (xs := xs) (j := j * 2) (by omega)
      have f0 := half_set (k := k) (xs := xs) (j := j * 2) (by omega)
      have f1 := half_set (k := k) (xs := xs) (j := j * 2 + 1) (by omega)
      obtain ⟨u1, hu1⟩ : ∃ u, (half k (j * 2) xs)[j * 2 + 1]? = some u := ⟨_, List.getElem?_eq_getElem (by rw [half_length (by omega)]; omega)⟩
      have hlt2 : (j : Int) < (n : Int) := by omega
      have e1 : ((k + (j * 2 + 1) : Nat) : Int) = ((k + j * 2 : Nat) : Int) + 1 := by omega
      have HGR := Lib.hid (show w.grownBy wr (some g) from hgr)
      have e3 : ((k + (j + 1) * 2 : Nat) : Int) = ((k + j * 2 : Nat) : Int) + 1 + 1 := by omega
      rw [e1] at f1
      have E3 := Lib.hid e3
      have HL := Lib.hid hl
      have b1 : ((k + j * 2 : Nat) : Int) ≤ 4194304 := by omega
      have b0 : (0 : Int) ≤ ((k + j * 2 : Nat) : Int) := by omega
      have s0 := (hown.cellAt (j * 2) (by omega)).trans hu0
      have s1 := (hown.cellAt (j * 2 + 1) (by omega)).trans hu1
      have r0 := hown.frozenAt (j * 2)
      have r1 := hown.frozenAt (j * 2 + 1)
      have st0 := (hown.stored (j * 2) (.int .i64 ((k + j * 2 : Nat) : Int))).1
      rw [f0] at st0
      have st1 := (st0.stored (j * 2 + 1) (.int .i64 (((k + j * 2 : Nat) : Int) + 1))).1
      rw [f1] at st1
      have ST := Lib.hid st1
      have HB := Lib.hid ((hb.setCell (p := ⟨g, j * 2, none⟩) hBg (.int .i64 ((k + j * 2 : Nat) : Int))).setCell (p := ⟨g, j * 2 + 1, none⟩) hBg (.int .i64 (((k + j * 2 : Nat) : Int) + 1)))
      have HG3 := Lib.hid (grown_set (grown_set HGR.out (j * 2) (.int .i64 ((k + j * 2 : Nat) : Int))) (j * 2 + 1) (.int .i64 (((k + j * 2 : Nat) : Int) + 1)))
      clear hgr HGR h e1 e3 hl hown st0 st1 hb hu0 hu1 f0 f1
      generalize ((k + j * 2 : Nat) : Int) = m at *
      go_wp2_with fail
      go_roundw
      case rel => exact ⟨j + 1, by omega, by go_num, by rw [E3.out], HB.out, by rw [show (j + 1) * 2 = j * 2 + 1 + 1 by omega]; exact ST.out, HG3.out⟩
      case measure => simp [intOf]; omega
    · obtain rfl : j = n := by omega
      clear h
      go_wp2
      go_ret
      exact ⟨rfl, hb, hgr, by rw [← half_all (xs := xs) (by omega)]; exact hown⟩

set_option maxRecDepth 100000 in
set_option maxHeartbeats 1000000 in
theorem heldP (A : Option Addr) (k n c : Nat) (w : World) (hk : k + n * 2 ≤ 2097152) (h : RdZ 2 w w.heap.size A n (marksI k (n * 2))) :
    Calls Try.prog 48 #[.slice A n c, .int .i64 (k : Int)] w fun e w' => e = .returned (.int .i64 ((k + n * 2 : Nat) : Int)) ∧ w = w' := by
  have HF := Lib.hid (show ∀ j i, j < n → i < 2 → fld 2 (marksI k (n * 2)) j i = ((k + (j * 2 + i) : Nat) : Int) from fun j i hj hi => by
    unfold fld
    rw [List.getD_eq_getElem?_getD, marksI_at (by omega)]; rfl)
  go_enter Try.func48, Try.ntmps48
  go_wp2
  go_loop [1, 5] (fun q i => ∃ j : Nat, j ≤ n ∧ i = .int .i64 j ∧ q = .int .i64 ((k + j * 2 : Nat) : Int)) (fun _ i => n - (intOf i).toNat)
  case atStart => exact ⟨0, Nat.zero_le _, rfl, rfl⟩
  case round =>
    obtain ⟨j, hj, rfl, rfl⟩ := hrel
    by_cases hlt : j < n
    · obtain ⟨b, o, rfl, hbl, c0, c1⟩ := cells2 h hlt
      rw [HF.out j 0 hlt (by omega)] at c0
      rw [HF.out j 1 hlt (by omega)] at c1
      have e1 : ((k + (j * 2 + 1) : Nat) : Int) = ((k + j * 2 : Nat) : Int) + 1 := by omega
      rw [e1] at c1
      rw [Nat.add_zero] at c0
      have hlt2 : (j : Int) < (n : Int) := by omega
      have E1 := Lib.hid (show ((k + (j + 1) * 2 : Nat) : Int) = ((k + j * 2 : Nat) : Int) + 1 + 1 by omega)
      have b1 : ((k + j * 2 : Nat) : Int) ≤ 2097152 := by omega
      have b0 : 0 ≤ ((k + j * 2 : Nat) : Int) := by omega
      generalize ((k + j * 2 : Nat) : Int) = m at *
      have hs := int_ne_self m
      have hs2 := int_ne_self (m + 1)
      clear h e1
      go_wp2_with fail
      go_round
      case rel => exact ⟨j + 1, by omega, by go_num, by rw [E1.out]⟩
      case measure => simp [intOf]; omega
    · clear h
      go_wp2
      go_ret
      exact ⟨aid.ret_int (by omega), rfl⟩

theorem marks_rd {w : World} {B n c : Nat} {A : Option Addr} {k : Nat} (h : w.ownsRow B 25 2 (.slice A n c) n (cellsI (marksI k (n * 2)))) : RdZ 2 w w.heap.size A n (marksI k (n * 2)) :=
  RdZ.of_own h (marksI_length k (n * 2))

set_option maxRecDepth 100000 in
theorem vPlaces (zs : List Int) (A C : Option Addr) (n c d : Nat) (w : World) (hn : n ≤ 1048577) (h1 : RdZ 2 w w.heap.size A n zs) (h2 : RdZ 2 w w.heap.size C n zs) :
    Calls Try.prog 24 #[.slice A n c, .slice C n d] w fun e w' => e = .returned (.bool true) ∧ ∃ j, w' = w.drewN j := by
  go_enter Try.func24, Try.ntmps24
  go_wp2
  go_loopw [5] (fun i wr => ∃ k j : Nat, k ≤ n ∧ i = .int .i64 k ∧ wr = w.drewN j) (fun i _ => n - (intOf i).toNat)
  case atStart => exact ⟨0, 0, Nat.zero_le _, rfl, rfl⟩
  case round =>
    obtain ⟨k, j, hk, rfl, rfl⟩ := hrel
    by_cases hlt : k < n
    · obtain ⟨b1, o1, rfl, l1, p0, p1⟩ := cells2 h1 hlt
      obtain ⟨b2, o2, rfl, l2, r0, r1⟩ := cells2 h2 hlt
      have hlt2 : (k : Int) < (n : Int) := by omega
      clear h1 h2
      generalize fld 2 zs k 0 = x at *
      generalize fld 2 zs k 1 = y at *
      have hs := int_ne_self x
      have hs2 := int_ne_self y
      have hs3 : (x == x) = true := by simp
      have hs4 : (y == y) = true := by simp
      go_wp2_with fail
      go_quiet (fail)
      go_wp2
      go_roundw
      case rel => exact ⟨k + 1, _, by omega, by go_num, by first | rfl | rw [World.drewN_drewN]⟩
      case measure => simp [intOf]; omega
    · clear h1 h2
      go_wp2
      go_ret
      exact ⟨rfl, j, rfl⟩
end Go.Proofs.Ytkmmogdiekillaa.pose
