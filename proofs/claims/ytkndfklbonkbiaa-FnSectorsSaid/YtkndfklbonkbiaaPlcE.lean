/- The laws' helpers on structs of 2 ints (impl.Place) and on lists of them. -/
import Derived.Test.YtkndfklbonkbiaaLst
import Derived.Test.YtkndfklbonkbiaaAtS
import Derived.Laws.MakeOwn
import Derived.Laws.OwnMore
import Derived.Lib.QuietBelow
namespace Go.Proofs.Ytkndfklbonkbiaa.plce
open Go.RowKit Go.Proofs.Ytkndfklbonkbiaa.ats Go.Proofs.Ytkndfklbonkbiaa.ints Go.Proofs.Ytkndfklbonkbiaa.lst

theorem bl_next {V Wc w' : World} (h : Below V.heap.size V Wc) (hb : Below Wc.heap.size Wc w') : Below V.heap.size V w' := h.trans (hb.mono h.size)
theorem at_next {V W : World} (T : TypeId) (cs : Array Value) (h : Below V.heap.size V W) : AtS T cs V (W.alloc (.cells cs T)) W.heap.size :=
  ⟨h.trans (((Below.refl W.heap.size W).alloc (Nat.le_refl _) (.cells cs T)).mono h.size), h.size, by rw [World.size_alloc]; omega, heap_alloc_new W _⟩
theorem at_cell {T : TypeId} {cs : Array Value} {w W : World} {b : Nat} (h : AtS T cs w W b) (i : Nat) (v : Value) (hv : cs[i]? = some v) : W.cell? ⟨b, i, none⟩ = some v := (h.cell i).trans hv
theorem ne_self (b : Int) : (b != b) = false := by simp

theorem toPlace (x0 x1 : Int) (w : World) :
    Calls Try.prog 9 #[.agg #[.int .i64 x0, .int .i64 x1]] w fun e w' => e = .returned (.agg #[.int .i64 x0, .int .i64 x1]) ∧ Below w.heap.size w w' := by
  go_enter Try.func9, Try.ntmps9
  go_wp2_with fail
  have h2 := ((newS 24 #[.int .i64 x0, .int .i64 x1] w).next 31 #[.int .i64 x0, .int .i64 x1]).alloc (.cells #[.int .i64 x0, .int .i64 x1] 31)
  rw [World.size_alloc] at h2
  have hl := h2.load Try.underlying31 rfl (by kernel_rfl)
  refine bodyPost_ret (v := .agg #[.int .i64 x0, .int .i64 x1]) ?_ rfl ⟨rfl, h2.1⟩
  rw [results_cell1 rfl]
  simp [asAddr, Result.andThen, hl]
theorem eqPlace (x0 x1 : Int) (w : World) :
    Calls Try.prog 125 #[.agg #[.int .i64 x0, .int .i64 x1], .agg #[.int .i64 x0, .int .i64 x1]] w fun e w' => e = .returned (.bool true) ∧ Below w.heap.size w w' := by
  have n0 : (x0 != x0) = false := by simp
  have n1 : (x1 != x1) = false := by simp
  go_enter Try.func125, Try.ntmps125
  go_wp2_with fail
  go_ret
  exact ⟨rfl, ((Below.refl _ _).alloc (Nat.le_refl _) _).alloc (by rw [World.size_alloc]; omega) _⟩

theorem sz (A : Option Addr) (n c : Nat) (w : World) (hn : n ≤ maxLen) :
    Calls Try.prog 84 #[.slice A n c, .int .i64 1048576] w fun e w' => e = .returned (.int .i64 (if n ≤ 1048576 then 1048576 - (n : Int) else -1)) ∧ w = w' := by
  unfold maxLen at hn
  by_cases h : n ≤ 1048576
  · rw [if_pos h]
    have hn2 : (n : Int) ≤ 1048576 := by omega
    have d : decide ((1048576 : Int) - (n : Int) < 0) = false := decide_eq_false (by omega)
    go_enter Try.func84, Try.ntmps84
    go_wp2_with fail
    go_ret
    exact ⟨rfl, rfl⟩
  · rw [if_neg h]
    have hn2 : ¬ (n : Int) ≤ 1048576 := by omega
    have d : decide ((1048576 : Int) - (n : Int) < 0) = true := decide_eq_true (by omega)
    go_enter Try.func84, Try.ntmps84
    go_wp2_with fail
    go_ret
    exact ⟨rfl, rfl⟩

theorem szL (A : Option Addr) (n c : Nat) (L : Int) (w : World) (hn : n ≤ maxLen) (h0 : 0 ≤ L) (h1 : L ≤ 1048576) :
    Calls Try.prog 84 #[.slice A n c, .int .i64 L] w fun e w' => e = .returned (.int .i64 (if (n : Int) ≤ L then L - (n : Int) else -1)) ∧ w = w' := by
  unfold maxLen at hn
  have e1 : IntKind.i64.wrap (L - (n : Int)) = L - (n : Int) := IntWalk.i64_in _ (by omega)
  by_cases h : (n : Int) ≤ L
  · rw [if_pos h]
    have d : decide (L - (n : Int) < 0) = false := decide_eq_false (by omega)
    go_enter Try.func84, Try.ntmps84
    go_wp2_with fail
    go_ret
    exact ⟨rfl, rfl⟩
  · rw [if_neg h]
    have d : decide (L - (n : Int) < 0) = true := decide_eq_true (by omega)
    go_enter Try.func84, Try.ntmps84
    go_wp2_with fail
    go_ret
    exact ⟨rfl, rfl⟩

theorem infoS : (Try.prog.info? 31).map (fun i => (i.zero, i.size, i.bytes)) = some (some (.agg #[.int .i64 0, .int .i64 0]), 2, 16) := by kernel_rfl
theorem made2 (n : Nat) : (madeCells (Value.cells (.agg #[.int .i64 0, .int .i64 0])) (n * 2)).toList = List.replicate (n * 2) (.int .i64 0) := by
  refine List.ext_getElem (by simp [madeCells]) fun i h1 h2 => ?_
  simp [madeCells] at h1 ⊢
  have : i % 2 = 0 ∨ i % 2 = 1 := by omega
  simp only [Value.cells]
  rcases this with h | h <;> simp [h]
/-- A row whose first m cells are filled. -/
def filled (zs : List Int) (m t : Nat) : List Value := cellsI (zs.take m) ++ List.replicate (t - m) (.int .i64 0)
theorem filled_set {zs : List Int} {m t : Nat} (h : m < zs.length) (hm : m < t) : (filled zs m t).set m (.int .i64 (zs.getD m 0)) = filled zs (m + 1) t := by
  unfold filled cellsI
  have h1 : ((zs.take m).map (Value.int .i64)).length = m := by simp; omega
  rw [List.set_append, if_neg (by omega), h1, Nat.sub_self, List.take_succ_eq_append_getElem h]
  obtain ⟨r, hr⟩ : ∃ r, t - m = r + 1 := ⟨t - m - 1, by omega⟩
  rw [hr, List.replicate_succ, List.set_cons_zero, show t - (m + 1) = r by omega, List.getD_eq_getElem?_getD, List.getElem?_eq_getElem h, List.map_append, List.map_cons, List.map_nil, List.append_assoc]
  rfl
theorem filled_at {zs : List Int} {m t j : Nat} (hl : zs.length = t) (hj : j < t) (hm : m ≤ t) : ∃ u, (filled zs m t)[j]? = some u :=
  ⟨_, List.getElem?_eq_getElem (by unfold filled cellsI; simp; omega)⟩
theorem filled_all {zs : List Int} {t : Nat} (hl : zs.length = t) : filled zs t t = cellsI zs := by
  unfold filled; rw [List.take_of_length_le (by omega)]; simp

set_option maxRecDepth 100000 in
set_option maxHeartbeats 2000000 in
theorem copyS (zs : List Int) (A : Option Addr) (n c : Nat) (w : World) (hn : n ≤ 1048576) (h : RdZ 2 w w.heap.size A n zs) :
    Calls Try.prog 87 #[.slice A n c] w fun e w' => ∃ (g : Nat), e = .returned (.slice (some ⟨g, 0, none⟩) n n) ∧ w'.ownsRow w.heap.size 31 2 (.slice (some ⟨g, 0, none⟩) n n) n (cellsI zs) ∧ Below w.heap.size w w' := by
  obtain ⟨i0, hi, hz0, hz1, hz2⟩ := info_parts infoS
  have HL := Lib.hid h.1
  go_enter Try.func87, Try.ntmps87
  go_wp2_with (at_make; refine wpList_make_full _ rfl _ _ 40 rfl w.heap.size 31 i0 (.agg #[.int .i64 0, .int .i64 0]) 2 Try.underlying40 hi hz0 hz1 _ _ _ _ n rfl rfl rfl rfl (by rw [hz2]; omega) (by unfold maxLen; omega) (Nat.le_refl _) ?_; intro w1 hown hg)
  have hown0 : w1.ownsRow w.heap.size 31 2 (.slice (some ⟨w.heap.size, 0, none⟩) n n) n (filled zs 0 (n * 2)) := by
    have e : (madeCells (Value.cells (.agg #[.int .i64 0, .int .i64 0])) (n * 2)).toList = filled zs 0 (n * 2) := by
      unfold filled cellsI
      rw [List.take_zero, List.map_nil, List.nil_append, Nat.sub_zero]
      exact made2 n
    rw [← e]; exact hown
  have hb1 : Below w.heap.size w w1 := (Below.refl _ _).grown hg (Nat.le_refl _) (fun k e => by cases e)
  clear hown hg
  go_loopw [4] (fun i wr => ∃ k : Nat, k ≤ n ∧ i = .int .i64 k ∧ Below w.heap.size w wr ∧ wr.ownsRow w.heap.size 31 2 (.slice (some ⟨w.heap.size, 0, none⟩) n n) n (filled zs (k * 2) (n * 2))) (fun i _ => n - (intOf i).toNat)
  case atStart => exact ⟨0, Nat.zero_le _, rfl, hb1, hown0⟩
  case round =>
    obtain ⟨k, hk, rfl, hb, hown⟩ := hrel
    clear hb1 hown0
    by_cases hlt : k < n
    · obtain ⟨b, o, rfl, hbl, hc⟩ := h.at_ hlt
      have q0 : wr.cell? ⟨b, o + k * 2, none⟩ = some (.int .i64 (fld 2 zs k 0)) := (hb.cell (p := ⟨b, o + (k * 2 + 0), none⟩) hbl).trans (hc 0 (by omega))
      have q1 : wr.cell? ⟨b, o + k * 2 + 1, none⟩ = some (.int .i64 (fld 2 zs k 1)) := (hb.cell (p := ⟨b, o + (k * 2 + 1), none⟩) hbl).trans (hc 1 (by omega))
      have hlt2 : (k : Int) < (n : Int) := by omega
      have hz3 : zs.length = n * 2 := HL.out
      have g0 := filled_set (zs := zs) (m := k * 2) (t := n * 2) (by omega) (by omega)
      have f0 : fld 2 zs k 0 = zs.getD (k * 2) 0 := rfl
      rw [← f0] at g0
      have g1 := filled_set (zs := zs) (m := k * 2 + 1) (t := n * 2) (by omega) (by omega)
      have f1 : fld 2 zs k 1 = zs.getD (k * 2 + 1) 0 := rfl
      rw [← f1] at g1
      have hrow : ∀ j, j < n * 2 → ∃ u, (filled zs (k * 2) (n * 2))[j]? = some u := fun j hj => filled_at hz3 hj (by omega)
      have G0 := Lib.hid g0
      have G1 := Lib.hid g1
      have TF := Lib.hid (fun w => toPlace (fld 2 zs k 0) (fld 2 zs k 1) w)
      clear h hc g0 f0 g1 f1 hz3
      generalize fld 2 zs k 0 = x0 at *
      generalize fld 2 zs k 1 = x1 at *
      obtain ⟨u0, hu0⟩ := hrow (k * 2) (by omega)
      obtain ⟨u1, hu1⟩ := hrow (k * 2 + 1) (by omega)
      clear hrow
      go_wp2_with fail
      refine (TF.out _).mono ?_
      rintro e w2 ⟨rfl, hb2⟩
      have hown2 := own_.own_below hown hb2
      have hb3 := hb.trans (hb2.mono hb.size)
      have s0 := (hown2.cellAt (k * 2) (by omega)).trans hu0
      have r0 := hown2.frozenAt (k * 2)
      have s1 := (hown2.cellAt (k * 2 + 1) (by omega)).trans hu1
      have r1 := hown2.frozenAt (k * 2 + 1)
      have st0 := (hown2.stored (k * 2) (.int .i64 x0)).1
      rw [G0.out] at st0
      have st1 := (st0.stored (k * 2 + 1) (.int .i64 x1)).1
      rw [G1.out] at st1
      have ST := Lib.hid st1
      have HB := Lib.hid ((hb3.setCell (p := ⟨w.heap.size, k * 2, none⟩) (Nat.le_refl _) (.int .i64 x0)).setCell (p := ⟨w.heap.size, k * 2 + 1, none⟩) (Nat.le_refl _) (.int .i64 x1))
      clear hown hown2 st0 st1 hb hb2 hb3 q0 hu0 G0 q1 hu1 G1
      go_wp2_with fail
      go_roundw
      case rel => exact ⟨k + 1, by omega, by go_num, HB.out, by rw [show (k + 1) * 2 = k * 2 + 1 + 1 by omega]; exact ST.out⟩
      case measure => simp [intOf]; omega
    · obtain rfl : k = n := by omega
      rw [filled_all HL.out] at hown
      clear h
      go_wp2_with fail
      go_ret
      exact ⟨w.heap.size, rfl, hown, hb⟩

/-- The cells of element k, in the form of the walk. -/
theorem cellsE {w : World} {B n k : Nat} {A : Option Addr} {zs : List Int} (h : RdZ 2 w B A n zs) (hk : k < n) :
    ∃ b o, A = some ⟨b, o, none⟩ ∧ b < B ∧ w.cell? ⟨b, o + k * 2, none⟩ = some (.int .i64 (fld 2 zs k 0)) ∧ w.cell? ⟨b, o + k * 2 + 1, none⟩ = some (.int .i64 (fld 2 zs k 1)) := by
  obtain ⟨b, o, e, hb, hc⟩ := h.at_ hk
  exact ⟨b, o, e, hb, hc 0 (by omega), hc 1 (by omega)⟩

set_option maxRecDepth 100000 in
set_option maxHeartbeats 2000000 in
theorem eqS (zs : List Int) (A C : Option Addr) (n c d : Nat) (w : World) (hn : n ≤ 1048577) (h1 : RdZ 2 w w.heap.size A n zs) (h2 : RdZ 2 w w.heap.size C n zs) :
    Calls Try.prog 94 #[.slice A n c, .slice C n d] w fun e w' => e = .returned (.bool true) ∧ Below w.heap.size w w' := by
  go_enter Try.func94, Try.ntmps94
  go_wp2
  go_loopw [5] (fun i wr => ∃ k : Nat, k ≤ n ∧ i = .int .i64 k ∧ Below w.heap.size w wr) (fun i _ => n - (intOf i).toNat)
  case atStart => exact ⟨0, Nat.zero_le _, rfl, Below.refl _ _⟩
  case round =>
    obtain ⟨k, hk, rfl, hb⟩ := hrel
    by_cases hlt : k < n
    · obtain ⟨b1, o1, rfl, l1, p0, p1⟩ := cellsE (h1.below hb (Nat.le_refl _)) hlt
      obtain ⟨b2, o2, rfl, l2, r0, r1⟩ := cellsE (h2.below hb (Nat.le_refl _)) hlt
      have hlt2 : (k : Int) < (n : Int) := by omega
      have X1 := Lib.hid (fun w d0 os => Calls.regrown_of (eqPlace (fld 2 zs k 0) (fld 2 zs k 1) (Sort.grow (redrawn w d0) os)))
      have HB := Lib.hid hb
      clear h1 h2 hb
      go_wp2_with fail
      have p0' := fun d0 os => cell_regrown p0 d0 os
      have r0' := fun d0 os => cell_regrown r0 d0 os
      have p1' := fun d0 os => cell_regrown p1 d0 os
      have r1' := fun d0 os => cell_regrown r1 d0 os
      clear p0 r0 p1 r1
      refine wp_region_quiet_below (by kernel_rfl) (by kernel_rfl) ?_
      repeat (quiet_step (first
        | (go_at_call 125; with_reducible exact X1.out _ _ _)))
      refine wpQuiet_nil ?_
      intro _ hw'
      obtain ⟨⟨dq, osq⟩, hw''⟩ := hw'
      subst hw''
      have hbq := Lib.hid (HB.out.trans ((below_regrown wr dq osq).mono HB.out.size))
      clear p0' r0' p1' r1'
      generalize Sort.grow (redrawn wr dq) osq = w3 at *
      go_wp2_with fail
      go_roundw
      case rel => exact ⟨k + 1, by omega, by go_num, hbq.out⟩
      case measure => simp [intOf]; omega
    · clear h1 h2
      go_wp2
      go_ret
      exact ⟨rfl, hb⟩

set_option maxRecDepth 100000 in
set_option maxHeartbeats 2000000 in
theorem markS (B : Nat) (A : Option Addr) (k n c : Nat) (xs : List Value) (w : World) (hk : k + n * 2 ≤ 16777216) (h : w.ownsRow B 31 2 (.slice A n c) n xs) :
    Calls Try.prog 52 #[.slice A n c, .int .i64 (k : Int)] w fun e w' => e = .returned (.int .i64 ((k + n * 2 : Nat) : Int)) ∧ Below B w w' ∧ w.grownBy w' (Value.slice A n c).ownBlock ∧ w'.ownsRow B 31 2 (.slice A n c) n (cellsI (marksI k (n * 2))) := by
  have hl : xs.length = n * 2 := by have := h.1; omega
  go_enter Try.func52, Try.ntmps52
  go_wp2
  go_loopw [1, 5] (fun q i wr => ∃ j : Nat, j ≤ n ∧ i = .int .i64 j ∧ q = .int .i64 ((k + j * 2 : Nat) : Int) ∧ Below B w wr ∧ wr.ownsRow B 31 2 (.slice A n c) n (half k (j * 2) xs) ∧ w.grownBy wr (Value.slice A n c).ownBlock) (fun _ i _ => n - (intOf i).toNat)
  case atStart => exact ⟨0, Nat.zero_le _, rfl, rfl, Below.refl _ _, by rw [Nat.zero_mul, half_zero]; exact h, grown_refl _ _⟩
  case round =>
    obtain ⟨j, hj, rfl, rfl, hb, hown, hgr⟩ := hrel
    by_cases hlt : j < n
    · have hform : ∃ g, A = some ⟨g, 0, none⟩ ∧ B ≤ g := by
        rcases hown.2 with ⟨_, h0⟩ | ⟨g, _, _, hv, hg, _⟩
        · omega
        · injection hv with hA; exact ⟨g, hA, hg⟩
      obtain ⟨g, rfl, hBg⟩ := hform
      obtain ⟨u0, hu0⟩ : ∃ u, (half k (j * 2) xs)[j * 2]? = some u := ⟨_, List.getElem?_eq_getElem (by rw [half_length (by omega)]; omega)⟩
      have f0 := half_set (k := k) (xs := xs) (j := j * 2) (by omega)
      obtain ⟨u1, hu1⟩ : ∃ u, (half k (j * 2) xs)[j * 2 + 1]? = some u := ⟨_, List.getElem?_eq_getElem (by rw [half_length (by omega)]; omega)⟩
      have f1 := half_set (k := k) (xs := xs) (j := j * 2 + 1) (by omega)
      have hlt2 : (j : Int) < (n : Int) := by omega
      have e1 : ((k + (j * 2 + 1) : Nat) : Int) = ((k + j * 2 : Nat) : Int) + 1 := by omega
      rw [e1] at f1
      have HGR := Lib.hid (show w.grownBy wr (some g) from hgr)
      have E3 := Lib.hid (show ((k + (j + 1) * 2 : Nat) : Int) = ((k + j * 2 : Nat) : Int) + 1 + 1 by omega)
      have HL := Lib.hid hl
      have b1 : ((k + j * 2 : Nat) : Int) ≤ 16777216 := by omega
      have b0 : (0 : Int) ≤ ((k + j * 2 : Nat) : Int) := by omega
      have s0 := (hown.cellAt (j * 2) (by omega)).trans hu0
      have r0 := hown.frozenAt (j * 2)
      have s1 := (hown.cellAt (j * 2 + 1) (by omega)).trans hu1
      have r1 := hown.frozenAt (j * 2 + 1)
      have st0 := (hown.stored (j * 2) (.int .i64 ((k + j * 2 : Nat) : Int))).1
      rw [f0] at st0
      have st1 := (st0.stored (j * 2 + 1) (.int .i64 (((k + j * 2 : Nat) : Int) + 1))).1
      rw [f1] at st1
      have ST := Lib.hid st1
      have HB := Lib.hid ((hb.setCell (p := ⟨g, j * 2, none⟩) hBg (.int .i64 ((k + j * 2 : Nat) : Int))).setCell (p := ⟨g, j * 2 + 1, none⟩) hBg (.int .i64 (((k + j * 2 : Nat) : Int) + 1)))
      have HG3 := Lib.hid (grown_set (grown_set HGR.out (j * 2) (.int .i64 ((k + j * 2 : Nat) : Int))) (j * 2 + 1) (.int .i64 (((k + j * 2 : Nat) : Int) + 1)))
      clear hgr HGR h hl hown hb st0 hu0 f0 st1 hu1 f1 e1
      generalize ((k + j * 2 : Nat) : Int) = m at *
      go_wp2_with fail
      go_roundw
      case rel => exact ⟨j + 1, by omega, by go_num, by rw [E3.out], HB.out, by rw [show (j + 1) * 2 = j * 2 + 1 + 1 by omega]; exact ST.out, HG3.out⟩
      case measure => simp [intOf]; omega
    · obtain rfl : j = n := by omega
      clear h
      go_wp2
      go_ret
      exact ⟨rfl, hb, hgr, by rw [← half_all (xs := xs) (by omega)]; exact hown⟩

theorem marks_rd {w : World} {B n c : Nat} {A : Option Addr} {k : Nat} (h : w.ownsRow B 31 2 (.slice A n c) n (cellsI (marksI k (n * 2)))) : RdZ 2 w w.heap.size A n (marksI k (n * 2)) :=
  RdZ.of_own h (marksI_length k (n * 2))
end Go.Proofs.Ytkndfklbonkbiaa.plce
