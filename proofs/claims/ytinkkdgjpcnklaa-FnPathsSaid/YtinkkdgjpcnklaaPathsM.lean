/- For every code of at most 65536 bytes (and trivially for a longer one) the law FnPaths returns true: paths, minutes of leaving, sides and heights are those of the model; a path has at least one cell and at most one a minute, no two alike in a row, and ends before the minute at which it leaves; the place of a motion is on its course; heights are exact fractions. No condition of mine. -/
import Derived.Test.YtinkkdgjpcnklaaMot
import Derived.Test.YtinkkdgjpcnklaaLst
import Derived.Test.YtinkkdgjpcnklaaOwn
import Derived.Test.YtinkkdgjpcnklaaAtS
import Derived.Laws.OwnMore
import Derived.Laws.IdiomCopy
import Derived.Lib.SliceRun
import Derived.BigQuiet
import Derived.Deep.QuietTactic
import Derived.Test.YtinkkdgjpcnklaaMotC
import Derived.Test.YtinkkdgjpcnklaaTailH
import Derived.Test.YtinkkdgjpcnklaaPlcE
import Derived.Lib.QuietBelow
import Derived.Deep.CutRange
import Derived.WalkKit
import Derived.Test.YtinkkdgjpcnklaaRows
import Derived.Test.YtinkkdgjpcnklaaDrawU16
import Derived.Test.YtinkkdgjpcnklaaMotM
import Derived.Test.YtinkkdgjpcnklaaMotA
import Derived.Test.YtinkkdgjpcnklaaMotS
import Derived.Test.YtinkkdgjpcnklaaCode
import Derived.ProofKit
import Derived.OpenShut
import Derived.ShutString
import Derived.ChangeOld
import Derived.Below
import Derived.Deep.RegionHeld3
import Derived.Deep.CutBlock

/- slices.Compact at a slice of places that the call owns. -/
namespace Go.Proofs.Ytinkkdgjpcnklaa.motk
open Go.RowKit Go.Proofs.Ytinkkdgjpcnklaa.ints Go.Proofs.Ytinkkdgjpcnklaa.lst Go.Proofs.Ytinkkdgjpcnklaa.mot

/-- What lies in the row when m elements have been looked at. -/
def ct (zs : List Int) (m : Nat) : List Int := cp (fun i => fld 2 zs i 0) (fun i => fld 2 zs i 1) m ++ zs.drop (cpN (fun i => fld 2 zs i 0) (fun i => fld 2 zs i 1) m * 2)
abbrev cl (zs : List Int) (m : Nat) : List Int := cp (fun i => fld 2 zs i 0) (fun i => fld 2 zs i 1) m
abbrev cn (zs : List Int) (m : Nat) : Nat := cpN (fun i => fld 2 zs i 0) (fun i => fld 2 zs i 1) m
theorem ct_length {zs : List Int} {n m : Nat} (hz : zs.length = n * 2) (hm : m ≤ n) : (ct zs m).length = n * 2 := by
  have h1 := cp_length (fun i => fld 2 zs i 0) (fun i => fld 2 zs i 1) m
  have h2 := cpN_le (fun i => fld 2 zs i 0) (fun i => fld 2 zs i 1) m
  unfold ct
  rw [List.length_append, List.length_drop, h1, hz]
  omega
theorem ct_high {zs : List Int} {m i j : Nat} (hi : cn zs m ≤ i) : fld 2 (ct zs m) i j = fld 2 zs i j := by
  have h1 := cp_length (fun i => fld 2 zs i 0) (fun i => fld 2 zs i 1) m
  have hi2 : cpN (fun i => fld 2 zs i 0) (fun i => fld 2 zs i 1) m ≤ i := hi
  unfold fld ct
  rw [List.getD_eq_getElem?_getD, List.getD_eq_getElem?_getD, List.getElem?_append_right (by rw [h1]; omega), List.getElem?_drop, h1]
  congr 2
  omega
theorem ct_low {zs : List Int} {m : Nat} : (ct zs m).take (cn zs m * 2) = cl zs m := by
  have h1 := cp_length (fun i => fld 2 zs i 0) (fun i => fld 2 zs i 1) m
  unfold ct
  rw [← h1, List.take_left]
theorem drop_two {zs : List Int} {k : Nat} (hk : k * 2 + 1 < zs.length) : ∃ a b : Int, zs.drop (k * 2) = a :: b :: zs.drop (k * 2 + 2) := by
  refine ⟨zs[k * 2], zs[k * 2 + 1], ?_⟩
  rw [List.drop_eq_getElem_cons (by omega), List.drop_eq_getElem_cons (i := k * 2 + 1) hk]
theorem set_two {P Q : List Int} {a b a' b' : Int} {k : Nat} (hP : P.length = k * 2) : ((P ++ a' :: b' :: Q).set (k * 2) a).set (k * 2 + 1) b = P ++ [a, b] ++ Q := by
  rw [List.set_append_right _ _ (by omega), hP, Nat.sub_self, List.set_cons_zero, List.set_append_right _ _ (by omega), hP, show k * 2 + 1 - k * 2 = 1 by omega]
  simp
theorem ct_keep {zs : List Int} {n m : Nat} (hz : zs.length = n * 2) (hm : m < n) (h : ¬ (0 < m ∧ fld 2 zs m 0 = fld 2 zs (m - 1) 0 ∧ fld 2 zs m 1 = fld 2 zs (m - 1) 1)) :
    cn zs (m + 1) = cn zs m + 1 ∧ ct zs (m + 1) = ((ct zs m).set (cn zs m * 2) (fld 2 zs m 0)).set (cn zs m * 2 + 1) (fld 2 zs m 1) := by
  obtain ⟨e1, e2⟩ := cp_new (f := fun i => fld 2 zs i 0) (g := fun i => fld 2 zs i 1) h
  have h1 := cp_length (fun i => fld 2 zs i 0) (fun i => fld 2 zs i 1) m
  have h2 := cpN_le (fun i => fld 2 zs i 0) (fun i => fld 2 zs i 1) m
  refine ⟨e2, ?_⟩
  obtain ⟨a, b, hd⟩ := drop_two (zs := zs) (k := cpN (fun i => fld 2 zs i 0) (fun i => fld 2 zs i 1) m) (by omega)
  unfold ct
  rw [e1, e2, hd, set_two h1, Nat.add_mul]
theorem ct_skip {zs : List Int} {m : Nat} (h : 0 < m ∧ fld 2 zs m 0 = fld 2 zs (m - 1) 0 ∧ fld 2 zs m 1 = fld 2 zs (m - 1) 1) : cn zs (m + 1) = cn zs m ∧ ct zs (m + 1) = ct zs m := by
  obtain ⟨e1, e2⟩ := cp_same (f := fun i => fld 2 zs i 0) (g := fun i => fld 2 zs i 1) h
  refine ⟨e2, ?_⟩
  unfold ct
  rw [e1, e2]
/-- As long as no two are alike nothing has changed. -/
theorem all_new {zs : List Int} {n : Nat} (hz : zs.length = n * 2) : ∀ m, m ≤ n → (∀ i, 0 < i → i < m → ¬ (fld 2 zs i 0 = fld 2 zs (i - 1) 0 ∧ fld 2 zs i 1 = fld 2 zs (i - 1) 1)) → cn zs m = m ∧ cl zs m = zs.take (m * 2)
  | 0, _, _ => ⟨rfl, by simp [cl, cp]⟩
  | m + 1, hm, h => by
    obtain ⟨i1, i2⟩ := all_new hz m (by omega) (fun i h0 hi => h i h0 (by omega))
    obtain ⟨e1, e2⟩ := cp_new (f := fun i => fld 2 zs i 0) (g := fun i => fld 2 zs i 1) (k := m) (fun hh => h m hh.1 (by omega) hh.2)
    refine ⟨by show cpN _ _ (m + 1) = _; rw [e2]; exact congrArg (· + 1) i1, ?_⟩
    show cp _ _ (m + 1) = _
    rw [e1]
    have i2' : cp (fun i => fld 2 zs i 0) (fun i => fld 2 zs i 1) m = zs.take (m * 2) := i2
    rw [i2']
    have a0 : m * 2 < zs.length := by omega
    have a1 : m * 2 + 1 < zs.length := by omega
    rw [show (m + 1) * 2 = m * 2 + 1 + 1 by omega, List.take_succ_eq_append_getElem a1, List.take_succ_eq_append_getElem a0, List.append_assoc]
    congr 1
    unfold fld
    rw [List.getD_eq_getElem?_getD, List.getD_eq_getElem?_getD, Nat.add_zero, List.getElem?_eq_getElem a0, List.getElem?_eq_getElem a1]
    rfl
theorem ct_new {zs : List Int} {n m : Nat} (hz : zs.length = n * 2) (hm : m ≤ n) (h : ∀ i, 0 < i → i < m → ¬ (fld 2 zs i 0 = fld 2 zs (i - 1) 0 ∧ fld 2 zs i 1 = fld 2 zs (i - 1) 1)) : ct zs m = zs := by
  obtain ⟨e1, e2⟩ := all_new hz m hm h
  have e1' : cpN (fun i => fld 2 zs i 0) (fun i => fld 2 zs i 1) m = m := e1
  have e2' : cp (fun i => fld 2 zs i 0) (fun i => fld 2 zs i 1) m = zs.take (m * 2) := e2
  unfold ct
  rw [e1', e2', List.take_append_drop]

section
variable {w : World} {B g n c : Nat} {zs : List Int}
theorem cells_set (zs : List Int) (j : Nat) (x : Int) : (cellsI zs).set j (.int .i64 x) = cellsI (zs.set j x) := by unfold cellsI; rw [List.map_set]
theorem own_cell (h : w.ownsRow B 25 2 (.slice (some ⟨g, 0, none⟩) n c) n (cellsI zs)) (hz : zs.length = n * 2) {i j : Nat} (hi : i < n) (hj : j < 2) : w.cell? ⟨g, i * 2 + j, none⟩ = some (.int .i64 (fld 2 zs i j)) := by
  have hl : i * 2 + j < zs.length := by omega
  rw [h.cellAt (i * 2 + j) (by omega)]
  unfold cellsI fld
  rw [List.getElem?_map, List.getD_eq_getElem?_getD, List.getElem?_eq_getElem hl]
  rfl
theorem own_two (h : w.ownsRow B 25 2 (.slice (some ⟨g, 0, none⟩) n c) n (cellsI zs)) (i : Nat) (a b : Int) :
    ((w.setCell ⟨g, i * 2, none⟩ (.int .i64 a)).setCell ⟨g, i * 2 + 1, none⟩ (.int .i64 b)).ownsRow B 25 2 (.slice (some ⟨g, 0, none⟩) n c) n (cellsI ((zs.set (i * 2) a).set (i * 2 + 1) b)) ∧ w.grownBy ((w.setCell ⟨g, i * 2, none⟩ (.int .i64 a)).setCell ⟨g, i * 2 + 1, none⟩ (.int .i64 b)) (some g) := by
  obtain ⟨h1, g1⟩ := h.stored (i * 2) (.int .i64 a)
  obtain ⟨h2, -⟩ := h1.stored (i * 2 + 1) (.int .i64 b)
  rw [cells_set, cells_set] at h2
  exact ⟨h2, grown_set g1 _ _⟩
/-- The row cut to its first k elements. -/
theorem own_cut {xs : List Value} (h : w.ownsRow B 25 2 (.slice (some ⟨g, 0, none⟩) n c) n xs) {k : Nat} (hk : k ≤ n) : w.ownsRow B 25 2 (.slice (some ⟨g, 0, none⟩) k c) k (xs.take (k * 2)) := by
  rcases h with ⟨hl, ⟨h', _⟩ | ⟨g', cap', cur, h', hb, hg, hnc, hcm, hcs, htake⟩⟩
  · simp at h'
  · simp only [Value.slice.injEq, Option.some.injEq, Addr.mk.injEq, and_true, true_and] at h'
    obtain ⟨rfl, rfl⟩ := h'
    refine ⟨by rw [List.length_take, hl]; omega, .inr ⟨g, c, cur, rfl, hb, hg, by omega, hcm, hcs, ?_⟩⟩
    rw [← htake, List.take_take, Nat.min_eq_left (by omega)]
theorem own_caps {xs : List Value} (h : w.ownsRow B 25 2 (.slice (some ⟨g, 0, none⟩) n c) n xs) : n ≤ c ∧ c ≤ maxLen ∧ B ≤ g := by
  rcases h.2 with ⟨h', _⟩ | ⟨g', cap', cur, h', hb, hg, hnc, hcm, hcs, htake⟩
  · simp at h'
  · simp only [Value.slice.injEq, Option.some.injEq, Addr.mk.injEq, and_true, true_and] at h'
    obtain ⟨rfl, rfl⟩ := h'
    exact ⟨hnc, hcm, hb⟩
/-- Many cells set from o on leave what is ahead of o. -/
theorem own_sets : ∀ (vs : List Value) (o : Nat) (w : World) (xs : List Value), w.ownsRow B 25 2 (.slice (some ⟨g, 0, none⟩) n c) n xs →
    ∃ ys, (w.setCells g o vs).ownsRow B 25 2 (.slice (some ⟨g, 0, none⟩) n c) n ys ∧ ys.take o = xs.take o ∧ w.grownBy (w.setCells g o vs) (some g)
  | [], o, w, xs, h => ⟨xs, h, rfl, grown_refl w _⟩
  | v :: r, o, w, xs, h => by
    obtain ⟨h1, g1⟩ := h.stored o v
    obtain ⟨ys, h2, e, g2⟩ := own_sets r (o + 1) _ _ h1
    refine ⟨ys, h2, ?_, g1.trans g2⟩
    have e1 := congrArg (List.take o) e
    rw [List.take_take, List.take_take, Nat.min_eq_left (by omega)] at e1
    rw [e1, List.take_set_of_le (Nat.le_refl o)]
theorem clear_run (t e ty : TypeId) (zc : Array Value) (P : Program) (ht : P.underlying t = some (.slice e)) (hv : ∀ w, (zeroValue e).run P w = .ok (.agg zc) w) (hz : zc.size = 2) (h1 : ∀ v ∈ (Builtin.zeroCells zc (n : Nat)).toList, v.oneCell' = true) (b o cc : Nat) (hn : 0 < n)
    (hc : ∀ j, j < n * 2 → (w.cell? ⟨b, o + j, none⟩).isSome = true) (hf : ∀ j, j < n * 2 → w.frozen? ⟨b, o + j, none⟩ = false) :
    (Builtin.clear_ #[t] ty #[.slice (some ⟨b, o, none⟩) n cc]).run P w = .ok (.tuple #[]) (w.setCells b o (Builtin.zeroCells zc n).toList) := by
  have hl : (Builtin.zeroCells zc n).toList.length = n * 2 := by simp [Builtin.zeroCells, hz]
  have hst := run_storeCells_cells (P := P) b o (Builtin.zeroCells zc n).toList 0 w (by rw [hl]; simpa using hc) (by rw [hl]; simpa using hf) h1
  simp only [Nat.add_zero] at hst
  obtain ⟨m, rfl⟩ : ∃ m, n = m + 1 := ⟨n - 1, by omega⟩
  have hcs : (Value.agg zc).cells = zc := rfl
  simp [Builtin.clear_, run_underlying ht, hv, hcs, hst]
end
theorem zero_place (w : World) : (zeroValue 25).run Try.prog w = .ok (.agg #[.int .i64 0, .int .i64 0]) w := by kernel_rfl
theorem zeros_one (n : Nat) : ∀ v ∈ (Builtin.zeroCells #[.int .i64 0, .int .i64 0] n).toList, v.oneCell' = true := by
  intro v hv
  simp only [Builtin.zeroCells, Array.toList_map, List.mem_map] at hv
  obtain ⟨i, -, rfl⟩ := hv
  have : i % 2 = 0 ∨ i % 2 = 1 := by omega
  rcases this with h | h <;> (show (#[Value.int .i64 0, .int .i64 0][i % 2]!).oneCell' = true) <;> rw [h] <;> rfl

set_option maxRecDepth 100000 in
set_option maxHeartbeats 4000000 in
theorem compact (B g n c : Nat) (zs : List Int) (w : World) (hz : zs.length = n * 2) (hn : n ≤ 1048577) (hO : w.ownsRow B 25 2 (.slice (some ⟨g, 0, none⟩) n c) n (cellsI zs)) :
    Calls Try.prog 68 #[.slice (some ⟨g, 0, none⟩) n c] w fun e w' => e = .returned (.slice (some ⟨g, 0, none⟩) (cn zs n) c) ∧ w'.ownsRow B 25 2 (.slice (some ⟨g, 0, none⟩) (cn zs n) c) (cn zs n) (cellsI (cl zs n)) ∧ w.grownBy w' (some g) := by
  obtain ⟨hcn, hcm, hBg⟩ := own_caps hO
  have HB := Lib.hid hBg
  clear hBg
  have HO := Lib.hid hO
  have HZ := Lib.hid hz
  clear hO hz
  have HSAME := Lib.hid (fun (h : ∀ i, 0 < i → i < n → ¬ (fld 2 zs i 0 = fld 2 zs (i - 1) 0 ∧ fld 2 zs i 1 = fld 2 zs (i - 1) 1)) => (show cn zs n = n ∧ cl zs n = zs from ⟨(all_new HZ.out n (Nat.le_refl n) h).1, by rw [(all_new HZ.out n (Nat.le_refl n) h).2, ← HZ.out, List.take_length]⟩))
  by_cases h2 : n < 2
  · have HS := Lib.hid (HSAME.out (fun i h0 hi => by omega))
    have hn2 : (n : Int) < 2 := by omega
    go_enter Try.func68, Try.ntmps68
    go_wp2_with fail
    go_ret
    exact ⟨by rw [HS.out.1]; rfl, by rw [HS.out.1, HS.out.2]; exact HO.out, grown_refl _ _⟩
  have hn2 : ¬ (n : Int) < 2 := by omega
  go_enter Try.func68, Try.ntmps68
  go_wp2_with fail
  go_loopw [3] (fun i wr => ∃ k q : Nat, 1 ≤ k ∧ k ≤ n ∧ i = .int .i64 k ∧ wr = w.drewN q ∧ ∀ i, 0 < i → i < k → ¬ (fld 2 zs i 0 = fld 2 zs (i - 1) 0 ∧ fld 2 zs i 1 = fld 2 zs (i - 1) 1)) (fun i _ => n - (intOf i).toNat)
  case atStart => exact ⟨1, 0, Nat.le_refl _, by omega, rfl, rfl, fun i h0 h1 => by omega⟩
  case round =>
    obtain ⟨k, q, hk1, hk, rfl, hwr, hall⟩ := hrel
    have HA := Lib.hid hall
    have HG := Lib.hid (show w.grownBy wr (some g) from by rw [hwr]; exact grown_drewN w _ q)
    have OW := Lib.hid (show wr.ownsRow B 25 2 (.slice (some ⟨g, 0, none⟩) n c) n (cellsI zs) from by rw [hwr]; exact own_.own_drewN HO.out q)
    have HQ := Lib.hid hwr
    clear hall hwr
    by_cases hlt : k < n
    · have hlt2 : (k : Int) < (n : Int) := by omega
      obtain ⟨j, hj⟩ : ∃ j, j + 1 = k := ⟨k - 1, by omega⟩
      have hj1 : k - 1 = j := by omega
      have e0 : IntKind.i64.wrap ((k : Int) - 1) = (j : Int) := by rw [IntWalk.i64_in _ (by omega)]; omega
      have HJ := Lib.hid hj
      have hjn : j < n := by omega
      have hjn2 : (j : Int) < (n : Int) := by omega
      clear hj
      have a0 : wr.cell? ⟨g, k * 2, none⟩ = some (.int .i64 (fld 2 zs k 0)) := own_cell OW.out HZ.out hlt (j := 0) (by omega)
      have a1 : wr.cell? ⟨g, k * 2 + 1, none⟩ = some (.int .i64 (fld 2 zs k 1)) := own_cell OW.out HZ.out hlt (j := 1) (by omega)
      have b0 : wr.cell? ⟨g, j * 2, none⟩ = some (.int .i64 (fld 2 zs j 0)) := own_cell OW.out HZ.out hjn (j := 0) (by omega)
      have b1 : wr.cell? ⟨g, j * 2 + 1, none⟩ = some (.int .i64 (fld 2 zs j 1)) := own_cell OW.out HZ.out hjn (j := 1) (by omega)
      by_cases hd : fld 2 zs k 0 = fld 2 zs j 0 ∧ fld 2 zs k 1 = fld 2 zs j 1
      · have CK := Lib.hid (ct_skip (zs := zs) (m := k) (by rw [hj1]; exact ⟨by omega, hd⟩))
        have CA := Lib.hid (all_new HZ.out k (by omega) HA.out)
        have CN := Lib.hid (ct_new HZ.out (by omega) HA.out)
        rw [hd.1] at a0
        rw [hd.2] at a1
        clear hd hj1
        generalize fld 2 zs j 0 = x0 at *
        generalize fld 2 zs j 1 = x1 at *
        have hck : ¬ c = k := by omega
        have e2 : IntKind.i64.wrap ((n : Int) - (k : Int)) = ((n - k : Nat) : Int) := by rw [IntWalk.i64_in _ (by omega)]; omega
        go_wp2_with fail
        go_quiet (fail)
        have OW2 := Lib.hid (own_.own_drewN OW.out nq)
        have HG2 := Lib.hid (HG.out.trans (grown_drewN wr (some g) nq))
        generalize wr.drewN nq = wq at *
        clear a0 a1 b0 b1 OW HG HQ
        go_wp2_with fail
        clear wr
        go_loopw [3, 5] (fun i3 i5 wr => ∃ kk k2 : Nat, i3 = .int .i64 kk ∧ i5 = .int .i64 k2 ∧ 1 ≤ k2 ∧ k + k2 ≤ n ∧ cn zs (k + k2) = kk ∧ kk < k + k2 ∧ wr.ownsRow B 25 2 (.slice (some ⟨g, 0, none⟩) n c) n (cellsI (ct zs (k + k2))) ∧ w.grownBy wr (some g)) (fun _ i5 _ => n - (intOf i5).toNat)
        case atStart => exact ⟨k, 1, rfl, rfl, Nat.le_refl _, by omega, by rw [CK.out.1]; exact CA.out.1, by omega, by rw [CK.out.2, CN.out]; exact OW2.out, HG2.out⟩
        case round =>
          obtain ⟨kk, k2, rfl, rfl, hk2, hle, hcnk, hkk, ho, hg⟩ := hrel
          have OW3 := Lib.hid ho
          have HG3 := Lib.hid hg
          have HC := Lib.hid hcnk
          have HL := Lib.hid (ct_length (m := k + k2) HZ.out hle)
          clear ho hg hcnk CK CA CN OW2 HG2
          by_cases hlt3 : k + k2 < n
          · obtain ⟨j2, hj2⟩ : ∃ j2, j2 + 1 = k2 := ⟨k2 - 1, by omega⟩
            have e3 : IntKind.i64.wrap ((k2 : Int) - 1) = (j2 : Int) := by rw [IntWalk.i64_in _ (by omega)]; omega
            have hb1 : (k2 : Int) < ((n - k : Nat) : Int) := by omega
            have hb2 : (j2 : Int) < ((n - k : Nat) : Int) := by omega
            have hm1 : k + k2 - 1 = k + j2 := by omega
            have hj3 : kk ≤ k + j2 := by omega
            have HJ2 := Lib.hid hj2
            clear hj2
            have a0 : wr.cell? ⟨g, k * 2 + k2 * 2, none⟩ = some (.int .i64 (fld 2 zs (k + k2) 0)) := by
              rw [← ct_high (zs := zs) (m := k + k2) (j := 0) (by rw [HC.out]; omega), ← Nat.add_mul]; exact own_cell OW3.out HL.out hlt3 (j := 0) (by omega)
            have a1 : wr.cell? ⟨g, k * 2 + k2 * 2 + 1, none⟩ = some (.int .i64 (fld 2 zs (k + k2) 1)) := by
              rw [← ct_high (zs := zs) (m := k + k2) (j := 1) (by rw [HC.out]; omega), ← Nat.add_mul]; exact own_cell OW3.out HL.out hlt3 (j := 1) (by omega)
            have b0 : wr.cell? ⟨g, k * 2 + j2 * 2, none⟩ = some (.int .i64 (fld 2 zs (k + j2) 0)) := by
              rw [← ct_high (zs := zs) (m := k + k2) (j := 0) (by rw [HC.out]; exact hj3), ← Nat.add_mul]; exact own_cell OW3.out HL.out (by omega) (j := 0) (by omega)
            have b1 : wr.cell? ⟨g, k * 2 + j2 * 2 + 1, none⟩ = some (.int .i64 (fld 2 zs (k + j2) 1)) := by
              rw [← ct_high (zs := zs) (m := k + k2) (j := 1) (by rw [HC.out]; exact hj3), ← Nat.add_mul]; exact own_cell OW3.out HL.out (by omega) (j := 1) (by omega)
            by_cases hd : fld 2 zs (k + k2) 0 = fld 2 zs (k + j2) 0 ∧ fld 2 zs (k + k2) 1 = fld 2 zs (k + j2) 1
            · have CK := Lib.hid (ct_skip (zs := zs) (m := k + k2) (by rw [hm1]; exact ⟨by omega, hd⟩))
              rw [hd.1] at a0
              rw [hd.2] at a1
              have q0 : (fld 2 zs (k + j2) 0 != fld 2 zs (k + j2) 0) = false := by simp
              have q1 : (fld 2 zs (k + j2) 1 != fld 2 zs (k + j2) 1) = false := by simp
              clear hd hm1
              generalize fld 2 zs (k + j2) 0 = y0 at *
              generalize fld 2 zs (k + j2) 1 = y1 at *
              go_wp2_with fail
              go_quiet (fail)
              go_wp2_with fail
              go_roundw
              case rel => exact ⟨kk, k2 + 1, rfl, by go_num, by omega, by omega, CK.out.1.trans HC.out, by omega, by rw [show k + (k2 + 1) = k + k2 + 1 from rfl, CK.out.2]; exact own_.own_drewN OW3.out _, HG3.out.trans (grown_drewN _ _ _)⟩
              case measure => simp [intOf]; omega
            · have CK := Lib.hid (ct_keep (zs := zs) (m := k + k2) HZ.out hlt3 (by rw [hm1]; exact fun h => hd h.2))
              have o0 : wr.cell? ⟨g, kk * 2, none⟩ = some (.int .i64 (fld 2 (ct zs (k + k2)) kk 0)) := own_cell OW3.out HL.out (by omega) (j := 0) (by omega)
              have o1 : wr.cell? ⟨g, kk * 2 + 1, none⟩ = some (.int .i64 (fld 2 (ct zs (k + k2)) kk 1)) := own_cell OW3.out HL.out (by omega) (j := 1) (by omega)
              have f0 := OW3.out.frozenAt (kk * 2)
              have f1 := OW3.out.frozenAt (kk * 2 + 1)
              have hkn : (kk : Int) < (n : Int) := by omega
              have OT := Lib.hid (fun (wq : World) (h : wq.ownsRow B 25 2 (.slice (some ⟨g, 0, none⟩) n c) n (cellsI (ct zs (k + k2)))) => own_two h kk (fld 2 zs (k + k2) 0) (fld 2 zs (k + k2) 1))
              rw [HC.out] at CK
              rw [← CK.out.2] at OT
              generalize fld 2 (ct zs (k + k2)) kk 0 = z0 at *
              generalize fld 2 (ct zs (k + k2)) kk 1 = z1 at *
              by_cases hd0 : fld 2 zs (k + k2) 0 = fld 2 zs (k + j2) 0
              · have hd1 : ¬ fld 2 zs (k + k2) 1 = fld 2 zs (k + j2) 1 := fun h => hd ⟨hd0, h⟩
                have q1 : (fld 2 zs (k + k2) 1 != fld 2 zs (k + j2) 1) = true := by simpa using hd1
                have q2 : (fld 2 zs (k + k2) 1 == fld 2 zs (k + j2) 1) = false := by simpa using hd1
                rw [hd0] at a0 OT
                clear hd hd0 hd1 hm1
                generalize fld 2 zs (k + j2) 0 = y0 at *
                generalize fld 2 zs (k + j2) 1 = y1 at *
                generalize fld 2 zs (k + k2) 1 = x3 at *
                go_wp2_with fail
                go_quiet (fail)
                go_wp2_with fail
                go_roundw
                case rel => exact ⟨kk + 1, k2 + 1, by go_num, by go_num, by omega, by omega, CK.out.1, by omega, (OT.out _ (own_.own_drewN OW3.out _)).1, (HG3.out.trans (grown_drewN _ _ _)).trans (OT.out _ (own_.own_drewN OW3.out _)).2⟩
                case measure => simp [intOf]; omega
              · have q1 : (fld 2 zs (k + k2) 0 != fld 2 zs (k + j2) 0) = true := by simpa using hd0
                have q2 : (fld 2 zs (k + k2) 0 == fld 2 zs (k + j2) 0) = false := by simpa using hd0
                clear hd hd0 hm1
                generalize fld 2 zs (k + j2) 0 = y0 at *
                generalize fld 2 zs (k + j2) 1 = y1 at *
                generalize fld 2 zs (k + k2) 0 = x2 at *
                generalize fld 2 zs (k + k2) 1 = x3 at *
                go_wp2_with fail
                go_quiet (fail)
                go_wp2_with fail
                go_roundw
                case rel => exact ⟨kk + 1, k2 + 1, by go_num, by go_num, by omega, by omega, CK.out.1, by omega, (OT.out _ (own_.own_drewN OW3.out _)).1, (HG3.out.trans (grown_drewN _ _ _)).trans (OT.out _ (own_.own_drewN OW3.out _)).2⟩
                case measure => simp [intOf]; omega
          · have hend : k + k2 = n := by omega
            have hge : ¬ (k2 : Int) < ((n - k : Nat) : Int) := by omega
            rw [hend] at OW3 HC HL hkk
            have hckk : ¬ c = kk := by omega
            have hkn : (kk : Int) ≤ (n : Int) := by omega
            have hcl : ∀ ty, (Builtin.clear_ #[43] ty #[.slice (some ⟨g, kk * 2, none⟩) (n - kk) (c - kk)]).run Try.prog wr = .ok (.tuple #[]) (wr.setCells g (kk * 2) (Builtin.zeroCells #[.int .i64 0, .int .i64 0] (n - kk)).toList) :=
              fun ty => clear_run _ 25 ty #[.int .i64 0, .int .i64 0] Try.prog Try.underlying43 zero_place rfl (zeros_one _) g (kk * 2) (c - kk) (by omega) (fun j hj => by
                rw [OW3.out.cellAt (kk * 2 + j) (by omega)]
                unfold cellsI
                rw [List.getElem?_map, List.getElem?_eq_getElem (by rw [HL.out]; omega)]
                rfl) (fun j hj => OW3.out.frozenAt _)
            obtain ⟨ys, hs1, hs2, hs3⟩ := own_sets (Builtin.zeroCells #[.int .i64 0, .int .i64 0] (n - kk)).toList (kk * 2) wr _ OW3.out
            have E1 := Lib.hid (own_cut hs1 (k := kk) (by omega))
            have E2 := Lib.hid hs2
            have E3 := Lib.hid hs3
            clear hs1 hs2 hs3 hend
            generalize wr.setCells g (kk * 2) (Builtin.zeroCells #[.int .i64 0, .int .i64 0] (n - kk)).toList = W9 at *
            go_wp2_with fail
            go_ret
            refine ⟨by rw [HC.out]; rfl, ?_, HG3.out.trans E3.out⟩
            have e1 := E1.out
            rw [E2.out, ← HC.out] at e1
            rw [show (cellsI (ct zs n)).take (cn zs n * 2) = cellsI (cl zs n) from by unfold cellsI; rw [← List.map_take, ct_low]] at e1
            exact e1
      · have HNEW := Lib.hid (show ∀ i, 0 < i → i < k + 1 → ¬ (fld 2 zs i 0 = fld 2 zs (i - 1) 0 ∧ fld 2 zs i 1 = fld 2 zs (i - 1) 1) from fun i h0 hi => by
          by_cases e : i = k
          · subst e; rw [hj1]; exact hd
          · exact HA.out i h0 (by omega))
        by_cases hd0 : fld 2 zs k 0 = fld 2 zs j 0
        · have hd1 : ¬ fld 2 zs k 1 = fld 2 zs j 1 := fun h => hd ⟨hd0, h⟩
          have q1 : (fld 2 zs k 1 == fld 2 zs j 1) = false := by simpa using hd1
          rw [hd0] at a0
          clear hd hd0 hd1 hj1
          generalize fld 2 zs j 0 = x0 at *
          generalize fld 2 zs j 1 = x1 at *
          generalize fld 2 zs k 1 = y1 at *
          go_wp2_with fail
          go_quiet (fail)
          go_wp2_with fail
          go_roundw
          case rel => exact ⟨k + 1, q + nq, by omega, by omega, by go_num, by rw [HQ.out, World.drewN_drewN], HNEW.out⟩
          case measure => simp [intOf]; omega
        · have q0 : (fld 2 zs k 0 == fld 2 zs j 0) = false := by simpa using hd0
          clear hd hd0 hj1
          generalize fld 2 zs j 0 = x0 at *
          generalize fld 2 zs j 1 = x1 at *
          generalize fld 2 zs k 0 = y0 at *
          generalize fld 2 zs k 1 = y1 at *
          go_wp2_with fail
          go_quiet (fail)
          go_wp2_with fail
          go_roundw
          case rel => exact ⟨k + 1, q + nq, by omega, by omega, by go_num, by rw [HQ.out, World.drewN_drewN], HNEW.out⟩
          case measure => simp [intOf]; omega
    · obtain rfl : k = n := by omega
      have HS := Lib.hid (HSAME.out HA.out)
      go_wp2_with fail
      go_ret
      exact ⟨by rw [HS.out.1]; rfl, by rw [HS.out.1, HS.out.2]; exact OW.out, HG.out⟩
end Go.Proofs.Ytinkkdgjpcnklaa.motk

/- impl.PathCells. -/
namespace Go.Proofs.Ytinkkdgjpcnklaa.motd
open Go.RowKit Go.Proofs.Ytinkkdgjpcnklaa.ints Go.Proofs.Ytinkkdgjpcnklaa.lst Go.Proofs.Ytinkkdgjpcnklaa.in_ Go.Proofs.Ytinkkdgjpcnklaa.ats Go.Proofs.Ytinkkdgjpcnklaa.pos Go.Proofs.Ytinkkdgjpcnklaa.vel Go.Proofs.Ytinkkdgjpcnklaa.hgt Go.Proofs.Ytinkkdgjpcnklaa.mot Go.Proofs.Ytinkkdgjpcnklaa.mota Go.Proofs.Ytinkkdgjpcnklaa.mots Go.Proofs.Ytinkkdgjpcnklaa.motc Go.Proofs.Ytinkkdgjpcnklaa.motk Go.Proofs.Ytinkkdgjpcnklaa.tailh

/-- Behind the leading ones comes one that is not so. -/
theorem led_next (f : Nat → Bool) (n : Nat) (h : led f n < n) : f (led f n) = false := by
  cases e : f (led f n)
  · rfl
  · exfalso
    have hall : ∀ i, i < led f n + 1 → f i = true := fun i hi => by
      by_cases e2 : i = led f n
      · rw [e2]; exact e
      · exact led_before n i (by omega)
    have mono : ∀ m, led f n + 1 ≤ m → led f n + 1 ≤ led f m := by
      intro m
      induction m with
      | zero => intro h; omega
      | succ m ih =>
        intro hm
        by_cases e3 : led f n + 1 ≤ m
        · have := ih e3
          rw [led]; split <;> omega
        · have : m + 1 = led f n + 1 := by omega
          rw [this, led_all _ hall]
          exact Nat.le_refl _
    have := mono n (by omega)
    omega
theorem pc_fail0 {x y u v h c m s : Int} (e : moB x y u v h c = false) : pcB x y u v h c m s = false := by unfold pcB; rw [e]; rfl
theorem pc_fail1 {x y u v h c m s : Int} (e : isIn m 0 60 = false) : pcB x y u v h c m s = false := by unfold pcB; rw [e, Bool.false_and, Bool.and_false]
theorem pc_fail2 {x y u v h c m s : Int} (e : isIn s 1 1000 = false) : pcB x y u v h c m s = false := by unfold pcB; rw [e, Bool.false_and, Bool.and_false, Bool.and_false]
theorem pc_fail3 {x y u v h c s : Int} {M k : Nat} (hk : k ≤ M) (e : okT x y u v k = false) : pcB x y u v h c (M : Int) s = false := by
  have hl : ¬ led (okT x y u v) (M + 1) = M + 1 := fun hl => by
    have := led_before (f := okT x y u v) (M + 1) k (by rw [hl]; omega)
    rw [this] at e
    cases e
  unfold pcB
  rw [Int.toNat_natCast, decide_eq_false hl, Bool.and_false, Bool.and_false, Bool.and_false]
theorem pc_good {x y u v h c s : Int} {M : Nat} (hm : moB x y u v h c = true) (hM : M ≤ 60) (hs : isIn s 1 1000 = true) (hall : ∀ i, i < M + 1 → okT x y u v i = true) :
    pcB x y u v h c (M : Int) s = true ∧ pcV x y u v h c (M : Int) s = cp (ceX x u s) (ceX y v s) (M + 1) ∧ pcN x y u v h c (M : Int) s = cpN (ceX x u s) (ceX y v s) (M + 1) := by
  have e : pcB x y u v h c (M : Int) s = true := by
    unfold pcB
    rw [hm, isIn_of (by omega) (by omega), hs, Int.toNat_natCast, decide_eq_true (led_all (M + 1) hall)]; rfl
  have := pc_yes e
  rw [Int.toNat_natCast] at this
  exact ⟨e, this⟩
theorem at_kept {T : TypeId} {cs : Array Value} {w W W' : World} {b : Nat} {r : Option Nat} (h : AtS T cs w W b) (hg : W.grownBy W' r) (hr : r ≠ some b) (i : Nat) : W'.cell? ⟨b, i, none⟩ = cs[i]? :=
  cell_of_row _ _ i cs T (0, 0) ((hg.block b h.2.2.1 (fun e => hr e.symm)).trans h.2.2.2)
theorem nil_own (w : World) (B e : Nat) : w.ownsRow B e 2 (.slice none 0 0) 0 (cellsI []) := ⟨by simp [cellsI], .inl ⟨rfl, rfl⟩⟩
theorem quo_is {x s : Int} (h0 : 0 ≤ x) (h1 : x ≤ 9899) (hs : 1 ≤ s) (hs2 : s ≤ 1000) : x.tdiv s = x / s ∧ 0 ≤ x / s ∧ x / s ≤ 9899 := by
  refine ⟨Int.tdiv_eq_ediv_of_nonneg h0, Int.ediv_nonneg h0 (by omega), ?_⟩
  exact Int.le_trans (Int.ediv_le_self s h0) h1
theorem ok_at {x y u v : Int} {k : Nat} (h : okT x y u v k = true) : (0 ≤ x + u * (k : Int) ∧ x + u * (k : Int) ≤ 9899) ∧ 0 ≤ y + v * (k : Int) ∧ y + v * (k : Int) ≤ 9899 := pB_yes h
/-- All cells of the path, also those that come twice. -/
def full (f g : Nat → Int) : Nat → List Int
  | 0 => []
  | k + 1 => full f g k ++ [f k, g k]
theorem full_length (f g : Nat → Int) : ∀ k, (full f g k).length = k * 2
  | 0 => rfl
  | k + 1 => by rw [full, List.length_append, full_length f g k]; simp; omega
theorem full_at (f g : Nat → Int) : ∀ n k, k < n → fld 2 (full f g n) k 0 = f k ∧ fld 2 (full f g n) k 1 = g k
  | 0, k, h => absurd h (Nat.not_lt_zero k)
  | n + 1, k, h => by
    have hl := full_length f g n
    by_cases e : k = n
    · subst e
      unfold fld
      rw [full, List.getD_eq_getElem?_getD, List.getD_eq_getElem?_getD, List.getElem?_append_right (by omega), List.getElem?_append_right (by omega), hl, Nat.add_zero, Nat.sub_self, Nat.add_sub_cancel_left]
      exact ⟨rfl, rfl⟩
    · have := full_at f g n k (by omega)
      unfold fld at this ⊢
      rw [full, List.getD_eq_getElem?_getD, List.getD_eq_getElem?_getD, List.getElem?_append_left (by omega), List.getElem?_append_left (by omega), ← List.getD_eq_getElem?_getD, ← List.getD_eq_getElem?_getD]
      exact this
theorem full_cp (f g : Nat → Int) (n : Nat) : cl (full f g n) n = cp f g n ∧ cn (full f g n) n = cpN f g n := cp_congr n (fun i hi => full_at f g n i hi)
theorem own_pair {w : World} {B e n : Nat} {v : Value} {zs : List Int} {a b : Int} (h : w.ownsRow B e 2 v (n + 1) (cellsI zs ++ [.int .i64 a, .int .i64 b])) : w.ownsRow B e 2 v (n + 1) (cellsI (zs ++ [a, b])) := own_growP h

set_option maxRecDepth 100000 in
set_option maxHeartbeats 4000000 in
theorem pathCells (x y u v h c m s : Int) (w : World) :
    Calls Try.prog 31 #[.agg #[.int .i64 x, .int .i64 y, .int .i64 u, .int .i64 v, .int .i64 h, .int .i64 c], .int .i64 m, .int .i64 s] w fun e w' => ∃ r, e = .returned (.tuple #[r, .bool (pcB x y u v h c m s)]) ∧ w'.ownsRow w.heap.size 25 2 r (pcN x y u v h c m s) (cellsI (pcV x y u v h c m s)) ∧ Below w.heap.size w w' := by
  have S0 := Lib.hid (newS 28 #[.int .i64 x, .int .i64 y, .int .i64 u, .int .i64 v, .int .i64 h, .int .i64 c] w)
  have T0 := Lib.hid (fun W => mota.isValidMotion x y u v h c W)
  have T1 := Lib.hid (fun W => mota.isWholeMinute m W)
  cases hq0 : moB x y u v h c
  · have HE := Lib.hid (pc_fail0 (m := m) (s := s) hq0)
    rw [hq0] at T0
    clear hq0
    go_enter Try.func31, Try.ntmps31
    go_wp2_with fail
    generalize w.alloc (.cells #[.int .i64 x, .int .i64 y, .int .i64 u, .int .i64 v, .int .i64 h, .int .i64 c] 28) = W0 at *
    have AN0 := Lib.hid (Below.refl W0.heap.size W0)
    refine (T0.out W0).mono ?_
    rintro e V1 ⟨rfl, hb1⟩
    have AN1 := Lib.hid (AN0.out.trans (hb1.mono AN0.out.size))
    clear hb1 AN0
    have BX := Lib.hid (S0.out.1.trans (AN1.out.mono S0.out.1.size))
    go_wp2_with fail
    go_ret2
    exact ⟨.slice none 0 0, by rw [HE.out]; rfl, by rw [(pc_no HE.out).1, (pc_no HE.out).2]; exact nil_own _ _ _, BX.out⟩
  rw [hq0] at T0
  cases hq1 : isIn m 0 60
  · have HE := Lib.hid (pc_fail1 (x := x) (y := y) (u := u) (v := v) (h := h) (c := c) (s := s) hq1)
    rw [hq1] at T1
    clear hq0 hq1
    go_enter Try.func31, Try.ntmps31
    go_wp2_with fail
    generalize w.alloc (.cells #[.int .i64 x, .int .i64 y, .int .i64 u, .int .i64 v, .int .i64 h, .int .i64 c] 28) = W0 at *
    have AN0 := Lib.hid (Below.refl W0.heap.size W0)
    refine (T0.out W0).mono ?_
    rintro e V1 ⟨rfl, hb1⟩
    have AN1 := Lib.hid (AN0.out.trans (hb1.mono AN0.out.size))
    clear hb1 AN0
    have m0_ : V1.cell? ⟨w.heap.size, 0, none⟩ = some (.int .i64 x) := (S0.out.old AN1.out).cell 0
    have m1_ : V1.cell? ⟨w.heap.size, 1, none⟩ = some (.int .i64 y) := (S0.out.old AN1.out).cell 1
    have m2_ : V1.cell? ⟨w.heap.size, 2, none⟩ = some (.int .i64 u) := (S0.out.old AN1.out).cell 2
    have m3_ : V1.cell? ⟨w.heap.size, 3, none⟩ = some (.int .i64 v) := (S0.out.old AN1.out).cell 3
    have m4_ : V1.cell? ⟨w.heap.size, 4, none⟩ = some (.int .i64 h) := (S0.out.old AN1.out).cell 4
    have m5_ : V1.cell? ⟨w.heap.size, 5, none⟩ = some (.int .i64 c) := (S0.out.old AN1.out).cell 5
    go_wp2_with fail
    clear m0_ m1_ m2_ m3_ m4_ m5_
    refine (T1.out V1).mono ?_
    rintro e w' ⟨rfl, rfl⟩
    have BX := Lib.hid (S0.out.1.trans (AN1.out.mono S0.out.1.size))
    go_wp2_with fail
    go_ret2
    exact ⟨.slice none 0 0, by rw [HE.out]; rfl, by rw [(pc_no HE.out).1, (pc_no HE.out).2]; exact nil_own _ _ _, BX.out⟩
  rw [hq1] at T1
  by_cases hs1 : 1 ≤ s
  case neg =>
    have HE := Lib.hid (pc_fail2 (x := x) (y := y) (u := u) (v := v) (h := h) (c := c) (m := m) (s := s) (decide_eq_false (fun h => hs1 h.1)))
    clear hq0 hq1
    go_enter Try.func31, Try.ntmps31
    go_wp2_with fail
    generalize w.alloc (.cells #[.int .i64 x, .int .i64 y, .int .i64 u, .int .i64 v, .int .i64 h, .int .i64 c] 28) = W0 at *
    have AN0 := Lib.hid (Below.refl W0.heap.size W0)
    refine (T0.out W0).mono ?_
    rintro e V1 ⟨rfl, hb1⟩
    have AN1 := Lib.hid (AN0.out.trans (hb1.mono AN0.out.size))
    clear hb1 AN0
    have m0_ : V1.cell? ⟨w.heap.size, 0, none⟩ = some (.int .i64 x) := (S0.out.old AN1.out).cell 0
    have m1_ : V1.cell? ⟨w.heap.size, 1, none⟩ = some (.int .i64 y) := (S0.out.old AN1.out).cell 1
    have m2_ : V1.cell? ⟨w.heap.size, 2, none⟩ = some (.int .i64 u) := (S0.out.old AN1.out).cell 2
    have m3_ : V1.cell? ⟨w.heap.size, 3, none⟩ = some (.int .i64 v) := (S0.out.old AN1.out).cell 3
    have m4_ : V1.cell? ⟨w.heap.size, 4, none⟩ = some (.int .i64 h) := (S0.out.old AN1.out).cell 4
    have m5_ : V1.cell? ⟨w.heap.size, 5, none⟩ = some (.int .i64 c) := (S0.out.old AN1.out).cell 5
    go_wp2_with fail
    clear m0_ m1_ m2_ m3_ m4_ m5_
    refine (T1.out V1).mono ?_
    rintro e w' ⟨rfl, rfl⟩
    have BX := Lib.hid (S0.out.1.trans (AN1.out.mono S0.out.1.size))
    go_wp2_with fail
    go_ret2
    exact ⟨.slice none 0 0, by rw [HE.out]; rfl, by rw [(pc_no HE.out).1, (pc_no HE.out).2]; exact nil_own _ _ _, BX.out⟩
  by_cases hs2 : s ≤ 1000
  case neg =>
    have HE := Lib.hid (pc_fail2 (x := x) (y := y) (u := u) (v := v) (h := h) (c := c) (m := m) (s := s) (decide_eq_false (fun h => hs2 h.2)))
    clear hq0 hq1
    go_enter Try.func31, Try.ntmps31
    go_wp2_with fail
    generalize w.alloc (.cells #[.int .i64 x, .int .i64 y, .int .i64 u, .int .i64 v, .int .i64 h, .int .i64 c] 28) = W0 at *
    have AN0 := Lib.hid (Below.refl W0.heap.size W0)
    refine (T0.out W0).mono ?_
    rintro e V1 ⟨rfl, hb1⟩
    have AN1 := Lib.hid (AN0.out.trans (hb1.mono AN0.out.size))
    clear hb1 AN0
    have m0_ : V1.cell? ⟨w.heap.size, 0, none⟩ = some (.int .i64 x) := (S0.out.old AN1.out).cell 0
    have m1_ : V1.cell? ⟨w.heap.size, 1, none⟩ = some (.int .i64 y) := (S0.out.old AN1.out).cell 1
    have m2_ : V1.cell? ⟨w.heap.size, 2, none⟩ = some (.int .i64 u) := (S0.out.old AN1.out).cell 2
    have m3_ : V1.cell? ⟨w.heap.size, 3, none⟩ = some (.int .i64 v) := (S0.out.old AN1.out).cell 3
    have m4_ : V1.cell? ⟨w.heap.size, 4, none⟩ = some (.int .i64 h) := (S0.out.old AN1.out).cell 4
    have m5_ : V1.cell? ⟨w.heap.size, 5, none⟩ = some (.int .i64 c) := (S0.out.old AN1.out).cell 5
    go_wp2_with fail
    clear m0_ m1_ m2_ m3_ m4_ m5_
    refine (T1.out V1).mono ?_
    rintro e w' ⟨rfl, rfl⟩
    have BX := Lib.hid (S0.out.1.trans (AN1.out.mono S0.out.1.size))
    go_wp2_with fail
    go_ret2
    exact ⟨.slice none 0 0, by rw [HE.out]; rfl, by rw [(pc_no HE.out).1, (pc_no HE.out).2]; exact nil_own _ _ _, BX.out⟩
  obtain ⟨M, rfl⟩ := Int.eq_ofNat_of_zero_le (isIn_yes hq1).1
  have hM : M ≤ 60 := by have := (isIn_yes hq1).2; omega
  have hM2 : (M : Int) ≤ 60 := by omega
  obtain ⟨hx, hy, hu, hv, -, -⟩ := mo_in hq0
  have HG := Lib.hid (fun hall => pc_good (h := h) (c := c) hq0 hM (isIn_of hs1 hs2) hall)
  have HF := Lib.hid (fun (k : Nat) (hk : k ≤ M) e => pc_fail3 (x := x) (y := y) (u := u) (v := v) (h := h) (c := c) (s := s) (M := M) (k := k) hk e)
  have HL := Lib.hid (fun (g : Nat) (W : World) (hm : Mo x y u v g W) => leavesBy x y u v M g W hm hx hy hu hv hM)
  have HC := Lib.hid (fun W => courseOf x y u v h c W)
  have HK := Lib.hid (fun (k g : Nat) (W : World) (hk : k ≤ 60) (hm : Mo x y u v g W) => course1 x y u v k g W hm hx hy hu hv hk)
  obtain ⟨i0, hi, hz0, hz1, hz2⟩ := info_parts infoP
  have e0 : IntKind.i64.wrap ((M : Int) + 1) = (M : Int) + 1 := IntWalk.i64_in _ (by omega)
  clear hq0 hq1 hx hy hu hv
  go_enter Try.func31, Try.ntmps31
  go_wp2_with fail
  generalize w.alloc (.cells #[.int .i64 x, .int .i64 y, .int .i64 u, .int .i64 v, .int .i64 h, .int .i64 c] 28) = W0 at *
  have AN0 := Lib.hid (Below.refl W0.heap.size W0)
  refine (T0.out W0).mono ?_
  rintro e V1 ⟨rfl, hb1⟩
  have AN1 := Lib.hid (AN0.out.trans (hb1.mono AN0.out.size))
  clear hb1 AN0
  have m0_ : V1.cell? ⟨w.heap.size, 0, none⟩ = some (.int .i64 x) := (S0.out.old AN1.out).cell 0
  have m1_ : V1.cell? ⟨w.heap.size, 1, none⟩ = some (.int .i64 y) := (S0.out.old AN1.out).cell 1
  have m2_ : V1.cell? ⟨w.heap.size, 2, none⟩ = some (.int .i64 u) := (S0.out.old AN1.out).cell 2
  have m3_ : V1.cell? ⟨w.heap.size, 3, none⟩ = some (.int .i64 v) := (S0.out.old AN1.out).cell 3
  have m4_ : V1.cell? ⟨w.heap.size, 4, none⟩ = some (.int .i64 h) := (S0.out.old AN1.out).cell 4
  have m5_ : V1.cell? ⟨w.heap.size, 5, none⟩ = some (.int .i64 c) := (S0.out.old AN1.out).cell 5
  go_wp2_with fail
  clear m0_ m1_ m2_ m3_ m4_ m5_
  refine (T1.out V1).mono ?_
  rintro e w' ⟨rfl, rfl⟩
  have m0_ : V1.cell? ⟨w.heap.size, 0, none⟩ = some (.int .i64 x) := (S0.out.old AN1.out).cell 0
  have m1_ : V1.cell? ⟨w.heap.size, 1, none⟩ = some (.int .i64 y) := (S0.out.old AN1.out).cell 1
  have m2_ : V1.cell? ⟨w.heap.size, 2, none⟩ = some (.int .i64 u) := (S0.out.old AN1.out).cell 2
  have m3_ : V1.cell? ⟨w.heap.size, 3, none⟩ = some (.int .i64 v) := (S0.out.old AN1.out).cell 3
  have m4_ : V1.cell? ⟨w.heap.size, 4, none⟩ = some (.int .i64 h) := (S0.out.old AN1.out).cell 4
  have m5_ : V1.cell? ⟨w.heap.size, 5, none⟩ = some (.int .i64 c) := (S0.out.old AN1.out).cell 5
  go_wp2_with fail
  clear m0_ m1_ m2_ m3_ m4_ m5_
  refine (HC.out V1).mono ?_
  rintro e V7 ⟨g, rfl, sg⟩
  have AN7 := Lib.hid (AN1.out.trans (sg.1.mono AN1.out.size))
  have HM7 := Lib.hid (mo_of sg)
  clear sg AN1
  go_wp2_with fail
  refine (HL.out g V7 HM7.out).mono ?_
  rintro e V8 ⟨rfl, hb8⟩
  have AN8 := Lib.hid (AN7.out.trans (hb8.mono AN7.out.size))
  have HM := Lib.hid (HM7.out.next hb8)
  clear hb8 AN7 HM7 HL HC
  cases hlb : lbB (okT x y u v) (M + 1)
  case true =>
    have HE := Lib.hid (show pcB x y u v h c (M : Int) s = false from by
      unfold lbB at hlb
      have hlt := of_decide_eq_true hlb
      exact HF.out _ (by omega) (led_next _ _ hlt))
    have BX := Lib.hid (S0.out.1.trans (AN8.out.mono S0.out.1.size))
    go_wp2_with fail
    go_ret2
    exact ⟨.slice none 0 0, by rw [HE.out]; rfl, by rw [(pc_no HE.out).1, (pc_no HE.out).2]; exact nil_own _ _ _, BX.out⟩
  have HA := Lib.hid (show ∀ i, i < M + 1 → okT x y u v i = true from fun i hi => by
    unfold lbB at hlb
    have := of_decide_eq_false hlb
    exact led_before (M + 1) i (by omega))
  have HE := Lib.hid (HG.out HA.out)
  have hB8 := AN8.out.size
  have HB8 := Lib.hid hB8
  clear HF HG hlb hB8
  go_wp2_with fail
  go_loopw [11, 41] (fun r i wr => ∃ k : Nat, k ≤ M + 1 ∧ i = .int .i64 k ∧ wr.ownsRow V8.heap.size 25 2 r k (cellsI (full (ceX x u s) (ceX y v s) k)) ∧ Below V8.heap.size V8 wr) (fun _ i _ => M + 1 - (intOf i).toNat)
  case atStart => exact ⟨0, by omega, rfl, nil_own _ _ _, Below.refl _ _⟩
  case round =>
    obtain ⟨k, hk, rfl, hown, hb⟩ := hrel
    have HO := Lib.hid hown
    have HB := Lib.hid hb
    clear hown hb
    by_cases hlt : k < M + 1
    · have hlt2 : (k : Int) < (M : Int) + 1 := by omega
      have HKC := Lib.hid (HK.out k g wr (by omega) (HM.out.next HB.out))
      obtain ⟨ok0, ok1⟩ := ok_at (HA.out k hlt)
      have HFU := Lib.hid (show full (ceX x u s) (ceX y v s) (k + 1) = full (ceX x u s) (ceX y v s) k ++ [(x + u * (k : Int)) / s, (y + v * (k : Int)) / s] from rfl)
      generalize x + u * (k : Int) = X at *
      generalize y + v * (k : Int) = Y at *
      generalize full (ceX x u s) (ceX y v s) k = L at *
      have z0 : (s == 0) = false := by simp; omega
      have z1 : ¬ s = 0 := by omega
      have q1 := quo_is ok0.1 ok0.2 hs1 hs2
      have q2 := quo_is ok1.1 ok1.2 hs1 hs2
      have e1 : IntKind.i64.wrap (X.tdiv s) = X / s := by rw [q1.1]; exact IntWalk.i64_in _ (by omega)
      have e2 : IntKind.i64.wrap (Y.tdiv s) = Y / s := by rw [q2.1]; exact IntWalk.i64_in _ (by omega)
      have e3 : IntKind.i64.wrap (X / s) = X / s := IntWalk.i64_in _ (by omega)
      have e4 : IntKind.i64.wrap (Y / s) = Y / s := IntWalk.i64_in _ (by omega)
      clear HA HK
      generalize X / s = qx at *
      generalize Y / s = qy at *
      go_wp2_with fail
      refine HKC.out.mono ?_
      rintro e V1 ⟨rfl, hb1⟩
      have O1 := Lib.hid (own_.own_below HO.out hb1)
      have B1 := Lib.hid (HB.out.trans (hb1.mono HB.out.size))
      clear hb1 HKC HO HB
      have SX := Lib.hid (newS 25 #[.int .i64 X, .int .i64 Y] V1)
      have O2 := Lib.hid (own_.own_below O1.out SX.out.1)
      have NE := Lib.hid (show u11.ownBlock ≠ some V1.heap.size from fun e => Nat.lt_irrefl _ (own_row_lt O1.out _ e))
      have B2 := Lib.hid (B1.out.trans (SX.out.1.mono B1.out.size))
      clear O1 B1
      go_upto_region 12 with fail
      generalize V1.alloc (.cells #[.int .i64 X, .int .i64 Y] 25) = V2 at *
      have HS := Lib.hid (show V2.drew.cell? ⟨V1.heap.size, 0, none⟩ = some (.int .i64 X) ∧ V2.drew.cell? ⟨V1.heap.size, 1, none⟩ = some (.int .i64 Y) from ⟨SX.out.drew.cell 0, SX.out.drew.cell 1⟩)
      refine wp_region_tail (S := fun w' => w'.cell? ⟨V1.heap.size, 0, none⟩ = some (.int .i64 X) ∧ w'.cell? ⟨V1.heap.size, 1, none⟩ = some (.int .i64 Y)) 12 (by kernel_rfl) HS.out (fun hHeld => ?_)
      try simp only [Act.put]
      refine wpAnyE_take (i := 0) (v := ?vq0) rfl (by decide +kernel) (fun _ _ _ h => h) (Or.inl ⟨by rfl, ?hq0⟩) (by assumption) ?rq0
      case hq0 =>
        intro wS hSw
        obtain ⟨h0, h1⟩ := hSw
        go_simp
        try with_reducible rfl
      try simp only [Act.put]
      refine wpAnyE_take (i := 1) (v := ?vq1) rfl (by decide +kernel) (fun _ _ _ h => h) (Or.inl ⟨by rfl, ?hq1⟩) (by assumption) ?rq1
      case hq1 =>
        intro wS hSw
        obtain ⟨h0, h1⟩ := hSw
        go_simp
        try with_reducible rfl
      try simp only [Act.put]
      refine wpAnyE_take (i := 2) (v := ?vq2) rfl (by decide +kernel) (fun _ _ _ h => h) (Or.inl ⟨by rfl, ?hq2⟩) (by assumption) ?rq2
      case hq2 =>
        intro wS hSw
        obtain ⟨h0, h1⟩ := hSw
        go_simp
        try with_reducible rfl
      try simp only [Act.put]
      refine wpAnyE_take (i := 3) (v := ?vq3) rfl (by decide +kernel) (fun _ _ _ h => h) (Or.inl ⟨by rfl, ?hq3⟩) (by assumption) ?rq3
      case hq3 =>
        intro wS hSw
        obtain ⟨h0, h1⟩ := hSw
        go_simp
        try with_reducible rfl
      try simp only [Act.put]
      refine wpAnyE_take (i := 4) (v := ?vq4) rfl (by decide +kernel) (fun _ _ _ h => h) (Or.inl ⟨by rfl, ?hq4⟩) (by assumption) ?rq4
      case hq4 =>
        intro wS hSw
        obtain ⟨h0, h1⟩ := hSw
        go_simp
        try with_reducible rfl
      try simp only [Act.put]
      refine wpAnyE_take (i := 5) (v := ?vq5) rfl (by decide +kernel) (fun _ _ _ h => h) (Or.inl ⟨by rfl, ?hq5⟩) (by assumption) ?rq5
      case hq5 =>
        intro wS hSw
        obtain ⟨h0, h1⟩ := hSw
        go_simp
        try with_reducible rfl
      try simp only [Act.put]
      refine wpAnyE_take (i := 6) (v := ?vq6) rfl (by decide +kernel) (fun _ _ _ h => h) (Or.inl ⟨by rfl, ?hq6⟩) (by assumption) ?rq6
      case hq6 =>
        intro wS hSw
        obtain ⟨h0, h1⟩ := hSw
        go_simp
        try with_reducible rfl
      try simp only [Act.put]
      refine wpAnyE_take (i := 7) (v := ?vq7) rfl (by decide +kernel) (fun _ _ _ h => h) (Or.inl ⟨by rfl, ?hq7⟩) (by assumption) ?rq7
      case hq7 =>
        intro wS hSw
        obtain ⟨h0, h1⟩ := hSw
        go_simp
        try with_reducible rfl
      try simp only [Act.put]
      refine wpAnyE_take (i := 8) (v := ?vq8) rfl (by decide +kernel) (fun _ _ _ h => h) (Or.inl ⟨by rfl, ?hq8⟩) (by assumption) ?rq8
      case hq8 =>
        intro wS hSw
        obtain ⟨h0, h1⟩ := hSw
        go_simp
        try with_reducible rfl
      try simp only [Act.put]
      refine wpAnyE_take (i := 9) (v := ?vq9) rfl (by decide +kernel) (fun _ _ _ h => h) (Or.inl ⟨by rfl, ?hq9⟩) (by assumption) ?rq9
      case hq9 =>
        intro wS hSw
        obtain ⟨h0, h1⟩ := hSw
        go_simp
        try with_reducible rfl
      try simp only [Act.put]
      refine wpAnyE_ready (rs := [10]) (by kernel_rfl) (by simp) ?_
      refine AllReadyE.cons (i := 10) rfl (by decide) (fun K hK => ?_) AllReadyE.nil
      go_simp
      have D1 := Lib.hid (SX.out.drew.alloc (.cells #[.int .i64 qx, .int .i64 qy] 25))
      refine hK.out _ _ ⟨D1.out.cell 0, D1.out.cell 1⟩ (fun hHeld => ?_)
      clear hK K
      try simp only [Act.put]
      refine wpAnyE_ready (rs := [11]) (by kernel_rfl) (by simp) ?_
      refine AllReadyE.cons (i := 11) rfl (by decide) (fun K hK => ?_) AllReadyE.nil
      refine step_append_sz rfl (.tmp 47) (.tmp 57) 43 rfl V8.heap.size 25 i0 (.agg #[.int .i64 0, .int .i64 0]) 2 16 Try.underlying43 hi hz0 hz1 hz2 rfl (by decide) _ k (cellsI L) rfl (own_.own_below O2.out ((Below.refl V2.heap.size V2).drew.alloc (Nat.le_refl _) (.cells #[.int .i64 qx, .int .i64 qy] 25))) _ 1 1 [.int .i64 qx, .int .i64 qy] rfl rfl (cells_new V2.drew 25 #[.int .i64 qx, .int .i64 qy]) (two_cells _ _) (by unfold maxLen; omega) (by omega) (by have := B2.out.size; show V8.heap.size ≤ (V2.alloc _).heap.size; rw [World.size_alloc]; omega) ?_
      intro v1 w1 oA gA nA
      have HOA := Lib.hid (own_pair oA)
      have HBA := Lib.hid (own_.below_append (wr := V2.drew) (o := .cells #[.int .i64 qx, .int .i64 qy] 25) B2.out.drew (show V2.drew.ownsRow V8.heap.size 25 2 u11 k (cellsI L) from O2.out) B2.out.size gA)
      have KX := Lib.hid (at_kept (SX.out.drew.alloc (.cells #[.int .i64 qx, .int .i64 qy] 25)) gA NE.out)
      clear oA gA nA
      refine hK.out _ _ ⟨KX.out 0, KX.out 1⟩ (fun hHeld => ?_)
      clear hK K
      try simp only [Act.put]
      refine wpAnyE_ready (rs := [12]) (by kernel_rfl) (by simp) ?_
      refine AllReadyE.last (i := 12) rfl rfl (fun K hK => ?_)
      go_simp
      refine hK.out _ _ ?_
      clear hK K
      try simp only [Act.put]
      refine wpAnyE_done (by kernel_rfl) ?_ _
      try simp only [List.getElem_toArray, List.getElem_cons_succ, List.getElem_cons_zero, List.setIfInBounds_toArray, List.set_cons_succ, List.set_cons_zero]
      go_wp2_with fail
      go_roundw
      case rel => exact ⟨k + 1, by omega, by go_num, by rw [HFU.out]; exact HOA.out, HBA.out⟩
      case measure => simp [intOf]; omega
    · obtain rfl : k = M + 1 := by omega
      obtain ⟨g2, c2, rfl⟩ : ∃ g2 c2, u11 = .slice (some ⟨g2, 0, none⟩) (M + 1) c2 := by
        rcases HO.out.2 with ⟨_, h0⟩ | ⟨g2, c2, cur, e, _⟩
        · omega
        · exact ⟨g2, c2, e⟩
      have CP := Lib.hid (compact V8.heap.size g2 (M + 1) c2 (full (ceX x u s) (ceX y v s) (M + 1)) wr (full_length _ _ _) (by omega) HO.out)
      rw [(full_cp _ _ _).1, (full_cp _ _ _).2, ← HE.out.2.1, ← HE.out.2.2] at CP
      have HGE := Lib.hid (own_caps HO.out).2.2
      have BX := Lib.hid (S0.out.1.trans (AN8.out.mono S0.out.1.size))
      have HBB := Lib.hid (Nat.le_trans S0.out.1.size HB8.out)
      clear HA HK HO
      go_wp2_with fail
      refine CP.out.mono ?_
      rintro e V9 ⟨rfl, ho, hg⟩
      have HO9 := Lib.hid ho
      have HB9 := Lib.hid (HB.out.grown hg HB.out.size (fun k hk => by cases hk; exact HGE.out))
      clear ho hg
      go_wp2_with fail
      go_ret2
      exact ⟨_, by rw [HE.out.1]; rfl, own_.own_base HO9.out HBB.out, BX.out.trans (HB9.out.mono HBB.out)⟩
end Go.Proofs.Ytinkkdgjpcnklaa.motd

/- spec.PathCells. -/
namespace Go.Proofs.Ytinkkdgjpcnklaa.mote
open Go.RowKit Go.Proofs.Ytinkkdgjpcnklaa.ints Go.Proofs.Ytinkkdgjpcnklaa.lst Go.Proofs.Ytinkkdgjpcnklaa.in_ Go.Proofs.Ytinkkdgjpcnklaa.ats Go.Proofs.Ytinkkdgjpcnklaa.pos Go.Proofs.Ytinkkdgjpcnklaa.vel Go.Proofs.Ytinkkdgjpcnklaa.hgt Go.Proofs.Ytinkkdgjpcnklaa.mot Go.Proofs.Ytinkkdgjpcnklaa.mots Go.Proofs.Ytinkkdgjpcnklaa.motd Go.Proofs.Ytinkkdgjpcnklaa.tailh

theorem own_some {w : World} {B e n c : Nat} {A : Option Addr} {xs : List Value} (h : w.ownsRow B e 2 (.slice A n c) n xs) (hn : 0 < n) : ∃ g, A = some ⟨g, 0, none⟩ := by
  rcases h.2 with ⟨_, h0⟩ | ⟨g, cap, cur, e, _⟩
  · omega
  · injection e with e1
    exact ⟨g, e1⟩
theorem last_cell {w : World} {B e g c k : Nat} {F G : Nat → Int} (h : w.ownsRow B e 2 (.slice (some ⟨g, 0, none⟩) (cpN F G (k + 1)) c) (cpN F G (k + 1)) (cellsI (cp F G (k + 1)))) {N : Nat} (hN : N + 1 = cpN F G (k + 1)) :
    w.cell? ⟨g, N * 2, none⟩ = some (.int .i64 (F k)) ∧ w.cell? ⟨g, N * 2 + 1, none⟩ = some (.int .i64 (G k)) := by
  have hl := cp_last F G k
  rw [← hN, Nat.add_sub_cancel] at hl
  rw [h.cellAt (N * 2) (by omega), h.cellAt (N * 2 + 1) (by omega)]
  unfold cellsI
  rw [List.getElem?_map, List.getElem?_map, hl.1, hl.2]
  exact ⟨rfl, rfl⟩
theorem below_from {B : Nat} {w W W' : World} (h : Below B w W) (hB : B ≤ w.heap.size) (hb : Below W.heap.size W W') : Below B w W' := h.trans (hb.mono (Nat.le_trans hB h.size))
set_option maxRecDepth 100000 in
set_option maxHeartbeats 8000000 in
theorem pathCells (x y u v h c m s : Int) (w : World) :
    Calls Try.prog 32 #[.agg #[.int .i64 x, .int .i64 y, .int .i64 u, .int .i64 v, .int .i64 h, .int .i64 c], .int .i64 m, .int .i64 s] w fun e w' => ∃ r, e = .returned (.tuple #[r, .bool (pcB x y u v h c m s)]) ∧ w'.ownsRow w.heap.size 25 2 r (pcN x y u v h c m s) (cellsI (pcV x y u v h c m s)) ∧ Below w.heap.size w w' := by
  have S0 := Lib.hid ((newS 28 #[.int .i64 x, .int .i64 y, .int .i64 u, .int .i64 v, .int .i64 h, .int .i64 c] w).alloc (.cells #[] 25))
  have OW0 := Lib.hid (own_emptyZ (w.alloc (.cells #[.int .i64 x, .int .i64 y, .int .i64 u, .int .i64 v, .int .i64 h, .int .i64 c] 28)) 25 2)
  rw [World.size_alloc] at OW0
  have HZ0 := Lib.hid (show w.heap.size + 1 ≤ ((w.alloc (.cells #[.int .i64 x, .int .i64 y, .int .i64 u, .int .i64 v, .int .i64 h, .int .i64 c] 28)).alloc (.cells #[] 25)).heap.size by rw [World.size_alloc, World.size_alloc]; omega)
  have T0 := Lib.hid (fun W => good16 x y u v h c W)
  have T1 := Lib.hid (fun W => l1In m 0 60 W)
  have T2 := Lib.hid (fun W => l1In s 1 1000 W)
  cases hq0 : moB x y u v h c
  · have HE := Lib.hid (pc_fail0 (x := x) (y := y) (u := u) (v := v) (h := h) (c := c) (m := m) (s := s) hq0)
    rw [hq0] at T0
    clear hq0
    go_enter Try.func32, Try.ntmps32
    go_wp2_with fail
    generalize (w.alloc (.cells #[.int .i64 x, .int .i64 y, .int .i64 u, .int .i64 v, .int .i64 h, .int .i64 c] 28)).alloc (.cells #[] 25) = W0 at *
    have AN0 := Lib.hid (Below.refl W0.heap.size W0)
    refine (T0.out W0).mono ?_
    rintro e V1 ⟨rfl, hb1⟩
    have AN1 := Lib.hid (AN0.out.trans (hb1.mono AN0.out.size))
    clear hb1 AN0
    have BX := Lib.hid (S0.out.1.trans (AN1.out.mono S0.out.1.size))
    have OX := Lib.hid (own_.own_base (own_.own_below OW0.out AN1.out) (Nat.le_succ _))
    go_wp2_with fail
    go_ret2
    exact ⟨.slice (some ⟨w.heap.size + 1, 0, none⟩) 0 0, by rw [HE.out]; rfl, by rw [(pc_no HE.out).1, (pc_no HE.out).2]; exact OX.out, BX.out⟩
  rw [hq0] at T0
  cases hq1 : isIn m 0 60
  · have HE := Lib.hid (pc_fail1 (x := x) (y := y) (u := u) (v := v) (h := h) (c := c) (m := m) (s := s) hq1)
    rw [hq1] at T1
    clear hq0 hq1
    go_enter Try.func32, Try.ntmps32
    go_wp2_with fail
    generalize (w.alloc (.cells #[.int .i64 x, .int .i64 y, .int .i64 u, .int .i64 v, .int .i64 h, .int .i64 c] 28)).alloc (.cells #[] 25) = W0 at *
    have AN0 := Lib.hid (Below.refl W0.heap.size W0)
    refine (T0.out W0).mono ?_
    rintro e V1 ⟨rfl, hb1⟩
    have AN1 := Lib.hid (AN0.out.trans (hb1.mono AN0.out.size))
    clear hb1 AN0
    have m0_ : V1.cell? ⟨w.heap.size, 0, none⟩ = some (.int .i64 x) := (S0.out.old AN1.out).cell 0
    have m1_ : V1.cell? ⟨w.heap.size, 1, none⟩ = some (.int .i64 y) := (S0.out.old AN1.out).cell 1
    have m2_ : V1.cell? ⟨w.heap.size, 2, none⟩ = some (.int .i64 u) := (S0.out.old AN1.out).cell 2
    have m3_ : V1.cell? ⟨w.heap.size, 3, none⟩ = some (.int .i64 v) := (S0.out.old AN1.out).cell 3
    have m4_ : V1.cell? ⟨w.heap.size, 4, none⟩ = some (.int .i64 h) := (S0.out.old AN1.out).cell 4
    have m5_ : V1.cell? ⟨w.heap.size, 5, none⟩ = some (.int .i64 c) := (S0.out.old AN1.out).cell 5
    go_wp2_with fail
    clear m0_ m1_ m2_ m3_ m4_ m5_
    refine (T1.out V1).mono ?_
    rintro e w' ⟨rfl, rfl⟩
    have BX := Lib.hid (S0.out.1.trans (AN1.out.mono S0.out.1.size))
    have OX := Lib.hid (own_.own_base (own_.own_below OW0.out AN1.out) (Nat.le_succ _))
    go_wp2_with fail
    go_ret2
    exact ⟨.slice (some ⟨w.heap.size + 1, 0, none⟩) 0 0, by rw [HE.out]; rfl, by rw [(pc_no HE.out).1, (pc_no HE.out).2]; exact OX.out, BX.out⟩
  rw [hq1] at T1
  cases hq2 : isIn s 1 1000
  · have HE := Lib.hid (pc_fail2 (x := x) (y := y) (u := u) (v := v) (h := h) (c := c) (m := m) (s := s) hq2)
    rw [hq2] at T2
    clear hq0 hq1 hq2
    go_enter Try.func32, Try.ntmps32
    go_wp2_with fail
    generalize (w.alloc (.cells #[.int .i64 x, .int .i64 y, .int .i64 u, .int .i64 v, .int .i64 h, .int .i64 c] 28)).alloc (.cells #[] 25) = W0 at *
    have AN0 := Lib.hid (Below.refl W0.heap.size W0)
    refine (T0.out W0).mono ?_
    rintro e V1 ⟨rfl, hb1⟩
    have AN1 := Lib.hid (AN0.out.trans (hb1.mono AN0.out.size))
    clear hb1 AN0
    have m0_ : V1.cell? ⟨w.heap.size, 0, none⟩ = some (.int .i64 x) := (S0.out.old AN1.out).cell 0
    have m1_ : V1.cell? ⟨w.heap.size, 1, none⟩ = some (.int .i64 y) := (S0.out.old AN1.out).cell 1
    have m2_ : V1.cell? ⟨w.heap.size, 2, none⟩ = some (.int .i64 u) := (S0.out.old AN1.out).cell 2
    have m3_ : V1.cell? ⟨w.heap.size, 3, none⟩ = some (.int .i64 v) := (S0.out.old AN1.out).cell 3
    have m4_ : V1.cell? ⟨w.heap.size, 4, none⟩ = some (.int .i64 h) := (S0.out.old AN1.out).cell 4
    have m5_ : V1.cell? ⟨w.heap.size, 5, none⟩ = some (.int .i64 c) := (S0.out.old AN1.out).cell 5
    go_wp2_with fail
    clear m0_ m1_ m2_ m3_ m4_ m5_
    refine (T1.out V1).mono ?_
    rintro e w' ⟨rfl, rfl⟩
    have m0_ : V1.cell? ⟨w.heap.size, 0, none⟩ = some (.int .i64 x) := (S0.out.old AN1.out).cell 0
    have m1_ : V1.cell? ⟨w.heap.size, 1, none⟩ = some (.int .i64 y) := (S0.out.old AN1.out).cell 1
    have m2_ : V1.cell? ⟨w.heap.size, 2, none⟩ = some (.int .i64 u) := (S0.out.old AN1.out).cell 2
    have m3_ : V1.cell? ⟨w.heap.size, 3, none⟩ = some (.int .i64 v) := (S0.out.old AN1.out).cell 3
    have m4_ : V1.cell? ⟨w.heap.size, 4, none⟩ = some (.int .i64 h) := (S0.out.old AN1.out).cell 4
    have m5_ : V1.cell? ⟨w.heap.size, 5, none⟩ = some (.int .i64 c) := (S0.out.old AN1.out).cell 5
    go_wp2_with fail
    clear m0_ m1_ m2_ m3_ m4_ m5_
    refine (T2.out V1).mono ?_
    rintro e w' ⟨rfl, rfl⟩
    have BX := Lib.hid (S0.out.1.trans (AN1.out.mono S0.out.1.size))
    have OX := Lib.hid (own_.own_base (own_.own_below OW0.out AN1.out) (Nat.le_succ _))
    go_wp2_with fail
    go_ret2
    exact ⟨.slice (some ⟨w.heap.size + 1, 0, none⟩) 0 0, by rw [HE.out]; rfl, by rw [(pc_no HE.out).1, (pc_no HE.out).2]; exact OX.out, BX.out⟩
  rw [hq2] at T2
  obtain ⟨M, rfl⟩ := Int.eq_ofNat_of_zero_le (isIn_yes hq1).1
  have hM : M ≤ 60 := by have := (isIn_yes hq1).2; omega
  have hM2 : (M : Int) ≤ 60 := by omega
  obtain ⟨hs1, hs2⟩ := isIn_yes hq2
  obtain ⟨hx, hy, hu, hv, -, -⟩ := mo_in hq0
  have HG := Lib.hid (fun hall => pc_good (h := h) (c := c) hq0 hM (isIn_of hs1 hs2) hall)
  have HF := Lib.hid (fun (k : Nat) (hk : k ≤ M) e => pc_fail3 (x := x) (y := y) (u := u) (v := v) (h := h) (c := c) (s := s) (M := M) (k := k) hk e)
  have HA := Lib.hid (fun (k : Nat) (W : World) (hk : k ≤ 60) => at16 x y u v h c (k : Int) W (by have := far hx hu hk; omega) (by have := far hy hv hk; omega) (by omega) (by omega))
  obtain ⟨j0, hj, hy0, hy1, hy2⟩ := info_parts infoP
  clear hq0 hq1 hq2 hx hy hu hv
  go_enter Try.func32, Try.ntmps32
  go_wp2_with fail
  generalize (w.alloc (.cells #[.int .i64 x, .int .i64 y, .int .i64 u, .int .i64 v, .int .i64 h, .int .i64 c] 28)).alloc (.cells #[] 25) = W0 at *
  have AN0 := Lib.hid (Below.refl W0.heap.size W0)
  refine (T0.out W0).mono ?_
  rintro e V1 ⟨rfl, hb1⟩
  have AN1 := Lib.hid (AN0.out.trans (hb1.mono AN0.out.size))
  clear hb1 AN0
  have m0_ : V1.cell? ⟨w.heap.size, 0, none⟩ = some (.int .i64 x) := (S0.out.old AN1.out).cell 0
  have m1_ : V1.cell? ⟨w.heap.size, 1, none⟩ = some (.int .i64 y) := (S0.out.old AN1.out).cell 1
  have m2_ : V1.cell? ⟨w.heap.size, 2, none⟩ = some (.int .i64 u) := (S0.out.old AN1.out).cell 2
  have m3_ : V1.cell? ⟨w.heap.size, 3, none⟩ = some (.int .i64 v) := (S0.out.old AN1.out).cell 3
  have m4_ : V1.cell? ⟨w.heap.size, 4, none⟩ = some (.int .i64 h) := (S0.out.old AN1.out).cell 4
  have m5_ : V1.cell? ⟨w.heap.size, 5, none⟩ = some (.int .i64 c) := (S0.out.old AN1.out).cell 5
  go_wp2_with fail
  clear m0_ m1_ m2_ m3_ m4_ m5_
  refine (T1.out V1).mono ?_
  rintro e w' ⟨rfl, rfl⟩
  have m0_ : V1.cell? ⟨w.heap.size, 0, none⟩ = some (.int .i64 x) := (S0.out.old AN1.out).cell 0
  have m1_ : V1.cell? ⟨w.heap.size, 1, none⟩ = some (.int .i64 y) := (S0.out.old AN1.out).cell 1
  have m2_ : V1.cell? ⟨w.heap.size, 2, none⟩ = some (.int .i64 u) := (S0.out.old AN1.out).cell 2
  have m3_ : V1.cell? ⟨w.heap.size, 3, none⟩ = some (.int .i64 v) := (S0.out.old AN1.out).cell 3
  have m4_ : V1.cell? ⟨w.heap.size, 4, none⟩ = some (.int .i64 h) := (S0.out.old AN1.out).cell 4
  have m5_ : V1.cell? ⟨w.heap.size, 5, none⟩ = some (.int .i64 c) := (S0.out.old AN1.out).cell 5
  go_wp2_with fail
  clear m0_ m1_ m2_ m3_ m4_ m5_
  refine (T2.out V1).mono ?_
  rintro e w' ⟨rfl, rfl⟩
  have HB0 := Lib.hid (AN1.out.mono HZ0.out)
  have OW1 := Lib.hid (own_.own_below OW0.out AN1.out)
  have hS0 := S0.out.1
  have HS1 := Lib.hid hS0
  clear OW0 AN1 hS0
  have MC := Lib.hid (fun (wr : World) (hb : Below (w.heap.size + 1) W0 wr) (i : Nat) => (hb.cell (p := ⟨w.heap.size, i, none⟩) (Nat.lt_succ_self _)).trans (S0.out.cell i))
  generalize V1 = V at *
  go_wp2_with fail
  go_loopw [8, 9] (fun r t wr => ∃ k : Nat, k ≤ M + 1 ∧ t = .int .i64 k ∧ wr.ownsRow (w.heap.size + 1) 25 2 r (cpN (ceX x u s) (ceX y v s) k) (cellsI (cp (ceX x u s) (ceX y v s) k)) ∧ Below (w.heap.size + 1) W0 wr ∧ ∀ i, i < k → okT x y u v i = true) (fun _ t _ => M + 1 - (intOf t).toNat)
  case atStart => exact ⟨0, by omega, rfl, OW1.out, HB0.out, fun i hi => absurd hi (Nat.not_lt_zero i)⟩
  case round =>
    obtain ⟨k, hk, rfl, hown, hb, hall⟩ := hrel
    have HO := Lib.hid hown
    have HB := Lib.hid hb
    have HAL := Lib.hid hall
    clear hown hb hall HB0 OW1
    by_cases hlt : k < M + 1
    case neg =>
      obtain rfl : k = M + 1 := by omega
      have hge : ¬ ((M + 1 : Nat) : Int) ≤ (M : Int) := by omega
      have HE := Lib.hid (HG.out HAL.out)
      have HO2 := Lib.hid (own_.own_base HO.out (Nat.le_succ w.heap.size))
      have BX := Lib.hid (HS1.out.trans (HB.out.mono (Nat.le_succ w.heap.size)))
      go_wp2_with fail
      go_ret2
      exact ⟨_, by rw [HE.out.1]; rfl, by rw [HE.out.2.1, HE.out.2.2]; exact HO2.out, BX.out⟩
    have hlt2 : (k : Int) ≤ (M : Int) := by omega
    obtain ⟨A8, c8, rfl⟩ := own_sliceZ HO.out
    have HKA := Lib.hid (HA.out k wr (by omega))
    have HW := Lib.hid (fun W => show Calls Try.prog 53 #[.agg #[.int .i64 (x + u * (k : Int)), .int .i64 (y + v * (k : Int))]] W (fun e w' => e = .returned (.bool (okT x y u v k)) ∧ Below W.heap.size W w') from poss.good7 _ _ W)
    have HFX := Lib.hid (show ceX x u s k = (x + u * (k : Int)) / s from rfl)
    have HFY := Lib.hid (show ceX y v s k = (y + v * (k : Int)) / s from rfl)
    have HOK := Lib.hid (fun h => ok_at (x := x) (y := y) (u := u) (v := v) (k := k) h)
    have HN := Lib.hid (show okT x y u v k = true → ∀ i, i < k + 1 → okT x y u v i = true from fun h i hi => by
      by_cases e : i = k
      · rw [e]; exact h
      · exact HAL.out i (by omega))
    have HFK := Lib.hid (fun e => HF.out k (by omega) e)
    have hN60 := cpN_le (ceX x u s) (ceX y v s) k
    generalize x + u * (k : Int) = X at *
    generalize y + v * (k : Int) = Y at *
    have m0_ : wr.cell? ⟨w.heap.size, 0, none⟩ = some (.int .i64 x) := MC.out wr HB.out 0
    have m1_ : wr.cell? ⟨w.heap.size, 1, none⟩ = some (.int .i64 y) := MC.out wr HB.out 1
    have m2_ : wr.cell? ⟨w.heap.size, 2, none⟩ = some (.int .i64 u) := MC.out wr HB.out 2
    have m3_ : wr.cell? ⟨w.heap.size, 3, none⟩ = some (.int .i64 v) := MC.out wr HB.out 3
    have m4_ : wr.cell? ⟨w.heap.size, 4, none⟩ = some (.int .i64 h) := MC.out wr HB.out 4
    have m5_ : wr.cell? ⟨w.heap.size, 5, none⟩ = some (.int .i64 c) := MC.out wr HB.out 5
    go_wp2_with fail
    clear m0_ m1_ m2_ m3_ m4_ m5_
    refine HKA.out.mono ?_
    rintro e V1 ⟨rfl, hb1⟩
    have O1 := Lib.hid (own_.own_below HO.out hb1)
    have B1 := Lib.hid (below_from HB.out HZ0.out hb1)
    clear hb1 HKA HO HB
    have SX := Lib.hid (newS 25 #[.int .i64 X, .int .i64 Y] V1)
    have O2 := Lib.hid (own_.own_below O1.out SX.out.1)
    have B2 := Lib.hid (below_from B1.out HZ0.out SX.out.1)
    clear O1 B1
    go_upto_region 8 with fail
    generalize V1.alloc (.cells #[.int .i64 X, .int .i64 Y] 25) = V2 at *
    have x0 : V2.cell? ⟨V1.heap.size, 0, none⟩ = some (.int .i64 X) := SX.out.cell 0
    have x1 : V2.cell? ⟨V1.heap.size, 1, none⟩ = some (.int .i64 Y) := SX.out.cell 1
    go_wp2_with fail
    clear x0 x1
    refine (HW.out V2).mono ?_
    rintro e V3 ⟨rfl, hb3⟩
    have O3 := Lib.hid (own_.own_below O2.out hb3)
    have B3 := Lib.hid (below_from B2.out HZ0.out hb3)
    have S3 := Lib.hid (SX.out.old hb3)
    clear hb3 O2 B2 SX HW
    cases hok : okT x y u v k
    case false =>
      have HE := Lib.hid (HFK.out hok)
      have OX := Lib.hid (own_.own_base (own_emptyZ V3 25 2) (show w.heap.size ≤ V3.heap.size from Nat.le_trans (Nat.le_succ _) (Nat.le_trans HZ0.out B3.out.size)))
      have BX := Lib.hid ((HS1.out.trans (B3.out.mono (Nat.le_succ w.heap.size))).alloc (show w.heap.size ≤ V3.heap.size from Nat.le_trans (Nat.le_succ _) (Nat.le_trans HZ0.out B3.out.size)) (.cells #[] 25))
      go_wp2_with fail
      go_ret2
      exact ⟨.slice (some ⟨V3.heap.size, 0, none⟩) 0 0, by rw [HE.out]; rfl, by rw [(pc_no HE.out).1, (pc_no HE.out).2]; exact OX.out, BX.out⟩
    have HN2 := Lib.hid (HN.out hok)
    obtain ⟨ok0, ok1⟩ := HOK.out hok
    clear hok HN HOK HFK HF HG HAL
    have z0 : (s == 0) = false := by simp; omega
    have z1 : ¬ s = 0 := by omega
    have q1 := quo_is ok0.1 ok0.2 hs1 hs2
    have q2 := quo_is ok1.1 ok1.2 hs1 hs2
    have e1 : IntKind.i64.wrap (X.tdiv s) = X / s := by rw [q1.1]; exact IntWalk.i64_in _ (by omega)
    have e2 : IntKind.i64.wrap (Y.tdiv s) = Y / s := by rw [q2.1]; exact IntWalk.i64_in _ (by omega)
    have e3 : IntKind.i64.wrap (X / s) = X / s := IntWalk.i64_in _ (by omega)
    have e4 : IntKind.i64.wrap (Y / s) = Y / s := IntWalk.i64_in _ (by omega)
    generalize X / s = qx at *
    generalize Y / s = qy at *
    go_upto_region 10 with fail
    have HS := Lib.hid (show V3.drew.cell? ⟨V1.heap.size, 0, none⟩ = some (.int .i64 X) ∧ V3.drew.cell? ⟨V1.heap.size, 1, none⟩ = some (.int .i64 Y) from ⟨S3.out.drew.cell 0, S3.out.drew.cell 1⟩)
    refine wp_region_tail (S := fun w' => w'.cell? ⟨V1.heap.size, 0, none⟩ = some (.int .i64 X) ∧ w'.cell? ⟨V1.heap.size, 1, none⟩ = some (.int .i64 Y)) 10 (by kernel_rfl) HS.out (fun hHeld => ?_)
    try simp only [Act.put]
    refine wpAnyE_take (i := 0) (v := ?vq0) rfl (by decide +kernel) (fun _ _ _ h => h) (Or.inl ⟨by rfl, ?hq0⟩) (by assumption) ?rq0
    case hq0 =>
      intro wS hSw
      obtain ⟨h0, h1⟩ := hSw
      go_simp
      try with_reducible rfl
    try simp only [Act.put]
    refine wpAnyE_take (i := 1) (v := ?vq1) rfl (by decide +kernel) (fun _ _ _ h => h) (Or.inl ⟨by rfl, ?hq1⟩) (by assumption) ?rq1
    case hq1 =>
      intro wS hSw
      obtain ⟨h0, h1⟩ := hSw
      go_simp
      try with_reducible rfl
    try simp only [Act.put]
    refine wpAnyE_take (i := 2) (v := ?vq2) rfl (by decide +kernel) (fun _ _ _ h => h) (Or.inl ⟨by rfl, ?hq2⟩) (by assumption) ?rq2
    case hq2 =>
      intro wS hSw
      obtain ⟨h0, h1⟩ := hSw
      go_simp
      try with_reducible rfl
    try simp only [Act.put]
    refine wpAnyE_take (i := 3) (v := ?vq3) rfl (by decide +kernel) (fun _ _ _ h => h) (Or.inl ⟨by rfl, ?hq3⟩) (by assumption) ?rq3
    case hq3 =>
      intro wS hSw
      obtain ⟨h0, h1⟩ := hSw
      go_simp
      try with_reducible rfl
    try simp only [Act.put]
    refine wpAnyE_take (i := 4) (v := ?vq4) rfl (by decide +kernel) (fun _ _ _ h => h) (Or.inl ⟨by rfl, ?hq4⟩) (by assumption) ?rq4
    case hq4 =>
      intro wS hSw
      obtain ⟨h0, h1⟩ := hSw
      go_simp
      try with_reducible rfl
    try simp only [Act.put]
    refine wpAnyE_take (i := 5) (v := ?vq5) rfl (by decide +kernel) (fun _ _ _ h => h) (Or.inl ⟨by rfl, ?hq5⟩) (by assumption) ?rq5
    case hq5 =>
      intro wS hSw
      obtain ⟨h0, h1⟩ := hSw
      go_simp
      try with_reducible rfl
    try simp only [Act.put]
    refine wpAnyE_take (i := 6) (v := ?vq6) rfl (by decide +kernel) (fun _ _ _ h => h) (Or.inl ⟨by rfl, ?hq6⟩) (by assumption) ?rq6
    case hq6 =>
      intro wS hSw
      obtain ⟨h0, h1⟩ := hSw
      go_simp
      try with_reducible rfl
    try simp only [Act.put]
    refine wpAnyE_take (i := 7) (v := ?vq7) rfl (by decide +kernel) (fun _ _ _ h => h) (Or.inl ⟨by rfl, ?hq7⟩) (by assumption) ?rq7
    case hq7 =>
      intro wS hSw
      obtain ⟨h0, h1⟩ := hSw
      go_simp
      try with_reducible rfl
    try simp only [Act.put]
    refine wpAnyE_take (i := 8) (v := ?vq8) rfl (by decide +kernel) (fun _ _ _ h => h) (Or.inl ⟨by rfl, ?hq8⟩) (by assumption) ?rq8
    case hq8 =>
      intro wS hSw
      obtain ⟨h0, h1⟩ := hSw
      go_simp
      try with_reducible rfl
    try simp only [Act.put]
    refine wpAnyE_ready (rs := [9]) (by kernel_rfl) (by simp) ?_
    refine AllReadyE.cons (i := 9) rfl (by decide) (fun K hK => ?_) AllReadyE.nil
    go_simp
    have D1 := Lib.hid (S3.out.drew.alloc (.cells #[.int .i64 0, .int .i64 0] 25))
    refine hK.out _ _ ⟨D1.out.cell 0, D1.out.cell 1⟩ (fun hHeld => ?_)
    clear hK K
    try simp only [Act.put]
    refine wpAnyE_ready (rs := [10]) (by kernel_rfl) (by simp) ?_
    refine AllReadyE.last (i := 10) rfl rfl (fun K hK => ?_)
    go_simp
    refine hK.out _ _ ?_
    clear hK K
    try simp only [Act.put]
    refine wpAnyE_done (by kernel_rfl) ?_ _
    try simp only [List.getElem_toArray, List.getElem_cons_succ, List.getElem_cons_zero, List.setIfInBounds_toArray, List.set_cons_succ, List.set_cons_zero]
    have SQ := Lib.hid ((newS 25 #[.int .i64 qx, .int .i64 qy] V3).drew)
    have O4 := Lib.hid (own_.own_below O3.out SQ.out.1)
    have B4 := Lib.hid (below_from B3.out HZ0.out SQ.out.1)
    clear O3 B3 S3 HS D1 hHeld
    generalize (V3.alloc (.cells #[.int .i64 qx, .int .i64 qy] 25)).drew = V4 at *
    go_upto_region 12 with fail
    have c0 : V4.cell? ⟨V3.heap.size, 0, none⟩ = some (.int .i64 qx) := SQ.out.cell 0
    have c1 : V4.cell? ⟨V3.heap.size, 1, none⟩ = some (.int .i64 qy) := SQ.out.cell 1
    by_cases hk0 : k = 0
    · have HC := Lib.hid (cp_new (f := ceX x u s) (g := ceX y v s) (k := k) (by rw [hk0]; exact fun h => absurd h.1 (Nat.lt_irrefl 0)))
      rw [HFX.out, HFY.out] at HC
      have hn0 : (cpN (ceX x u s) (ceX y v s) k) = 0 := by rw [hk0]; rfl
      generalize (cp (ceX x u s) (ceX y v s) k) = L at *
      generalize (cpN (ceX x u s) (ceX y v s) k) = N at *
      have g0 : ((N : Int) == 0) = true := by rw [hn0]; rfl
      have hN60 : N ≤ 60 := by omega
      clear hk0 hn0
      have c0' := fun d0 os => cell_regrown c0 d0 os
      have c1' := fun d0 os => cell_regrown c1 d0 os
      clear c0 c1
      refine wp_region_quiet_below (by kernel_rfl) (by kernel_rfl) ?_
      repeat (
        with_reducible refine wpQuiet_step (fun K hK => ?_)
        go_simp
        refine hK _ ?_; clear hK K)
      with_reducible refine wpQuiet_nil ?_
      intro _ hw'
      obtain ⟨⟨dq, osq⟩, hw''⟩ := hw'
      subst hw''
      have hbl := (below_regrown V4 dq osq)
      clear c0' c1'
      generalize Sort.grow (redrawn V4 dq) osq = V5 at *
      have O5 := Lib.hid (own_.own_below O4.out hbl)
      have B5 := Lib.hid (below_from B4.out HZ0.out hbl)
      have SQ5 := Lib.hid (SQ.out.old hbl)
      clear hbl O4 B4 SQ
      have c0 : V5.cell? ⟨V3.heap.size, 0, none⟩ = some (.int .i64 qx) := SQ5.out.cell 0
      have c1 : V5.cell? ⟨V3.heap.size, 1, none⟩ = some (.int .i64 qy) := SQ5.out.cell 1
      have hP5 : w.heap.size + 1 ≤ V5.heap.size := Nat.le_trans HZ0.out B5.out.size
      go_wp2_with (at_builtin; refine wpList_append_own _ rfl (.tmp 62) (.tmp 64) 43 rfl (w.heap.size + 1) 25 j0 (.agg #[.int .i64 0, .int .i64 0]) 2 16 Try.underlying43 hj hy0 hy1 hy2 rfl (by decide) _ N (cellsI L) rfl (O5.out.alloc _) ⟨V5.heap.size, 0, none⟩ 1 1 [.int .i64 qx, .int .i64 qy] rfl rfl (cells_new _ _ #[.int .i64 qx, .int .i64 qy]) (two_cells _ _) (by unfold maxLen; omega) (by omega) (by rw [World.size_alloc]; omega) ?_; intro v' w9 hown' hgrow hnil)
      have O9 := Lib.hid (own_growP hown')
      have B9 := Lib.hid (own_.below_append B5.out O5.out hP5 hgrow)
      clear hown' hgrow hnil c0 c1 hP5
      go_wp2_with fail
      go_roundw
      case rel => exact ⟨k + 1, by omega, by go_num, by rw [HC.out.1, HC.out.2]; exact O9.out, B9.out, HN2.out⟩
      case measure => simp [intOf]; omega
    · obtain ⟨j, hjk⟩ : ∃ j, j + 1 = k := ⟨k - 1, by omega⟩
      have hkj : k - 1 = j := by omega
      have hpos := cpN_pos (ceX x u s) (ceX y v s) j
      rw [hjk] at hpos
      obtain ⟨g8, rfl⟩ := own_some O4.out hpos
      obtain ⟨N1, hN1⟩ : ∃ N1, N1 + 1 = (cpN (ceX x u s) (ceX y v s) k) := ⟨(cpN (ceX x u s) (ceX y v s) k) - 1, by omega⟩
      have hlc := last_cell (F := ceX x u s) (G := ceX y v s) (k := j) (N := N1) (by rw [hjk]; exact O4.out) (by rw [hjk]; exact hN1)
      obtain ⟨l0, l1⟩ := hlc
      have HCN := Lib.hid (fun h => cp_new (f := ceX x u s) (g := ceX y v s) (k := k) h)
      have HCS := Lib.hid (fun h => cp_same (f := ceX x u s) (g := ceX y v s) (k := k) h)
      rw [HFX.out, HFY.out, hkj] at HCN HCS
      have hkp : 0 < k := by omega
      have HKP := Lib.hid hkp
      generalize (cp (ceX x u s) (ceX y v s) k) = L at *
      generalize (cpN (ceX x u s) (ceX y v s) k) = N at *
      generalize ceX x u s j = f1 at *
      generalize ceX y v s j = f2 at *
      have g0 : ((N : Int) == 0) = false := by simp; omega
      have e9 : IntKind.i64.wrap ((N : Int) - 1) = (N1 : Int) := by rw [IntWalk.i64_in _ (by omega)]; omega
      have hb9 : (N1 : Int) < (N : Int) := by omega
      have HN1 := Lib.hid hN1
      clear hk0 hjk hkj hpos hN1 hkp
      by_cases d0 : f1 = qx
      · rw [d0] at l0 HCN HCS
        have n0 : (qx != qx) = false := by simp
        have n3 : (qx == qx) = true := by simp
        clear d0
        by_cases d1 : f2 = qy
        · rw [d1] at l1 HCN HCS
          have HC := Lib.hid (HCS.out ⟨HKP.out, rfl, rfl⟩)
          have n1 : (qy != qy) = false := by simp
          clear HCS HCN d1
          have c0' := fun d0 os => cell_regrown c0 d0 os
          have c1' := fun d0 os => cell_regrown c1 d0 os
          have l0' := fun d0 os => cell_regrown l0 d0 os
          have l1' := fun d0 os => cell_regrown l1 d0 os
          clear c0 c1 l0 l1
          refine wp_region_quiet_below (by kernel_rfl) (by kernel_rfl) ?_
          repeat (
            with_reducible refine wpQuiet_step (fun K hK => ?_)
            go_simp
            refine hK _ ?_; clear hK K)
          with_reducible refine wpQuiet_nil ?_
          intro _ hw'
          obtain ⟨⟨dq, osq⟩, hw''⟩ := hw'
          subst hw''
          have hbl := (below_regrown V4 dq osq)
          clear c0' c1' l0' l1'
          generalize Sort.grow (redrawn V4 dq) osq = V5 at *
          have O5 := Lib.hid (own_.own_below O4.out hbl)
          have B5 := Lib.hid (below_from B4.out HZ0.out hbl)
          have SQ5 := Lib.hid (SQ.out.old hbl)
          clear hbl O4 B4 SQ
          go_wp2_with fail
          go_roundw
          case rel => exact ⟨k + 1, by omega, by go_num, by rw [HC.out.1, HC.out.2]; exact O5.out, B5.out, HN2.out⟩
          case measure => simp [intOf]; omega
        · have HC := Lib.hid (HCN.out (fun h => d1 h.2.2.symm))
          have n1 : (f2 != qy) = true := by simpa using d1
          have n2 : (f2 == qy) = false := by simpa using d1
          clear HCS HCN d1
          have c0' := fun d0 os => cell_regrown c0 d0 os
          have c1' := fun d0 os => cell_regrown c1 d0 os
          have l0' := fun d0 os => cell_regrown l0 d0 os
          have l1' := fun d0 os => cell_regrown l1 d0 os
          clear c0 c1 l0 l1
          refine wp_region_quiet_below (by kernel_rfl) (by kernel_rfl) ?_
          repeat (
            with_reducible refine wpQuiet_step (fun K hK => ?_)
            go_simp
            refine hK _ ?_; clear hK K)
          with_reducible refine wpQuiet_nil ?_
          intro _ hw'
          obtain ⟨⟨dq, osq⟩, hw''⟩ := hw'
          subst hw''
          have hbl := (below_regrown V4 dq osq)
          clear c0' c1' l0' l1'
          generalize Sort.grow (redrawn V4 dq) osq = V5 at *
          have O5 := Lib.hid (own_.own_below O4.out hbl)
          have B5 := Lib.hid (below_from B4.out HZ0.out hbl)
          have SQ5 := Lib.hid (SQ.out.old hbl)
          clear hbl O4 B4 SQ
          have c0 : V5.cell? ⟨V3.heap.size, 0, none⟩ = some (.int .i64 qx) := SQ5.out.cell 0
          have c1 : V5.cell? ⟨V3.heap.size, 1, none⟩ = some (.int .i64 qy) := SQ5.out.cell 1
          have hP5 : w.heap.size + 1 ≤ V5.heap.size := Nat.le_trans HZ0.out B5.out.size
          go_wp2_with (at_builtin; refine wpList_append_own _ rfl (.tmp 62) (.tmp 64) 43 rfl (w.heap.size + 1) 25 j0 (.agg #[.int .i64 0, .int .i64 0]) 2 16 Try.underlying43 hj hy0 hy1 hy2 rfl (by decide) _ N (cellsI L) rfl (O5.out.alloc _) ⟨V5.heap.size, 0, none⟩ 1 1 [.int .i64 qx, .int .i64 qy] rfl rfl (cells_new _ _ #[.int .i64 qx, .int .i64 qy]) (two_cells _ _) (by unfold maxLen; omega) (by omega) (by rw [World.size_alloc]; omega) ?_; intro v' w9 hown' hgrow hnil)
          have O9 := Lib.hid (own_growP hown')
          have B9 := Lib.hid (own_.below_append B5.out O5.out hP5 hgrow)
          clear hown' hgrow hnil c0 c1 hP5
          go_wp2_with fail
          go_roundw
          case rel => exact ⟨k + 1, by omega, by go_num, by rw [HC.out.1, HC.out.2]; exact O9.out, B9.out, HN2.out⟩
          case measure => simp [intOf]; omega
      · have HC := Lib.hid (HCN.out (fun h => d0 h.2.1.symm))
        have n1 : (f1 != qx) = true := by simpa using d0
        have n2 : (f1 == qx) = false := by simpa using d0
        clear HCS HCN d0
        have c0' := fun d0 os => cell_regrown c0 d0 os
        have c1' := fun d0 os => cell_regrown c1 d0 os
        have l0' := fun d0 os => cell_regrown l0 d0 os
        have l1' := fun d0 os => cell_regrown l1 d0 os
        clear c0 c1 l0 l1
        refine wp_region_quiet_below (by kernel_rfl) (by kernel_rfl) ?_
        repeat (
          with_reducible refine wpQuiet_step (fun K hK => ?_)
          go_simp
          refine hK _ ?_; clear hK K)
        with_reducible refine wpQuiet_nil ?_
        intro _ hw'
        obtain ⟨⟨dq, osq⟩, hw''⟩ := hw'
        subst hw''
        have hbl := (below_regrown V4 dq osq)
        clear c0' c1' l0' l1'
        generalize Sort.grow (redrawn V4 dq) osq = V5 at *
        have O5 := Lib.hid (own_.own_below O4.out hbl)
        have B5 := Lib.hid (below_from B4.out HZ0.out hbl)
        have SQ5 := Lib.hid (SQ.out.old hbl)
        clear hbl O4 B4 SQ
        have c0 : V5.cell? ⟨V3.heap.size, 0, none⟩ = some (.int .i64 qx) := SQ5.out.cell 0
        have c1 : V5.cell? ⟨V3.heap.size, 1, none⟩ = some (.int .i64 qy) := SQ5.out.cell 1
        have hP5 : w.heap.size + 1 ≤ V5.heap.size := Nat.le_trans HZ0.out B5.out.size
        go_wp2_with (at_builtin; refine wpList_append_own _ rfl (.tmp 62) (.tmp 64) 43 rfl (w.heap.size + 1) 25 j0 (.agg #[.int .i64 0, .int .i64 0]) 2 16 Try.underlying43 hj hy0 hy1 hy2 rfl (by decide) _ N (cellsI L) rfl (O5.out.alloc _) ⟨V5.heap.size, 0, none⟩ 1 1 [.int .i64 qx, .int .i64 qy] rfl rfl (cells_new _ _ #[.int .i64 qx, .int .i64 qy]) (two_cells _ _) (by unfold maxLen; omega) (by omega) (by rw [World.size_alloc]; omega) ?_; intro v' w9 hown' hgrow hnil)
        have O9 := Lib.hid (own_growP hown')
        have B9 := Lib.hid (own_.below_append B5.out O5.out hP5 hgrow)
        clear hown' hgrow hnil c0 c1 hP5
        go_wp2_with fail
        go_roundw
        case rel => exact ⟨k + 1, by omega, by go_num, by rw [HC.out.1, HC.out.2]; exact O9.out, B9.out, HN2.out⟩
        case measure => simp [intOf]; omega
end Go.Proofs.Ytinkkdgjpcnklaa.mote

/- The laws' rPlaces: two lists of places that read alike. -/
namespace Go.Proofs.Ytinkkdgjpcnklaa.vplc
open Go.RowKit Go.Proofs.Ytinkkdgjpcnklaa.ats Go.Proofs.Ytinkkdgjpcnklaa.ints Go.Proofs.Ytinkkdgjpcnklaa.lst Go.Proofs.Ytinkkdgjpcnklaa.plce

theorem int_ne_self (x : Int) : (x != x) = false := by simp
set_option maxHeartbeats 1000000 in
theorem rPlaces (zs : List Int) (A C : Option Addr) (n c d : Nat) (w : World) (hn : n ≤ 1048577) (h1 : RdZ 2 w w.heap.size A n zs) (h2 : RdZ 2 w w.heap.size C n zs) :
    Calls Try.prog 33 #[.slice A n c, .slice C n d] w fun e w' => e = .returned (.bool true) ∧ ∃ j, w' = w.drewN j := by
  have hnn := int_ne_self (n : Int)
  go_enter Try.func33, Try.ntmps33
  go_wp2
  go_loopw [5] (fun i wr => ∃ k j : Nat, k ≤ n ∧ i = .int .i64 k ∧ wr = w.drewN j) (fun i _ => n - (intOf i).toNat)
  case atStart => exact ⟨0, 0, Nat.zero_le _, rfl, rfl⟩
  case round =>
    obtain ⟨k, j, hk, rfl, rfl⟩ := hrel
    by_cases hlt : k < n
    · obtain ⟨b1, o1, rfl, l1, p0, p1⟩ := cellsE h1 hlt
      obtain ⟨b2, o2, rfl, l2, r0, r1⟩ := cellsE h2 hlt
      have hlt2 : (k : Int) < (n : Int) := by omega
      clear h1 h2
      generalize fld 2 zs k 0 = x0 at *
      have hs0 := int_ne_self x0
      have ht0 : (x0 == x0) = true := by simp
      generalize fld 2 zs k 1 = x1 at *
      have hs1 := int_ne_self x1
      have ht1 : (x1 == x1) = true := by simp
      go_wp2_with fail
      go_quiet (fail)
      go_wp2
      go_roundw
      case rel => exact ⟨k + 1, _, by omega, by go_num, by first | rfl | rw [World.drewN_drewN]⟩
      case measure => simp [intOf]; omega
    · clear h1 h2
      go_wp2
      go_ret
      exact ⟨rfl, j, rfl⟩
end Go.Proofs.Ytinkkdgjpcnklaa.vplc

namespace Go.Proofs.Ytinkkdgjpcnklaa.fnPaths
open Go.ChangeShapes Go.WideShapes Go.ChangeAt Go.RowKit
open Go.ChangeMaps (open_string shut_string)
open Go.Proofs.Ytinkkdgjpcnklaa.code_ Go.Proofs.Ytinkkdgjpcnklaa.cur Go.Proofs.Ytinkkdgjpcnklaa.ats Go.Proofs.Ytinkkdgjpcnklaa.lst Go.Proofs.Ytinkkdgjpcnklaa.mot Go.Proofs.Ytinkkdgjpcnklaa.motm Go.Proofs.Ytinkkdgjpcnklaa.drawt16 Go.Proofs.Ytinkkdgjpcnklaa.drawu16
set_option linter.unusedVariables false

theorem bool_ne_self (b : Bool) : (b != b) = false := by simp
theorem int_ne_self (b : Int) : (b != b) = false := by simp
theorem bool_eq_self (b : Bool) : (b == b) = true := by simp
theorem int_eq_self (b : Int) : (b == b) = true := by simp
theorem own_cap {w : World} {B e s n : Nat} {v : Value} {xs : List Value} (h : w.ownsRow B e s v n xs) : ∃ A c, v = .slice A n c ∧ n ≤ c := by
  rcases h.2 with ⟨rfl, h0⟩ | ⟨g, cap, cur, rfl, _, _, hle, _⟩
  · exact ⟨_, _, by rw [h0], by omega⟩
  · exact ⟨_, _, rfl, hle⟩
theorem pc_apart {x y u v h c m s : Int} {k : Nat} (h0 : 0 < k) (hk : k < pcN x y u v h c m s) : ¬ (fld 2 (pcV x y u v h c m s) k 0 = fld 2 (pcV x y u v h c m s) (k - 1) 0 ∧ fld 2 (pcV x y u v h c m s) k 1 = fld 2 (pcV x y u v h c m s) (k - 1) 1) := by
  cases e : pcB x y u v h c m s
  · rw [(pc_no e).2] at hk
    exact absurd hk (Nat.not_lt_zero k)
  · have hl := pcV_length x y u v h c m s
    obtain ⟨e1, e2⟩ := pc_yes e
    rw [e2] at hk
    rw [e1, e2] at hl
    rw [e1]
    have ha := cp_apart (ceX x u s) (ceX y v s) (m.toNat + 1) k h0 hk
    generalize cp (ceX x u s) (ceX y v s) (m.toNat + 1) = L at *
    generalize cpN (ceX x u s) (ceX y v s) (m.toNat + 1) = N at *
    intro hh
    apply ha
    have g : ∀ i, i < L.length → L[i]? = some (L.getD i 0) := fun i hi => by rw [List.getD_eq_getElem?_getD, List.getElem?_eq_getElem hi]; rfl
    unfold fld at hh
    rw [g _ (by omega), g _ (by omega), g _ (by omega), g _ (by omega)]
    exact ⟨congrArg some hh.1, congrArg some hh.2⟩

set_option maxRecDepth 100000 in
set_option maxHeartbeats 16000000 in
theorem walk (A : Option Addr) (n c : Nat) (z : List Int) (w : World) (w0 : IsRow .u8 w A n c z) :
    Calls Try.prog 4 #[.slice A n c] w fun e w' => e = .returned (.bool true) ∧ Below w.heap.size w w' := by
  obtain ⟨hby, hnc, -⟩ := bytes_of w0
  clear w0
  have hv := Lib.hid (fun w => rBig A n c w)
  by_cases hbig : (65536 : Int) < (n : Int)
  · clear hby
    go_enter Try.func4, Try.ntmps4
    go_wp2_with fail
    refine (hv.out _).mono ?_
    rintro e w1 ⟨rfl, rfl⟩
    go_wp2_with fail
    go_ret
    exact ⟨rfl, Below.refl _ _⟩
  have hd : decide ((65536 : Int) < (n : Int)) = false := by simpa using hbig
  have hn : n ≤ 65536 := by omega
  have H := Lib.hid hby
  clear hby hbig hnc
  go_enter Try.func4, Try.ntmps4
  go_wp2_with fail
  refine (hv.out _).mono ?_
  rintro e wx ⟨rfl, rfl⟩
  clear hd hv
  have HB0 := Lib.hid (Below.refl w.heap.size w)
  go_wp2_with fail
  refine (pathCells A n c w hn (Bytes_below H.out HB0.out)).mono ?_
  rintro e V1 ⟨x1, y1, u1, v1, h1, c1, m1, s1, rfl, h2⟩
  have HB3 := Lib.hid (HB0.out.trans (h2.mono HB0.out.size))
  clear HB0
  clear h2
  have BX4 := Lib.hid (plce.at_next 28 #[.int .i64 x1, .int .i64 y1, .int .i64 u1, .int .i64 v1, .int .i64 h1, .int .i64 c1] HB3.out)
  clear HB3
  have HBn := Lib.hid BX4.out.1
  have HB5 := HBn
  clear HBn
  go_upto_region 4 with fail
  generalize (V1.alloc (.cells #[.int .i64 x1, .int .i64 y1, .int .i64 u1, .int .i64 v1, .int .i64 h1, .int .i64 c1] 28)) = W1 at *
  have CI := Lib.hid (fun W => motd.pathCells x1 y1 u1 v1 h1 c1 m1 s1 W)
  have CS := Lib.hid (fun W => mote.pathCells x1 y1 u1 v1 h1 c1 m1 s1 W)
  have CL := Lib.hid (fun W => motc.leavesAt x1 y1 u1 v1 h1 c1 W)
  have CM := Lib.hid (fun W => mots.leavesAt x1 y1 u1 v1 h1 c1 W)
  have HLN := Lib.hid (pcV_length x1 y1 u1 v1 h1 c1 m1 s1)
  have F1 := Lib.hid (fun (h : pcB x1 y1 u1 v1 h1 c1 m1 s1 = true) => And.intro (path_ends h) (pcB_yes h).2.1)
  have F2 := Lib.hid (fun (k : Nat) (h0 : 0 < k) (hk : k < pcN x1 y1 u1 v1 h1 c1 m1 s1) => pc_apart h0 hk)
  have hle := pcN_le x1 y1 u1 v1 h1 c1 m1 s1
  generalize pcV x1 y1 u1 v1 h1 c1 m1 s1 = L at *
  generalize pcN x1 y1 u1 v1 h1 c1 m1 s1 = N at *
  generalize pcB x1 y1 u1 v1 h1 c1 m1 s1 = O1 at *
  generalize lvV x1 y1 u1 v1 h1 c1 = T1 at *
  generalize lvB x1 y1 u1 v1 h1 c1 = Q1 at *
  have n1 := int_ne_self (T1 : Int)
  have n2 := bool_ne_self O1
  have n3 := bool_ne_self Q1
  have km0_ : W1.cell? ⟨V1.heap.size, 0, none⟩ = some (.int .i64 x1) := BX4.out.cell 0
  have km1_ : W1.cell? ⟨V1.heap.size, 1, none⟩ = some (.int .i64 y1) := BX4.out.cell 1
  have km2_ : W1.cell? ⟨V1.heap.size, 2, none⟩ = some (.int .i64 u1) := BX4.out.cell 2
  have km3_ : W1.cell? ⟨V1.heap.size, 3, none⟩ = some (.int .i64 v1) := BX4.out.cell 3
  have km4_ : W1.cell? ⟨V1.heap.size, 4, none⟩ = some (.int .i64 h1) := BX4.out.cell 4
  have km5_ : W1.cell? ⟨V1.heap.size, 5, none⟩ = some (.int .i64 c1) := BX4.out.cell 5
  go_wp2_with fail
  clear km0_ km1_ km2_ km3_ km4_ km5_
  refine (CI.out W1).mono ?_
  rintro e V6 ⟨vI, rfl, ho8, h7⟩
  obtain ⟨AI, cI, rfl, hcI⟩ := own_cap ho8
  have HB9 := Lib.hid (HB5.out.trans (h7.mono HB5.out.size))
  clear HB5
  have BX10 := Lib.hid (BX4.out.old h7)
  clear BX4
  clear h7
  have RX11 := Lib.hid (RdZ.of_own ho8 HLN.out)
  clear ho8
  have km0_ : V6.cell? ⟨V1.heap.size, 0, none⟩ = some (.int .i64 x1) := BX10.out.cell 0
  have km1_ : V6.cell? ⟨V1.heap.size, 1, none⟩ = some (.int .i64 y1) := BX10.out.cell 1
  have km2_ : V6.cell? ⟨V1.heap.size, 2, none⟩ = some (.int .i64 u1) := BX10.out.cell 2
  have km3_ : V6.cell? ⟨V1.heap.size, 3, none⟩ = some (.int .i64 v1) := BX10.out.cell 3
  have km4_ : V6.cell? ⟨V1.heap.size, 4, none⟩ = some (.int .i64 h1) := BX10.out.cell 4
  have km5_ : V6.cell? ⟨V1.heap.size, 5, none⟩ = some (.int .i64 c1) := BX10.out.cell 5
  go_wp2_with fail
  clear km0_ km1_ km2_ km3_ km4_ km5_
  refine (CS.out V6).mono ?_
  rintro e V12 ⟨vS, rfl, ho14, h13⟩
  obtain ⟨AS, cS, rfl, hcS⟩ := own_cap ho14
  have HB15 := Lib.hid (HB9.out.trans (h13.mono HB9.out.size))
  clear HB9
  have BX16 := Lib.hid (BX10.out.old h13)
  clear BX10
  have RX17 := Lib.hid (RX11.out.next h13)
  clear RX11
  clear h13
  have RX18 := Lib.hid (RdZ.of_own ho14 HLN.out)
  clear ho14
  clear CI CS
  have E1 := Lib.hid (vplc.rPlaces L AI AS N cI cS V12 (by omega) RX17.out RX18.out)
  go_wp2_with fail
  refine E1.out.mono ?_
  rintro e wx ⟨rfl, j19, rfl⟩
  clear E1 RX18
  have h20 := aid.below_drewN (Below.refl V12.heap.size V12) j19
  generalize V12.drewN j19 = V21 at *
  have HB22 := Lib.hid (HB15.out.trans (h20.mono HB15.out.size))
  clear HB15
  have BX23 := Lib.hid (BX16.out.old h20)
  clear BX16
  have RX24 := Lib.hid (RX17.out.next h20)
  clear RX17
  clear h20
  have km0_ : V21.cell? ⟨V1.heap.size, 0, none⟩ = some (.int .i64 x1) := BX23.out.cell 0
  have km1_ : V21.cell? ⟨V1.heap.size, 1, none⟩ = some (.int .i64 y1) := BX23.out.cell 1
  have km2_ : V21.cell? ⟨V1.heap.size, 2, none⟩ = some (.int .i64 u1) := BX23.out.cell 2
  have km3_ : V21.cell? ⟨V1.heap.size, 3, none⟩ = some (.int .i64 v1) := BX23.out.cell 3
  have km4_ : V21.cell? ⟨V1.heap.size, 4, none⟩ = some (.int .i64 h1) := BX23.out.cell 4
  have km5_ : V21.cell? ⟨V1.heap.size, 5, none⟩ = some (.int .i64 c1) := BX23.out.cell 5
  go_wp2_with fail
  clear km0_ km1_ km2_ km3_ km4_ km5_
  refine (CL.out V21).mono ?_
  rintro e V25 ⟨rfl, h26⟩
  have HB27 := Lib.hid (HB22.out.trans (h26.mono HB22.out.size))
  clear HB22
  have BX28 := Lib.hid (BX23.out.old h26)
  clear BX23
  have RX29 := Lib.hid (RX24.out.next h26)
  clear RX24
  clear h26
  have km0_ : V25.cell? ⟨V1.heap.size, 0, none⟩ = some (.int .i64 x1) := BX28.out.cell 0
  have km1_ : V25.cell? ⟨V1.heap.size, 1, none⟩ = some (.int .i64 y1) := BX28.out.cell 1
  have km2_ : V25.cell? ⟨V1.heap.size, 2, none⟩ = some (.int .i64 u1) := BX28.out.cell 2
  have km3_ : V25.cell? ⟨V1.heap.size, 3, none⟩ = some (.int .i64 v1) := BX28.out.cell 3
  have km4_ : V25.cell? ⟨V1.heap.size, 4, none⟩ = some (.int .i64 h1) := BX28.out.cell 4
  have km5_ : V25.cell? ⟨V1.heap.size, 5, none⟩ = some (.int .i64 c1) := BX28.out.cell 5
  go_wp2_with fail
  clear km0_ km1_ km2_ km3_ km4_ km5_
  refine (CM.out V25).mono ?_
  rintro e V30 ⟨rfl, h31⟩
  have HB32 := Lib.hid (HB27.out.trans (h31.mono HB27.out.size))
  clear HB27
  have BX33 := Lib.hid (BX28.out.old h31)
  clear BX28
  have RX34 := Lib.hid (RX29.out.next h31)
  clear RX29
  clear h31
  clear CL CM
  clear BX33
  go_upto_region 12 with fail
  go_cut [101] from 81 to 101 (fun s wz => s = .bool false ∧ wz = V30)
  case first =>
    cases O1
    · go_wp2_with fail
      go_meet
      exact ⟨rfl, rfl⟩
    · obtain ⟨⟨f1, f2, f3⟩, f4, f5⟩ := F1.out (by trivial)
      have e1 : IntKind.i64.wrap (m1 + 1) = m1 + 1 := IntWalk.i64_in _ (by omega)
      have g1 : ¬ (N : Int) < 1 := by omega
      have g2 : ¬ m1 + 1 < (N : Int) := by omega
      cases Q1
      · go_wp2_with fail
        go_meet
        exact ⟨rfl, rfl⟩
      · have g3 : ¬ (T1 : Int) ≤ m1 := by have := f3 (by trivial); omega
        go_wp2_with fail
        go_meet
        exact ⟨rfl, rfl⟩
  case rest =>
    obtain ⟨rfl, hwc⟩ := hcut
    obtain rfl : V30 = wc := hwc.symm
    clear F1 n1 n2 n3
    go_wp2_with fail
    go_loopw [14] (fun i wr => ∃ k : Nat, 1 ≤ k ∧ (k ≤ N ∨ k = 1) ∧ i = .int .i64 k ∧ Below V30.heap.size V30 wr) (fun i _ => N - (intOf i).toNat)
    case atStart => exact ⟨1, Nat.le_refl _, .inr rfl, rfl, Below.refl _ _⟩
    case round =>
      obtain ⟨k, hk1, hkN, rfl, hbw⟩ := hrel
      have RW := Lib.hid (RX34.out.next hbw)
      have HBW := Lib.hid hbw
      clear hbw
      by_cases hlt : k < N
      · obtain ⟨jj, hjj⟩ : ∃ jj, jj + 1 = k := ⟨k - 1, by omega⟩
        have hkj : k - 1 = jj := by omega
        obtain ⟨b1, o1, rfl, l1, hc1⟩ := RW.out.at_ hlt
        obtain ⟨b2, o2, hbo, l2, hc2⟩ := RW.out.at_ (show jj < N by omega)
        obtain ⟨rfl, rfl⟩ : b1 = b2 ∧ o1 = o2 := by
          have := Option.some.inj hbo
          injection this with e1 e2
          exact ⟨e1, e2⟩
        have p0 : wr.cell? ⟨b1, o1 + k * 2, none⟩ = some (.int .i64 (fld 2 L k 0)) := hc1 0 (by omega)
        have p1 : wr.cell? ⟨b1, o1 + k * 2 + 1, none⟩ = some (.int .i64 (fld 2 L k 1)) := hc1 1 (by omega)
        have q0 : wr.cell? ⟨b1, o1 + jj * 2, none⟩ = some (.int .i64 (fld 2 L jj 0)) := hc2 0 (by omega)
        have q1 : wr.cell? ⟨b1, o1 + jj * 2 + 1, none⟩ = some (.int .i64 (fld 2 L jj 1)) := hc2 1 (by omega)
        have hlt2 : (k : Int) < (N : Int) := by omega
        have hjlt2 : (jj : Int) < (N : Int) := by omega
        have e0 : IntKind.i64.wrap ((k : Int) - 1) = (jj : Int) := by rw [IntWalk.i64_in _ (by omega)]; omega
        have hne := F2.out k (by omega) hlt
        rw [hkj] at hne
        have HJJ := Lib.hid hjj
        clear hc1 hc2 hbo hkj hjj
        by_cases hd : fld 2 L k 0 = fld 2 L jj 0
        · have hd1 : (fld 2 L k 1 == fld 2 L jj 1) = false := by simp; exact fun h => hne ⟨hd, h⟩
          rw [hd] at p0
          have hd0 : (fld 2 L jj 0 == fld 2 L jj 0) = true := by simp
          clear hne hd
          generalize fld 2 L jj 0 = z0 at *
          generalize fld 2 L jj 1 = z1 at *
          generalize fld 2 L k 1 = z2 at *
          go_wp2_with fail
          go_quiet (fail)
          go_wp2_with fail
          go_roundw
          case rel => exact ⟨k + 1, by omega, .inl (by omega), by go_num, aid.below_drewN HBW.out _⟩
          case measure => simp [intOf]; omega
        · have hd0 : (fld 2 L k 0 == fld 2 L jj 0) = false := by simpa using hd
          clear hne hd
          generalize fld 2 L jj 0 = z0 at *
          generalize fld 2 L jj 1 = z1 at *
          generalize fld 2 L k 1 = z2 at *
          generalize fld 2 L k 0 = z3 at *
          go_wp2_with fail
          go_quiet (fail)
          go_wp2_with fail
          go_roundw
          case rel => exact ⟨k + 1, by omega, .inl (by omega), by go_num, aid.below_drewN HBW.out _⟩
          case measure => simp [intOf]; omega
      · have hge : ¬ (k : Int) < (N : Int) := by omega
        have hd9 := HBW.out
        clear F2 RX34 RW HBW HLN
        have HB35 := Lib.hid (HB32.out.trans (hd9.mono HB32.out.size))
        clear HB32
        clear hd9
        generalize wr = VA at *
        go_wp2_with fail
        refine (courseLine A n c VA hn (Bytes_below H.out HB35.out)).mono ?_
        rintro e V36 ⟨x2, y2, u2, v2, h2, c2, p2, q2, rfl, h37⟩
        have HB38 := Lib.hid (HB35.out.trans (h37.mono HB35.out.size))
        clear HB35
        clear h37
        have BX39 := Lib.hid ((plce.at_next 28 #[.int .i64 x2, .int .i64 y2, .int .i64 u2, .int .i64 v2, .int .i64 h2, .int .i64 c2] HB38.out).alloc (.cells #[.int .i64 p2, .int .i64 q2] 25))
        have BX40 := Lib.hid ((plce.at_next 28 #[.int .i64 x2, .int .i64 y2, .int .i64 u2, .int .i64 v2, .int .i64 h2, .int .i64 c2] HB38.out).next 25 #[.int .i64 p2, .int .i64 q2])
        rw [World.size_alloc] at BX40
        clear HB38
        have HBn := Lib.hid BX39.out.1
        have HB41 := HBn
        clear HBn
        go_upto_region 20 with fail
        generalize ((V36.alloc (.cells #[.int .i64 x2, .int .i64 y2, .int .i64 u2, .int .i64 v2, .int .i64 h2, .int .i64 c2] 28)).alloc (.cells #[.int .i64 p2, .int .i64 q2] 25)) = W2 at *
        have CI := Lib.hid (fun W => mota.courseLine x2 y2 u2 v2 h2 c2 p2 q2 W)
        have CS := Lib.hid (fun W => mots.courseLine x2 y2 u2 v2 h2 c2 p2 q2 W)
        have CO := Lib.hid (fun W => mota.courseLine x2 y2 u2 v2 h2 c2 x2 y2 W)
        have FC := Lib.hid (fun (h : clB x2 y2 u2 v2 h2 c2 p2 q2 = true) => own_course h)
        generalize clV x2 y2 u2 v2 h2 c2 p2 q2 = S2 at *
        generalize clB x2 y2 u2 v2 h2 c2 p2 q2 = O2 at *
        generalize clV x2 y2 u2 v2 h2 c2 x2 y2 = S3 at *
        generalize clB x2 y2 u2 v2 h2 c2 x2 y2 = O3 at *
        have n1 := int_ne_self S2
        have n2 := bool_ne_self O2
        have km0_ : W2.cell? ⟨V36.heap.size, 0, none⟩ = some (.int .i64 x2) := BX39.out.cell 0
        have km1_ : W2.cell? ⟨V36.heap.size, 1, none⟩ = some (.int .i64 y2) := BX39.out.cell 1
        have km2_ : W2.cell? ⟨V36.heap.size, 2, none⟩ = some (.int .i64 u2) := BX39.out.cell 2
        have km3_ : W2.cell? ⟨V36.heap.size, 3, none⟩ = some (.int .i64 v2) := BX39.out.cell 3
        have km4_ : W2.cell? ⟨V36.heap.size, 4, none⟩ = some (.int .i64 h2) := BX39.out.cell 4
        have km5_ : W2.cell? ⟨V36.heap.size, 5, none⟩ = some (.int .i64 c2) := BX39.out.cell 5
        have kp0_ : W2.cell? ⟨V36.heap.size + 1, 0, none⟩ = some (.int .i64 p2) := BX40.out.cell 0
        have kp1_ : W2.cell? ⟨V36.heap.size + 1, 1, none⟩ = some (.int .i64 q2) := BX40.out.cell 1
        go_wp2_with fail
        clear km0_ km1_ km2_ km3_ km4_ km5_ kp0_ kp1_
        refine (CI.out W2).mono ?_
        rintro e V42 ⟨rfl, h43⟩
        have HB44 := Lib.hid (HB41.out.trans (h43.mono HB41.out.size))
        clear HB41
        have BX45 := Lib.hid (BX39.out.old h43)
        clear BX39
        have BX46 := Lib.hid (BX40.out.old h43)
        clear BX40
        clear h43
        have km0_ : V42.cell? ⟨V36.heap.size, 0, none⟩ = some (.int .i64 x2) := BX45.out.cell 0
        have km1_ : V42.cell? ⟨V36.heap.size, 1, none⟩ = some (.int .i64 y2) := BX45.out.cell 1
        have km2_ : V42.cell? ⟨V36.heap.size, 2, none⟩ = some (.int .i64 u2) := BX45.out.cell 2
        have km3_ : V42.cell? ⟨V36.heap.size, 3, none⟩ = some (.int .i64 v2) := BX45.out.cell 3
        have km4_ : V42.cell? ⟨V36.heap.size, 4, none⟩ = some (.int .i64 h2) := BX45.out.cell 4
        have km5_ : V42.cell? ⟨V36.heap.size, 5, none⟩ = some (.int .i64 c2) := BX45.out.cell 5
        have kp0_ : V42.cell? ⟨V36.heap.size + 1, 0, none⟩ = some (.int .i64 p2) := BX46.out.cell 0
        have kp1_ : V42.cell? ⟨V36.heap.size + 1, 1, none⟩ = some (.int .i64 q2) := BX46.out.cell 1
        go_wp2_with fail
        clear km0_ km1_ km2_ km3_ km4_ km5_ kp0_ kp1_
        refine (CS.out V42).mono ?_
        rintro e V47 ⟨rfl, h48⟩
        have HB49 := Lib.hid (HB44.out.trans (h48.mono HB44.out.size))
        clear HB44
        have BX50 := Lib.hid (BX45.out.old h48)
        clear BX45
        have BX51 := Lib.hid (BX46.out.old h48)
        clear BX46
        clear h48
        clear CI CS
        go_upto_if 143 with fail
        go_cut [21, 22] from 144 to 156 (fun p21 p22 wz => Below V47.heap.size V47 wz)
        case first =>
          cases O2
          · go_wp2_with fail
            go_meet
            exact Below.refl _ _
          · obtain ⟨rfl, rfl⟩ := FC.out (by trivial)
            clear FC
            have km0_ : V47.cell? ⟨V36.heap.size, 0, none⟩ = some (.int .i64 x2) := BX50.out.cell 0
            have km1_ : V47.cell? ⟨V36.heap.size, 1, none⟩ = some (.int .i64 y2) := BX50.out.cell 1
            have km2_ : V47.cell? ⟨V36.heap.size, 2, none⟩ = some (.int .i64 u2) := BX50.out.cell 2
            have km3_ : V47.cell? ⟨V36.heap.size, 3, none⟩ = some (.int .i64 v2) := BX50.out.cell 3
            have km4_ : V47.cell? ⟨V36.heap.size, 4, none⟩ = some (.int .i64 h2) := BX50.out.cell 4
            have km5_ : V47.cell? ⟨V36.heap.size, 5, none⟩ = some (.int .i64 c2) := BX50.out.cell 5
            go_wp2_with fail
            clear km0_ km1_ km2_ km3_ km4_ km5_
            refine (CO.out V47).mono ?_
            rintro e wp ⟨rfl, hp⟩
            have HP := Lib.hid hp
            clear hp CO
            go_wp2_with fail
            go_meet
            exact HP.out
        case rest =>
          have hbc := hcut
          clear BX50
          clear BX51
          have HB52 := Lib.hid (HB49.out.trans (hbc.mono HB49.out.size))
          clear HB49
          clear hbc
          clear CO FC n1 n2
          generalize wc = VB at *
          go_wp2_with fail
          refine (heightAt A n c VB hn (Bytes_below H.out HB52.out)).mono ?_
          rintro e V53 ⟨x3, y3, u3, v3, h3, c3, n3, d3, rfl, h54⟩
          have HB55 := Lib.hid (HB52.out.trans (h54.mono HB52.out.size))
          clear HB52
          clear h54
          have BX56 := Lib.hid (plce.at_next 28 #[.int .i64 x3, .int .i64 y3, .int .i64 u3, .int .i64 v3, .int .i64 h3, .int .i64 c3] HB55.out)
          clear HB55
          have HBn := Lib.hid BX56.out.1
          have HB57 := HBn
          clear HBn
          go_upto_region 29 with fail
          generalize (V53.alloc (.cells #[.int .i64 x3, .int .i64 y3, .int .i64 u3, .int .i64 v3, .int .i64 h3, .int .i64 c3] 28)) = W3 at *
          have CI := Lib.hid (fun W => mota.heightAt x3 y3 u3 v3 h3 c3 n3 d3 W)
          have CS := Lib.hid (fun W => mots.heightAt x3 y3 u3 v3 h3 c3 n3 d3 W)
          have FH := Lib.hid (fun (h : paB x3 y3 u3 v3 h3 c3 n3 d3 = true) => And.intro (ha_back h) (And.intro (haX_parts h) (haX_in h)))
          generalize haN x3 y3 u3 v3 h3 c3 n3 d3 = a3 at *
          generalize haD x3 y3 u3 v3 h3 c3 n3 d3 = b3 at *
          generalize paB x3 y3 u3 v3 h3 c3 n3 d3 = O4 at *
          have i1 := int_eq_self a3
          have i2 := int_eq_self (b3 : Int)
          have i3 := bool_eq_self O4
          have km0_ : W3.cell? ⟨V53.heap.size, 0, none⟩ = some (.int .i64 x3) := BX56.out.cell 0
          have km1_ : W3.cell? ⟨V53.heap.size, 1, none⟩ = some (.int .i64 y3) := BX56.out.cell 1
          have km2_ : W3.cell? ⟨V53.heap.size, 2, none⟩ = some (.int .i64 u3) := BX56.out.cell 2
          have km3_ : W3.cell? ⟨V53.heap.size, 3, none⟩ = some (.int .i64 v3) := BX56.out.cell 3
          have km4_ : W3.cell? ⟨V53.heap.size, 4, none⟩ = some (.int .i64 h3) := BX56.out.cell 4
          have km5_ : W3.cell? ⟨V53.heap.size, 5, none⟩ = some (.int .i64 c3) := BX56.out.cell 5
          go_wp2_with fail
          clear km0_ km1_ km2_ km3_ km4_ km5_
          refine (CI.out W3).mono ?_
          rintro e V58 ⟨rfl, h59⟩
          have HB60 := Lib.hid (HB57.out.trans (h59.mono HB57.out.size))
          clear HB57
          have BX61 := Lib.hid (BX56.out.old h59)
          clear BX56
          clear h59
          have km0_ : V58.cell? ⟨V53.heap.size, 0, none⟩ = some (.int .i64 x3) := BX61.out.cell 0
          have km1_ : V58.cell? ⟨V53.heap.size, 1, none⟩ = some (.int .i64 y3) := BX61.out.cell 1
          have km2_ : V58.cell? ⟨V53.heap.size, 2, none⟩ = some (.int .i64 u3) := BX61.out.cell 2
          have km3_ : V58.cell? ⟨V53.heap.size, 3, none⟩ = some (.int .i64 v3) := BX61.out.cell 3
          have km4_ : V58.cell? ⟨V53.heap.size, 4, none⟩ = some (.int .i64 h3) := BX61.out.cell 4
          have km5_ : V58.cell? ⟨V53.heap.size, 5, none⟩ = some (.int .i64 c3) := BX61.out.cell 5
          go_wp2_with fail
          clear km0_ km1_ km2_ km3_ km4_ km5_
          refine (CS.out V58).mono ?_
          rintro e V62 ⟨rfl, h63⟩
          have HB64 := Lib.hid (HB60.out.trans (h63.mono HB60.out.size))
          clear HB60
          have BX65 := Lib.hid (BX61.out.old h63)
          clear BX61
          clear h63
          clear CI CS
          have km0_ : V62.cell? ⟨V53.heap.size, 0, none⟩ = some (.int .i64 x3) := BX65.out.cell 0
          have km1_ : V62.cell? ⟨V53.heap.size, 1, none⟩ = some (.int .i64 y3) := BX65.out.cell 1
          have km2_ : V62.cell? ⟨V53.heap.size, 2, none⟩ = some (.int .i64 u3) := BX65.out.cell 2
          have km3_ : V62.cell? ⟨V53.heap.size, 3, none⟩ = some (.int .i64 v3) := BX65.out.cell 3
          have km4_ : V62.cell? ⟨V53.heap.size, 4, none⟩ = some (.int .i64 h3) := BX65.out.cell 4
          have km5_ : V62.cell? ⟨V53.heap.size, 5, none⟩ = some (.int .i64 c3) := BX65.out.cell 5
          have HE := Lib.hid HB64.out
          cases O4
          · clear FH
            go_wp2_with fail
            go_ret
            exact ⟨rfl, HE.out⟩
          · obtain ⟨⟨f1, f2⟩, ⟨f3, f4⟩, f5⟩ := FH.out (by trivial)
            clear FH
            unfold haX at f1 f5
            generalize hP : h3 * d3 = P3 at *
            generalize hQ : c3 * n3 = Q3 at *
            have e1 : IntKind.i64.wrap P3 = P3 := IntWalk.i64_in _ (by omega)
            have e2 : IntKind.i64.wrap Q3 = Q3 := IntWalk.i64_in _ (by omega)
            have e3 : IntKind.i64.wrap (P3 + Q3) = P3 + Q3 := IntWalk.i64_in _ (by omega)
            generalize hR : (b3 : Int) * (P3 + Q3) = R3 at *
            rw [f1] at f2
            have e4 : IntKind.i64.wrap R3 = R3 := IntWalk.i64_in _ (by omega)
            have i4 := int_eq_self R3
            go_wp2_with fail
            go_ret
            exact ⟨rfl, HE.out⟩

theorem own : ownKnob Try.prog.godebug = none := by kernel_rfl
theorem laidOut : laidOutB Try.prog = true := by kernel_rfl

set_option maxRecDepth 100000 in
theorem lifted (os : Os) (started : os.Started) (H : Type) (enc : TypeId × Value → H) :
    ReturnsInHanded {} Try.checked os 4 .any (Rows.fnPathsSpec.pre6 enc Try.prog Try.f4 Rows.fnPathsRow.domain false) (Rows.fnPathsSpec.post enc Try.prog Try.f4 false true false false) := by
  refine returnsInHanded_of_change (C := Try.checked) own started (by kernel_rfl) Try.func4
    (ChangeSpec.witness6 (enc := enc) (C := Try.checked) false ⟨#[], #[.slice none 0 0], []⟩ 8 (by kernel_rfl) (by kernel_rfl) (by kernel_rfl) (by kernel_rfl)) ?_
  intro W base args ds gs before hval0 hW hcnd _
  have hval : ∀ (j : Nat) t v, Try.f4.params[j]? = some t → args[j]? = some v → Value.okWide Try.prog W .any base t v := hval0
  have hW' := hW
  obtain ⟨p, q, hA0, hV, rfl, hfz, hnd⟩ := hW
  have hA : DataW.TrodAll enc Try.prog W 0 (fun _ => true) true Try.f4.params.toList args.toList ds p := hA0
  rw [Try.params4] at hA hval
  obtain ⟨v0, vs0, d0, ds0, p0, q0, hargs, rfl, rfl, h0, r0⟩ := trodAll_cons hA
  obtain ⟨rfl, rfl, rfl⟩ := trodAll_nil r0
  obtain rfl : args = #[v0] := by cases args; simp_all
  obtain ⟨rfl, rfl⟩ := trodVars_none hV
  obtain ⟨a0, len0, cap0, rfl⟩ := okWide_slice Try.underlying22 (hval 0 22 v0 rfl rfl)
  have k0 := h0
  have lt0 : ∀ x ∈ p0, x.block < W.heap.size := by obtain ⟨m, hm⟩ := k0; exact DataW.trod_lt m _ _ _ hm
  obtain ⟨z0, w0⟩ : ∃ zs, IsRow .u8 W a0 len0 cap0 zs := by
    obtain ⟨fuel, hf⟩ := h0
    rcases open_ints Try.underlying22 Try.underlying5 (by kernel_rfl) hf with ⟨hcs, _⟩ | ⟨x, l, c, zs, hcs, _, hl, hm, hz, _, hcell, hwz⟩
    · simp [Value.cells] at hcs
      obtain ⟨rfl, rfl, rfl⟩ := hcs
      exact ⟨[], .inl ⟨rfl, rfl, rfl, rfl⟩⟩
    · simp [Value.cells] at hcs
      obtain ⟨rfl, rfl, rfl⟩ := hcs
      exact ⟨zs, .inr ⟨_, rfl, hl, hm, by simpa using hz, hcell, hwz⟩⟩
  clear hA0 hval0
  refine (walk a0 len0 cap0 z0 W w0).mono fun e W' ⟨he, bel⟩ => ?_
  subst he
  exact ⟨_, rfl, _, _, _, [], _, [], hW', trodAll_mk1 (shut_bool Try.underlying4 _), (trodAll_cons_mk (Below.trod laidOut (by kernel_rfl) (of_decide_eq_true (by kernel_rfl)) k0 bel lt0) trodAll_mk0), rfl, bel.frame _, fun h => by cases h⟩

theorem over : Rows.fnPathsRow.holds Try.pinned (OpenSpec.ofChange Rows.fnPathsSpec) :=
  OpenClaim.holds_of_wide 4 Try.f4 rfl rfl rfl rfl rfl rfl rfl ⟨rfl, rfl, rfl, rfl, rfl⟩ rfl rfl rfl rfl rfl (by kernel_rfl) Try.func4 (by kernel_rfl)
    (of_decide_eq_true (by kernel_rfl)) (by unfold Func.isWrapper; first | (rw [if_pos (by decide +kernel)]; kernel_rfl) | (rw [if_neg (by decide +kernel)]; exact ⟨rfl, rfl⟩))
    (fun os started H enc _ => lifted os started H enc)

theorem proved : Rows.FnPathsSaid :=
  over
#print axioms proved
end Go.Proofs.Ytinkkdgjpcnklaa.fnPaths
