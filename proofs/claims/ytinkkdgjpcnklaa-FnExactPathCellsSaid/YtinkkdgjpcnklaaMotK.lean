/- slices.Compact at a slice of places that the call owns. -/
import Derived.Test.YtinkkdgjpcnklaaMot
import Derived.Test.YtinkkdgjpcnklaaLst
import Derived.Test.YtinkkdgjpcnklaaOwn
import Derived.Test.YtinkkdgjpcnklaaAtS
import Derived.Laws.OwnMore
import Derived.Laws.IdiomCopy
import Derived.Lib.SliceRun
import Derived.BigQuiet
import Derived.Deep.QuietTactic
namespace Go.Proofs.Ytinkkdgjpcnklaa.motk
open Go.RowKit Go.Proofs.Ytinkkdgjpcnklaa.ints Go.Proofs.Ytinkkdgjpcnklaa.lst Go.Proofs.Ytinkkdgjpcnklaa.mot

/-- What lies in the row when m elements have been looked at. -/
def ct (zs : List Int) (m : Nat) : List Int := cp (fun i => fld 2 zs i 0) (fun i => fld 2 zs i 1) m ++ zs.drop (cpN (fun i => fld 2 zs i 0) (fun i => fld 2 zs i 1) m * 2)
abbrev cl (zs : List Int) (m : Nat) : List Int := cp (fun i => fld 2 zs i 0) (fun i => fld 2 zs i 1) m
abbrev cn (zs : List Int) (m : Nat) : Nat := cpN (fun i => fld 2 zs i 0) (fun i => fld 2 zs i 1) m
theorem ct_length {zs : List Int} {n m : Nat} (hz : zs.length = n * 2) (hm : m ≤ n) : (ct zs m).length = n * 2 := by
  have h1 := cp_length (fun i => fld 2 zs i 0) (fun i => fld 2 zs i 1) m
  have h2 := cpN_le (fun i => fld 2 zs i 0) (fun i => fld 2 zs i 1) m
  unfold ct
  rw [List.length_append, List.length_drop, h1, hz]
  omega
theorem ct_high {zs : List Int} {m i j : Nat} (hi : cn zs m ≤ i) : fld 2 (ct zs m) i j = fld 2 zs i j := by
  have h1 := cp_length (fun i => fld 2 zs i 0) (fun i => fld 2 zs i 1) m
  have hi2 : cpN (fun i => fld 2 zs i 0) (fun i => fld 2 zs i 1) m ≤ i := hi
  unfold fld ct
  rw [List.getD_eq_getElem?_getD, List.getD_eq_getElem?_getD, List.getElem?_append_right (by rw [h1]; omega), List.getElem?_drop, h1]
  congr 2
  omega
theorem ct_low {zs : List Int} {m : Nat} : (ct zs m).take (cn zs m * 2) = cl zs m := by
  have h1 := cp_length (fun i => fld 2 zs i 0) (fun i => fld 2 zs i 1) m
  unfold ct
  rw [← h1, List.take_left]
theorem drop_two {zs : List Int} {k : Nat} (hk : k * 2 + 1 < zs.length) : ∃ a b : Int, zs.drop (k * 2) = a :: b :: zs.drop (k * 2 + 2) := by
  refine ⟨zs[k * 2], zs[k * 2 + 1], ?_⟩
  rw [List.drop_eq_getElem_cons (by omega), List.drop_eq_getElem_cons (i := k * 2 + 1) hk]
theorem set_two {P Q : List Int} {a b a' b' : Int} {k : Nat} (hP : P.length = k * 2) : ((P ++ a' :: b' :: Q).set (k * 2) a).set (k * 2 + 1) b = P ++ [a, b] ++ Q := by
  rw [List.set_append_right _ _ (by omega), hP, Nat.sub_self, List.set_cons_zero, List.set_append_right _ _ (by omega), hP, show k * 2 + 1 - k * 2 = 1 by omega]
  simp
theorem ct_keep {zs : List Int} {n m : Nat} (hz : zs.length = n * 2) (hm : m < n) (h : ¬ (0 < m ∧ fld 2 zs m 0 = fld 2 zs (m - 1) 0 ∧ fld 2 zs m 1 = fld 2 zs (m - 1) 1)) :
    cn zs (m + 1) = cn zs m + 1 ∧ ct zs (m + 1) = ((ct zs m).set (cn zs m * 2) (fld 2 zs m 0)).set (cn zs m * 2 + 1) (fld 2 zs m 1) := by
  obtain ⟨e1, e2⟩ := cp_new (f := fun i => fld 2 zs i 0) (g := fun i => fld 2 zs i 1) h
  have h1 := cp_length (fun i => fld 2 zs i 0) (fun i => fld 2 zs i 1) m
  have h2 := cpN_le (fun i => fld 2 zs i 0) (fun i => fld 2 zs i 1) m
  refine ⟨e2, ?_⟩
  obtain ⟨a, b, hd⟩ := drop_two (zs := zs) (k := cpN (fun i => fld 2 zs i 0) (fun i => fld 2 zs i 1) m) (by omega)
  unfold ct
  rw [e1, e2, hd, set_two h1, Nat.add_mul]
theorem ct_skip {zs : List Int} {m : Nat} (h : 0 < m ∧ fld 2 zs m 0 = fld 2 zs (m - 1) 0 ∧ fld 2 zs m 1 = fld 2 zs (m - 1) 1) : cn zs (m + 1) = cn zs m ∧ ct zs (m + 1) = ct zs m := by
  obtain ⟨e1, e2⟩ := cp_same (f := fun i => fld 2 zs i 0) (g := fun i => fld 2 zs i 1) h
  refine ⟨e2, ?_⟩
  unfold ct
  rw [e1, e2]
/-- As long as no two are alike nothing has changed. -/
theorem all_new {zs : List Int} {n : Nat} (hz : zs.length = n * 2) : ∀ m, m ≤ n → (∀ i, 0 < i → i < m → ¬ (fld 2 zs i 0 = fld 2 zs (i - 1) 0 ∧ fld 2 zs i 1 = fld 2 zs (i - 1) 1)) → cn zs m = m ∧ cl zs m = zs.take (m * 2)
  | 0, _, _ => ⟨rfl, by simp [cl, cp]⟩
  | m + 1, hm, h => by
    obtain ⟨i1, i2⟩ := all_new hz m (by omega) (fun i h0 hi => h i h0 (by omega))
    obtain ⟨e1, e2⟩ := cp_new (f := fun i => fld 2 zs i 0) (g := fun i => fld 2 zs i 1) (k := m) (fun hh => h m hh.1 (by omega) hh.2)
    refine ⟨by show cpN _ _ (m + 1) = _; rw [e2]; exact congrArg (· + 1) i1, ?_⟩
    show cp _ _ (m + 1) = _
    rw [e1]
    have i2' : cp (fun i => fld 2 zs i 0) (fun i => fld 2 zs i 1) m = zs.take (m * 2) := i2
    rw [i2']
    have a0 : m * 2 < zs.length := by omega
    have a1 : m * 2 + 1 < zs.length := by omega
    rw [show (m + 1) * 2 = m * 2 + 1 + 1 by omega, List.take_succ_eq_append_getElem a1, List.take_succ_eq_append_getElem a0, List.append_assoc]
    congr 1
    unfold fld
    rw [List.getD_eq_getElem?_getD, List.getD_eq_getElem?_getD, Nat.add_zero, List.getElem?_eq_getElem a0, List.getElem?_eq_getElem a1]
    rfl
theorem ct_new {zs : List Int} {n m : Nat} (hz : zs.length = n * 2) (hm : m ≤ n) (h : ∀ i, 0 < i → i < m → ¬ (fld 2 zs i 0 = fld 2 zs (i - 1) 0 ∧ fld 2 zs i 1 = fld 2 zs (i - 1) 1)) : ct zs m = zs := by
  obtain ⟨e1, e2⟩ := all_new hz m hm h
  have e1' : cpN (fun i => fld 2 zs i 0) (fun i => fld 2 zs i 1) m = m := e1
  have e2' : cp (fun i => fld 2 zs i 0) (fun i => fld 2 zs i 1) m = zs.take (m * 2) := e2
  unfold ct
  rw [e1', e2', List.take_append_drop]

section
variable {w : World} {B g n c : Nat} {zs : List Int}
theorem cells_set (zs : List Int) (j : Nat) (x : Int) : (cellsI zs).set j (.int .i64 x) = cellsI (zs.set j x) := by unfold cellsI; rw [List.map_set]
theorem own_cell (h : w.ownsRow B 25 2 (.slice (some ⟨g, 0, none⟩) n c) n (cellsI zs)) (hz : zs.length = n * 2) {i j : Nat} (hi : i < n) (hj : j < 2) : w.cell? ⟨g, i * 2 + j, none⟩ = some (.int .i64 (fld 2 zs i j)) := by
  have hl : i * 2 + j < zs.length := by omega
  rw [h.cellAt (i * 2 + j) (by omega)]
  unfold cellsI fld
  rw [List.getElem?_map, List.getD_eq_getElem?_getD, List.getElem?_eq_getElem hl]
  rfl
theorem own_two (h : w.ownsRow B 25 2 (.slice (some ⟨g, 0, none⟩) n c) n (cellsI zs)) (i : Nat) (a b : Int) :
    ((w.setCell ⟨g, i * 2, none⟩ (.int .i64 a)).setCell ⟨g, i * 2 + 1, none⟩ (.int .i64 b)).ownsRow B 25 2 (.slice (some ⟨g, 0, none⟩) n c) n (cellsI ((zs.set (i * 2) a).set (i * 2 + 1) b)) ∧ w.grownBy ((w.setCell ⟨g, i * 2, none⟩ (.int .i64 a)).setCell ⟨g, i * 2 + 1, none⟩ (.int .i64 b)) (some g) := by
  obtain ⟨h1, g1⟩ := h.stored (i * 2) (.int .i64 a)
  obtain ⟨h2, -⟩ := h1.stored (i * 2 + 1) (.int .i64 b)
  rw [cells_set, cells_set] at h2
  exact ⟨h2, grown_set g1 _ _⟩
/-- The row cut to its first k elements. -/
theorem own_cut {xs : List Value} (h : w.ownsRow B 25 2 (.slice (some ⟨g, 0, none⟩) n c) n xs) {k : Nat} (hk : k ≤ n) : w.ownsRow B 25 2 (.slice (some ⟨g, 0, none⟩) k c) k (xs.take (k * 2)) := by
  rcases h with ⟨hl, ⟨h', _⟩ | ⟨g', cap', cur, h', hb, hg, hnc, hcm, hcs, htake⟩⟩
  · simp at h'
  · simp only [Value.slice.injEq, Option.some.injEq, Addr.mk.injEq, and_true, true_and] at h'
    obtain ⟨rfl, rfl⟩ := h'
    refine ⟨by rw [List.length_take, hl]; omega, .inr ⟨g, c, cur, rfl, hb, hg, by omega, hcm, hcs, ?_⟩⟩
    rw [← htake, List.take_take, Nat.min_eq_left (by omega)]
theorem own_caps {xs : List Value} (h : w.ownsRow B 25 2 (.slice (some ⟨g, 0, none⟩) n c) n xs) : n ≤ c ∧ c ≤ maxLen ∧ B ≤ g := by
  rcases h.2 with ⟨h', _⟩ | ⟨g', cap', cur, h', hb, hg, hnc, hcm, hcs, htake⟩
  · simp at h'
  · simp only [Value.slice.injEq, Option.some.injEq, Addr.mk.injEq, and_true, true_and] at h'
    obtain ⟨rfl, rfl⟩ := h'
    exact ⟨hnc, hcm, hb⟩
/-- Many cells set from o on leave what is ahead of o. -/
theorem own_sets : ∀ (vs : List Value) (o : Nat) (w : World) (xs : List Value), w.ownsRow B 25 2 (.slice (some ⟨g, 0, none⟩) n c) n xs →
    ∃ ys, (w.setCells g o vs).ownsRow B 25 2 (.slice (some ⟨g, 0, none⟩) n c) n ys ∧ ys.take o = xs.take o ∧ w.grownBy (w.setCells g o vs) (some g)
  | [], o, w, xs, h => ⟨xs, h, rfl, grown_refl w _⟩
  | v :: r, o, w, xs, h => by
    obtain ⟨h1, g1⟩ := h.stored o v
    obtain ⟨ys, h2, e, g2⟩ := own_sets r (o + 1) _ _ h1
    refine ⟨ys, h2, ?_, g1.trans g2⟩
    have e1 := congrArg (List.take o) e
    rw [List.take_take, List.take_take, Nat.min_eq_left (by omega)] at e1
    rw [e1, List.take_set_of_le (Nat.le_refl o)]
theorem clear_run (t e ty : TypeId) (zc : Array Value) (P : Program) (ht : P.underlying t = some (.slice e)) (hv : ∀ w, (zeroValue e).run P w = .ok (.agg zc) w) (hz : zc.size = 2) (h1 : ∀ v ∈ (Builtin.zeroCells zc (n : Nat)).toList, v.oneCell' = true) (b o cc : Nat) (hn : 0 < n)
    (hc : ∀ j, j < n * 2 → (w.cell? ⟨b, o + j, none⟩).isSome = true) (hf : ∀ j, j < n * 2 → w.frozen? ⟨b, o + j, none⟩ = false) :
    (Builtin.clear_ #[t] ty #[.slice (some ⟨b, o, none⟩) n cc]).run P w = .ok (.tuple #[]) (w.setCells b o (Builtin.zeroCells zc n).toList) := by
  have hl : (Builtin.zeroCells zc n).toList.length = n * 2 := by simp [Builtin.zeroCells, hz]
  have hst := run_storeCells_cells (P := P) b o (Builtin.zeroCells zc n).toList 0 w (by rw [hl]; simpa using hc) (by rw [hl]; simpa using hf) h1
  simp only [Nat.add_zero] at hst
  obtain ⟨m, rfl⟩ : ∃ m, n = m + 1 := ⟨n - 1, by omega⟩
  have hcs : (Value.agg zc).cells = zc := rfl
  simp [Builtin.clear_, run_underlying ht, hv, hcs, hst]
end
theorem zero_place (w : World) : (zeroValue 25).run Try.prog w = .ok (.agg #[.int .i64 0, .int .i64 0]) w := by kernel_rfl
theorem zeros_one (n : Nat) : ∀ v ∈ (Builtin.zeroCells #[.int .i64 0, .int .i64 0] n).toList, v.oneCell' = true := by
  intro v hv
  simp only [Builtin.zeroCells, Array.toList_map, List.mem_map] at hv
  obtain ⟨i, -, rfl⟩ := hv
  have : i % 2 = 0 ∨ i % 2 = 1 := by omega
  rcases this with h | h <;> (show (#[Value.int .i64 0, .int .i64 0][i % 2]!).oneCell' = true) <;> rw [h] <;> rfl

set_option maxRecDepth 100000 in
set_option maxHeartbeats 4000000 in
theorem compact (B g n c : Nat) (zs : List Int) (w : World) (hz : zs.length = n * 2) (hn : n ≤ 1048577) (hO : w.ownsRow B 25 2 (.slice (some ⟨g, 0, none⟩) n c) n (cellsI zs)) :
    Calls Try.prog 68 #[.slice (some ⟨g, 0, none⟩) n c] w fun e w' => e = .returned (.slice (some ⟨g, 0, none⟩) (cn zs n) c) ∧ w'.ownsRow B 25 2 (.slice (some ⟨g, 0, none⟩) (cn zs n) c) (cn zs n) (cellsI (cl zs n)) ∧ w.grownBy w' (some g) := by
  obtain ⟨hcn, hcm, hBg⟩ := own_caps hO
  have HB := Lib.hid hBg
  clear hBg
  have HO := Lib.hid hO
  have HZ := Lib.hid hz
  clear hO hz
  have HSAME := Lib.hid (fun (h : ∀ i, 0 < i → i < n → ¬ (fld 2 zs i 0 = fld 2 zs (i - 1) 0 ∧ fld 2 zs i 1 = fld 2 zs (i - 1) 1)) => (show cn zs n = n ∧ cl zs n = zs from ⟨(all_new HZ.out n (Nat.le_refl n) h).1, by rw [(all_new HZ.out n (Nat.le_refl n) h).2, ← HZ.out, List.take_length]⟩))
  by_cases h2 : n < 2
  · have HS := Lib.hid (HSAME.out (fun i h0 hi => by omega))
    have hn2 : (n : Int) < 2 := by omega
    go_enter Try.func68, Try.ntmps68
    go_wp2_with fail
    go_ret
    exact ⟨by rw [HS.out.1]; rfl, by rw [HS.out.1, HS.out.2]; exact HO.out, grown_refl _ _⟩
  have hn2 : ¬ (n : Int) < 2 := by omega
  go_enter Try.func68, Try.ntmps68
  go_wp2_with fail
  go_loopw [3] (fun i wr => ∃ k q : Nat, 1 ≤ k ∧ k ≤ n ∧ i = .int .i64 k ∧ wr = w.drewN q ∧ ∀ i, 0 < i → i < k → ¬ (fld 2 zs i 0 = fld 2 zs (i - 1) 0 ∧ fld 2 zs i 1 = fld 2 zs (i - 1) 1)) (fun i _ => n - (intOf i).toNat)
  case atStart => exact ⟨1, 0, Nat.le_refl _, by omega, rfl, rfl, fun i h0 h1 => by omega⟩
  case round =>
    obtain ⟨k, q, hk1, hk, rfl, hwr, hall⟩ := hrel
    have HA := Lib.hid hall
    have HG := Lib.hid (show w.grownBy wr (some g) from by rw [hwr]; exact grown_drewN w _ q)
    have OW := Lib.hid (show wr.ownsRow B 25 2 (.slice (some ⟨g, 0, none⟩) n c) n (cellsI zs) from by rw [hwr]; exact own_.own_drewN HO.out q)
    have HQ := Lib.hid hwr
    clear hall hwr
    by_cases hlt : k < n
    · have hlt2 : (k : Int) < (n : Int) := by omega
      obtain ⟨j, hj⟩ : ∃ j, j + 1 = k := ⟨k - 1, by omega⟩
      have hj1 : k - 1 = j := by omega
      have e0 : IntKind.i64.wrap ((k : Int) - 1) = (j : Int) := by rw [IntWalk.i64_in _ (by omega)]; omega
      have HJ := Lib.hid hj
      have hjn : j < n := by omega
      have hjn2 : (j : Int) < (n : Int) := by omega
      clear hj
      have a0 : wr.cell? ⟨g, k * 2, none⟩ = some (.int .i64 (fld 2 zs k 0)) := own_cell OW.out HZ.out hlt (j := 0) (by omega)
      have a1 : wr.cell? ⟨g, k * 2 + 1, none⟩ = some (.int .i64 (fld 2 zs k 1)) := own_cell OW.out HZ.out hlt (j := 1) (by omega)
      have b0 : wr.cell? ⟨g, j * 2, none⟩ = some (.int .i64 (fld 2 zs j 0)) := own_cell OW.out HZ.out hjn (j := 0) (by omega)
      have b1 : wr.cell? ⟨g, j * 2 + 1, none⟩ = some (.int .i64 (fld 2 zs j 1)) := own_cell OW.out HZ.out hjn (j := 1) (by omega)
      by_cases hd : fld 2 zs k 0 = fld 2 zs j 0 ∧ fld 2 zs k 1 = fld 2 zs j 1
      · have CK := Lib.hid (ct_skip (zs := zs) (m := k) (by rw [hj1]; exact ⟨by omega, hd⟩))
        have CA := Lib.hid (all_new HZ.out k (by omega) HA.out)
        have CN := Lib.hid (ct_new HZ.out (by omega) HA.out)
        rw [hd.1] at a0
        rw [hd.2] at a1
        clear hd hj1
        generalize fld 2 zs j 0 = x0 at *
        generalize fld 2 zs j 1 = x1 at *
        have hck : ¬ c = k := by omega
        have e2 : IntKind.i64.wrap ((n : Int) - (k : Int)) = ((n - k : Nat) : Int) := by rw [IntWalk.i64_in _ (by omega)]; omega
        go_wp2_with fail
        go_quiet (fail)
        have OW2 := Lib.hid (own_.own_drewN OW.out nq)
        have HG2 := Lib.hid (HG.out.trans (grown_drewN wr (some g) nq))
        generalize wr.drewN nq = wq at *
        clear a0 a1 b0 b1 OW HG HQ
        go_wp2_with fail
        clear wr
        go_loopw [3, 5] (fun i3 i5 wr => ∃ kk k2 : Nat, i3 = .int .i64 kk ∧ i5 = .int .i64 k2 ∧ 1 ≤ k2 ∧ k + k2 ≤ n ∧ cn zs (k + k2) = kk ∧ kk < k + k2 ∧ wr.ownsRow B 25 2 (.slice (some ⟨g, 0, none⟩) n c) n (cellsI (ct zs (k + k2))) ∧ w.grownBy wr (some g)) (fun _ i5 _ => n - (intOf i5).toNat)
        case atStart => exact ⟨k, 1, rfl, rfl, Nat.le_refl _, by omega, by rw [CK.out.1]; exact CA.out.1, by omega, by rw [CK.out.2, CN.out]; exact OW2.out, HG2.out⟩
        case round =>
          obtain ⟨kk, k2, rfl, rfl, hk2, hle, hcnk, hkk, ho, hg⟩ := hrel
          have OW3 := Lib.hid ho
          have HG3 := Lib.hid hg
          have HC := Lib.hid hcnk
          have HL := Lib.hid (ct_length (m := k + k2) HZ.out hle)
          clear ho hg hcnk CK CA CN OW2 HG2
          by_cases hlt3 : k + k2 < n
          · obtain ⟨j2, hj2⟩ : ∃ j2, j2 + 1 = k2 := ⟨k2 - 1, by omega⟩
            have e3 : IntKind.i64.wrap ((k2 : Int) - 1) = (j2 : Int) := by rw [IntWalk.i64_in _ (by omega)]; omega
            have hb1 : (k2 : Int) < ((n - k : Nat) : Int) := by omega
            have hb2 : (j2 : Int) < ((n - k : Nat) : Int) := by omega
            have hm1 : k + k2 - 1 = k + j2 := by omega
            have hj3 : kk ≤ k + j2 := by omega
            have HJ2 := Lib.hid hj2
            clear hj2
            have a0 : wr.cell? ⟨g, k * 2 + k2 * 2, none⟩ = some (.int .i64 (fld 2 zs (k + k2) 0)) := by
              rw [← ct_high (zs := zs) (m := k + k2) (j := 0) (by rw [HC.out]; omega), ← Nat.add_mul]; exact own_cell OW3.out HL.out hlt3 (j := 0) (by omega)
            have a1 : wr.cell? ⟨g, k * 2 + k2 * 2 + 1, none⟩ = some (.int .i64 (fld 2 zs (k + k2) 1)) := by
              rw [← ct_high (zs := zs) (m := k + k2) (j := 1) (by rw [HC.out]; omega), ← Nat.add_mul]; exact own_cell OW3.out HL.out hlt3 (j := 1) (by omega)
            have b0 : wr.cell? ⟨g, k * 2 + j2 * 2, none⟩ = some (.int .i64 (fld 2 zs (k + j2) 0)) := by
              rw [← ct_high (zs := zs) (m := k + k2) (j := 0) (by rw [HC.out]; exact hj3), ← Nat.add_mul]; exact own_cell OW3.out HL.out (by omega) (j := 0) (by omega)
            have b1 : wr.cell? ⟨g, k * 2 + j2 * 2 + 1, none⟩ = some (.int .i64 (fld 2 zs (k + j2) 1)) := by
              rw [← ct_high (zs := zs) (m := k + k2) (j := 1) (by rw [HC.out]; exact hj3), ← Nat.add_mul]; exact own_cell OW3.out HL.out (by omega) (j := 1) (by omega)
            by_cases hd : fld 2 zs (k + k2) 0 = fld 2 zs (k + j2) 0 ∧ fld 2 zs (k + k2) 1 = fld 2 zs (k + j2) 1
            · have CK := Lib.hid (ct_skip (zs := zs) (m := k + k2) (by rw [hm1]; exact ⟨by omega, hd⟩))
              rw [hd.1] at a0
              rw [hd.2] at a1
              have q0 : (fld 2 zs (k + j2) 0 != fld 2 zs (k + j2) 0) = false := by simp
              have q1 : (fld 2 zs (k + j2) 1 != fld 2 zs (k + j2) 1) = false := by simp
              clear hd hm1
              generalize fld 2 zs (k + j2) 0 = y0 at *
              generalize fld 2 zs (k + j2) 1 = y1 at *
              go_wp2_with fail
              go_quiet (fail)
              go_wp2_with fail
              go_roundw
              case rel => exact ⟨kk, k2 + 1, rfl, by go_num, by omega, by omega, CK.out.1.trans HC.out, by omega, by rw [show k + (k2 + 1) = k + k2 + 1 from rfl, CK.out.2]; exact own_.own_drewN OW3.out _, HG3.out.trans (grown_drewN _ _ _)⟩
              case measure => simp [intOf]; omega
            · have CK := Lib.hid (ct_keep (zs := zs) (m := k + k2) HZ.out hlt3 (by rw [hm1]; exact fun h => hd h.2))
              have o0 : wr.cell? ⟨g, kk * 2, none⟩ = some (.int .i64 (fld 2 (ct zs (k + k2)) kk 0)) := own_cell OW3.out HL.out (by omega) (j := 0) (by omega)
              have o1 : wr.cell? ⟨g, kk * 2 + 1, none⟩ = some (.int .i64 (fld 2 (ct zs (k + k2)) kk 1)) := own_cell OW3.out HL.out (by omega) (j := 1) (by omega)
              have f0 := OW3.out.frozenAt (kk * 2)
              have f1 := OW3.out.frozenAt (kk * 2 + 1)
              have hkn : (kk : Int) < (n : Int) := by omega
              have OT := Lib.hid (fun (wq : World) (h : wq.ownsRow B 25 2 (.slice (some ⟨g, 0, none⟩) n c) n (cellsI (ct zs (k + k2)))) => own_two h kk (fld 2 zs (k + k2) 0) (fld 2 zs (k + k2) 1))
              rw [HC.out] at CK
              rw [← CK.out.2] at OT
              generalize fld 2 (ct zs (k + k2)) kk 0 = z0 at *
              generalize fld 2 (ct zs (k + k2)) kk 1 = z1 at *
              by_cases hd0 : fld 2 zs (k + k2) 0 = fld 2 zs (k + j2) 0
              · have hd1 : ¬ fld 2 zs (k + k2) 1 = fld 2 zs (k + j2) 1 := fun h => hd ⟨hd0, h⟩
                have q1 : (fld 2 zs (k + k2) 1 != fld 2 zs (k + j2) 1) = true := by simpa using hd1
                have q2 : (fld 2 zs (k + k2) 1 == fld 2 zs (k + j2) 1) = false := by simpa using hd1
                rw [hd0] at a0 OT
                clear hd hd0 hd1 hm1
                generalize fld 2 zs (k + j2) 0 = y0 at *
                generalize fld 2 zs (k + j2) 1 = y1 at *
                generalize fld 2 zs (k + k2) 1 = x3 at *
                go_wp2_with fail
                go_quiet (fail)
                go_wp2_with fail
                go_roundw
                case rel => exact ⟨kk + 1, k2 + 1, by go_num, by go_num, by omega, by omega, CK.out.1, by omega, (OT.out _ (own_.own_drewN OW3.out _)).1, (HG3.out.trans (grown_drewN _ _ _)).trans (OT.out _ (own_.own_drewN OW3.out _)).2⟩
                case measure => simp [intOf]; omega
              · have q1 : (fld 2 zs (k + k2) 0 != fld 2 zs (k + j2) 0) = true := by simpa using hd0
                have q2 : (fld 2 zs (k + k2) 0 == fld 2 zs (k + j2) 0) = false := by simpa using hd0
                clear hd hd0 hm1
                generalize fld 2 zs (k + j2) 0 = y0 at *
                generalize fld 2 zs (k + j2) 1 = y1 at *
                generalize fld 2 zs (k + k2) 0 = x2 at *
                generalize fld 2 zs (k + k2) 1 = x3 at *
                go_wp2_with fail
                go_quiet (fail)
                go_wp2_with fail
                go_roundw
                case rel => exact ⟨kk + 1, k2 + 1, by go_num, by go_num, by omega, by omega, CK.out.1, by omega, (OT.out _ (own_.own_drewN OW3.out _)).1, (HG3.out.trans (grown_drewN _ _ _)).trans (OT.out _ (own_.own_drewN OW3.out _)).2⟩
                case measure => simp [intOf]; omega
          · have hend : k + k2 = n := by omega
            have hge : ¬ (k2 : Int) < ((n - k : Nat) : Int) := by omega
            rw [hend] at OW3 HC HL hkk
            have hckk : ¬ c = kk := by omega
            have hkn : (kk : Int) ≤ (n : Int) := by omega
            have hcl : ∀ ty, (Builtin.clear_ #[43] ty #[.slice (some ⟨g, kk * 2, none⟩) (n - kk) (c - kk)]).run Try.prog wr = .ok (.tuple #[]) (wr.setCells g (kk * 2) (Builtin.zeroCells #[.int .i64 0, .int .i64 0] (n - kk)).toList) :=
              fun ty => clear_run _ 25 ty #[.int .i64 0, .int .i64 0] Try.prog Try.underlying43 zero_place rfl (zeros_one _) g (kk * 2) (c - kk) (by omega) (fun j hj => by
                rw [OW3.out.cellAt (kk * 2 + j) (by omega)]
                unfold cellsI
                rw [List.getElem?_map, List.getElem?_eq_getElem (by rw [HL.out]; omega)]
                rfl) (fun j hj => OW3.out.frozenAt _)
            obtain ⟨ys, hs1, hs2, hs3⟩ := own_sets (Builtin.zeroCells #[.int .i64 0, .int .i64 0] (n - kk)).toList (kk * 2) wr _ OW3.out
            have E1 := Lib.hid (own_cut hs1 (k := kk) (by omega))
            have E2 := Lib.hid hs2
            have E3 := Lib.hid hs3
            clear hs1 hs2 hs3 hend
            generalize wr.setCells g (kk * 2) (Builtin.zeroCells #[.int .i64 0, .int .i64 0] (n - kk)).toList = W9 at *
            go_wp2_with fail
            go_ret
            refine ⟨by rw [HC.out]; rfl, ?_, HG3.out.trans E3.out⟩
            have e1 := E1.out
            rw [E2.out, ← HC.out] at e1
            rw [show (cellsI (ct zs n)).take (cn zs n * 2) = cellsI (cl zs n) from by unfold cellsI; rw [← List.map_take, ct_low]] at e1
            exact e1
      · have HNEW := Lib.hid (show ∀ i, 0 < i → i < k + 1 → ¬ (fld 2 zs i 0 = fld 2 zs (i - 1) 0 ∧ fld 2 zs i 1 = fld 2 zs (i - 1) 1) from fun i h0 hi => by
          by_cases e : i = k
          · subst e; rw [hj1]; exact hd
          · exact HA.out i h0 (by omega))
        by_cases hd0 : fld 2 zs k 0 = fld 2 zs j 0
        · have hd1 : ¬ fld 2 zs k 1 = fld 2 zs j 1 := fun h => hd ⟨hd0, h⟩
          have q1 : (fld 2 zs k 1 == fld 2 zs j 1) = false := by simpa using hd1
          rw [hd0] at a0
          clear hd hd0 hd1 hj1
          generalize fld 2 zs j 0 = x0 at *
          generalize fld 2 zs j 1 = x1 at *
          generalize fld 2 zs k 1 = y1 at *
          go_wp2_with fail
          go_quiet (fail)
          go_wp2_with fail
          go_roundw
          case rel => exact ⟨k + 1, q + nq, by omega, by omega, by go_num, by rw [HQ.out, World.drewN_drewN], HNEW.out⟩
          case measure => simp [intOf]; omega
        · have q0 : (fld 2 zs k 0 == fld 2 zs j 0) = false := by simpa using hd0
          clear hd hd0 hj1
          generalize fld 2 zs j 0 = x0 at *
          generalize fld 2 zs j 1 = x1 at *
          generalize fld 2 zs k 0 = y0 at *
          generalize fld 2 zs k 1 = y1 at *
          go_wp2_with fail
          go_quiet (fail)
          go_wp2_with fail
          go_roundw
          case rel => exact ⟨k + 1, q + nq, by omega, by omega, by go_num, by rw [HQ.out, World.drewN_drewN], HNEW.out⟩
          case measure => simp [intOf]; omega
    · obtain rfl : k = n := by omega
      have HS := Lib.hid (HSAME.out HA.out)
      go_wp2_with fail
      go_ret
      exact ⟨by rw [HS.out.1]; rfl, by rw [HS.out.1, HS.out.2]; exact OW.out, HG.out⟩
end Go.Proofs.Ytinkkdgjpcnklaa.motk
