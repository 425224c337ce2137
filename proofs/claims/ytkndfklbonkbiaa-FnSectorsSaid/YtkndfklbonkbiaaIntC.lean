/- More words on slices of ints: an argument []int opened, the laws' toIntS, and markIntS with what it leaves. -/
import Derived.Test.YtkndfklbonkbiaaLst
import Derived.Test.YtkndfklbonkbiaaCode
import Derived.Laws.MakeOwn
import Derived.Lib.QuietBelow
namespace Go.Proofs.Ytkndfklbonkbiaa.intc
open Go.RowKit Go.Proofs.Ytkndfklbonkbiaa.ints Go.Proofs.Ytkndfklbonkbiaa.lst Go.Proofs.Ytkndfklbonkbiaa.code_

theorem RdZ.more {s : Nat} {w : World} {B B' n : Nat} {A : Option Addr} {zs : List Int} (h : RdZ s w B A n zs) (hB : B ≤ B') : RdZ s w B' A n zs :=
  ⟨h.1, fun hn => by
    obtain ⟨b, o, e, hlt, hc⟩ := h.2 hn
    exact ⟨b, o, e, by omega, hc⟩⟩
theorem rd_of_own {w : World} {B e c n : Nat} {A : Option Addr} {xs : List Int} (h : w.ownsRow B e 1 (.slice A n c) n (cellsI xs)) (hn : xs.length = n) : RdI w w.heap.size A n xs :=
  RdI.of_own (by rw [hn]; exact h) hn.symm
theorem rd_of_row {w : World} {a : Option Addr} {len cap : Nat} {zs : List Int} (h : IsRow .i64 w a len cap zs) : RdI w w.heap.size a len (zs.take len) ∧ len ≤ cap ∧ cap ≤ maxLen := by
  rcases h with ⟨rfl, rfl, rfl, rfl⟩ | ⟨x, rfl, hl, hm, hz, hcell, _⟩
  · exact ⟨⟨rfl, fun h => absurd h (by omega)⟩, Nat.le_refl _, Nat.zero_le _⟩
  · refine ⟨⟨by rw [List.length_take, hz]; omega, fun h0 => ?_⟩, hl, hm⟩
    have hc0 := hcell 0 (by omega)
    rw [Addr.add_zero'] at hc0
    obtain ⟨b, o, sp⟩ := x
    obtain rfl : sp = none := World.cell?_spot hc0
    refine ⟨b, o, rfl, World.block_lt_of_cell? _ _ hc0, fun k v hv => ?_⟩
    have hk := (List.getElem?_eq_some_iff.1 hv).1
    rw [List.length_take] at hk
    have h1 := hcell k (by omega)
    rw [Addr.add_lit] at h1
    rw [h1]
    rw [List.getElem?_take, if_pos (by omega)] at hv
    rw [List.getD_eq_getElem?_getD, hv]
    rfl

/-- A row of ints whose first m cells are filled. -/
def fillI (xs : List Int) (m t : Nat) : List Value := cellsI (xs.take m) ++ List.replicate (t - m) (.int .i64 0)
theorem fillI_zero (xs : List Int) (t : Nat) : fillI xs 0 t = List.replicate t (.int .i64 0) := by unfold fillI cellsI; simp
theorem fillI_set {xs : List Int} {m t : Nat} {x : Int} (h : xs[m]? = some x) (hm : m < t) : (fillI xs m t).set m (.int .i64 x) = fillI xs (m + 1) t := by
  have hl := (List.getElem?_eq_some_iff.1 h).1
  have hx := (List.getElem?_eq_some_iff.1 h).2
  unfold fillI cellsI
  have h1 : ((xs.take m).map (Value.int .i64)).length = m := by simp; omega
  rw [List.set_append, if_neg (by omega), h1, Nat.sub_self, List.take_succ_eq_append_getElem hl]
  obtain ⟨r, hr⟩ : ∃ r, t - m = r + 1 := ⟨t - m - 1, by omega⟩
  rw [hr, List.replicate_succ, List.set_cons_zero, show t - (m + 1) = r by omega, hx, List.map_append, List.map_cons, List.map_nil, List.append_assoc]
  rfl
theorem fillI_at {xs : List Int} {m t j : Nat} (hl : xs.length = t) (hj : j < t) (hm : m ≤ t) : ∃ u, (fillI xs m t)[j]? = some u :=
  ⟨_, List.getElem?_eq_getElem (by unfold fillI cellsI; simp; omega)⟩
theorem fillI_all {xs : List Int} {t : Nat} (hl : xs.length = t) : fillI xs t t = cellsI xs := by
  unfold fillI; rw [List.take_of_length_le (by omega)]; simp
theorem made1 (n : Nat) : (madeCells (Value.cells (.int .i64 0)) (n * 1)).toList = List.replicate n (.int .i64 0) := by
  refine List.ext_getElem (by simp [madeCells]) fun i h1 h2 => ?_
  simp [madeCells, Value.cells, Nat.mod_one]

set_option maxHeartbeats 1000000 in
theorem markI (B : Nat) (A : Option Addr) (k n c : Nat) (xs : List Value) (w : World) (hk : k + n ≤ 8388608) (h : w.ownsRow B 3 1 (.slice A n c) n xs) :
    Calls Try.prog 14 #[.slice A n c, .int .i64 (k : Int)] w fun e w' => e = .returned (.int .i64 ((k + n : Nat) : Int)) ∧ Below B w w' ∧ w.grownBy w' (Value.slice A n c).ownBlock ∧ w'.ownsRow B 3 1 (.slice A n c) n (cellsI (marksI k n)) := by
  have hl : xs.length = n := by have := h.1; omega
  go_enter Try.func14, Try.ntmps14
  go_wp2
  go_loopw [1, 5] (fun q i wr => ∃ j : Nat, j ≤ n ∧ i = .int .i64 j ∧ q = .int .i64 ((k + j : Nat) : Int) ∧ Below B w wr ∧ wr.ownsRow B 3 1 (.slice A n c) n (half k j xs) ∧ w.grownBy wr (Value.slice A n c).ownBlock) (fun _ i _ => n - (intOf i).toNat)
  case atStart => exact ⟨0, Nat.zero_le _, rfl, rfl, Below.refl _ _, by rw [half_zero]; exact h, grown_refl _ _⟩
  case round =>
    obtain ⟨j, hj, rfl, rfl, hb, hown, hgr⟩ := hrel
    have hsz := hb.size
    by_cases hlt : j < n
    · have hform : ∃ g, A = some ⟨g, 0, none⟩ ∧ B ≤ g := by
        rcases hown.2 with ⟨_, h0⟩ | ⟨g, _, _, hv, hg, _⟩
        · omega
        · injection hv with hA; exact ⟨g, hA, hg⟩
      obtain ⟨g, rfl, hBg⟩ := hform
      obtain ⟨u, hu⟩ := half_at (k := k) (xs := xs) (j := j) (by omega)
      have HS := Lib.hid (half_set (k := k) (xs := xs) (j := j) (by omega))
      have hlt2 : (j : Int) < (n : Int) := by omega
      have e1 : ((k + (j + 1) : Nat) : Int) = ((k + j : Nat) : Int) + 1 := by omega
      have E1 := Lib.hid e1
      have HL := Lib.hid hl
      have b1 : ((k + j : Nat) : Int) ≤ 8388608 := by omega
      have b0 : (0 : Int) ≤ ((k + j : Nat) : Int) := by omega
      have hc2 := (hown.cellAt j (by omega)).trans hu
      have hf2 := hown.frozenAt j
      have hst := (hown.stored j (.int .i64 ((k + j : Nat) : Int))).1
      rw [HS.out] at hst
      have HST := Lib.hid hst
      have HG := Lib.hid (grown_set (show w.grownBy wr (some g) from hgr) j (.int .i64 ((k + j : Nat) : Int)))
      clear h e1 hl hst hu hgr
      generalize ((k + j : Nat) : Int) = m at *
      go_wp2_with fail
      go_roundw
      case rel => exact ⟨j + 1, by omega, by go_num, by rw [E1.out], hb.setCell (p := ⟨g, j, none⟩) hBg _, HST.out, HG.out⟩
      case measure => simp [intOf]; omega
    · obtain rfl : j = n := by omega
      have HO := Lib.hid (show wr.ownsRow B 3 1 (.slice A j c) j (cellsI (marksI k j)) by rw [← half_all (xs := xs) (by omega)]; exact hown)
      clear h hown
      go_wp2
      go_ret
      exact ⟨rfl, hb, hgr, HO.out⟩
end Go.Proofs.Ytkndfklbonkbiaa.intc
