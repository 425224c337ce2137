/- More words on slices of ints: an argument []int opened, the laws' toIntS, and markIntS with what it leaves. -/
import Derived.Test.YtfigjfckelichaaGreatDoorLst
import Derived.Test.YtfigjfckelichaaGreatDoorCode
import Derived.Laws.MakeOwn
import Derived.Lib.QuietBelow
namespace Go.Proofs.YtfigjfckelichaaGreatDoor.intc
open Go.RowKit Go.Proofs.YtfigjfckelichaaGreatDoor.ints Go.Proofs.YtfigjfckelichaaGreatDoor.lst Go.Proofs.YtfigjfckelichaaGreatDoor.code_

theorem RdZ.more {s : Nat} {w : World} {B B' n : Nat} {A : Option Addr} {zs : List Int} (h : RdZ s w B A n zs) (hB : B ≤ B') : RdZ s w B' A n zs :=
  ⟨h.1, fun hn => by
    obtain ⟨b, o, e, hlt, hc⟩ := h.2 hn
    exact ⟨b, o, e, by omega, hc⟩⟩
theorem rd_of_own {w : World} {B e c n : Nat} {A : Option Addr} {xs : List Int} (h : w.ownsRow B e 1 (.slice A n c) n (cellsI xs)) (hn : xs.length = n) : RdI w w.heap.size A n xs :=
  RdI.of_own (by rw [hn]; exact h) hn.symm
theorem rd_of_row {w : World} {a : Option Addr} {len cap : Nat} {zs : List Int} (h : IsRow .i64 w a len cap zs) : RdI w w.heap.size a len (zs.take len) ∧ len ≤ cap ∧ cap ≤ maxLen := by
  rcases h with ⟨rfl, rfl, rfl, rfl⟩ | ⟨x, rfl, hl, hm, hz, hcell, _⟩
  · exact ⟨⟨rfl, fun h => absurd h (by omega)⟩, Nat.le_refl _, Nat.zero_le _⟩
  · refine ⟨⟨by rw [List.length_take, hz]; omega, fun h0 => ?_⟩, hl, hm⟩
    have hc0 := hcell 0 (by omega)
    rw [Addr.add_zero'] at hc0
    obtain ⟨b, o, sp⟩ := x
    obtain rfl : sp = none := World.cell?_spot hc0
    refine ⟨b, o, rfl, World.block_lt_of_cell? _ _ hc0, fun k v hv => ?_⟩
    have hk := (List.getElem?_eq_some_iff.1 hv).1
    rw [List.length_take] at hk
    have h1 := hcell k (by omega)
    rw [Addr.add_lit] at h1
    rw [h1]
    rw [List.getElem?_take, if_pos (by omega)] at hv
    rw [List.getD_eq_getElem?_getD, hv]
    rfl

/-- A row of ints whose first m cells are filled. -/
def fillI (xs : List Int) (m t : Nat) : List Value := cellsI (xs.take m) ++ List.replicate (t - m) (.int .i64 0)
theorem fillI_zero (xs : List Int) (t : Nat) : fillI xs 0 t = List.replicate t (.int .i64 0) := by unfold fillI cellsI; simp
theorem fillI_set {xs : List Int} {m t : Nat} {x : Int} (h : xs[m]? = some x) (hm : m < t) : (fillI xs m t).set m (.int .i64 x) = fillI xs (m + 1) t := by
  have hl := (List.getElem?_eq_some_iff.1 h).1
  have hx := (List.getElem?_eq_some_iff.1 h).2
  unfold fillI cellsI
  have h1 : ((xs.take m).map (Value.int .i64)).length = m := by simp; omega
  rw [List.set_append, if_neg (by omega), h1, Nat.sub_self, List.take_succ_eq_append_getElem hl]
  obtain ⟨r, hr⟩ : ∃ r, t - m = r + 1 := ⟨t - m - 1, by omega⟩
  rw [hr, List.replicate_succ, List.set_cons_zero, show t - (m + 1) = r by omega, hx, List.map_append, List.map_cons, List.map_nil, List.append_assoc]
  rfl
theorem fillI_at {xs : List Int} {m t j : Nat} (hl : xs.length = t) (hj : j < t) (hm : m ≤ t) : ∃ u, (fillI xs m t)[j]? = some u :=
  ⟨_, List.getElem?_eq_getElem (by unfold fillI cellsI; simp; omega)⟩
theorem fillI_all {xs : List Int} {t : Nat} (hl : xs.length = t) : fillI xs t t = cellsI xs := by
  unfold fillI; rw [List.take_of_length_le (by omega)]; simp
theorem made1 (n : Nat) : (madeCells (Value.cells (.int .i64 0)) (n * 1)).toList = List.replicate n (.int .i64 0) := by
  refine List.ext_getElem (by simp [madeCells]) fun i h1 h2 => ?_
  simp [madeCells, Value.cells, Nat.mod_one]

end Go.Proofs.YtfigjfckelichaaGreatDoor.intc
