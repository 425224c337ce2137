/- The laws' helpers on structs of 6 ints (impl.Track) and on lists of them. -/
import Derived.Test.YtfigjfckelichaaGreatDoorLst
import Derived.Test.YtfigjfckelichaaGreatDoorAtS
import Derived.Laws.MakeOwn
import Derived.Laws.OwnMore
import Derived.Lib.QuietBelow
namespace Go.Proofs.YtfigjfckelichaaGreatDoor.trke
open Go.RowKit Go.Proofs.YtfigjfckelichaaGreatDoor.ats Go.Proofs.YtfigjfckelichaaGreatDoor.ints Go.Proofs.YtfigjfckelichaaGreatDoor.lst

theorem bl_next {V Wc w' : World} (h : Below V.heap.size V Wc) (hb : Below Wc.heap.size Wc w') : Below V.heap.size V w' := h.trans (hb.mono h.size)
theorem at_next {V W : World} (T : TypeId) (cs : Array Value) (h : Below V.heap.size V W) : AtS T cs V (W.alloc (.cells cs T)) W.heap.size :=
  ⟨h.trans (((Below.refl W.heap.size W).alloc (Nat.le_refl _) (.cells cs T)).mono h.size), h.size, by rw [World.size_alloc]; omega, heap_alloc_new W _⟩
theorem at_cell {T : TypeId} {cs : Array Value} {w W : World} {b : Nat} (h : AtS T cs w W b) (i : Nat) (v : Value) (hv : cs[i]? = some v) : W.cell? ⟨b, i, none⟩ = some v := (h.cell i).trans hv
theorem ne_self (b : Int) : (b != b) = false := by simp

theorem infoS : (Tryz.prog.info? 25).map (fun i => (i.zero, i.size, i.bytes)) = some (some (.agg #[.int .i64 0, .int .i64 0, .int .i64 0, .int .i64 0, .int .i64 0, .int .i64 0]), 6, 48) := by kernel_rfl
theorem made2 (n : Nat) : (madeCells (Value.cells (.agg #[.int .i64 0, .int .i64 0, .int .i64 0, .int .i64 0, .int .i64 0, .int .i64 0])) (n * 6)).toList = List.replicate (n * 6) (.int .i64 0) := by
  refine List.ext_getElem (by simp [madeCells]) fun i h1 h2 => ?_
  simp [madeCells] at h1 ⊢
  have : i % 6 = 0 ∨ i % 6 = 1 ∨ i % 6 = 2 ∨ i % 6 = 3 ∨ i % 6 = 4 ∨ i % 6 = 5 := by omega
  simp only [Value.cells]
  rcases this with h | h | h | h | h | h <;> simp [h]
/-- A row whose first m cells are filled. -/
def filled (zs : List Int) (m t : Nat) : List Value := cellsI (zs.take m) ++ List.replicate (t - m) (.int .i64 0)
theorem filled_set {zs : List Int} {m t : Nat} (h : m < zs.length) (hm : m < t) : (filled zs m t).set m (.int .i64 (zs.getD m 0)) = filled zs (m + 1) t := by
  unfold filled cellsI
  have h1 : ((zs.take m).map (Value.int .i64)).length = m := by simp; omega
  rw [List.set_append, if_neg (by omega), h1, Nat.sub_self, List.take_succ_eq_append_getElem h]
  obtain ⟨r, hr⟩ : ∃ r, t - m = r + 1 := ⟨t - m - 1, by omega⟩
  rw [hr, List.replicate_succ, List.set_cons_zero, show t - (m + 1) = r by omega, List.getD_eq_getElem?_getD, List.getElem?_eq_getElem h, List.map_append, List.map_cons, List.map_nil, List.append_assoc]
  rfl
theorem filled_at {zs : List Int} {m t j : Nat} (hl : zs.length = t) (hj : j < t) (hm : m ≤ t) : ∃ u, (filled zs m t)[j]? = some u :=
  ⟨_, List.getElem?_eq_getElem (by unfold filled cellsI; simp; omega)⟩
theorem filled_all {zs : List Int} {t : Nat} (hl : zs.length = t) : filled zs t t = cellsI zs := by
  unfold filled; rw [List.take_of_length_le (by omega)]; simp

/-- The cells of element k, in the form of the walk. -/
theorem cellsE {w : World} {B n k : Nat} {A : Option Addr} {zs : List Int} (h : RdZ 6 w B A n zs) (hk : k < n) :
    ∃ b o, A = some ⟨b, o, none⟩ ∧ b < B ∧ w.cell? ⟨b, o + k * 6, none⟩ = some (.int .i64 (fld 6 zs k 0)) ∧ w.cell? ⟨b, o + k * 6 + 1, none⟩ = some (.int .i64 (fld 6 zs k 1)) ∧ w.cell? ⟨b, o + k * 6 + 2, none⟩ = some (.int .i64 (fld 6 zs k 2)) ∧ w.cell? ⟨b, o + k * 6 + 3, none⟩ = some (.int .i64 (fld 6 zs k 3)) ∧ w.cell? ⟨b, o + k * 6 + 4, none⟩ = some (.int .i64 (fld 6 zs k 4)) ∧ w.cell? ⟨b, o + k * 6 + 5, none⟩ = some (.int .i64 (fld 6 zs k 5)) := by
  obtain ⟨b, o, e, hb, hc⟩ := h.at_ hk
  exact ⟨b, o, e, hb, hc 0 (by omega), hc 1 (by omega), hc 2 (by omega), hc 3 (by omega), hc 4 (by omega), hc 5 (by omega)⟩

theorem marks_rd {w : World} {B n c : Nat} {A : Option Addr} {k : Nat} (h : w.ownsRow B 25 6 (.slice A n c) n (cellsI (marksI k (n * 6)))) : RdZ 6 w w.heap.size A n (marksI k (n * 6)) :=
  RdZ.of_own h (marksI_length k (n * 6))
end Go.Proofs.YtfigjfckelichaaGreatDoor.trke
