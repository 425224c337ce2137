/- Slices of ints: what it is to read as a list of ints, and the contracts of the laws' own helpers eqIntS, markIntS, heldIntS. -/
import Derived.Test.YtfigjfckelichaaGreatDoorOwn
import Derived.WalkSpells
import Derived.IntWalk
import Derived.Outline
import Derived.BigQuiet
import Derived.Deep.QuietTactic
namespace Go.Proofs.YtfigjfckelichaaGreatDoor.ints
open Go.RowKit

/-- The slice (A, n) reads as the ints xs; nil and empty ones too; it lies below block B. -/
def RdI (w : World) (B : Nat) (A : Option Addr) (n : Nat) (xs : List Int) : Prop :=
  xs.length = n ∧ (0 < n → ∃ b o, A = some ⟨b, o, none⟩ ∧ b < B ∧ ∀ j x, xs[j]? = some x → w.cell? ⟨b, o + j, none⟩ = some (.int .i64 x))
theorem RdI.below {w w' : World} {B B' n : Nat} {A : Option Addr} {xs : List Int} (h : RdI w B A n xs) (hb : Below B' w w') (hB : B ≤ B') : RdI w' B A n xs :=
  ⟨h.1, fun hn => by
    obtain ⟨b, o, e, hlt, hc⟩ := h.2 hn
    exact ⟨b, o, e, hlt, fun j x hx => (hb.cell (p := ⟨b, o + j, none⟩) (by exact Nat.lt_of_lt_of_le hlt hB)).trans (hc j x hx)⟩⟩
theorem RdI.more {w : World} {B B' n : Nat} {A : Option Addr} {xs : List Int} (h : RdI w B A n xs) (hB : B ≤ B') : RdI w B' A n xs :=
  ⟨h.1, fun hn => by
    obtain ⟨b, o, e, hlt, hc⟩ := h.2 hn
    exact ⟨b, o, e, by omega, hc⟩⟩
theorem RdI.next {w w' : World} {n : Nat} {A : Option Addr} {xs : List Int} (h : RdI w w.heap.size A n xs) (hb : Below w.heap.size w w') : RdI w' w'.heap.size A n xs := (h.below hb (Nat.le_refl _)).more hb.size
def cellsI (xs : List Int) : List Value := xs.map (Value.int .i64)
theorem RdI.of_own {w : World} {B e c n : Nat} {A : Option Addr} {xs : List Int} (h : w.ownsRow B e 1 (.slice A n c) xs.length (cellsI xs)) (hn : n = xs.length) : RdI w w.heap.size A n xs := by
  refine ⟨hn.symm, fun h0 => ?_⟩
  rcases h.2 with ⟨_, h1⟩ | ⟨g, cap, cur, hv, _, hh, _⟩
  · omega
  · injection hv with hA
    subst hA
    refine ⟨g, 0, rfl, ?_, fun j x hx => ?_⟩
    · rcases Nat.lt_or_ge g w.heap.size with h2 | h2
      · exact h2
      · rw [Array.getElem?_eq_none h2] at hh; cases hh
    · have := h.cells (g := g) rfl j (.int .i64 x) (by unfold cellsI; simp [hx])
      rwa [Addr.add_lit] at this
theorem RdI.at_ {w : World} {B n k : Nat} {A : Option Addr} {xs : List Int} (h : RdI w B A n xs) (hk : k < n) :
    ∃ b o x, A = some ⟨b, o, none⟩ ∧ b < B ∧ xs[k]? = some x ∧ w.cell? ⟨b, o + k, none⟩ = some (.int .i64 x) := by
  obtain ⟨b, o, e, hb, hc⟩ := h.2 (by omega)
  have hl : k < xs.length := by rw [h.1]; exact hk
  exact ⟨b, o, xs[k], e, hb, List.getElem?_eq_getElem hl, hc k _ (List.getElem?_eq_getElem hl)⟩
theorem own_slice {w : World} {B e n : Nat} {v : Value} {xs : List Value} (h : w.ownsRow B e 1 v n xs) : ∃ A c, v = .slice A n c := by
  rcases h.2 with ⟨rfl, h0⟩ | ⟨g, cap, cur, rfl, _⟩
  · exact ⟨_, _, by rw [h0]⟩
  · exact ⟨_, _, rfl⟩
theorem int_ne_self (x : Int) : (x != x) = false := by simp

/-- n numbers from k on. -/
def marksI (k n : Nat) : List Int := (List.range n).map fun i => ((k + i : Nat) : Int)
theorem marksI_at {k n i : Nat} (h : i < n) : (marksI k n)[i]? = some ((k + i : Nat) : Int) := by simp [marksI, h]
theorem marksI_length (k n : Nat) : (marksI k n).length = n := by simp [marksI]

/-- A row with its first j cells marked. -/
def half (k j : Nat) (xs : List Value) : List Value := cellsI (marksI k j) ++ xs.drop j
theorem half_zero (k : Nat) (xs : List Value) : half k 0 xs = xs := by simp [half, marksI, cellsI]
theorem half_all {k n : Nat} {xs : List Value} (h : xs.length ≤ n) : half k n xs = cellsI (marksI k n) := by
  unfold half; rw [List.drop_eq_nil_of_le h, List.append_nil]
theorem half_length {k j : Nat} {xs : List Value} (h : j ≤ xs.length) : (half k j xs).length = xs.length := by
  unfold half cellsI; rw [List.length_append, List.length_map, marksI_length, List.length_drop]; omega
theorem half_set {k j : Nat} {xs : List Value} (h : j < xs.length) : (half k j xs).set j (.int .i64 ((k + j : Nat) : Int)) = half k (j + 1) xs := by
  unfold half cellsI
  rw [List.set_append, if_neg (by simp [marksI_length])]
  simp only [List.length_map, marksI_length, Nat.sub_self]
  rw [List.drop_eq_getElem_cons h, List.set_cons_zero]
  simp [marksI, List.range_succ]
theorem half_at {k j : Nat} {xs : List Value} (h : j < xs.length) : ∃ u, (half k j xs)[j]? = some u := ⟨_, List.getElem?_eq_getElem (by rw [half_length (by omega)]; exact h)⟩

end Go.Proofs.YtfigjfckelichaaGreatDoor.ints
