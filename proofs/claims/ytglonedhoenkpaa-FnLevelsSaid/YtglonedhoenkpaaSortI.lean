/- slices.Sort and slices.Compact at a []int that the call owns (nil too). -/
import Derived.Test.YtglonedhoenkpaaAsc
import Derived.Test.YtglonedhoenkpaaInts
import Derived.Test.YtglonedhoenkpaaShelf
import Derived.Lib.OwnBridge
import Derived.Shelf.Slices.In.SortNone
namespace Go.Proofs.Ytglonedhoenkpaa.sorti
open Go.RowKit Go.Sort Go.Proofs.Ytglonedhoenkpaa.ints Go.Proofs.Ytglonedhoenkpaa.asc

/-- The numbers in rising order. -/
def rising (xs : List Int) : List Int := xs.mergeSort fun x y => decide (x ≤ y)
theorem rising_length (xs : List Int) : (rising xs).length = xs.length := List.length_mergeSort ..
theorem rising_nil : rising [] = [] := by simp [rising]
theorem block_of {w : World} {B e n : Nat} {v : Value} {xs : List Value} {g c : Nat} (h : w.ownsRow B e 1 v n xs) (hv : v = .slice (some ⟨g, 0, none⟩) n c) : B ≤ g ∧ ∃ cur, w.heap[g]? = some (.cells cur e (0, 0)) ∧ n ≤ c ∧ c ≤ maxLen ∧ cur.size = c * 1 := by
  subst hv
  rcases h.2 with ⟨h0, _⟩ | ⟨g', cap', cur, hv, hg, hh, hn, hc, hz, _⟩
  · cases h0
  · cases hv
    exact ⟨hg, cur, hh, hn, hc, hz⟩
theorem grown_sort {w : World} {B g n : Nat} {os : Array Obj} (d : Array Int) (hg : B ≤ g) (hB : B ≤ w.heap.size) {w0 : World} (hb : Below B w0 w) : Below B w0 (grow (putRow (Value.int .i64) (Sort.ahead w n) g 0 d) os) :=
  hb.grown (grownBy_sortedI d) hB (fun k hk => by cases hk; exact hg)

theorem compact (B : Nat) (v : Value) (xs : List Int) (w : World) (hx : xs.length ≤ 4194304) (hB : B ≤ w.heap.size) (h : w.ownsRow B 3 1 v xs.length (cellsI xs)) :
    Calls Try.prog 58 #[v] w fun e w' => ∃ v', e = .returned v' ∧ w'.ownsRow B 3 1 v' (Lib.compact xs).length (cellsI (Lib.compact xs)) ∧ ∀ w0, Below B w0 w → Below B w0 w' := by
  by_cases hv : v = .slice none 0 0
  · subst hv
    have h0 : xs = [] := by
      rcases h.2 with ⟨_, h0⟩ | ⟨g, cap, cur, hv, _⟩
      · exact List.length_eq_zero_iff.1 h0
      · cases hv
    subst h0
    refine (Try.slices_Compact_int_empty none 0 w).mono ?_
    rintro e w' ⟨rfl, rfl⟩
    exact ⟨_, rfl, h, fun _ hb => hb⟩
  · obtain ⟨g, c, rfl, hg, hlt, hn, hc, hl, hH⟩ := Lib.holds_of_ownsRow (enc := Value.int .i64) h hv
    refine (Try.slices_Compact_int g 0 c xs w hH (by omega) hn).mono ?_
    rintro e w' ⟨rfl, q, rfl⟩
    have hle := Lib.compact_length_le xs
    refine ⟨_, rfl, own_put h hle _ (by rw [List.length_append, List.length_replicate]; omega), fun _ hb => hb.grown (grown_put _) hB (fun k hk => by cases hk; exact hg)⟩
end Go.Proofs.Ytglonedhoenkpaa.sorti
