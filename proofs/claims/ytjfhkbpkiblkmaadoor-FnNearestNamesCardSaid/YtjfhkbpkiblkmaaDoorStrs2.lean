/- Slices of strings, on: the contracts of the laws' own helpers szStringS and toStringS. -/
import Derived.Test.YtjfhkbpkiblkmaaDoorStrs
import Derived.Laws.MakeOwn
namespace Go.Proofs.YtjfhkbpkiblkmaaDoor.strs
open Go.RowKit

/-- What the strings weigh together, each counted with one more. -/
def weight (xs : List ByteArray) : Nat := (xs.map fun x => x.size + 1).sum
theorem weight_nil : weight [] = 0 := rfl
theorem weight_snoc (xs : List ByteArray) (x : ByteArray) : weight (xs ++ [x]) = weight xs + (x.size + 1) := by simp [weight]
theorem take_at {xs : List ByteArray} {k : Nat} {x : ByteArray} (h : xs[k]? = some x) : xs.take (k + 1) = xs.take k ++ [x] := by
  obtain ⟨hk, rfl⟩ := List.getElem?_eq_some_iff.1 h
  rw [List.take_succ_eq_append_getElem hk]
theorem weight_take {xs : List ByteArray} {k : Nat} {x : ByteArray} (h : xs[k]? = some x) : weight (xs.take (k + 1)) = weight (xs.take k) + (x.size + 1) := by rw [take_at h, weight_snoc]
theorem weight_ge (xs : List ByteArray) : xs.length ≤ weight xs := by
  induction xs with
  | nil => simp
  | cons x xs ih => simp [weight] at *; omega

/-- szStringS: a negative number, or the strings are short. -/
def Small (xs : List ByteArray) (r : Int) : Prop := r < 0 ∨ (0 ≤ r ∧ weight xs ≤ 1048576)

theorem infoS2 : (Tryd.prog.info? 9).map (fun i => (i.zero, i.size, i.bytes)) = some (some (.string ⟨#[]⟩), 1, 16) := by kernel_rfl

/-- A row whose first k cells are the strings. -/
def filled (xs : List ByteArray) (k n : Nat) : List Value := (xs.take k).map Value.string ++ List.replicate (n - k) (.string ⟨#[]⟩)
theorem filled_set {xs : List ByteArray} {k n : Nat} {x : ByteArray} (h : xs[k]? = some x) (hk : k < n) : (filled xs k n).set k (.string x) = filled xs (k + 1) n := by
  obtain ⟨hl, _⟩ := List.getElem?_eq_some_iff.1 h
  unfold filled
  have h1 : ((xs.take k).map Value.string).length = k := by simp; omega
  rw [List.set_append, if_neg (by omega), h1, Nat.sub_self, take_at h]
  obtain ⟨m, hm⟩ : ∃ m, n - k = m + 1 := ⟨n - k - 1, by omega⟩
  rw [hm, List.replicate_succ, List.set_cons_zero, show n - (k + 1) = m by omega]
  simp
theorem filled_at {xs : List ByteArray} {k n : Nat} (hl : xs.length = n) (hk : k < n) : ∃ u, (filled xs k n)[k]? = some u :=
  ⟨_, List.getElem?_eq_getElem (by unfold filled; simp; omega)⟩
theorem filled_all {xs : List ByteArray} {n : Nat} (hl : xs.length = n) : filled xs n n = xs.map Value.string := by
  unfold filled; rw [List.take_of_length_le (by omega)]; simp

end Go.Proofs.YtjfhkbpkiblkmaaDoor.strs
