/- Slices of strings, on: the contracts of the laws' own helpers szStringS and toStringS. -/
import Derived.Test.YtjfhkbpkiblkmaaStrs
import Derived.Laws.MakeOwn
namespace Go.Proofs.Ytjfhkbpkiblkmaa.strs
open Go.RowKit

/-- What the strings weigh together, each counted with one more. -/
def weight (xs : List ByteArray) : Nat := (xs.map fun x => x.size + 1).sum
theorem weight_nil : weight [] = 0 := rfl
theorem weight_snoc (xs : List ByteArray) (x : ByteArray) : weight (xs ++ [x]) = weight xs + (x.size + 1) := by simp [weight]
theorem take_at {xs : List ByteArray} {k : Nat} {x : ByteArray} (h : xs[k]? = some x) : xs.take (k + 1) = xs.take k ++ [x] := by
  obtain ⟨hk, rfl⟩ := List.getElem?_eq_some_iff.1 h
  rw [List.take_succ_eq_append_getElem hk]
theorem weight_take {xs : List ByteArray} {k : Nat} {x : ByteArray} (h : xs[k]? = some x) : weight (xs.take (k + 1)) = weight (xs.take k) + (x.size + 1) := by rw [take_at h, weight_snoc]
theorem weight_ge (xs : List ByteArray) : xs.length ≤ weight xs := by
  induction xs with
  | nil => simp
  | cons x xs ih => simp [weight] at *; omega

/-- szStringS: a negative number, or the strings are short. -/
def Small (xs : List ByteArray) (r : Int) : Prop := r < 0 ∨ (0 ≤ r ∧ weight xs ≤ 1048576)

set_option maxHeartbeats 400000 in
theorem sz (xs : List ByteArray) (A : Option Addr) (n c : Nat) (w : World) (hn : n ≤ maxLen) (hx : ∀ x ∈ xs, x.size ≤ maxLen) (h : Rd w w.heap.size A n xs) :
    Calls Try.prog 19 #[.slice A n c, .int .i64 1048576] w fun e w' => ∃ r : Int, e = .returned (.int .i64 r) ∧ Small xs r ∧ -1 ≤ r ∧ w = w' := by
  unfold maxLen at hn hx
  by_cases h0 : (1048576 : Int) - (n : Int) < 0
  · clear h
    go_enter Try.func19, Try.ntmps19
    go_wp2
    go_ret
    exact ⟨-1, rfl, .inl (by omega), by omega, rfl⟩
  · have hl := h.1
    have HL := Lib.hid hl
    clear hl
    go_enter Try.func19, Try.ntmps19
    go_wp2
    go_loop [1, 5] (fun q i => ∃ (k : Nat) (r : Int), k ≤ n ∧ i = .int .i64 k ∧ q = .int .i64 r ∧ 0 ≤ r ∧ r + (weight (xs.take k) : Int) + ((n : Int) - (k : Int)) = 1048576) (fun _ i => n - (intOf i).toNat)
    case atStart => exact ⟨0, _, Nat.zero_le _, rfl, rfl, by omega, by rw [List.take_zero, weight_nil]; omega⟩
    case round =>
      obtain ⟨k, r, hk, rfl, rfl, hr, he⟩ := hrel
      have HE := Lib.hid he
      have hr2 : r ≤ 1048576 := by omega
      clear he
      by_cases hlt : k < n
      · obtain ⟨b, o, x, rfl, _, hxx, hc⟩ := h.at_ hlt
        have hxs : x.size ≤ 2 ^ 63 - 1 := hx x (List.mem_of_getElem? hxx)
        have HW := Lib.hid (weight_take hxx)
        have hlt2 : (k : Int) < (n : Int) := by omega
        clear hx h hxx
        by_cases hneg : r - (x.size : Int) < 0
        · go_wp2
          go_ret
          exact ⟨-1, rfl, .inl (by omega), by omega, rfl⟩
        · go_wp2
          go_round
          case rel => exact ⟨k + 1, r - (x.size : Int), by omega, by go_num, by go_num, by omega, by have := HE.out; have := HW.out; omega⟩
          case measure => simp [intOf]; omega
      · obtain rfl : k = n := by omega
        have hf : weight xs ≤ 1048576 := by
          have := HE.out
          rw [List.take_of_length_le (by rw [HL.out]; exact Nat.le_refl _)] at this
          omega
        clear hx h
        go_wp2
        go_ret
        exact ⟨r, rfl, .inr ⟨hr, hf⟩, by omega, rfl⟩

theorem infoS2 : (Try.prog.info? 9).map (fun i => (i.zero, i.size, i.bytes)) = some (some (.string ⟨#[]⟩), 1, 16) := by kernel_rfl

/-- A row whose first k cells are the strings. -/
def filled (xs : List ByteArray) (k n : Nat) : List Value := (xs.take k).map Value.string ++ List.replicate (n - k) (.string ⟨#[]⟩)
theorem filled_set {xs : List ByteArray} {k n : Nat} {x : ByteArray} (h : xs[k]? = some x) (hk : k < n) : (filled xs k n).set k (.string x) = filled xs (k + 1) n := by
  obtain ⟨hl, _⟩ := List.getElem?_eq_some_iff.1 h
  unfold filled
  have h1 : ((xs.take k).map Value.string).length = k := by simp; omega
  rw [List.set_append, if_neg (by omega), h1, Nat.sub_self, take_at h]
  obtain ⟨m, hm⟩ : ∃ m, n - k = m + 1 := ⟨n - k - 1, by omega⟩
  rw [hm, List.replicate_succ, List.set_cons_zero, show n - (k + 1) = m by omega]
  simp
theorem filled_at {xs : List ByteArray} {k n : Nat} (hl : xs.length = n) (hk : k < n) : ∃ u, (filled xs k n)[k]? = some u :=
  ⟨_, List.getElem?_eq_getElem (by unfold filled; simp; omega)⟩
theorem filled_all {xs : List ByteArray} {n : Nat} (hl : xs.length = n) : filled xs n n = xs.map Value.string := by
  unfold filled; rw [List.take_of_length_le (by omega)]; simp

set_option maxHeartbeats 1000000 in
theorem copyS (xs : List ByteArray) (A : Option Addr) (n c : Nat) (w : World) (hn : n ≤ 1048576) (h : Rd w w.heap.size A n xs) :
    Calls Try.prog 21 #[.slice A n c] w fun e w' => ∃ (g : Nat), e = .returned (.slice (some ⟨g, 0, none⟩) n n) ∧ w'.ownsRow w.heap.size 9 1 (.slice (some ⟨g, 0, none⟩) n n) n (xs.map Value.string) ∧ Below w.heap.size w w' := by
  obtain ⟨i0, hi, hz0, hz1, hz2⟩ := info_parts infoS2
  have hl := h.1
  have HL := Lib.hid hl
  clear hl
  go_enter Try.func21, Try.ntmps21
  go_wp2_with (at_make; refine wpList_make_full _ rfl _ _ 33 rfl w.heap.size 9 i0 (.string ⟨#[]⟩) 1 Try.underlying33 hi hz0 hz1 _ _ _ _ n rfl rfl rfl rfl (by rw [hz2]; omega) (by unfold maxLen; omega) (Nat.le_refl _) ?_; intro w1 hown hg)
  have hown0 : w1.ownsRow w.heap.size 9 1 (.slice (some ⟨w.heap.size, 0, none⟩) n n) n (filled xs 0 n) := by
    have e : (madeCells (Value.cells (.string ⟨#[]⟩)) (n * 1)).toList = filled xs 0 n := by
      rw [Nat.mul_one]; exact toList_madeCells_one _ _
    rw [← e]; exact hown
  have hb1 : Below w.heap.size w w1 := (Below.refl _ _).grown hg (Nat.le_refl _) (fun k e => by cases e)
  clear hown hg
  go_loopw [4] (fun i wr => ∃ k : Nat, k ≤ n ∧ i = .int .i64 k ∧ Below w.heap.size w wr ∧ wr.ownsRow w.heap.size 9 1 (.slice (some ⟨w.heap.size, 0, none⟩) n n) n (filled xs k n)) (fun i _ => n - (intOf i).toNat)
  case atStart => exact ⟨0, Nat.zero_le _, rfl, hb1, hown0⟩
  case round =>
    obtain ⟨k, hk, rfl, hb, hown⟩ := hrel
    clear hb1 hown0
    by_cases hlt : k < n
    · obtain ⟨b, o, x, rfl, hbl, hxx, hc⟩ := h.at_ hlt
      have hcr := (hb.cell (p := ⟨b, o + k, none⟩) hbl).trans hc
      obtain ⟨u, hu⟩ := filled_at HL.out hlt
      have hcw := (hown.cellAt k (by omega)).trans hu
      have hfw := hown.frozenAt k
      have hst := (hown.stored k (.string x)).1
      rw [filled_set hxx hlt] at hst
      have hlt2 : (k : Int) < (n : Int) := by omega
      clear h hc hu hxx
      go_wp2
      go_roundw
      case rel => exact ⟨k + 1, by omega, by go_num, hb.setCell (p := ⟨w.heap.size, k, none⟩) (Nat.le_refl _) _, hst⟩
      case measure => simp [intOf]; omega
    · obtain rfl : k = n := by omega
      rw [filled_all HL.out] at hown
      clear h
      go_wp2
      go_ret
      exact ⟨w.heap.size, rfl, hown, hb⟩
end Go.Proofs.Ytjfhkbpkiblkmaa.strs
