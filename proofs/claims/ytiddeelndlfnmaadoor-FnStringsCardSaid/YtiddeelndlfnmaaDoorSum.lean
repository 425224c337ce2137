/- The checksum of a string: plain mathematics, and the contracts of spec.l1Sum, spec.Checksum and impl.Checksum, for every string. -/
import Derived.Test.YtiddeelndlfnmaaDoorProg
import Derived.WalkKit
import Derived.Below
import Derived.Lib.Hide
namespace Go.Proofs.YtiddeelndlfnmaaDoor.sum
open Go.RowKit

/-- The checksum behind the bytes of a list. -/
def sumF (l : List UInt8) : Int := l.foldl (fun h c => (41 * h + (c.toNat : Int) + 1) % 999979) 7

theorem sumF_bd (l : List UInt8) : 0 ≤ sumF l ∧ sumF l < 999979 := by
  have key : ∀ (l : List UInt8) (h : Int), 0 ≤ h ∧ h < 999979 → 0 ≤ l.foldl (fun h c => (41 * h + (c.toNat : Int) + 1) % 999979) h ∧ l.foldl (fun h c => (41 * h + (c.toNat : Int) + 1) % 999979) h < 999979 := by
    intro l
    induction l with
    | nil => intro h hh; exact hh
    | cons c l ih => intro h hh; exact ih _ (by dsimp only; constructor <;> omega)
  exact key l 7 (by omega)

theorem sumF_snoc (l : List UInt8) (c : UInt8) : sumF (l ++ [c]) = (41 * sumF l + (c.toNat : Int) + 1) % 999979 := by
  unfold sumF; rw [List.foldl_append]; rfl

theorem take_snoc (s : ByteArray) (k : Nat) (h : k < s.size) : s.data.toList.take (k + 1) = s.data.toList.take k ++ [s[k]] := by
  rw [List.take_succ_eq_append_getElem (by simpa using h)]; rfl

theorem sumF_step (s : ByteArray) (k : Nat) (h : k < s.size) : sumF (s.data.toList.take (k + 1)) = (41 * sumF (s.data.toList.take k) + (s[k].toNat : Int) + 1) % 999979 := by
  rw [take_snoc s k h, sumF_snoc]

theorem byte_lt (c : UInt8) : (c.toNat : Int) < 256 := by have := c.toNat_lt; omega
theorem ret_int {k : IntKind} {a b : Int} (h : a = b) : Ending.returned (.int k a) = .returned (.int k b) := by rw [h]

set_option maxHeartbeats 400000 in
theorem l1Sum (s : ByteArray) (w : World) (hs : s.size ≤ maxLen) :
    Calls Tryd.prog 40 #[.string s] w fun e w' => e = .returned (.int .i64 (sumF s.data.toList)) ∧ w = w' := by
  unfold maxLen at hs
  go_enter Tryd.func40, Tryd.ntmps40
  go_wp2
  go_loop [3, 4] (fun n i => ∃ k : Nat, k ≤ s.size ∧ i = .int .i64 k ∧ n = .int .i64 (sumF (s.data.toList.take k))) (fun _ i => s.size - (intOf i).toNat)
  case atStart => exact ⟨0, Nat.zero_le _, rfl, rfl⟩
  case round =>
    obtain ⟨k, hk, rfl, rfl⟩ := hrel
    obtain ⟨b0, b1⟩ := sumF_bd (s.data.toList.take k)
    by_cases hlt : k < s.size
    · have HS := Lib.hid (sumF_step s k hlt)
      have hb := byte_lt s[k]
      go_wp2
      go_round
      case rel => exact ⟨k + 1, by omega, by go_num, by rw [HS.out]⟩
      case measure => simp [intOf]; omega
    · go_wp2
      go_ret
      exact ⟨ret_int (by rw [List.take_of_length_le (by simp; omega)]), rfl⟩

theorem impl_no (s : ByteArray) (w : World) (hs : 4000 < (s.size : Int)) :
    Calls Tryd.prog 31 #[.string s] w fun e w' => e = .returned (.tuple #[.int .i64 0, .bool false]) ∧ w = w' := by
  go_enter Tryd.func31, Tryd.ntmps31
  go_wp2
  go_ret2
  exact ⟨rfl, rfl⟩

theorem ret_two {k : IntKind} {a b : Int} {c : Bool} (h : a = b) : Ending.returned (.tuple #[.int k a, .bool c]) = .returned (.tuple #[.int k b, .bool c]) := by rw [h]

set_option maxHeartbeats 400000 in
theorem impl_yes (s : ByteArray) (w : World) (hs : (s.size : Int) ≤ 4000) :
    Calls Tryd.prog 31 #[.string s] w fun e w' => e = .returned (.tuple #[.int .i64 (sumF s.data.toList), .bool true]) ∧ w = w' := by
  go_enter Tryd.func31, Tryd.ntmps31
  go_wp2
  go_loop [4, 5, 11] (fun n _ i => ∃ k : Nat, k ≤ s.size ∧ i = .int .i64 k ∧ n = .int .i64 (sumF (s.data.toList.take k))) (fun _ _ i => s.size - (intOf i).toNat)
  case atStart => exact ⟨0, Nat.zero_le _, rfl, rfl⟩
  case round =>
    obtain ⟨k, hk, rfl, rfl⟩ := hrel
    obtain ⟨b0, b1⟩ := sumF_bd (s.data.toList.take k)
    by_cases hlt : k < s.size
    · have HS := Lib.hid (sumF_step s k hlt)
      have hb := byte_lt s[k]
      go_wp2
      go_round
      case rel => exact ⟨k + 1, by omega, by go_num, by rw [HS.out]⟩
      case measure => simp [intOf]; omega
    · go_wp2
      go_ret2
      exact ⟨ret_two (by rw [List.take_of_length_le (by simp; omega)]), rfl⟩
end Go.Proofs.YtiddeelndlfnmaaDoor.sum
