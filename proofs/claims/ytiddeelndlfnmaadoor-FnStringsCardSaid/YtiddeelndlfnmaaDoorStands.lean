/- Does a byte stand in a string: the contract of spec.l1Stands, for every string. -/
import Derived.Test.YtiddeelndlfnmaaDoorAid
namespace Go.Proofs.YtiddeelndlfnmaaDoor.stands_
open Go.RowKit

theorem take_snoc (s : ByteArray) (k : Nat) (h : k < s.size) : s.data.toList.take (k + 1) = s.data.toList.take k ++ [s[k]] := by
  rw [List.take_succ_eq_append_getElem (by simpa using h)]; rfl

/-- Does the byte stand in the list? -/
def has (l : List UInt8) (b : UInt8) : Bool := l.contains b

theorem contains_step (s : ByteArray) (k : Nat) (h : k < s.size) (b : UInt8) : has (s.data.toList.take (k + 1)) b = (has (s.data.toList.take k) b || ((s[k].toNat : Int) == (b.toNat : Int))) := by
  unfold has
  rw [take_snoc s k h, List.contains_append]
  congr 1
  simp only [List.contains_cons, List.contains_nil, Bool.or_false]
  rw [Bool.eq_iff_iff]
  simp only [beq_iff_eq, Int.ofNat_inj]
  exact ⟨fun e => by rw [e], fun e => (UInt8.toNat_inj.1 e).symm⟩

theorem take_all (s : ByteArray) (k : Nat) (h : s.size ≤ k) : s.data.toList.take k = s.data.toList := List.take_of_length_le (by simpa using h)

theorem contains_of_take {l : List UInt8} {k : Nat} {b : UInt8} (h : has (l.take k) b = true) : has l b = true := by
  unfold has at *
  rw [List.contains_iff_mem] at *
  exact List.mem_of_mem_take h

set_option maxHeartbeats 400000 in
theorem stands (s : ByteArray) (b : UInt8) (w : World) (hs : s.size ≤ maxLen) :
    Calls Tryd.prog 33 #[.string s, .int .u8 b.toNat] w fun e w' => e = .returned (.bool (has s.data.toList b)) ∧ w = w' := by
  unfold maxLen at hs
  go_enter Tryd.func33, Tryd.ntmps33
  go_wp2
  go_loop [5] (fun i => ∃ k : Nat, k ≤ s.size ∧ i = .int .i64 k ∧ has (s.data.toList.take k) b = false) (fun i => s.size - (intOf i).toNat)
  case atStart => exact ⟨0, Nat.zero_le _, rfl, rfl⟩
  case round =>
    obtain ⟨k, hk, rfl, hn⟩ := hrel
    have HN := Lib.hid hn
    clear hn
    by_cases hlt : k < s.size
    · have HS := Lib.hid (contains_step s k hlt b)
      cases he : ((s[k].toNat : Int) == (b.toNat : Int))
      · have HE := Lib.hid he
        go_wp2
        go_round
        case rel => exact ⟨k + 1, by omega, by go_num, by rw [HS.out, HN.out, HE.out]; rfl⟩
        case measure => simp [intOf]; omega
      · have HE := Lib.hid he
        go_wp2
        go_ret
        exact ⟨aid.ret_bool (contains_of_take (k := k + 1) (by rw [HS.out, HE.out]; simp)).symm, rfl⟩
    · go_wp2
      go_ret
      exact ⟨aid.ret_bool (by rw [take_all s k (by omega)] at HN; exact HN.out.symm), rfl⟩
end Go.Proofs.YtiddeelndlfnmaaDoor.stands_
