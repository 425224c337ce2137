/- impl's height codes: contracts. -/
import Derived.Test.YtbjlhnhmdhjleaaDoorHgtM
import Derived.Test.YtbjlhnhmdhjleaaDoorPop
import Derived.IntWalk
namespace Go.Proofs.YtbjlhnhmdhjleaaDoor.hgti
open Go.RowKit Go.Proofs.YtbjlhnhmdhjleaaDoor.hgt Go.Proofs.YtbjlhnhmdhjleaaDoor.bin Go.Proofs.YtbjlhnhmdhjleaaDoor.hgtm

theorem xor_nat_i (x y : Nat) (hx : x < 9223372036854775808) (hy : y < 9223372036854775808) : bits .xor .i64 (x : Int) (y : Int) = ((x ^^^ y : Nat) : Int) := by
  have e : bits .xor .i64 (x : Int) (y : Int) = IntKind.i64.wrap ((BitVec.ofInt 64 (x : Int) ^^^ BitVec.ofInt 64 (y : Int)).toNat : Int) := rfl
  rw [e, BitVec.toNat_xor, BitVec.ofInt_natCast, BitVec.ofInt_natCast, BitVec.toNat_ofNat, BitVec.toNat_ofNat, Nat.mod_eq_of_lt (by omega), Nat.mod_eq_of_lt (by omega)]
  have := Nat.xor_lt_two_pow (n := 63) hx hy
  exact IntWalk.i64_in _ (by omega)
theorem or_nat_i (x y : Nat) (hx : x < 9223372036854775808) (hy : y < 9223372036854775808) : bits .or .i64 (x : Int) (y : Int) = ((x ||| y : Nat) : Int) := by
  have e : bits .or .i64 (x : Int) (y : Int) = IntKind.i64.wrap ((BitVec.ofInt 64 (x : Int) ||| BitVec.ofInt 64 (y : Int)).toNat : Int) := rfl
  rw [e, BitVec.toNat_or, BitVec.ofInt_natCast, BitVec.ofInt_natCast, BitVec.toNat_ofNat, BitVec.toNat_ofNat, Nat.mod_eq_of_lt (by omega), Nat.mod_eq_of_lt (by omega)]
  have := Nat.or_lt_two_pow (n := 63) hx hy
  exact IntWalk.i64_in _ (by omega)

theorem isHeight (h : Int) (w : World) :
    Calls Tryd.prog 22 #[.int .i64 h] w fun e w' => e = .returned (.bool (hB h)) ∧ w = w' := by
  by_cases h1 : -2000 ≤ h
  · have g1 : decide (-2000 ≤ h) = true := decide_eq_true h1
    by_cases h2 : h ≤ 130000
    · have g2 : decide (h ≤ 130000) = true := decide_eq_true h2
      have e : hB h = true := decide_eq_true ⟨h1, h2⟩
      rw [e]
      clear h1 h2 e
      go_enter Tryd.func22, Tryd.ntmps22
      go_wp2
      go_ret
      exact ⟨rfl, rfl⟩
    · have g2 : decide (h ≤ 130000) = false := decide_eq_false h2
      have e : hB h = false := decide_eq_false (fun x => h2 x.2)
      rw [e]
      clear h1 h2 e
      go_enter Tryd.func22, Tryd.ntmps22
      go_wp2
      go_ret
      exact ⟨rfl, rfl⟩
  · have g1 : decide (-2000 ≤ h) = false := decide_eq_false h1
    have e : hB h = false := decide_eq_false (fun x => h1 x.1)
    rw [e]
    clear h1 e
    go_enter Tryd.func22, Tryd.ntmps22
    go_wp2
    go_ret
    exact ⟨rfl, rfl⟩

theorem gray_yes (k : Nat) (hk : k < 2048) (w : World) :
    Calls Tryd.prog 33 #[.int .i64 (k : Int)] w fun e w' => e = .returned (.tuple #[.int .i64 (gray k : Int), .bool true]) ∧ w = w' := by
  have e1 : bits .xor .i64 (k : Int) ((k : Int) / 2) = (gray k : Int) := by
    rw [show ((k : Int) / 2) = ((k / 2 : Nat) : Int) by omega]
    exact xor_nat_i k (k / 2) (by omega) (by omega)
  have h1 : (k : Int) ≤ 2047 := by omega
  generalize gray k = g at *
  clear hk
  go_enter Tryd.func33, Tryd.ntmps33
  go_wp2_with fail
  go_ret2
  exact ⟨rfl, rfl⟩
theorem grayOf (n : Int) (w : World) :
    Calls Tryd.prog 33 #[.int .i64 n] w fun e w' => e = .returned (.tuple #[.int .i64 (grV n : Int), .bool (grB n)]) ∧ w = w' := by
  by_cases h : 0 ≤ n ∧ n ≤ 2047
  · obtain ⟨k, rfl⟩ := Int.eq_ofNat_of_zero_le h.1
    obtain ⟨e1, e2, _⟩ := gr_yes (k := k) (by omega)
    rw [e1, e2]
    exact gray_yes k (by omega) w
  · obtain ⟨e1, e2, _⟩ := gr_no h
    rw [e1, e2]
    clear e1 e2
    by_cases h0 : n < 0
    · clear h
      go_enter Tryd.func33, Tryd.ntmps33
      go_wp2_with fail
      go_ret2
      exact ⟨rfl, rfl⟩
    · have h1 : 2047 < n := by omega
      clear h
      go_enter Tryd.func33, Tryd.ntmps33
      go_wp2_with fail
      go_ret2
      exact ⟨rfl, rfl⟩

end Go.Proofs.YtbjlhnhmdhjleaaDoor.hgti
