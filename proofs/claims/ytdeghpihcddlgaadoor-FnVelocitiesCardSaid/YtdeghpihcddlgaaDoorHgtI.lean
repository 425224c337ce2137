/- impl's height codes: contracts. -/
import Derived.Test.YtdeghpihcddlgaaDoorHgtM
import Derived.Test.YtdeghpihcddlgaaDoorPop
import Derived.IntWalk
namespace Go.Proofs.YtdeghpihcddlgaaDoor.hgti
open Go.RowKit Go.Proofs.YtdeghpihcddlgaaDoor.hgt Go.Proofs.YtdeghpihcddlgaaDoor.bin Go.Proofs.YtdeghpihcddlgaaDoor.hgtm

theorem xor_nat_i (x y : Nat) (hx : x < 9223372036854775808) (hy : y < 9223372036854775808) : bits .xor .i64 (x : Int) (y : Int) = ((x ^^^ y : Nat) : Int) := by
  have e : bits .xor .i64 (x : Int) (y : Int) = IntKind.i64.wrap ((BitVec.ofInt 64 (x : Int) ^^^ BitVec.ofInt 64 (y : Int)).toNat : Int) := rfl
  rw [e, BitVec.toNat_xor, BitVec.ofInt_natCast, BitVec.ofInt_natCast, BitVec.toNat_ofNat, BitVec.toNat_ofNat, Nat.mod_eq_of_lt (by omega), Nat.mod_eq_of_lt (by omega)]
  have := Nat.xor_lt_two_pow (n := 63) hx hy
  exact IntWalk.i64_in _ (by omega)
theorem or_nat_i (x y : Nat) (hx : x < 9223372036854775808) (hy : y < 9223372036854775808) : bits .or .i64 (x : Int) (y : Int) = ((x ||| y : Nat) : Int) := by
  have e : bits .or .i64 (x : Int) (y : Int) = IntKind.i64.wrap ((BitVec.ofInt 64 (x : Int) ||| BitVec.ofInt 64 (y : Int)).toNat : Int) := rfl
  rw [e, BitVec.toNat_or, BitVec.ofInt_natCast, BitVec.ofInt_natCast, BitVec.toNat_ofNat, BitVec.toNat_ofNat, Nat.mod_eq_of_lt (by omega), Nat.mod_eq_of_lt (by omega)]
  have := Nat.or_lt_two_pow (n := 63) hx hy
  exact IntWalk.i64_in _ (by omega)

end Go.Proofs.YtdeghpihcddlgaaDoor.hgti
