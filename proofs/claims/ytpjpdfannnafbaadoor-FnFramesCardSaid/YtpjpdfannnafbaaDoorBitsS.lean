/- The contracts of chapter 2's functions of spec, in the same words as impl's. -/
import Derived.Test.YtpjpdfannnafbaaDoorHexS
import Derived.Test.YtpjpdfannnafbaaDoorIn
namespace Go.Proofs.YtpjpdfannnafbaaDoor.bitss
open Go.RowKit Go.Proofs.YtpjpdfannnafbaaDoor.bin Go.Proofs.YtpjpdfannnafbaaDoor.good_ Go.Proofs.YtpjpdfannnafbaaDoor.bitsi Go.Proofs.YtpjpdfannnafbaaDoor.hexs Go.Proofs.YtpjpdfannnafbaaDoor.in_

theorem wrap_pow_i {j : Nat} (h : 2 ^ j ≤ 1073741824) : IntKind.i64.wrap ((2 : Int) ^ j) = ((2 ^ j : Nat) : Int) := by
  have e : (2 : Int) ^ j = ((2 ^ j : Nat) : Int) := by simp
  rw [e]
  clear e
  generalize (2 : Nat) ^ j = p at *
  exact IntWalk.i64_in _ (by omega)

theorem ones_no (s : ByteArray) (h : rdB 2 64 s = false) : Ending.returned (.tuple #[.int .i64 0, .bool false]) = .returned (.tuple #[.int .i64 (onesV s), .bool (rdB 2 64 s)]) := int_no h
theorem ones_yes (s : ByteArray) (h : rdB 2 64 s = true) : Ending.returned (.tuple #[.int .i64 (ones s.data.toList), .bool true]) = .returned (.tuple #[.int .i64 (onesV s), .bool (rdB 2 64 s)]) := int_yes h rfl
theorem fld_yes {s : ByteArray} {f m : Int} (h : fldB s f m = true) : Ending.returned (.tuple #[.int .i64 (dec 2 (s.extract f.toNat (f + m).toNat).data.toList), .bool true]) = .returned (.tuple #[.int .i64 (fldV s f m), .bool (fldB s f m)]) := int_yes h rfl
end Go.Proofs.YtpjpdfannnafbaaDoor.bitss
