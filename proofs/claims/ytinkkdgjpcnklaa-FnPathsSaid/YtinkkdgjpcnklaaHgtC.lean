/- impl's heights, on: ChangedBits, ClimbRate. -/
import Derived.Test.YtinkkdgjpcnklaaHgtK
import Derived.RegionTactic
import Derived.BigRegion
import Derived.BigQuiet
import Derived.Deep.QuietTactic
import Derived.Outline
namespace Go.Proofs.Ytinkkdgjpcnklaa.hgtc
open Go.RowKit Go.Proofs.Ytinkkdgjpcnklaa.hgt Go.Proofs.Ytinkkdgjpcnklaa.bin Go.Proofs.Ytinkkdgjpcnklaa.hgti

theorem cb_no {a b : Int} (e : cbB a b = false) : Ending.returned (.tuple #[.int .i64 0, .bool false]) = .returned (.tuple #[.int .i64 (cbV a b : Int), .bool (cbB a b)]) := by unfold cbV; rw [e]; rfl
theorem cb_yes {a b : Int} (e : cbB a b = true) : Ending.returned (.tuple #[.int .i64 (pc 12 (a.toNat ^^^ b.toNat) : Int), .bool true]) = .returned (.tuple #[.int .i64 (cbV a b : Int), .bool (cbB a b)]) := by unfold cbV; rw [e]; rfl
end Go.Proofs.Ytinkkdgjpcnklaa.hgtc
