/- Heights' texts: contracts of spec.l6Text, spec.HeightText, spec.ParseHeight, impl.HeightText, impl.readHeight, impl.ParseHeight. -/
import Derived.Test.YtdeghpihcddlgaaDoorHgtT
import Derived.Test.YtdeghpihcddlgaaDoorHgtI
import Derived.Test.YtdeghpihcddlgaaDoorHgtS
import Derived.Test.YtdeghpihcddlgaaDoorFmtAll
import Derived.Test.YtdeghpihcddlgaaDoorParse
namespace Go.Proofs.YtdeghpihcddlgaaDoor.hgtf
open Go.RowKit Go.Proofs.YtdeghpihcddlgaaDoor.hgt Go.Proofs.YtdeghpihcddlgaaDoor.hgtt Go.Proofs.YtdeghpihcddlgaaDoor.num Go.Proofs.YtdeghpihcddlgaaDoor.read

theorem fl_dec (h : Int) : flB h = (decide (10000 ≤ h) && decide (h % 100 = 0)) := rfl
theorem tx_fl {h : Int} (e : flB h = true) : txH h = (⟨#[70, 76]⟩ : ByteArray) ++ txt (h / 100) := by unfold txH; rw [e]; rfl
theorem tx_ft {h : Int} (e : flB h = false) : txH h = txt h ++ (⟨#[32, 102, 116]⟩ : ByteArray) := by unfold txH; rw [e]; rfl

theorem ht_no {h : Int} (e : hB h = false) : Ending.returned (.tuple #[.string ⟨#[]⟩, .bool false]) = .returned (.tuple #[.string (htT h), .bool (hB h)]) := by unfold htT; rw [e]; rfl
theorem ht_yes {h : Int} (e : hB h = true) : Ending.returned (.tuple #[.string (txH h), .bool true]) = .returned (.tuple #[.string (htT h), .bool (hB h)]) := by unfold htT; rw [e]; rfl
theorem ph_no {s : ByteArray} (e : phB s = false) : Ending.returned (.tuple #[.int .i64 0, .bool false]) = .returned (.tuple #[.int .i64 (phV s), .bool (phB s)]) := by unfold phV; rw [e]; rfl
theorem ph_ok {s : ByteArray} (e : phB s = true) : Ending.returned (.tuple #[.int .i64 (rdH s), .bool true]) = .returned (.tuple #[.int .i64 (phV s), .bool (phB s)]) := by unfold phV; rw [e]; rfl
theorem ht_of {h : Int} (e : hB h = true) : htT h = txH h := by unfold htT; rw [e]; rfl
end Go.Proofs.YtdeghpihcddlgaaDoor.hgtf
