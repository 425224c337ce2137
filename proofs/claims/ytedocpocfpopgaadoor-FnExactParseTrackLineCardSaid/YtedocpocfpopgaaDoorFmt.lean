/- impl.FormatInt at every int: the decimal text, by the library's own contract for strconv.Itoa (which reads a table of strconv's). -/
import Derived.Test.YtedocpocfpopgaaDoorNum
import Derived.Test.YtedocpocfpopgaaDoorShelf
import Derived.Lib.AppendIntMem
import Derived.Lib.SmallJoins
namespace Go.Proofs.YtedocpocfpopgaaDoor.fmt
open Go.RowKit Go.Proofs.YtedocpocfpopgaaDoor.num

abbrev Tab (w : World) : Prop := Lib.TabIs Tryd.prog w "internal/strconv.uint64pow10" .u64 Lib.pow10Tab

theorem tab_on {w w' : World} (h : Tab w) (hb : Below w.heap.size w w') : Tab w' :=
  (Lib.tabBelow_of_tabIs h) w' hb

theorem format_yes (n : Int) (w : World) (h1 : n ≤ 999999) (h2 : -999999 ≤ n) (ht : Tab w) :
    Calls Tryd.prog 91 #[.int .i64 n] w fun e w' => e = .returned (.tuple #[.string (txt n), .bool true]) ∧ Below w.heap.size w w' := by
  have hc := Lib.hid (Tryd.strconv_Itoa n (by omega) (by omega) w ht)
  clear ht
  go_enter Tryd.func91, Tryd.ntmps91
  go_wp2_with (go_at_call 110; refine hc.out.mono ?_; rintro e w' ⟨rfl, k, os, rfl⟩)
  go_ret2
  exact ⟨rfl, Lib.below_grow _ _ (Nat.le_refl _) _ _⟩

theorem format_no (n : Int) (w : World) (h : n < -999999 ∨ 999999 < n) :
    Calls Tryd.prog 91 #[.int .i64 n] w fun e w' => e = .returned (.tuple #[.string ⟨#[]⟩, .bool false]) ∧ w = w' := by
  by_cases h1 : n < -999999
  · go_enter Tryd.func91, Tryd.ntmps91
    go_wp2
    go_ret2
    exact ⟨rfl, rfl⟩
  · have h2 : 999999 < n := by omega
    go_enter Tryd.func91, Tryd.ntmps91
    go_wp2
    go_ret2
    exact ⟨rfl, rfl⟩
end Go.Proofs.YtedocpocfpopgaaDoor.fmt
