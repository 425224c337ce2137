/- The card's condition gives impl's table of words. -/
import Derived.Test.YtpjpdfannnafbaaDoorRows
import Derived.Test.YtpjpdfannnafbaaDoorLaid
import Derived.Test.YtpjpdfannnafbaaDoorFrmY
namespace Go.Proofs.YtpjpdfannnafbaaDoor.frmtab
open Go.Proofs.YtpjpdfannnafbaaDoor.frmt

theorem gW : Tryd.prog.globalNamed "loop.example/g00875/impl.frameWords" = some 0 := by kernel_rfl
theorem gWT : (Tryd.prog.globals[0]?).map (·.type) = some 51 := by kernel_rfl
theorem cellsW : Tryd.prog.cellsOf 51 = 5 := by kernel_rfl
theorem cellsS : Tryd.prog.cellsOf 9 = 1 := by kernel_rfl
def words : List ByteArray := [wd 0, wd 1, wd 2, wd 3, wd 4]
theorem word_at : ∀ k : Nat, k < 5 → words[k]? = some (wd k)
  | 0, _ => rfl
  | 1, _ => rfl
  | 2, _ => rfl
  | 3, _ => rfl
  | 4, _ => rfl
theorem tab_of {W : World} (h : laidMetH Tryd.prog [("loop.example/g00875/impl.frameWords", Rows.laid_loop_example_g00875_impl_frameWords)] W) : frmy.Tab W := fun k hk =>
  (laid_.strIs_of_head (ss := words) (rest := []) gW gWT Tryd.underlying51 Tryd.underlying9 cellsS cellsW h).cell gW (word_at k hk)
end Go.Proofs.YtpjpdfannnafbaaDoor.frmtab
