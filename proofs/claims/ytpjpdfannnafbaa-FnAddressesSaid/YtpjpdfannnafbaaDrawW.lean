/- spec's draws for chapter 5's laws: DrawIsValidFrame, DrawEncodeFrame, DrawParseFrameText, DrawFrameDistance. -/
import Derived.Test.YtpjpdfannnafbaaDrawV
import Derived.Test.YtpjpdfannnafbaaDrawB
import Derived.Test.YtpjpdfannnafbaaFrmT
import Derived.Test.YtpjpdfannnafbaaParS
import Derived.Test.YtpjpdfannnafbaaParR
namespace Go.Proofs.Ytpjpdfannnafbaa.draww
open Go.RowKit Go.Proofs.Ytpjpdfannnafbaa.cur Go.Proofs.Ytpjpdfannnafbaa.bin Go.Proofs.Ytpjpdfannnafbaa.good_ Go.Proofs.Ytpjpdfannnafbaa.par Go.Proofs.Ytpjpdfannnafbaa.frm Go.Proofs.Ytpjpdfannnafbaa.frms Go.Proofs.Ytpjpdfannnafbaa.ats Go.Proofs.Ytpjpdfannnafbaa.drawv

def Full (z : ByteArray) : Prop := z.size = 56 ∧ ok 2 z.data.toList = true
theorem ok_add {x y : ByteArray} (hx : ok 2 x.data.toList = true) (hy : ok 2 y.data.toList = true) : ok 2 (x ++ y).data.toList = true := by
  rw [ByteArray.data_append, Array.toList_append, ok_app, hx, hy]; rfl
theorem Full.flip {z : ByteArray} {k : Nat} (h : Full z) (hk : k < 56) : Full (flipT z k) := by
  have hr : rdB 2 64 z = true := by unfold rdB; rw [h.2, decide_eq_true (by rw [h.1]; omega)]; rfl
  exact ⟨by rw [parr.flip_size (by rw [h.1]; exact hk)]; exact h.1, (parr.flip_dec hr (by rw [h.1]; exact hk)).1⟩
def Frame1 (w : World) (e : Ending) (w' : World) : Prop := ∃ K A D, e = .returned (.agg #[.int .i64 K, .int .i64 A, .int .i64 D]) ∧ Near K A D ∧ Below w.heap.size w w'

end Go.Proofs.Ytpjpdfannnafbaa.draww
