/- spec's FrameDistance. -/
import Derived.Test.YtpjpdfannnafbaaDoorFrmS
import Derived.Test.YtpjpdfannnafbaaDoorAtS
import Derived.Test.YtpjpdfannnafbaaDoorHexS
import Derived.Lib.QuietBelow
namespace Go.Proofs.YtpjpdfannnafbaaDoor.frmv
open Go.RowKit Go.Proofs.YtpjpdfannnafbaaDoor.bin Go.Proofs.YtpjpdfannnafbaaDoor.good_ Go.Proofs.YtpjpdfannnafbaaDoor.frm Go.Proofs.YtpjpdfannnafbaaDoor.frms Go.Proofs.YtpjpdfannnafbaaDoor.ats

/-- In how many bits two frames differ. -/
def dist (n m : Nat) : Nat := ones (List.zipWith df (bitsT n).data.toList (bitsT m).data.toList)
def fdB (K A D K' A' D' : Int) : Bool := good K A D && good K' A' D'
def fdV (K A D K' A' D' : Int) : Nat := if fdB K A D K' A' D' then dist (numI K A D) (numI K' A' D') else 0
theorem fd_no {K A D K' A' D' : Int} (h : fdB K A D K' A' D' = false) : Ending.returned (.tuple #[.int .i64 0, .bool false]) = .returned (.tuple #[.int .i64 (fdV K A D K' A' D' : Nat), .bool (fdB K A D K' A' D')]) := by unfold fdV; rw [h]; rfl
theorem fd_yes {k a d k' a' d' : Nat} (h : fdB k a d k' a' d' = true) : Ending.returned (.tuple #[.int .i64 (dist (num k a d) (num k' a' d') : Nat), .bool true]) = .returned (.tuple #[.int .i64 (fdV k a d k' a' d' : Nat), .bool (fdB k a d k' a' d')]) := by unfold fdV numI; rw [h]; simp

end Go.Proofs.YtpjpdfannnafbaaDoor.frmv
