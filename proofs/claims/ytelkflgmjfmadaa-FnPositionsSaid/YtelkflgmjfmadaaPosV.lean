/- spec's DecodeNear. -/
import Derived.Test.YtelkflgmjfmadaaPosU
import Derived.Test.YtelkflgmjfmadaaPosN
namespace Go.Proofs.Ytelkflgmjfmadaa.posv
open Go.RowKit Go.Proofs.Ytelkflgmjfmadaa.pos Go.Proofs.Ytelkflgmjfmadaa.in_ Go.Proofs.Ytelkflgmjfmadaa.posj Go.Proofs.Ytelkflgmjfmadaa.posm Go.Proofs.Ytelkflgmjfmadaa.posn Go.Proofs.Ytelkflgmjfmadaa.poss Go.Proofs.Ytelkflgmjfmadaa.post Go.Proofs.Ytelkflgmjfmadaa.posu Go.Proofs.Ytelkflgmjfmadaa.ats

end Go.Proofs.Ytelkflgmjfmadaa.posv
