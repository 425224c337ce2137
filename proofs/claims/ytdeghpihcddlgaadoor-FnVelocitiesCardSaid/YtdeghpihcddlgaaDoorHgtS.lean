/- spec's height codes: contracts. -/
import Derived.Test.YtdeghpihcddlgaaDoorHgt
import Derived.Test.YtdeghpihcddlgaaDoorIn
import Derived.Test.YtdeghpihcddlgaaDoorHgtJ
import Derived.Test.YtdeghpihcddlgaaDoorHgtK
import Derived.Test.YtdeghpihcddlgaaDoorHgtC
import Derived.Test.YtdeghpihcddlgaaDoorHgtG
namespace Go.Proofs.YtdeghpihcddlgaaDoor.hgts
open Go.RowKit Go.Proofs.YtdeghpihcddlgaaDoor.hgt Go.Proofs.YtdeghpihcddlgaaDoor.bin Go.Proofs.YtdeghpihcddlgaaDoor.in_ Go.Proofs.YtdeghpihcddlgaaDoor.hgti Go.Proofs.YtdeghpihcddlgaaDoor.hgtj Go.Proofs.YtdeghpihcddlgaaDoor.hgtk Go.Proofs.YtdeghpihcddlgaaDoor.hgtc Go.Proofs.YtdeghpihcddlgaaDoor.hgtg

end Go.Proofs.YtdeghpihcddlgaaDoor.hgts
