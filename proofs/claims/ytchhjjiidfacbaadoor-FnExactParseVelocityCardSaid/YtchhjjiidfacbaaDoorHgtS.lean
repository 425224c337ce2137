/- spec's height codes: contracts. -/
import Derived.Test.YtchhjjiidfacbaaDoorHgt
import Derived.Test.YtchhjjiidfacbaaDoorIn
import Derived.Test.YtchhjjiidfacbaaDoorHgtJ
import Derived.Test.YtchhjjiidfacbaaDoorHgtK
import Derived.Test.YtchhjjiidfacbaaDoorHgtC
import Derived.Test.YtchhjjiidfacbaaDoorHgtG
namespace Go.Proofs.YtchhjjiidfacbaaDoor.hgts
open Go.RowKit Go.Proofs.YtchhjjiidfacbaaDoor.hgt Go.Proofs.YtchhjjiidfacbaaDoor.bin Go.Proofs.YtchhjjiidfacbaaDoor.in_ Go.Proofs.YtchhjjiidfacbaaDoor.hgti Go.Proofs.YtchhjjiidfacbaaDoor.hgtj Go.Proofs.YtchhjjiidfacbaaDoor.hgtk Go.Proofs.YtchhjjiidfacbaaDoor.hgtc Go.Proofs.YtchhjjiidfacbaaDoor.hgtg

end Go.Proofs.YtchhjjiidfacbaaDoor.hgts
