/- spec's functions of chapter 7 on one place or report: l7Good, IsValidPlace, l7Size, l7Report, IsValidReport, l7Of, ReportOf, l7Abs, l7Both. -/
import Derived.Test.YtpbopiecfnedgabPosM
import Derived.Test.YtpbopiecfnedgabIn
import Derived.BigQuiet
import Derived.Deep.QuietTactic
namespace Go.Proofs.Ytpbopiecfnedgab.poss
open Go.RowKit Go.Proofs.Ytpbopiecfnedgab.pos Go.Proofs.Ytpbopiecfnedgab.in_ Go.Proofs.Ytpbopiecfnedgab.posj Go.Proofs.Ytpbopiecfnedgab.posm Go.Proofs.Ytpbopiecfnedgab.ats

end Go.Proofs.Ytpbopiecfnedgab.poss
