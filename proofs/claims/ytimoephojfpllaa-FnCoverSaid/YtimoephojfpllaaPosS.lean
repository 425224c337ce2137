/- spec's functions of chapter 7 on one place or report: l7Good, IsValidPlace, l7Size, l7Report, IsValidReport, l7Of, ReportOf, l7Abs, l7Both. -/
import Derived.Test.YtimoephojfpllaaPosM
import Derived.Test.YtimoephojfpllaaIn
import Derived.BigQuiet
import Derived.Deep.QuietTactic
namespace Go.Proofs.Ytimoephojfpllaa.poss
open Go.RowKit Go.Proofs.Ytimoephojfpllaa.pos Go.Proofs.Ytimoephojfpllaa.in_ Go.Proofs.Ytimoephojfpllaa.posj Go.Proofs.Ytimoephojfpllaa.posm Go.Proofs.Ytimoephojfpllaa.ats

end Go.Proofs.Ytimoephojfpllaa.poss
