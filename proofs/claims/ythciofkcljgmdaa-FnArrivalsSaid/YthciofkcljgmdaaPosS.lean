/- spec's functions of chapter 7 on one place or report: l7Good, IsValidPlace, l7Size, l7Report, IsValidReport, l7Of, ReportOf, l7Abs, l7Both. -/
import Derived.Test.YthciofkcljgmdaaPosM
import Derived.Test.YthciofkcljgmdaaIn
import Derived.BigQuiet
import Derived.Deep.QuietTactic
namespace Go.Proofs.Ythciofkcljgmdaa.poss
open Go.RowKit Go.Proofs.Ythciofkcljgmdaa.pos Go.Proofs.Ythciofkcljgmdaa.in_ Go.Proofs.Ythciofkcljgmdaa.posj Go.Proofs.Ythciofkcljgmdaa.posm Go.Proofs.Ythciofkcljgmdaa.ats

end Go.Proofs.Ythciofkcljgmdaa.poss
