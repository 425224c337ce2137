/- spec's functions of chapter 7 on one place or report: l7Good, IsValidPlace, l7Size, l7Report, IsValidReport, l7Of, ReportOf, l7Abs, l7Both. -/
import Derived.Test.YtndogafihaooiaaPosM
import Derived.Test.YtndogafihaooiaaIn
import Derived.BigQuiet
import Derived.Deep.QuietTactic
namespace Go.Proofs.Ytndogafihaooiaa.poss
open Go.RowKit Go.Proofs.Ytndogafihaooiaa.pos Go.Proofs.Ytndogafihaooiaa.in_ Go.Proofs.Ytndogafihaooiaa.posj Go.Proofs.Ytndogafihaooiaa.posm Go.Proofs.Ytndogafihaooiaa.ats

end Go.Proofs.Ytndogafihaooiaa.poss
