/- The laws' helpers on plots: szIntS, szPlot, toPlot, eqPlot. -/
import Derived.Test.YtdjcbfeilkepmaaIntC
import Derived.Test.YtdjcbfeilkepmaaPosX
import Derived.BigQuiet
import Derived.Deep.QuietTactic
import Derived.Deep.CutRange
import Derived.Laws.OwnMore
namespace Go.Proofs.Ytdjcbfeilkepmaa.pltv
open Go.RowKit Go.Proofs.Ytdjcbfeilkepmaa.ints Go.Proofs.Ytdjcbfeilkepmaa.lst Go.Proofs.Ytdjcbfeilkepmaa.ats Go.Proofs.Ytdjcbfeilkepmaa.intc

end Go.Proofs.Ytdjcbfeilkepmaa.pltv
