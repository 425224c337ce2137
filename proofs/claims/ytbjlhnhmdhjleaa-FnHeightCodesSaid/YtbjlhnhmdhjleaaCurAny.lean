/- The reader of choices, on: any1. -/
import Derived.Test.YtbjlhnhmdhjleaaCurStr
namespace Go.Proofs.Ytbjlhnhmdhjleaa.cur
open Go.RowKit

end Go.Proofs.Ytbjlhnhmdhjleaa.cur
