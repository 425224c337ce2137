/- The reader of choices, on: any1. -/
import Derived.Test.YtbjlhnhmdhjleaaDoorCurStr
namespace Go.Proofs.YtbjlhnhmdhjleaaDoor.cur
open Go.RowKit

end Go.Proofs.YtbjlhnhmdhjleaaDoor.cur
