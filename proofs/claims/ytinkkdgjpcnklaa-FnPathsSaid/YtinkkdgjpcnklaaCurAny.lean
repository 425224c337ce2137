/- The reader of choices, on: any1. -/
import Derived.Test.YtinkkdgjpcnklaaCurStr
namespace Go.Proofs.Ytinkkdgjpcnklaa.cur
open Go.RowKit

end Go.Proofs.Ytinkkdgjpcnklaa.cur
