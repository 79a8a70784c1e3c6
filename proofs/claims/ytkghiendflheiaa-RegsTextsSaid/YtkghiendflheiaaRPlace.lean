/- The document's place, and which numbers it takes. -/
import Derived.Test.YtkghiendflheiaaRMath3
import Derived.IntWalk
set_option linter.unusedVariables false
namespace Go.Proofs.Ytkghiendflheiaa
open Go.RowKit Go.Sort
end Go.Proofs.Ytkghiendflheiaa
