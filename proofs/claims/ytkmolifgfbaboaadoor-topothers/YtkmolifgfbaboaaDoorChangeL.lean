/- Walk of blend.change, with the closure of Lay. -/
import Derived.Test.YtkmolifgfbaboaaDoorChangeM
namespace Go.Proofs.YtkmolifgfbaboaaDoor
open Go.RowKit

end Go.Proofs.YtkmolifgfbaboaaDoor
