/- Walk of blend.Plain: the row is one's own. -/
import Derived.Test.YtkmolifgfbaboaaDoorPlainC
import Derived.Test.YtkmolifgfbaboaaDoorBlendA
namespace Go.Proofs.YtkmolifgfbaboaaDoor
open Go.RowKit

end Go.Proofs.YtkmolifgfbaboaaDoor
