/- Walk of blend.Over. -/
import Derived.Test.YtkmolifgfbaboaaDoorBase
import Derived.Test.YtkmolifgfbaboaaDoorOverM
namespace Go.Proofs.YtkmolifgfbaboaaDoor
open Go.RowKit

def pixV (v a : Int) : Value := .agg #[.int .i64 v, .int .i64 a]

end Go.Proofs.YtkmolifgfbaboaaDoor
