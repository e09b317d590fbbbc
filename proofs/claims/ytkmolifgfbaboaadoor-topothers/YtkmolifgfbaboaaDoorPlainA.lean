/- Walk of math/bits.Mul, as slices.Repeat calls it. -/
import Derived.Test.YtkmolifgfbaboaaDoorBase
namespace Go.Proofs.YtkmolifgfbaboaaDoor
open Go.RowKit

theorem and_small : ∀ n : Fin 65, bits BinOp.and IntKind.u64 (n.val : Int) 4294967295 = (n.val : Int) := by decide +kernel

end Go.Proofs.YtkmolifgfbaboaaDoor
