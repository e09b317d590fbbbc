/- The closed fact of books(): what its bytes are read as. -- s1 -/
import Derived.Test.YtceabiodelfdoaaDoorSosAJ
namespace Go.Proofs.YtceabiodelfdoaaDoor
open Go.RowKit

/-- the ops of books() -/
def qsB : List Pq := [⟨1, 0, 2, 1, 0, 0, 0, 0, []⟩, ⟨16, 0, 0, 0, 0, 0, 0, 0, []⟩]
theorem qsB_ok : bkC qsB = 0 := by kernel_rfl
theorem qsB_read : bookOf (bookB qsB) = (qsB, 0) := by kernel_rfl
end Go.Proofs.YtceabiodelfdoaaDoor
