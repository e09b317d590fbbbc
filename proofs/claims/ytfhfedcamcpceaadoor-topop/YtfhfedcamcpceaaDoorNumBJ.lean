/- Walk of the law's number. -/
import Derived.Test.YtfhfedcamcpceaaDoorM5
namespace Go.Proofs.YtfhfedcamcpceaaDoor
open Go.RowKit

end Go.Proofs.YtfhfedcamcpceaaDoor
