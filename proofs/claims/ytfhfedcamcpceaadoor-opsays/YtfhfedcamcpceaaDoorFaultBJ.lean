/- Walks of the reference's picture: PictureFault, byteAt, guess. -/
import Derived.Test.YtfhfedcamcpceaaDoorM5
import Derived.Test.YtfhfedcamcpceaaDoorRefAJ
namespace Go.Proofs.YtfhfedcamcpceaaDoor
open Go.RowKit

end Go.Proofs.YtfhfedcamcpceaaDoor
