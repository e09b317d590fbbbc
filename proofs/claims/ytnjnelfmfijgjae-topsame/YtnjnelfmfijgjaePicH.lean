/- Walk of picture.restore, way by way. -/
import Derived.Test.YtnjnelfmfijgjaePicC
import Derived.Test.YtnjnelfmfijgjaePicG2
namespace Go.Proofs.Ytnjnelfmfijgjae
open Go.RowKit

end Go.Proofs.Ytnjnelfmfijgjae
