/- DoObject, any kind: no row of pixels lies in one block. -/
import Derived.Test.YtjmkfcgnadpbaaaDoorNiD3J
import Derived.Test.YtjmkfcgnadpbaaaDoorNiD4J
import Derived.Test.YtjmkfcgnadpbaaaDoorNiD5J
namespace Go.Proofs.YtjmkfcgnadpbaaaDoor.NI
open Go.RowKit
section
variable [Inhabited Blk]


theorem rdo_any (v : Value) (os : List Po) (q : Pq) (uq : Value) (w : World) (HFB : Hid (∀ x, Forb.s x → x < w.heap.size)) (HP : Hid (DoPre os q)) (HR : Hid (RdO w v os)) (HU : Hid (RdP w uq q.ps)) :
    Calls Tryd.prog 27 #[v, opV q uq] w fun e w' => RDoP os q w e w' := by
  by_cases h2 : q.kind = 2
  · exact rdo_new v os q uq w h2 HFB HP HR HU
  by_cases hyes : ∃ j, j < os.length ∧ (os.getD j po0).id = q.id
  case neg => exact rdo_none v os q uq w h2 (fun j hj he => hyes ⟨j, hj, he⟩) HP HR HU
  by_cases h3 : q.kind = 3
  · exact rdo_3 v os q uq w h3 hyes HFB HP HR HU
  by_cases h4 : q.kind = 4
  · exact rdo_4 v os q uq w h4 hyes HFB HP HR HU
  by_cases h5 : q.kind = 5
  · exact rdo_5 v os q uq w h5 hyes HFB HP HR HU
  by_cases h6 : q.kind = 6
  · exact rdo_6 v os q uq w h6 hyes HFB HP HR HU
  by_cases h7 : q.kind = 7
  · exact rdo_7 v os q uq w h7 hyes HFB HP HR HU
  by_cases h8 : q.kind = 8
  · exact rdo_8 v os q uq w h8 hyes HFB HP HR HU
  by_cases h9 : q.kind = 9
  · exact rdo_9 v os q uq w h9 hyes HFB HP HR HU
  exact rdo_other v os q uq w (by omega) hyes HP HR HU
end
end Go.Proofs.YtjmkfcgnadpbaaaDoor.NI
