/- Walks of picture's isSide, isShade and Check. -/
import Derived.Test.YtnjnelfmfijgjadBase
import Derived.Deep.Cut
import Derived.Deep.RegionWith
namespace Go.Proofs.Ytnjnelfmfijgjad
open Go.RowKit

def sideB (n : Int) : Bool := decide (1 ≤ n) && decide (n ≤ 8)
def shadeB (n : Int) : Bool := decide (0 ≤ n) && decide (n ≤ 255)

/-- a list of pixels: so many elements, each with its two numbers in memory -/
def RdP (w : World) (v : Value) (ps : List (Int × Int)) : Prop :=
  ∃ a cap, v = .slice a ps.length cap ∧ ps.length ≤ cap ∧ cap ≤ 9223372036854775807 ∧ (ps ≠ [] → ∃ g off, a = some ⟨g, off, none⟩ ∧ g < w.heap.size ∧
    ∀ j, j < ps.length → w.cell? ⟨g, off + j * 2, none⟩ = some (.int .i64 (ps.getD j (0, 0)).1) ∧ w.cell? ⟨g, off + j * 2 + 1, none⟩ = some (.int .i64 (ps.getD j (0, 0)).2))

theorem RdP.on {w w' : World} {v : Value} {ps : List (Int × Int)} (h : RdP w v ps) (hb : Below w.heap.size w w') : RdP w' v ps := by
  obtain ⟨a, cap, hv, hl, hc, hh⟩ := h
  refine ⟨a, cap, hv, hl, hc, fun hne => ?_⟩
  obtain ⟨g, off, ha, hg, hcell⟩ := hh hne
  refine ⟨g, off, ha, Nat.lt_of_lt_of_le hg hb.size, fun j hj => ?_⟩
  rw [hb.cell (p := ⟨g, off + j * 2, none⟩) hg, hb.cell (p := ⟨g, off + j * 2 + 1, none⟩) hg]
  exact hcell j hj

def okPix (p : Int × Int) : Bool := shadeB p.1 && shadeB p.2

/-- Check's answer -/
def checkL (W H : Int) (ps : List (Int × Int)) : Nat :=
  if sideB W = false ∨ sideB H = false then 1 else if (ps.length : Int) ≠ W * H then 3 else if ps.all okPix then 0 else 1

theorem drop_pix (l : List (Int × Int)) (k : Nat) (h : k < l.length) : l.drop k = l.getD k (0, 0) :: l.drop (k + 1) := by
  rw [List.drop_eq_getElem_cons h]
  simp only [List.getD_eq_getElem?_getD, List.getElem?_eq_getElem h]
  rfl

end Go.Proofs.Ytnjnelfmfijgjad
