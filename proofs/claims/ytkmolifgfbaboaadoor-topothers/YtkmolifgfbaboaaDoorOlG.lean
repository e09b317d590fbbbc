/- Walks: objects.Seen. -/
import Derived.Test.YtkmolifgfbaboaaDoorOlD
import Derived.Test.YtkmolifgfbaboaaDoorLayM
import Derived.Test.YtkmolifgfbaboaaDoorPlainO
namespace Go.Proofs.YtkmolifgfbaboaaDoor
open Go.RowKit

def Po.fault' (x : Po) : Nat := objC x.id x.x x.y x.pw x.ph x.ps x.cx x.cy x.cw x.ch

/-- pixels read as before where another block's cell is stored into -/
theorem rdP_set {w : World} {u : Value} {ps : List (Int × Int)} (h : RdP w u ps) {b : Nat} (hne : ∀ z n c, u = .slice (some z) n c → z.block ≠ b) (j : Nat) (x : Value) : RdP (w.setCell ⟨b, j, none⟩ x) u ps := by
  obtain ⟨a, cap, hv, hl, hc, hh⟩ := h
  refine ⟨a, cap, hv, hl, hc, fun h0 => ?_⟩
  obtain ⟨g, off, ha, hg, hcell⟩ := hh h0
  have hgb : g ≠ b := hne ⟨g, off, none⟩ _ _ (by rw [hv, ha])
  refine ⟨g, off, ha, by simpa using hg, fun j' hj => ?_⟩
  rw [World.cell?_of_block (a := ⟨g, off + j' * 2, none⟩) (Below.heap_setCell w ⟨b, j, none⟩ x g (by simpa using hgb)), World.cell?_of_block (a := ⟨g, off + j' * 2 + 1, none⟩) (Below.heap_setCell w ⟨b, j, none⟩ x g (by simpa using hgb))]
  exact hcell j' hj
theorem check_plain (W H : Nat) (v a : Int) (h1 : 1 ≤ W) (h2 : W ≤ 8) (h3 : 1 ≤ H) (h4 : H ≤ 8) (h5 : 0 ≤ v) (h6 : v ≤ 255) (h7 : 0 ≤ a) (h8 : a ≤ 255) : checkL (W : Int) (H : Int) (List.replicate (W * H) (v, a)) = 0 := by
  have s1 : sideB (W : Int) = true := by unfold sideB; simp; omega
  have s2 : sideB (H : Int) = true := by unfold sideB; simp; omega
  unfold checkL
  rw [s1, s2, if_neg (by simp), if_neg (by simp), if_pos]
  rw [List.all_eq_true]
  intro x hx
  rw [(List.mem_replicate.1 hx).2]
  unfold okPix shadeB
  simp
  omega
theorem layO_check (W H : Nat) (ps : List (Int × Int)) (o : Po) (hp : checkL (W : Int) (H : Int) ps = 0) (ho : o.fault' = 0) : checkL (W : Int) (H : Int) (layL W ps o.pw.toNat o.ph.toNat o.ps o.x o.y o.cx o.cy o.cw o.ch o.sh) = 0 := by
  have hz := (objC_zero _ _ _ _ _ _ _ _ _ _ ho).2.2.2.2.2.2.2.2.2.2.2.2.2.2
  obtain ⟨PW, PH, e1, e2, _⟩ := check_zero _ _ _ hz
  refine lay_check W H ps _ _ _ _ _ _ _ _ _ _ hp ?_
  rw [e1, e2] at hz ⊢
  simpa using hz
/-- one object more is seen -/
def layO (W : Nat) (ps : List (Int × Int)) (o : Po) : List (Int × Int) := layL W ps o.pw.toNat o.ph.toNat o.ps o.x o.y o.cx o.cy o.cw o.ch o.sh
/-- what Seen answers -/
def seenL (W H : Nat) (back : Int × Int) (os : List Po) : List (Int × Int) := os.foldl (layO W) (List.replicate (W * H) back)

end Go.Proofs.YtkmolifgfbaboaaDoor
