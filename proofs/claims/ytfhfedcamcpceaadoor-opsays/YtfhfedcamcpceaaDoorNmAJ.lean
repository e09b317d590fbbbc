/- The reference's table of names. -- s1 -/
import Derived.Test.YtfhfedcamcpceaaDoorM5
import Derived.SliceStrings
namespace Go.Proofs.YtfhfedcamcpceaaDoor
open Go.ChangeShapes Go.WideShapes Go.ChangeAt Go.RowKit Go.Joins Go.Deep Go.Lib

/-- the names, no kind's first -/
def nmsB : List (List UInt8) := [] :: shps.map Shp.name
theorem nmsB_len : nmsB.length = 17 := rfl
theorem Tryd.cellsStr : Tryd.prog.cellsOf 9 = 1 := by kernel_rfl
theorem laid_names {H : Type} : (Rows.laid_flickerbook_flickerbookref_names : DataW H) = .slice (nmsB.map fun l => .lit (.string l)) [] := rfl
/-- the table lies where the program has it -/
def RefNames (W : World) : Prop := ∃ b off cap, W.cell? ⟨0, 0, none⟩ = some (.slice (some ⟨b, off, none⟩) 17 cap) ∧ b < W.heap.size ∧ 0 < W.heap.size ∧ ∀ k l, nmsB[k]? = some l → W.cell? ⟨b, off + k, none⟩ = some (.string ⟨l.toArray⟩)
theorem RefNames.on {w w' : World} (h : RefNames w) (hb : Below w.heap.size w w') : RefNames w' := by
  obtain ⟨b, off, cap, h1, h2, h3, h4⟩ := h
  exact ⟨b, off, cap, (hb.cell (p := ⟨_, 0, none⟩) h3).trans h1, Nat.lt_of_lt_of_le h2 hb.size, Nat.lt_of_lt_of_le h3 hb.size, fun k l hk => (hb.cell (p := ⟨b, off + k, none⟩) h2).trans (h4 k l hk)⟩
theorem laid_tail {P : Program} {W : World} {x : String × DataW Unit} {rest : List (String × DataW Unit)} (h : laidMet P (x :: rest) W) : laidMet P rest W := by
  obtain ⟨ps, ⟨g', t', cs, fuel, p, q, _, _, _, _, hq, rfl⟩, hn, hh⟩ := h
  exact ⟨q, hq, (List.nodup_append.1 hn).2.1, fun b off hm => hh b off (by simp [hm])⟩

set_option maxRecDepth 100000 in
theorem names_of_laid {W : World} {rest : List (String × DataW Unit)} (h : laidMet Tryd.prog (("flickerbook/flickerbookref.names", Rows.laid_flickerbook_flickerbookref_names) :: rest) W) : RefNames W := by
  obtain ⟨ps, ⟨g', t', cs, fuel, p, q, hg', ht', hvar, hd, _, _⟩, _⟩ := h
  obtain rfl := Option.some.inj ((show Tryd.prog.globalNamed "flickerbook/flickerbookref.names" = some 0 by kernel_rfl).symm.trans hg')
  obtain rfl := Option.some.inj ((show (Tryd.prog.globals[0]?).map (·.type) = some 66 by kernel_rfl).symm.trans ht')
  rcases open_strings Tryd.underlying66 Tryd.underlying9 Tryd.cellsStr hd with ⟨_, hx⟩ | ⟨a, len, cap, ss, hcs, _, hl, hm, hz, hx, hcell, _⟩
  · rw [laid_names] at hx
    simp at hx
  simp only [if_true] at hz
  rw [laid_names] at hx
  simp only [Prod.mk.injEq, DataW.slice.injEq] at hx
  obtain ⟨⟨hx1, hx2⟩, _⟩ := hx
  have hlen : len = 17 := by
    have h1 := congrArg List.length hx1
    simp [strs, nmsB_len] at h1
    omega
  subst hlen
  obtain ⟨sb, so, spot⟩ := a
  have hsl : 17 ≤ ss.length := by omega
  have h0 := hcell 0 (by omega)
  have hspot : spot = none := by
    have := World.cell?_spot h0
    simpa [Addr.add] using this
  subst hspot
  have hc0 : W.cell? ⟨0, 0, none⟩ = some (.slice (some ⟨sb, so, none⟩) 17 cap) := by
    have h1 := World.var?_cell hg' hvar 0
    rw [h1]
    have h2 : cs[0]? = some (.slice (some ⟨sb, so, none⟩) 17 cap) := by rw [← Array.getElem?_toList, hcs]; rfl
    exact h2
  have hlt : ∀ (g j : Nat) (u : Value), W.cell? ⟨g, j, none⟩ = some u → g < W.heap.size := fun g j u hu => World.block_lt_of_cell? W ⟨g, j, none⟩ hu
  refine ⟨sb, so, cap, hc0, hlt _ _ _ (by rw [add_plain] at h0; exact h0), hlt _ _ _ hc0, fun k l hk => ?_⟩
  have hk17 : k < 17 := by
    have := (List.getElem?_eq_some_iff.1 hk).1
    rw [nmsB_len] at this; exact this
  have h1 := hcell k (by omega)
  rw [add_plain] at h1
  rw [h1]
  have h2 := congrArg (fun l : List (DataW Unit) => l[k]?) hx1
  simp only [strs, List.getElem?_map, hk, List.getElem?_take, if_pos hk17] at h2
  rw [List.getD_eq_getElem?_getD]
  rw [List.getElem?_eq_getElem (by omega)] at h2 ⊢
  simp at h2
  simp only [Option.getD_some]
  congr 2
  exact WideShapes.bytes_inj (by simp [← h2])
end Go.Proofs.YtfhfedcamcpceaaDoor
