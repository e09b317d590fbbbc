/- A picture that is handed in, opened. -/
import Derived.Test.YtkmolifgfbaboaaDoorPixA
import Derived.Lib.SmallJoins
import Derived.Deep.SlicePairs
import Derived.WalkKit
import Derived.ProofKit
import Derived.OpenShut
import Derived.Below
namespace Go.Proofs.YtkmolifgfbaboaaDoor
open Go.ChangeShapes Go.WideShapes Go.ChangeAt Go.RowKit Go.Joins Go.Deep

theorem Tryd.cellsPic : Tryd.prog.cellsOf 25 = 3 := by kernel_rfl
theorem Tryd.cellsPix : Tryd.prog.cellsOf 33 = 2 := by kernel_rfl
theorem Tryd.cellsInt : Tryd.prog.cellsOf 3 = 1 := by kernel_rfl

theorem view_pix {H : Type} {enc : TypeId × Value → H} {W : World} {u : Value} {x : DataW H × List MemPlace} {fuel : Nat}
    (hf : DataW.trod enc Tryd.prog W 0 (fun _ => true) true fuel 23 [u] = some x) : ∃ ps, RdP W u ps := by
  rcases open_slice_pairs Tryd.underlying23 Tryd.underlying33 Tryd.cellsPix rfl rfl Tryd.cellsInt Tryd.cellsInt hf with ⟨hc, _⟩ | ⟨a, len, cap, m, k, V0, V1, D0, D1, P0, P1, hc, _, hl, hm, hmm, hx, hall⟩
  · simp only [List.cons.injEq, and_true] at hc
    subst hc
    exact ⟨[], none, 0, rfl, by simp, by omega, fun h => absurd rfl h⟩
  · simp only [List.cons.injEq, and_true] at hc
    subst hc
    simp only [if_true] at hmm
    subst hmm
    have hint : ∀ i, i < m → ∃ n0 n1, V0 i = .int .i64 n0 ∧ V1 i = .int .i64 n1 := fun i hi => by
      obtain ⟨n0, h1, _, _⟩ := DataW.trod_int Tryd.underlying3 (hall i hi).2.2.1
      obtain ⟨n1, h2, _, _⟩ := DataW.trod_int Tryd.underlying3 (hall i hi).2.2.2
      simp only [List.cons.injEq, and_true] at h1 h2
      exact ⟨n0, n1, h1, h2⟩
    let f : Nat → Int × Int := fun i => (intOf (V0 i), intOf (V1 i))
    unfold maxLen at hm
    refine ⟨(List.range len).map f, some a, m, by simp, by simp; exact hl, by omega, fun hne => ?_⟩
    have hpos : 0 < len := by
      rcases Nat.eq_zero_or_pos len with h | h
      · subst h; simp at hne
      · exact h
    obtain ⟨sb, so, spot⟩ := a
    have hspot : spot = none := by simpa [Addr.add] using World.cell?_spot (hall 0 (by omega)).1
    subst hspot
    refine ⟨sb, so, rfl, ?_, fun j hj => ?_⟩
    · have h0 := (hall 0 (by omega)).1
      rcases Nat.lt_or_ge sb W.heap.size with h | h
      · exact h
      · simp [Addr.add, World.cell?, Array.getElem?_eq_none h] at h0
    · simp only [List.length_map, List.length_range] at hj
      obtain ⟨n0, n1, e0, e1⟩ := hint j (by omega)
      have h0 := (hall j (by omega)).1
      have h1 := (hall j (by omega)).2.1
      have hg : ((List.range len).map f).getD j (0, 0) = (n0, n1) := by
        rw [List.getD_eq_getElem?_getD, List.getElem?_map, List.getElem?_range hj]
        simp [f, e0, e1, intOf]
      rw [hg]
      rw [e0] at h0
      rw [e1] at h1
      rw [add_plain] at h0 h1
      exact ⟨h0, by rw [Nat.add_assoc]; exact h1⟩

set_option maxRecDepth 100000 in
theorem open_picture {H : Type} {enc : TypeId × Value → H} {W : World} {r : Reach} {b0 : Nat} {v : Value} {d : DataW H} {p : List MemPlace} (hv : Value.okWide Tryd.prog W r b0 25 v)
    (h : DataW.Trod enc Tryd.prog W 0 (fun _ => true) true 25 v d p) :
    ∃ (pw ph : Int) (u : Value) (ps : List (Int × Int)), v = .agg #[.int .i64 pw, .int .i64 ph, u] ∧ RdP W u ps ∧ (Lit.int .i64 pw).wf = true ∧ (Lit.int .i64 ph).wf = true := by
  obtain ⟨c0, c1, c2, y0, y1, y2, m, rfl, _, _, hy0, hy1, hy2⟩ := open_agg3 Tryd.underlying25 (by kernel_rfl) Tryd.cellsPic hv h
  obtain ⟨x, e0, _, wx⟩ := DataW.trod_int Tryd.underlying3 hy0
  obtain ⟨y, e1, _, wy⟩ := DataW.trod_int Tryd.underlying3 hy1
  simp at e0 e1
  subst e0 e1
  obtain ⟨ps, hps⟩ := view_pix hy2
  exact ⟨x, y, c2, ps, rfl, hps, wx, wy⟩
end Go.Proofs.YtkmolifgfbaboaaDoor
