/- Frames: what lies in memory, a list of them opened. -/
import Derived.Test.YtnjnelfmfijgjadPixV
import Derived.Test.YtnjnelfmfijgjadPixJ
import Derived.Test.YtnjnelfmfijgjadBlk
namespace Go.Proofs.Ytnjnelfmfijgjad
open Go.ChangeShapes Go.WideShapes Go.ChangeAt Go.RowKit Go.Joins Go.Deep

/-- a frame -/
structure Pf where
  W : Int
  H : Int
  ps : List (Int × Int)
  d : Int

@[reducible] def pf0 : Pf := ⟨0, 0, [], 0⟩
instance : Inhabited Pf := ⟨pf0⟩

/-- a list of frames -/
def RdF (w : World) (v : Value) (fs : List Pf) : Prop :=
  ∃ a cap, v = .slice a fs.length cap ∧ fs.length ≤ cap ∧ cap ≤ 9223372036854775807 ∧ (fs ≠ [] → ∃ g off, a = some ⟨g, off, none⟩ ∧ g < w.heap.size ∧
    ∀ j, j < fs.length → ∃ u, w.cell? ⟨g, off + j * 4, none⟩ = some (.int .i64 (fs.getD j pf0).W) ∧ w.cell? ⟨g, off + j * 4 + 1, none⟩ = some (.int .i64 (fs.getD j pf0).H) ∧
      w.cell? ⟨g, off + j * 4 + 2, none⟩ = some u ∧ w.cell? ⟨g, off + j * 4 + 3, none⟩ = some (.int .i64 (fs.getD j pf0).d) ∧ RdP w u (fs.getD j pf0).ps)

theorem RdF.on {w w' : World} {v : Value} {fs : List Pf} (h : RdF w v fs) (hb : Below w.heap.size w w') : RdF w' v fs := by
  obtain ⟨a, cap, hv, hl, hc, hh⟩ := h
  refine ⟨a, cap, hv, hl, hc, fun hne => ?_⟩
  obtain ⟨g, off, ha, hg, hcell⟩ := hh hne
  refine ⟨g, off, ha, Nat.lt_of_lt_of_le hg hb.size, fun j hj => ?_⟩
  obtain ⟨u, h0, h1, h2, h3, hr⟩ := hcell j hj
  refine ⟨u, ?_, ?_, ?_, ?_, hr.on hb⟩
  · rw [hb.cell (p := ⟨g, off + j * 4, none⟩) hg]; exact h0
  · rw [hb.cell (p := ⟨g, off + j * 4 + 1, none⟩) hg]; exact h1
  · rw [hb.cell (p := ⟨g, off + j * 4 + 2, none⟩) hg]; exact h2
  · rw [hb.cell (p := ⟨g, off + j * 4 + 3, none⟩) hg]; exact h3

theorem Try.cellsFr : Try.prog.cellsOf 28 = 4 := by kernel_rfl
theorem Try.cellsSl : Try.prog.cellsOf 24 = 1 := by kernel_rfl

set_option maxRecDepth 100000 in
theorem cells_frame {H : Type} {enc : TypeId × Value → H} {W : World} {cs : List Value} {fuel : Nat} {z : DataW H × List MemPlace} (hl : cs.length = 4)
    (h : DataW.trod enc Try.prog W 0 (fun _ => true) true fuel 28 cs = some z) :
    ∃ (pw ph : Int) (u : Value) (ps : List (Int × Int)) (d : Int), cs = [.int .i64 pw, .int .i64 ph, u, .int .i64 d] ∧ RdP W u ps := by
  obtain ⟨xs, n, _, rfl, hl', hlen, hf⟩ := DataW.trod_struct Try.underlying28 h
  match cs, hl with
  | [c0, c1, c2, c3], _ =>
    match xs, hlen with
    | [y0, y1], _ =>
      have h3 : DataW.trod enc Try.prog W 0 (fun _ => true) true n 26 [c0, c1, c2] = some y0 := by have := hf 0 _ rfl; simpa [Try.cellsPic] using this
      have h5 : DataW.trod enc Try.prog W 0 (fun _ => true) true n 3 [c3] = some y1 := by have := hf 1 _ rfl; simpa [Try.cellsInt] using this
      obtain ⟨z0, z1, z2, m, _, _, p0, p1, p2⟩ := trod_struct3 Try.underlying26 h3
      simp only [Try.cellsInt] at p0 p1
      have p2' : DataW.trod enc Try.prog W 0 (fun _ => true) true m 24 [c2] = some z2 := by simpa [Try.cellsSl] using p2
      obtain ⟨ps, hps⟩ := view_pix p2'
      obtain ⟨i3, e3, _, _⟩ := DataW.trod_int Try.underlying3 p0
      obtain ⟨i4, e4, _, _⟩ := DataW.trod_int Try.underlying3 p1
      obtain ⟨i5, e5, _, _⟩ := DataW.trod_int Try.underlying3 h5
      simp at e3 e4 e5
      subst e3 e4 e5
      exact ⟨i3, i4, c2, ps, i5, rfl, hps⟩

/-- a list of frames that is handed in -/
theorem open_frames {H : Type} {enc : TypeId × Value → H} {W : World} {u : Value} {x : DataW H × List MemPlace} {fuel : Nat}
    (hf : DataW.trod enc Try.prog W 0 (fun _ => true) true fuel 22 [u] = some x) : ∃ fs, RdF W u fs := by
  rcases open_slice Try.underlying22 hf with ⟨hc, _⟩ | ⟨a, len, cap, m, n, D, Pl, hc, hb, hl, hm, hmm, hx, hall⟩
  · simp only [List.cons.injEq, and_true] at hc
    subst hc
    exact ⟨[], none, 0, rfl, by simp, by omega, fun h => absurd rfl h⟩
  · simp only [List.cons.injEq, and_true] at hc
    subst hc
    simp only [if_true] at hmm
    subst hmm
    have each : ∀ i, i < m → ∃ q : Pf × Value, W.cell? (a.add (i * 4)) = some (.int .i64 q.1.W) ∧ W.cell? (a.add (i * 4 + 1)) = some (.int .i64 q.1.H) ∧ W.cell? (a.add (i * 4 + 2)) = some q.2 ∧ W.cell? (a.add (i * 4 + 3)) = some (.int .i64 q.1.d) ∧ RdP W q.2 q.1.ps := by
      intro i hi
      obtain ⟨cs', h1, h2⟩ := hall i hi
      rw [Try.cellsFr] at h1
      obtain ⟨_, hlen, hcell⟩ := World.cells?_some h1
      obtain ⟨pw, ph, v, ps, d, rfl, hr⟩ := cells_frame hlen h2
      have e0 := hcell 0 (by omega)
      have e1 := hcell 1 (by omega)
      have e2 := hcell 2 (by omega)
      have e3 := hcell 3 (by omega)
      rw [add_add] at e0 e1 e2 e3
      exact ⟨(⟨pw, ph, ps, d⟩, v), by simpa using e0, by simpa using e1, by simpa using e2, by simpa using e3, hr⟩
    obtain ⟨q, hq⟩ := choose_lt each
    unfold maxLen at hm
    refine ⟨(List.range len).map fun i => (q i).1, some a, m, by simp, by simpa using hl, by omega, fun hne => ?_⟩
    have hpos : 0 < len := by
      rcases Nat.eq_zero_or_pos len with h | h
      · subst h; simp at hne
      · exact h
    obtain ⟨sb, so, spot⟩ := a
    have hspot : spot = none := by simpa [Addr.add] using World.cell?_spot (hq 0 (by omega)).1
    subst hspot
    refine ⟨sb, so, rfl, ?_, fun j hj => ?_⟩
    · have h0 := (hq 0 (by omega)).1
      rcases Nat.lt_or_ge sb W.heap.size with h | h
      · exact h
      · simp [Addr.add, World.cell?, Array.getElem?_eq_none h] at h0
    · simp only [List.length_map, List.length_range] at hj
      have hg : ((List.range len).map fun i => (q i).1).getD j pf0 = (q j).1 := by
        rw [List.getD_eq_getElem?_getD, List.getElem?_map, List.getElem?_range hj]
        simp
      rw [hg]
      obtain ⟨h0, h1, h2, h3, h4⟩ := hq j (by omega)
      rw [add_plain] at h0 h1 h2 h3
      exact ⟨(q j).2, h0, by rw [Nat.add_assoc]; exact h1, by rw [Nat.add_assoc]; exact h2, by rw [Nat.add_assoc]; exact h3, h4⟩

theorem RdF.at {w : World} {a : Option Addr} {n cap : Nat} {fs : List Pf} (h : RdF w (.slice a n cap) fs) {k : Nat} (hk : k < n) {f : Pf} (HF : Hid (fs.getD k pf0 = f)) :
    ∃ g o ua m uc, a = some ⟨g, o, none⟩ ∧ g < w.heap.size ∧ w.cell? ⟨g, o + k * 4, none⟩ = some (.int .i64 f.W) ∧ w.cell? ⟨g, o + k * 4 + 1, none⟩ = some (.int .i64 f.H) ∧
      w.cell? ⟨g, o + k * 4 + 2, none⟩ = some (.slice ua m uc) ∧ w.cell? ⟨g, o + k * 4 + 3, none⟩ = some (.int .i64 f.d) ∧ Hid (RdP w (.slice ua m uc) f.ps) ∧ Hid (f.ps.length = m) := by
  obtain ⟨a', cap', hv, hl, hc, hh⟩ := h
  simp only [Value.slice.injEq] at hv
  obtain ⟨rfl, rfl, rfl⟩ := hv
  obtain ⟨g, o, ha, hg, hcell⟩ := hh (by intro e; rw [e] at hk; simp at hk)
  obtain ⟨u, h0, h1, h2, h3, h4⟩ := hcell k hk
  rw [HF.out] at h0 h1 h3 h4
  have h5 := h4
  obtain ⟨ua, uc, rfl, _⟩ := h5
  exact ⟨g, o, ua, _, uc, ha, hg, h0, h1, h2, h3, h4, (rfl : _ = _)⟩
theorem RdF.shape {w : World} {v : Value} {fs : List Pf} (h : RdF w v fs) : ∃ a cap, v = .slice a fs.length cap ∧ fs.length ≤ cap ∧ cap ≤ 9223372036854775807 := by
  obtain ⟨a, cap, h1, h2, h3, _⟩ := h
  exact ⟨a, cap, h1, h2, h3⟩
end Go.Proofs.Ytnjnelfmfijgjad
