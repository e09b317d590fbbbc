/- An op that is handed in, opened. -/
import Derived.Test.YtfhfedcamcpceaaDoorM5
namespace Go.Proofs.YtfhfedcamcpceaaDoor
open Go.ChangeShapes Go.WideShapes Go.ChangeAt Go.RowKit Go.Joins Go.Deep

theorem Tryd.cellsOp : Tryd.prog.cellsOf 26 = 9 := by kernel_rfl

set_option maxRecDepth 100000 in
theorem cells_op {H : Type} {enc : TypeId × Value → H} {W : World} {cs : List Value} {fuel : Nat} {z : DataW H × List MemPlace} (hl : cs.length = 9)
    (h : DataW.trod enc Tryd.prog W 0 (fun _ => true) true fuel 26 cs = some z) :
    ∃ (q : Pq) (u : Value), cs = [.int .i64 q.kind, .int .i64 q.id, .int .i64 q.a, .int .i64 q.b, .int .i64 q.c, .int .i64 q.d, .int .i64 q.pw, .int .i64 q.ph, u] ∧ RdP W u q.ps := by
  obtain ⟨xs, n, _, rfl, hl', hlen, hf⟩ := DataW.trod_struct Tryd.underlying26 h
  match cs, hl with
  | [c0, c1, c2, c3, c4, c5, c6, c7, c8], _ =>
    match xs, hlen with
    | [y0, y1, y2, y3, y4, y5, y6], _ =>
      have h0 : DataW.trod enc Tryd.prog W 0 (fun _ => true) true n 3 [c0] = some y0 := by have := hf 0 _ rfl; simpa [Tryd.cellsInt] using this
      have h1 : DataW.trod enc Tryd.prog W 0 (fun _ => true) true n 3 [c1] = some y1 := by have := hf 1 _ rfl; simpa [Tryd.cellsInt] using this
      have h2 : DataW.trod enc Tryd.prog W 0 (fun _ => true) true n 3 [c2] = some y2 := by have := hf 2 _ rfl; simpa [Tryd.cellsInt] using this
      have h3 : DataW.trod enc Tryd.prog W 0 (fun _ => true) true n 3 [c3] = some y3 := by have := hf 3 _ rfl; simpa [Tryd.cellsInt] using this
      have h4 : DataW.trod enc Tryd.prog W 0 (fun _ => true) true n 3 [c4] = some y4 := by have := hf 4 _ rfl; simpa [Tryd.cellsInt] using this
      have h5 : DataW.trod enc Tryd.prog W 0 (fun _ => true) true n 3 [c5] = some y5 := by have := hf 5 _ rfl; simpa [Tryd.cellsInt] using this
      have h6 : DataW.trod enc Tryd.prog W 0 (fun _ => true) true n 24 [c6, c7, c8] = some y6 := by have := hf 6 _ rfl; simpa [Tryd.cellsPic] using this
      obtain ⟨z0, z1, z2, m, _, _, p0, p1, p2⟩ := trod_struct3 Tryd.underlying24 h6
      simp only [Tryd.cellsInt] at p0 p1
      have p2' : DataW.trod enc Tryd.prog W 0 (fun _ => true) true m 22 [c8] = some z2 := by simpa [Tryd.cellsSl] using p2
      obtain ⟨ps, hps⟩ := view_pix p2'
      obtain ⟨i0, e0, _, _⟩ := DataW.trod_int Tryd.underlying3 h0
      obtain ⟨i1, e1, _, _⟩ := DataW.trod_int Tryd.underlying3 h1
      obtain ⟨i2, e2, _, _⟩ := DataW.trod_int Tryd.underlying3 h2
      obtain ⟨i3, e3, _, _⟩ := DataW.trod_int Tryd.underlying3 h3
      obtain ⟨i4, e4, _, _⟩ := DataW.trod_int Tryd.underlying3 h4
      obtain ⟨i5, e5, _, _⟩ := DataW.trod_int Tryd.underlying3 h5
      obtain ⟨i6, e6, _, _⟩ := DataW.trod_int Tryd.underlying3 p0
      obtain ⟨i7, e7, _, _⟩ := DataW.trod_int Tryd.underlying3 p1
      simp at e0 e1 e2 e3 e4 e5 e6 e7
      subst e0 e1 e2 e3 e4 e5 e6 e7
      exact ⟨⟨i0, i1, i2, i3, i4, i5, i6, i7, ps⟩, c8, rfl, hps⟩

set_option maxRecDepth 100000 in
theorem open_op {H : Type} {enc : TypeId × Value → H} {W : World} {r : Reach} {b0 : Nat} {v : Value} {d : DataW H} {p : List MemPlace} (hv : Value.okWide Tryd.prog W r b0 26 v)
    (h : DataW.Trod enc Tryd.prog W 0 (fun _ => true) true 26 v d p) : ∃ (q : Pq) (u : Value), v = opV q u ∧ RdP W u q.ps := by
  obtain ⟨cs, rfl, hsz⟩ := okWide_struct Tryd.underlying26 hv
  obtain ⟨fuel, hf⟩ := h
  obtain ⟨q, u, e, hps⟩ := cells_op (cs := cs.toList) (by rw [Array.length_toList]; exact hsz.trans Tryd.cellsOp) hf
  obtain ⟨l⟩ := cs
  simp at e
  subst e
  exact ⟨q, u, rfl, hps⟩
end Go.Proofs.YtfhfedcamcpceaaDoor
