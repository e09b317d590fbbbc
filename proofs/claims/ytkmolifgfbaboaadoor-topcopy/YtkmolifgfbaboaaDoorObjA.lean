/- An object: opened; the walk of objects.Check. -/
import Derived.Test.YtkmolifgfbaboaaDoorPixV
import Derived.Test.YtkmolifgfbaboaaDoorRectG
import Derived.Test.YtkmolifgfbaboaaDoorOpenR
namespace Go.Proofs.YtkmolifgfbaboaaDoor
open Go.ChangeShapes Go.WideShapes Go.ChangeAt Go.RowKit Go.Joins Go.Deep

@[reducible] def objV (id x y pw ph : Int) (u : Value) (cx cy cw ch : Int) (sh : Bool) : Value := .agg #[.int .i64 id, .int .i64 x, .int .i64 y, .int .i64 pw, .int .i64 ph, u, .int .i64 cx, .int .i64 cy, .int .i64 cw, .int .i64 ch, .bool sh]

theorem Tryd.cellsObj : Tryd.prog.cellsOf 41 = 11 := by kernel_rfl
theorem Tryd.cellsSl : Tryd.prog.cellsOf 23 = 1 := by kernel_rfl
theorem Tryd.cellsRect : Tryd.prog.cellsOf 39 = 4 := by kernel_rfl
theorem Tryd.cellsBool : Tryd.prog.cellsOf 4 = 1 := by kernel_rfl

theorem array11 {α : Type} {cs : Array α} (h : cs.size = 11) : ∃ c0 c1 c2 c3 c4 c5 c6 c7 c8 c9 c10, cs = #[c0, c1, c2, c3, c4, c5, c6, c7, c8, c9, c10] := by
  obtain ⟨l⟩ := cs
  match l, h with
  | [c0, c1, c2, c3, c4, c5, c6, c7, c8, c9, c10], _ => exact ⟨c0, c1, c2, c3, c4, c5, c6, c7, c8, c9, c10, rfl⟩

set_option maxRecDepth 100000 in
theorem cells_object {H : Type} {enc : TypeId × Value → H} {W : World} {cs : List Value} {fuel : Nat} {z : DataW H × List MemPlace} (hl : cs.length = 11)
    (h : DataW.trod enc Tryd.prog W 0 (fun _ => true) true fuel 41 cs = some z) :
    ∃ (id x y pw ph : Int) (u : Value) (ps : List (Int × Int)) (cx cy cw ch : Int) (sh : Bool), cs = [.int .i64 id, .int .i64 x, .int .i64 y, .int .i64 pw, .int .i64 ph, u, .int .i64 cx, .int .i64 cy, .int .i64 cw, .int .i64 ch, .bool sh] ∧ RdP W u ps := by
  obtain ⟨xs, n, _, rfl, hl', hlen, hf⟩ := DataW.trod_struct Tryd.underlying41 h
  match cs, hl with
  | [c0, c1, c2, c3, c4, c5, c6, c7, c8, c9, c10], _ =>
    match xs, hlen with
    | [y0, y1, y2, y3, y4, y5], _ =>
      have h0 : DataW.trod enc Tryd.prog W 0 (fun _ => true) true n 3 [c0] = some y0 := by have := hf 0 _ rfl; simpa [Tryd.cellsInt] using this
      have h1 : DataW.trod enc Tryd.prog W 0 (fun _ => true) true n 3 [c1] = some y1 := by have := hf 1 _ rfl; simpa [Tryd.cellsInt] using this
      have h2 : DataW.trod enc Tryd.prog W 0 (fun _ => true) true n 3 [c2] = some y2 := by have := hf 2 _ rfl; simpa [Tryd.cellsInt] using this
      have h3 : DataW.trod enc Tryd.prog W 0 (fun _ => true) true n 25 [c3, c4, c5] = some y3 := by have := hf 3 _ rfl; simpa [Tryd.cellsPic] using this
      have h4 : DataW.trod enc Tryd.prog W 0 (fun _ => true) true n 39 [c6, c7, c8, c9] = some y4 := by have := hf 4 _ rfl; simpa [Tryd.cellsRect] using this
      have h5 : DataW.trod enc Tryd.prog W 0 (fun _ => true) true n 4 [c10] = some y5 := by have := hf 5 _ rfl; simpa [Tryd.cellsBool] using this
      obtain ⟨z0, z1, z2, m, _, _, p0, p1, p2⟩ := trod_struct3 Tryd.underlying25 h3
      obtain ⟨r0, r1, r2, r3, m', _, _, q0, q1, q2, q3⟩ := trod_struct4 Tryd.underlying39 h4
      simp only [Tryd.cellsInt] at p0 p1 q0 q1 q2 q3
      have p2' : DataW.trod enc Tryd.prog W 0 (fun _ => true) true m 23 [c5] = some z2 := by simpa [Tryd.cellsSl] using p2
      obtain ⟨ps, hps⟩ := view_pix p2'
      obtain ⟨i0, e0, _, _⟩ := DataW.trod_int Tryd.underlying3 h0
      obtain ⟨i1, e1, _, _⟩ := DataW.trod_int Tryd.underlying3 h1
      obtain ⟨i2, e2, _, _⟩ := DataW.trod_int Tryd.underlying3 h2
      obtain ⟨i3, e3, _, _⟩ := DataW.trod_int Tryd.underlying3 p0
      obtain ⟨i4, e4, _, _⟩ := DataW.trod_int Tryd.underlying3 p1
      obtain ⟨i5, e5, _, _⟩ := DataW.trod_int Tryd.underlying3 q0
      obtain ⟨i6, e6, _, _⟩ := DataW.trod_int Tryd.underlying3 q1
      obtain ⟨i7, e7, _, _⟩ := DataW.trod_int Tryd.underlying3 q2
      obtain ⟨i8, e8, _, _⟩ := DataW.trod_int Tryd.underlying3 q3
      obtain ⟨b, e9, _⟩ := DataW.trod_bool Tryd.underlying4 h5
      simp at e0 e1 e2 e3 e4 e5 e6 e7 e8 e9
      subst e0 e1 e2 e3 e4 e5 e6 e7 e8 e9
      exact ⟨i0, i1, i2, i3, i4, c5, ps, i5, i6, i7, i8, b, rfl, hps⟩

set_option maxRecDepth 100000 in
theorem open_object {H : Type} {enc : TypeId × Value → H} {W : World} {r : Reach} {b0 : Nat} {v : Value} {d : DataW H} {p : List MemPlace} (hv : Value.okWide Tryd.prog W r b0 41 v)
    (h : DataW.Trod enc Tryd.prog W 0 (fun _ => true) true 41 v d p) :
    ∃ (id x y pw ph : Int) (u : Value) (ps : List (Int × Int)) (cx cy cw ch : Int) (sh : Bool), v = objV id x y pw ph u cx cy cw ch sh ∧ RdP W u ps ∧ True := by
  obtain ⟨cs, rfl, hsz⟩ := okWide_struct Tryd.underlying41 hv
  obtain ⟨fuel, hf⟩ := h
  obtain ⟨i0, i1, i2, i3, i4, u, ps, i5, i6, i7, i8, b, e, hps⟩ := cells_object (cs := cs.toList) (by rw [Array.length_toList]; exact hsz.trans Tryd.cellsObj) hf
  obtain ⟨l⟩ := cs
  simp at e
  subst e
  exact ⟨i0, i1, i2, i3, i4, u, ps, i5, i6, i7, i8, b, rfl, hps, trivial⟩
end Go.Proofs.YtkmolifgfbaboaaDoor
