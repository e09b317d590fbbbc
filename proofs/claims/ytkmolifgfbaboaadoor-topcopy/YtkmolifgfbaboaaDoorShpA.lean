/- The table of shapes. -/
import Derived.Test.YtkmolifgfbaboaaDoorRows
import Derived.Test.YtkmolifgfbaboaaDoorBlk
import Derived.Lib.LaidTab
import Derived.Lib.SmallJoins
namespace Go.Proofs.YtkmolifgfbaboaaDoor
open Go.ChangeShapes Go.WideShapes Go.ChangeAt Go.RowKit Go.Joins Go.Deep Go.Lib

/-- a kind's shape -/
structure Shp where
  kind : Nat
  name : List UInt8
  id : Bool
  nums : Nat
  low : Int
  high : Int
  pic : Bool
/-- all of them -/
def shps : List Shp := [
  ⟨1, [72, 69, 65, 68], false, 2, 1, 8, false⟩,
  ⟨2, [80, 73, 67, 84], true, 0, 0, 0, true⟩,
  ⟨3, [77, 79, 86, 69], true, 2, (-20), 20, false⟩,
  ⟨4, [67, 76, 73, 80], true, 4, 0, 0, false⟩,
  ⟨5, [83, 72, 79, 87], true, 1, 0, 1, false⟩,
  ⟨6, [67, 79, 80, 89], true, 1, 1, 6, false⟩,
  ⟨7, [68, 82, 79, 80], true, 0, 0, 0, false⟩,
  ⟨8, [80, 65, 68, 68], true, 2, (-20), 20, true⟩,
  ⟨9, [80, 80, 85, 84], true, 2, (-20), 20, true⟩,
  ⟨10, [66, 65, 67, 75], false, 2, 0, 255, false⟩,
  ⟨11, [87, 65, 73, 84], false, 1, 0, 99, false⟩,
  ⟨12, [76, 79, 79, 80], false, 1, 0, 9, false⟩,
  ⟨13, [78, 69, 88, 84], false, 0, 0, 0, false⟩,
  ⟨14, [83, 65, 86, 69], false, 0, 0, 0, false⟩,
  ⟨15, [83, 69, 69, 75], false, 0, 0, 0, false⟩,
  ⟨16, [69, 78, 68, 83], false, 0, 0, 0, false⟩]
/-- a name, as bytes -/
def Shp.bytes (s : Shp) : ByteArray := ⟨s.name.toArray⟩
def Shp.cells (s : Shp) : List Value := [.int .i64 (s.kind : Int), .string s.bytes, .bool s.id, .int .i64 (s.nums : Int), .int .i64 s.low, .int .i64 s.high, .bool s.pic]
def Shp.val (s : Shp) : Value := .agg #[.int .i64 (s.kind : Int), .string s.bytes, .bool s.id, .int .i64 (s.nums : Int), .int .i64 s.low, .int .i64 s.high, .bool s.pic]
def Shp.data {H : Type} (s : Shp) : DataW H := .agg [.lit (.int .i64 (s.kind : Int)), .lit (.string s.name), .lit (.bool s.id), .lit (.int .i64 (s.nums : Int)), .lit (.int .i64 s.low), .lit (.int .i64 s.high), .lit (.bool s.pic)]

theorem laid_is {H : Type} : (Rows.laid_flickerbook_op_shapes : DataW H) = .agg (shps.map Shp.data) := rfl

/-- the table lies where the program has it -/
def Shapes (W : World) : Prop := ∀ k s, shps[k]? = some s → ∀ j u, s.cells[j]? = some u → W.cell? ⟨0, 7 * k + j, none⟩ = some u

theorem Tryd.cellsShp : Tryd.prog.cellsOf 55 = 7 := by kernel_rfl
theorem Tryd.cellsShps : Tryd.prog.cellsOf 89 = 112 := by kernel_rfl
theorem Tryd.cellsI : Tryd.prog.cellsOf 3 = 1 := by kernel_rfl
theorem Tryd.cellsS : Tryd.prog.cellsOf 9 = 1 := by kernel_rfl
theorem Tryd.cellsB : Tryd.prog.cellsOf 4 = 1 := by kernel_rfl

set_option maxRecDepth 100000 in
theorem shp_cells {H : Type} {enc : TypeId × Value → H} {W : World} {cs : List Value} {base : Nat} {sp : Nat → Bool} {held : Bool} {fuel : Nat} {z : DataW H × List MemPlace} (s : Shp) (hl : cs.length = 7)
    (h : DataW.trod enc Tryd.prog W base sp held fuel 55 cs = some z) (hz : z.1 = s.data) : cs = s.cells := by
  obtain ⟨xs, n, _, rfl, hl', hlen, hf⟩ := DataW.trod_struct Tryd.underlying55 h
  match cs, hl with
  | [c0, c1, c2, c3, c4, c5, c6], _ =>
    match xs, hlen with
    | [y0, y1, y2, y3, y4, y5, y6], _ =>
      have h0 : DataW.trod enc Tryd.prog W base sp held n 3 [c0] = some y0 := by have := hf 0 _ rfl; simpa [Tryd.cellsI] using this
      have h1 : DataW.trod enc Tryd.prog W base sp held n 9 [c1] = some y1 := by have := hf 1 _ rfl; simpa [Tryd.cellsS] using this
      have h2 : DataW.trod enc Tryd.prog W base sp held n 4 [c2] = some y2 := by have := hf 2 _ rfl; simpa [Tryd.cellsB] using this
      have h3 : DataW.trod enc Tryd.prog W base sp held n 3 [c3] = some y3 := by have := hf 3 _ rfl; simpa [Tryd.cellsI] using this
      have h4 : DataW.trod enc Tryd.prog W base sp held n 3 [c4] = some y4 := by have := hf 4 _ rfl; simpa [Tryd.cellsI] using this
      have h5 : DataW.trod enc Tryd.prog W base sp held n 3 [c5] = some y5 := by have := hf 5 _ rfl; simpa [Tryd.cellsI] using this
      have h6 : DataW.trod enc Tryd.prog W base sp held n 4 [c6] = some y6 := by have := hf 6 _ rfl; simpa [Tryd.cellsB] using this
      obtain ⟨i0, e0, rfl, _⟩ := DataW.trod_int Tryd.underlying3 h0
      obtain ⟨i1, e1, rfl, _⟩ := DataW.trod_string Tryd.underlying9 h1
      obtain ⟨i2, e2, rfl⟩ := DataW.trod_bool Tryd.underlying4 h2
      obtain ⟨i3, e3, rfl, _⟩ := DataW.trod_int Tryd.underlying3 h3
      obtain ⟨i4, e4, rfl, _⟩ := DataW.trod_int Tryd.underlying3 h4
      obtain ⟨i5, e5, rfl, _⟩ := DataW.trod_int Tryd.underlying3 h5
      obtain ⟨i6, e6, rfl⟩ := DataW.trod_bool Tryd.underlying4 h6
      simp [Shp.data] at hz
      obtain ⟨rfl, z1, rfl, rfl, rfl, rfl, rfl⟩ := hz
      simp at e0 e1 e2 e3 e4 e5 e6
      subst e0 e1 e2 e3 e4 e5 e6
      have hb : i1 = s.bytes := by unfold Shp.bytes; rw [← z1]
      rw [hb]
      rfl

theorem shps_len : shps.length = 16 := rfl

theorem shapes_of_laid {W : World} {rest : List (String × DataW Unit)} (h : laidMet Tryd.prog (("flickerbook/op.shapes", Rows.laid_flickerbook_op_shapes) :: rest) W) : Shapes W := by
  obtain ⟨ps, ⟨g', t', cs, fuel, p, q, hg', ht', hvar, hd, _, _⟩, _⟩ := h
  obtain rfl := Option.some.inj ((show Tryd.prog.globalNamed "flickerbook/op.shapes" = some 0 by kernel_rfl).symm.trans hg')
  obtain rfl := Option.some.inj ((show (Tryd.prog.globals[0]?).map (·.type) = some 89 by kernel_rfl).symm.trans ht')
  rw [laid_is] at hd
  cases fuel with
  | zero => simp [DataW.trod] at hd
  | succ fuel =>
    simp only [DataW.trod, Tryd.underlying89, Tryd.cellsShp, Tryd.cellsShps] at hd
    split at hd
    · rename_i hlen
      obtain ⟨xs, hm, hx⟩ := Option.map_eq_some_iff.1 hd
      have hxs : xs.map (·.1) = shps.map Shp.data := by
        have := congrArg Prod.fst hx
        simpa using this
      intro k s hk j u hu
      have hk16 : k < 16 := by
        rcases Nat.lt_or_ge k 16 with h | h
        · exact h
        · rw [List.getElem?_eq_none (by rw [shps_len]; exact h)] at hk; cases hk
      obtain ⟨b, hb, hf⟩ := mapM_at hm k k (by simp [hk16])
      have hb1 : b.1 = s.data := by
        have h2 : (xs.map (·.1))[k]? = some b.1 := by simp [hb]
        rw [hxs, List.getElem?_map, hk] at h2
        exact (Option.some.inj h2).symm
      have hc := shp_cells s (by rw [List.length_take, List.length_drop, hlen]; omega) hf hb1
      have hj : j < 7 := by
        rcases Nat.lt_or_ge j 7 with h | h
        · exact h
        · rw [List.getElem?_eq_none (by simp [Shp.cells]; exact h)] at hu; cases hu
      rw [← hc, List.getElem?_take, if_pos hj, List.getElem?_drop] at hu
      rw [World.var?_cell hg' hvar, ← hu]
      simp [Nat.mul_comm]
    · cases hd
end Go.Proofs.YtkmolifgfbaboaaDoor
