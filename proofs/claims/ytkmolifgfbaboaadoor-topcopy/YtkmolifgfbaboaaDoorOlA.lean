/- Objects: what lies in memory, a list of them opened. -/
import Derived.Test.YtkmolifgfbaboaaDoorObjA
import Derived.Test.YtkmolifgfbaboaaDoorBlk
namespace Go.Proofs.YtkmolifgfbaboaaDoor
open Go.ChangeShapes Go.WideShapes Go.ChangeAt Go.RowKit Go.Joins Go.Deep

/-- an object -/
structure Po where
  id : Int
  x : Int
  y : Int
  pw : Int
  ph : Int
  ps : List (Int × Int)
  cx : Int
  cy : Int
  cw : Int
  ch : Int
  sh : Bool

@[reducible] def po0 : Po := ⟨0, 0, 0, 0, 0, [], 0, 0, 0, 0, false⟩
instance : Inhabited Po := ⟨po0⟩

/-- an object's eleven cells -/
structure Oc (w : World) (g o : Nat) (x : Po) (u : Value) : Prop where
  c0 : w.cell? ⟨g, o, none⟩ = some (.int .i64 x.id)
  c1 : w.cell? ⟨g, o + 1, none⟩ = some (.int .i64 x.x)
  c2 : w.cell? ⟨g, o + 2, none⟩ = some (.int .i64 x.y)
  c3 : w.cell? ⟨g, o + 3, none⟩ = some (.int .i64 x.pw)
  c4 : w.cell? ⟨g, o + 4, none⟩ = some (.int .i64 x.ph)
  c5 : w.cell? ⟨g, o + 5, none⟩ = some (u)
  c6 : w.cell? ⟨g, o + 6, none⟩ = some (.int .i64 x.cx)
  c7 : w.cell? ⟨g, o + 7, none⟩ = some (.int .i64 x.cy)
  c8 : w.cell? ⟨g, o + 8, none⟩ = some (.int .i64 x.cw)
  c9 : w.cell? ⟨g, o + 9, none⟩ = some (.int .i64 x.ch)
  c10 : w.cell? ⟨g, o + 10, none⟩ = some (.bool x.sh)

theorem Oc.on {w w' : World} {g o : Nat} {x : Po} {u : Value} (h : Oc w g o x u) (hg : g < w.heap.size) (hb : Below w.heap.size w w') : Oc w' g o x u :=
  ⟨by rw [hb.cell (p := ⟨g, o, none⟩) hg]; exact h.c0, by rw [hb.cell (p := ⟨g, o + 1, none⟩) hg]; exact h.c1, by rw [hb.cell (p := ⟨g, o + 2, none⟩) hg]; exact h.c2, by rw [hb.cell (p := ⟨g, o + 3, none⟩) hg]; exact h.c3, by rw [hb.cell (p := ⟨g, o + 4, none⟩) hg]; exact h.c4, by rw [hb.cell (p := ⟨g, o + 5, none⟩) hg]; exact h.c5, by rw [hb.cell (p := ⟨g, o + 6, none⟩) hg]; exact h.c6, by rw [hb.cell (p := ⟨g, o + 7, none⟩) hg]; exact h.c7, by rw [hb.cell (p := ⟨g, o + 8, none⟩) hg]; exact h.c8, by rw [hb.cell (p := ⟨g, o + 9, none⟩) hg]; exact h.c9, by rw [hb.cell (p := ⟨g, o + 10, none⟩) hg]; exact h.c10⟩

/-- a list of objects -/
def RdO (w : World) (v : Value) (os : List Po) : Prop :=
  ∃ a cap, v = .slice a os.length cap ∧ os.length ≤ cap ∧ cap ≤ 9223372036854775807 ∧ (os ≠ [] → ∃ g off, a = some ⟨g, off, none⟩ ∧ g < w.heap.size ∧
    ∀ j, j < os.length → ∃ u, Oc w g (off + j * 11) (os.getD j po0) u ∧ RdP w u (os.getD j po0).ps)

theorem RdO.on {w w' : World} {v : Value} {os : List Po} (h : RdO w v os) (hb : Below w.heap.size w w') : RdO w' v os := by
  obtain ⟨a, cap, hv, hl, hc, hh⟩ := h
  refine ⟨a, cap, hv, hl, hc, fun hne => ?_⟩
  obtain ⟨g, off, ha, hg, hcell⟩ := hh hne
  refine ⟨g, off, ha, Nat.lt_of_lt_of_le hg hb.size, fun j hj => ?_⟩
  obtain ⟨u, h0, hr⟩ := hcell j hj
  exact ⟨u, h0.on hg hb, hr.on hb⟩

/-- a list of objects that is handed in -/
theorem open_objects {H : Type} {enc : TypeId × Value → H} {W : World} {u : Value} {x : DataW H × List MemPlace} {fuel : Nat}
    (hf : DataW.trod enc Tryd.prog W 0 (fun _ => true) true fuel 22 [u] = some x) : ∃ os, RdO W u os := by
  rcases open_slice Tryd.underlying22 hf with ⟨hc, _⟩ | ⟨a, len, cap, m, n, D, Pl, hc, hb, hl, hm, hmm, hx, hall⟩
  · simp only [List.cons.injEq, and_true] at hc
    subst hc
    exact ⟨[], none, 0, rfl, by simp, by omega, fun h => absurd rfl h⟩
  · simp only [List.cons.injEq, and_true] at hc
    subst hc
    simp only [if_true] at hmm
    subst hmm
    have each : ∀ i, i < m → ∃ q : Po × Value, (∀ k, k < 11 → W.cell? (a.add (i * 11 + k)) = [Value.int .i64 q.1.id, .int .i64 q.1.x, .int .i64 q.1.y, .int .i64 q.1.pw, .int .i64 q.1.ph, q.2, .int .i64 q.1.cx, .int .i64 q.1.cy, .int .i64 q.1.cw, .int .i64 q.1.ch, .bool q.1.sh][k]?) ∧ RdP W q.2 q.1.ps := by
      intro i hi
      obtain ⟨cs', h1, h2⟩ := hall i hi
      rw [Tryd.cellsObj] at h1
      obtain ⟨_, hlen, hcell⟩ := World.cells?_some h1
      obtain ⟨i0, i1, i2, i3, i4, v, ps, i5, i6, i7, i8, b, rfl, hr⟩ := cells_object hlen h2
      refine ⟨(⟨i0, i1, i2, i3, i4, ps, i5, i6, i7, i8, b⟩, v), fun k hk => ?_, hr⟩
      have e := hcell k (by omega)
      rw [add_add] at e
      exact e
    obtain ⟨q, hq⟩ := choose_lt each
    unfold maxLen at hm
    refine ⟨(List.range len).map fun i => (q i).1, some a, m, by simp, by simpa using hl, by omega, fun hne => ?_⟩
    have hpos : 0 < len := by
      rcases Nat.eq_zero_or_pos len with h | h
      · subst h; simp at hne
      · exact h
    obtain ⟨sb, so, spot⟩ := a
    have hz := (hq 0 (by omega)).1 0 (by omega)
    have hspot : spot = none := by
      have hz' : W.cell? ((⟨sb, so, spot⟩ : Addr).add (0 * 11 + 0)) = some (.int .i64 (q 0).1.id) := hz
      simpa [Addr.add] using World.cell?_spot hz'
    subst hspot
    refine ⟨sb, so, rfl, ?_, fun j hj => ?_⟩
    · rcases Nat.lt_or_ge sb W.heap.size with h | h
      · exact h
      · simp [Addr.add, World.cell?, Array.getElem?_eq_none h] at hz
    · simp only [List.length_map, List.length_range] at hj
      have hg : ((List.range len).map fun i => (q i).1).getD j po0 = (q j).1 := by
        rw [List.getD_eq_getElem?_getD, List.getElem?_map, List.getElem?_range hj]
        simp
      rw [hg]
      obtain ⟨h0, h4⟩ := hq j (by omega)
      have h1 := fun k hk => h0 k hk
      simp only [add_plain, ← Nat.add_assoc] at h1
      exact ⟨(q j).2, ⟨h1 0 (by omega), h1 1 (by omega), h1 2 (by omega), h1 3 (by omega), h1 4 (by omega), h1 5 (by omega), h1 6 (by omega), h1 7 (by omega), h1 8 (by omega), h1 9 (by omega), h1 10 (by omega)⟩, h4⟩

theorem RdO.at {w : World} {a : Option Addr} {n cap : Nat} {os : List Po} (h : RdO w (.slice a n cap) os) {k : Nat} (hk : k < n) {x : Po} (HX : Hid (os.getD k po0 = x)) :
    ∃ g o ua m uc, a = some ⟨g, o, none⟩ ∧ g < w.heap.size ∧ Oc w g (o + k * 11) x (.slice ua m uc) ∧ Hid (RdP w (.slice ua m uc) x.ps) ∧ Hid (x.ps.length = m) := by
  obtain ⟨a', cap', hv, hl, hc, hh⟩ := h
  simp only [Value.slice.injEq] at hv
  obtain ⟨rfl, rfl, rfl⟩ := hv
  obtain ⟨g, o, ha, hg, hcell⟩ := hh (by intro e; rw [e] at hk; simp at hk)
  obtain ⟨u, h0, h4⟩ := hcell k hk
  rw [HX.out] at h0 h4
  have h5 := h4
  obtain ⟨ua, uc, rfl, _⟩ := h5
  exact ⟨g, o, ua, _, uc, ha, hg, h0, h4, (rfl : _ = _)⟩
theorem RdO.shape {w : World} {v : Value} {os : List Po} (h : RdO w v os) : ∃ a cap, v = .slice a os.length cap ∧ os.length ≤ cap ∧ cap ≤ 9223372036854775807 := by
  obtain ⟨a, cap, h1, h2, h3, _⟩ := h
  exact ⟨a, cap, h1, h2, h3⟩
end Go.Proofs.YtkmolifgfbaboaaDoor
