/- Rows of objects of one's own. -/
import Derived.Test.YtkmolifgfbaboaaDoorSrchA
import Derived.Test.YtkmolifgfbaboaaDoorOwnP
namespace Go.Proofs.YtkmolifgfbaboaaDoor
open Go.RowKit

/-- an object's cells, its pixels at u -/
def oCells (x : Po) (u : Value) : List Value := [.int .i64 x.id, .int .i64 x.x, .int .i64 x.y, .int .i64 x.pw, .int .i64 x.ph, u, .int .i64 x.cx, .int .i64 x.cy, .int .i64 x.cw, .int .i64 x.ch, .bool x.sh]
def obCells : List (Po × Value) → List Value
  | [] => []
  | (x, u) :: r => oCells x u ++ obCells r
theorem obCells_app (a b : List (Po × Value)) : obCells (a ++ b) = obCells a ++ obCells b := by
  induction a with
  | nil => rfl
  | cons p a ih => obtain ⟨f, u⟩ := p; simp [obCells, ih]
theorem obCells_length : ∀ a : List (Po × Value), (obCells a).length = a.length * 11
  | [] => rfl
  | (f, u) :: r => by simp [obCells, oCells, obCells_length r]; omega
@[reducible] def qo0 : Po × Value := (po0, .slice none 0 0)
theorem obCells_at : ∀ (a : List (Po × Value)) (j c : Nat), j < a.length → c < 11 → (obCells a)[j * 11 + c]? = (oCells (a.getD j qo0).1 (a.getD j qo0).2)[c]?
  | (f, u) :: r, 0, c, _, hc => by
    simp only [obCells, Nat.zero_mul, Nat.zero_add]
    rw [List.getElem?_append_left (by simpa [oCells] using hc)]
    simp
  | (f, u) :: r, j + 1, c, h, hc => by
    have := obCells_at r j c (by simpa using h) hc
    rw [show (j + 1) * 11 + c = 11 + (j * 11 + c) by omega]
    simp only [obCells]
    rw [List.getElem?_append_right (by simp [oCells])]
    simpa [oCells] using this

/-- a row of objects of one's own, each with a row of pixels of its own -/
def OwnOb (w : World) (B : Nat) (v : Value) (qs : List (Po × Value)) : Prop :=
  w.ownsRow B 41 11 v qs.length (obCells qs) ∧ ∀ q ∈ qs, w.ownsRow B 33 2 q.2 q.1.ps.length (pixCells q.1.ps)

theorem apartO {w : World} {B B' : Nat} {e e' : TypeId} {s s' : Nat} {v v' : Value} {n n' : Nat} {xs xs' : List Value} (h : w.ownsRow B e s v n xs) (h' : w.ownsRow B' e' s' v' n' xs') (hne : e ≠ e') :
    v.ownBlock = none ∨ v.ownBlock ≠ v'.ownBlock := by
  rcases h.2 with ⟨rfl, _⟩ | ⟨g, cap, cur, rfl, _, hg, _⟩
  · exact .inl rfl
  · refine .inr fun e1 => ?_
    rcases h'.2 with ⟨rfl, _⟩ | ⟨g', cap', cur', rfl, _, hg', _⟩
    · simp [Value.ownBlock] at e1
    · simp [Value.ownBlock] at e1
      subst e1
      rw [hg] at hg'
      simp at hg'
      exact hne hg'.2

theorem OwnOb.on {w w' : World} {B : Nat} {v : Value} {qs : List (Po × Value)} (h : OwnOb w B v qs) (hb : Below w.heap.size w w') : OwnOb w' B v qs :=
  ⟨own_on2 h.1 hb, fun q hq => own_on2 (h.2 q hq) hb⟩

theorem OwnOb.rd {w : World} {B : Nat} {v : Value} {qs : List (Po × Value)} (h : OwnOb w B v qs) : RdO w v (qs.map Prod.fst) := by
  rcases h.1.2 with ⟨rfl, h0⟩ | ⟨g, cap, cur, rfl, hb, hg, hn, hm, hs, ht⟩
  · have : qs = [] := List.length_eq_zero_iff.1 h0
    subst this
    exact ⟨none, 0, rfl, by simp, by omega, fun h => absurd rfl h⟩
  · unfold maxLen at hm
    refine ⟨some ⟨g, 0, none⟩, cap, by simp, by simpa using hn, by omega, fun hne => ⟨g, 0, rfl, ?_, fun j hj => ?_⟩⟩
    · rcases Nat.lt_or_ge g w.heap.size with h1 | h1
      · exact h1
      · rw [Array.getElem?_eq_none h1] at hg; cases hg
    · rw [List.length_map] at hj
      have e : (qs.map Prod.fst).getD j po0 = (qs.getD j qo0).1 := by
        simp [List.getD_eq_getElem?_getD, List.getElem?_eq_getElem hj]
      have hmem : qs.getD j qo0 ∈ qs := by
        rw [List.getD_eq_getElem?_getD, List.getElem?_eq_getElem hj]
        simp
      rw [e]
      have hc : ∀ x, x < 11 → w.cell? ⟨g, 0 + j * 11 + x, none⟩ = (oCells (qs.getD j qo0).1 (qs.getD j qo0).2)[x]? := fun x hx => by
        rw [Nat.zero_add, h.1.cellAt (j * 11 + x) (by omega)]
        exact obCells_at qs j x hj hx
      exact ⟨(qs.getD j qo0).2, ⟨hc 0 (by omega), hc 1 (by omega), hc 2 (by omega), hc 3 (by omega), hc 4 (by omega), hc 5 (by omega), hc 6 (by omega), hc 7 (by omega), hc 8 (by omega), hc 9 (by omega), hc 10 (by omega)⟩, rdP_own (h.2 _ hmem)⟩

theorem OwnOb.app {w w' : World} {B : Nat} {v v' : Value} {qs : List (Po × Value)} (h : OwnOb w B v qs) {x : Po} {u : Value} (hu : w.ownsRow B 33 2 u x.ps.length (pixCells x.ps))
    (h1 : w'.ownsRow B 41 11 v' (qs.length + 1) (obCells qs ++ oCells x u)) (h2 : w.grownBy w' v.ownBlock) : OwnOb w' B v' (qs ++ [(x, u)]) := by
  refine ⟨?_, fun q hq => ?_⟩
  · rw [obCells_app, List.length_append]
    simpa [obCells] using h1
  · rcases List.mem_append.1 hq with hq | hq
    · exact (h.2 q hq).kept h2 (apartO (h.2 q hq) h.1 (by decide))
    · simp at hq
      subst hq
      exact hu.kept h2 (apartO hu h.1 (by decide))

set_option maxHeartbeats 2000000 in
set_option maxRecDepth 100000 in
theorem oown_any (id x y pw ph : Int) (u : Value) (ps : List (Int × Int)) (cx cy cw ch : Int) (sh : Bool) (w : World) (hps : ps.length ≤ 100) (HR : Hid (RdP w u ps)) :
    Calls Tryd.prog 27 #[objV id x y pw ph u cx cy cw ch sh] w fun e w' => ∃ u', e = .returned (objV id x y pw ph u' cx cy cw ch sh) ∧ w'.ownsRow (w.heap.size + 2) 33 2 u' ps.length (pixCells ps) ∧ Below w.heap.size w w' := by
  unfold objV
  obtain ⟨au, cu, hvu, hlu, hcu, _⟩ := HR.out
  obtain ⟨nu, HNU⟩ : ∃ n, Hid (ps.length = n) := ⟨_, (rfl : _ = _)⟩
  rw [HNU.out] at hvu
  subst hvu
  clear hlu hcu
  have E0 := (eleven_start w (.int .i64 id) (.int .i64 x) (.int .i64 y) (.int .i64 pw) (.int .i64 ph) (.slice au nu cu) (.int .i64 cx) (.int .i64 cy) (.int .i64 cw) (.int .i64 ch) (.bool sh) 41 w.heap.size rfl).alloc (.cells #[.int .i64 0, .int .i64 0, .int .i64 0, .int .i64 0, .int .i64 0, .slice none 0 0, .int .i64 0, .int .i64 0, .int .i64 0, .int .i64 0, .bool false] 41)
  have E1 := eleven_start (w.alloc (.cells #[.int .i64 id, .int .i64 x, .int .i64 y, .int .i64 pw, .int .i64 ph, .slice au nu cu, .int .i64 cx, .int .i64 cy, .int .i64 cw, .int .i64 ch, .bool sh] 41)) (.int .i64 0) (.int .i64 0) (.int .i64 0) (.int .i64 0) (.int .i64 0) (.slice none 0 0) (.int .i64 0) (.int .i64 0) (.int .i64 0) (.int .i64 0) (.bool false) 41 (w.heap.size + 1) (by simp)
  have hb0 : Below w.heap.size w ((w.alloc (.cells #[.int .i64 id, .int .i64 x, .int .i64 y, .int .i64 pw, .int .i64 ph, .slice au nu cu, .int .i64 cx, .int .i64 cy, .int .i64 cw, .int .i64 ch, .bool sh] 41)).alloc (.cells #[.int .i64 0, .int .i64 0, .int .i64 0, .int .i64 0, .int .i64 0, .slice none 0 0, .int .i64 0, .int .i64 0, .int .i64 0, .int .i64 0, .bool false] 41)) := ((Below.refl _ _).alloc (Nat.le_refl _) _).alloc (by simp) _
  have HR0 : Hid (RdP ((w.alloc (.cells #[.int .i64 id, .int .i64 x, .int .i64 y, .int .i64 pw, .int .i64 ph, .slice au nu cu, .int .i64 cx, .int .i64 cy, .int .i64 cw, .int .i64 ch, .bool sh] 41)).alloc (.cells #[.int .i64 0, .int .i64 0, .int .i64 0, .int .i64 0, .int .i64 0, .slice none 0 0, .int .i64 0, .int .i64 0, .int .i64 0, .int .i64 0, .bool false] 41)) (.slice au nu cu) ps) := HR.out.on hb0
  go_enter Tryd.func27, Tryd.ntmps27
  go_wp2_with fail
  refine (pown_any pw ph _ ps _ hps HR0).mono ?_
  rintro e w1 ⟨v', rfl, ho, hb1⟩
  have HO : Hid (w1.ownsRow (w.heap.size + 2) 33 2 v' ps.length (pixCells ps)) := own_mono ho (by simp)
  rw [HNU.out] at HO
  obtain ⟨a', c', hv'⟩ := own_any HO.out
  subst hv'
  obtain ⟨c0, c1, c2, c3, c4, c5, c6, c7, c8, c9, c10, f0, f1, f2, f3, f4, f5, f6, f7, f8, f9, f10, lt⟩ := E0.on hb1
  obtain ⟨d0, d1, d2, d3, d4, d5, d6, d7, d8, d9, d10, g0, g1, g2, g3, g4, g5, g6, g7, g8, g9, g10, lt2⟩ := E1.on hb1
  have hbb := hb0.trans (hb1.mono hb0.size)
  clear ho hb0 hb1 E0 E1 HR0
  go_wp2_with fail
  refine bodyPost_ret (v := .agg #[.int .i64 id, .int .i64 x, .int .i64 y, .int .i64 pw, .int .i64 ph, .slice a' nu c', .int .i64 cx, .int .i64 cy, .int .i64 cw, .int .i64 ch, .bool sh]) (by simp [results, Tryd.results27, go_sem, d0, d1, d2, d3, d4, d5, d6, d7, d8, d9, d10]) rfl ⟨_, rfl, ?_, ?_⟩
  · rw [HNU.out]
    repeat (refine ownsRow_setCell_below ?_ (by simp; try omega) _)
    exact HO.out
  · repeat (refine Below.setCell ?_ (by simp) _)
    exact hbb
end Go.Proofs.YtkmolifgfbaboaaDoor
