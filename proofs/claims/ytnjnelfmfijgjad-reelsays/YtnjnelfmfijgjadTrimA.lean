/- Rows of frames of one's own; reel.Trim walked. -/
import Derived.Test.YtnjnelfmfijgjadTrimM
import Derived.Test.YtnjnelfmfijgjadOwnP
namespace Go.Proofs.Ytnjnelfmfijgjad
open Go.RowKit

theorem Try.infoFr : (Try.prog.info? 28).map (fun i => (i.zero, i.size, i.bytes)) = some (some (.agg #[.int .i64 0, .int .i64 0, .slice none 0 0, .int .i64 0]), 4, 48) := by kernel_rfl

def frCells : List (Pf × Value) → List Value
  | [] => []
  | (f, u) :: r => .int .i64 f.W :: .int .i64 f.H :: u :: .int .i64 f.d :: frCells r
theorem frCells_app (a b : List (Pf × Value)) : frCells (a ++ b) = frCells a ++ frCells b := by
  induction a with
  | nil => rfl
  | cons p a ih => obtain ⟨f, u⟩ := p; simp [frCells, ih]
theorem frCells_length : ∀ a : List (Pf × Value), (frCells a).length = a.length * 4
  | [] => rfl
  | (f, u) :: r => by simp [frCells, frCells_length r]; omega
@[reducible] def q0 : Pf × Value := (pf0, .slice none 0 0)
theorem frCells_at : ∀ (a : List (Pf × Value)) (j : Nat), j < a.length → (frCells a)[j * 4]? = some (.int .i64 (a.getD j q0).1.W) ∧ (frCells a)[j * 4 + 1]? = some (.int .i64 (a.getD j q0).1.H) ∧
    (frCells a)[j * 4 + 2]? = some (a.getD j q0).2 ∧ (frCells a)[j * 4 + 3]? = some (.int .i64 (a.getD j q0).1.d)
  | (f, u) :: r, 0, _ => by simp [frCells]
  | (f, u) :: r, j + 1, h => by
    have := frCells_at r j (by simpa using h)
    have e : ∀ x, (j + 1) * 4 + x = (j * 4 + x) + 4 := by intro x; omega
    refine ⟨?_, ?_, ?_, ?_⟩
    · have := this.1; rw [show (j + 1) * 4 = j * 4 + 4 by omega]; simpa [frCells] using this
    · have := this.2.1; rw [e]; simpa [frCells] using this
    · have := this.2.2.1; rw [e]; simpa [frCells] using this
    · have := this.2.2.2; rw [e]; simpa [frCells] using this
theorem frCells_setd : ∀ (a : List (Pf × Value)) (j : Nat) (d : Int), j < a.length → (frCells a).set (j * 4 + 3) (.int .i64 ((a.getD j q0).1.d + d)) = frCells (a.set j ((a.getD j q0).1.more d, (a.getD j q0).2))
  | (f, u) :: r, 0, d, _ => by simp [frCells, Pf.more]
  | (f, u) :: r, j + 1, d, h => by
    have := frCells_setd r j d (by simpa using h)
    rw [show (j + 1) * 4 + 3 = (j * 4 + 3) + 4 by omega]
    simpa [frCells] using this

/-- a row of frames of one's own, each with a row of pixels of its own -/
def OwnFr (w : World) (B : Nat) (v : Value) (qs : List (Pf × Value)) : Prop :=
  w.ownsRow B 28 4 v qs.length (frCells qs) ∧ ∀ q ∈ qs, w.ownsRow B 38 2 q.2 q.1.ps.length (pixCells q.1.ps)

theorem apart {w : World} {B B' : Nat} {e e' : TypeId} {s s' : Nat} {v v' : Value} {n n' : Nat} {xs xs' : List Value} (h : w.ownsRow B e s v n xs) (h' : w.ownsRow B' e' s' v' n' xs') (hne : e ≠ e') :
    v.ownBlock = none ∨ v.ownBlock ≠ v'.ownBlock := by
  rcases h.2 with ⟨rfl, _⟩ | ⟨g, cap, cur, rfl, _, hg, _⟩
  · exact .inl rfl
  · refine .inr fun e1 => ?_
    rcases h'.2 with ⟨rfl, _⟩ | ⟨g', cap', cur', rfl, _, hg', _⟩
    · simp [Value.ownBlock] at e1
    · simp [Value.ownBlock] at e1
      subst e1
      rw [hg] at hg'
      simp at hg'
      exact hne hg'.2

theorem OwnFr.on {w w' : World} {B : Nat} {v : Value} {qs : List (Pf × Value)} (h : OwnFr w B v qs) (hb : Below w.heap.size w w') : OwnFr w' B v qs :=
  ⟨own_on2 h.1 hb, fun q hq => own_on2 (h.2 q hq) hb⟩

theorem OwnFr.rd {w : World} {B : Nat} {v : Value} {qs : List (Pf × Value)} (h : OwnFr w B v qs) : RdF w v (qs.map Prod.fst) := by
  rcases h.1.2 with ⟨rfl, h0⟩ | ⟨g, cap, cur, rfl, hb, hg, hn, hm, hs, ht⟩
  · have : qs = [] := List.length_eq_zero_iff.1 h0
    subst this
    exact ⟨none, 0, rfl, by simp, by omega, fun h => absurd rfl h⟩
  · unfold maxLen at hm
    refine ⟨some ⟨g, 0, none⟩, cap, by simp, by simpa using hn, by omega, fun hne => ⟨g, 0, rfl, ?_, fun j hj => ?_⟩⟩
    · rcases Nat.lt_or_ge g w.heap.size with h1 | h1
      · exact h1
      · rw [Array.getElem?_eq_none h1] at hg; cases hg
    · rw [List.length_map] at hj
      obtain ⟨c0, c1, c2, c3⟩ := frCells_at qs j hj
      have e : (qs.map Prod.fst).getD j pf0 = (qs.getD j q0).1 := by
        simp [List.getD_eq_getElem?_getD, List.getElem?_eq_getElem hj]
      have hmem : qs.getD j q0 ∈ qs := by
        rw [List.getD_eq_getElem?_getD, List.getElem?_eq_getElem hj]
        simp
      rw [e]
      have hc := fun x (hx : x < 4) => h.1.cellAt (j * 4 + x) (by omega)
      refine ⟨(qs.getD j q0).2, ?_, ?_, ?_, ?_, rdP_own (h.2 _ hmem)⟩
      · have := hc 0 (by omega); rw [Nat.add_zero] at this; rw [Nat.zero_add, this]; exact c0
      · rw [Nat.zero_add, hc 1 (by omega)]; exact c1
      · rw [Nat.zero_add, hc 2 (by omega)]; exact c2
      · rw [Nat.zero_add, hc 3 (by omega)]; exact c3

theorem OwnFr.set {w : World} {B g n cap : Nat} {qs : List (Pf × Value)} (h : OwnFr w B (.slice (some ⟨g, 0, none⟩) n cap) qs) {j : Nat} (hj : j < qs.length) (d : Int) :
    OwnFr (w.setCell ⟨g, j * 4 + 3, none⟩ (.int .i64 ((qs.getD j q0).1.d + d))) B (.slice (some ⟨g, 0, none⟩) n cap) (qs.set j ((qs.getD j q0).1.more d, (qs.getD j q0).2)) := by
  have hn : qs.length = n := by
    rcases h.1.2 with ⟨h', _⟩ | ⟨g', cap', cur, h', _⟩
    · simp at h'
    · simp only [Value.slice.injEq] at h'
      exact h'.2.1.symm
  subst hn
  obtain ⟨h1, h2⟩ := h.1.stored (j * 4 + 3) (.int .i64 ((qs.getD j q0).1.d + d))
  rw [frCells_setd qs j d hj] at h1
  refine ⟨by rw [List.length_set]; exact h1, fun q hq => ?_⟩
  have hmem : qs.getD j q0 ∈ qs := by
    rw [List.getD_eq_getElem?_getD, List.getElem?_eq_getElem hj]
    simp
  have key : ∀ q ∈ qs, (w.setCell ⟨g, j * 4 + 3, none⟩ (.int .i64 ((qs.getD j q0).1.d + d))).ownsRow B 38 2 q.2 q.1.ps.length (pixCells q.1.ps) := fun q hq =>
    (h.2 q hq).kept h2 (apart (h.2 q hq) h.1 (by decide))
  rcases List.mem_or_eq_of_mem_set hq with hq | hq
  · exact key q hq
  · subst hq
    exact (key (qs.getD j q0) hmem :)

theorem OwnFr.app {w w' : World} {B : Nat} {v v' : Value} {qs : List (Pf × Value)} (h : OwnFr w B v qs) {f : Pf} {u : Value} (hu : w.ownsRow B 38 2 u f.ps.length (pixCells f.ps))
    (h1 : w'.ownsRow B 28 4 v' (qs.length + 1) (frCells qs ++ [.int .i64 f.W, .int .i64 f.H, u, .int .i64 f.d])) (h2 : w.grownBy w' v.ownBlock) : OwnFr w' B v' (qs ++ [(f, u)]) := by
  refine ⟨?_, fun q hq => ?_⟩
  · rw [frCells_app, List.length_append]
    exact h1
  · rcases List.mem_append.1 hq with hq | hq
    · exact (h.2 q hq).kept h2 (apart (h.2 q hq) h.1 (by decide))
    · simp at hq
      subst hq
      exact hu.kept h2 (apart hu h.1 (by decide))
theorem ready_app2 {P : Program} {o : Oper} {a : Act} {w w' : World} {K' : Act → World → Prop} {Q : Exit → Act → World → Prop} {ys : Nat → Option Bool} (hg : o.guard = none) (s x : Operand) (t : TypeId)
    (ho : o.op = .call { callee := .builtin .append, args := #[s, x], argTypes := #[t, t] }) (v1 v2 v' : Value) (hs : a.eval s = v1) (hx : a.eval x = v2) (hr : (Builtin.append_ #[t, t] o.type #[v1, v2]).run P w = .ok v' w')
    (hK : K' (a.put o.dst v') w') : if Region.wanted o ys = true then Oper.wp P o a w K' Q else K' (a.put o.dst undef) w := by
  simp only [Region.wanted, hg, if_true]
  unfold Oper.wp execOp
  simp only [ho, resolve, invoke, builtin, Sem.run_bind, Sem.run_pure, Result.andThen_ok, List.map_toArray, List.map_cons, List.map_nil, hs, hx, hr]
  exact hK
end Go.Proofs.Ytnjnelfmfijgjad
