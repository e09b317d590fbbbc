/- append to nothing, in a drawn region. -/
import Derived.Test.YtnjnelfmfijgjabChangeM
namespace Go.Proofs.Ytnjnelfmfijgjab
open Go.RowKit

theorem ready_append {P : Program} {o : Oper} {a : Act} {w w' : World} {K' : Act → World → Prop} {Q : Exit → Act → World → Prop} {ys : Nat → Option Bool} (hg : o.guard = none) (s x : Operand) (t : TypeId)
    (ho : o.op = .call { callee := .builtin .append, args := #[s, x], argTypes := #[t, t] }) (v1 v2 v' : Value) (hs : a.eval s = v1) (hx : a.eval x = v2) (hr : (Builtin.append_ #[t, t] o.type #[v1, v2]).run P w = .ok v' w')
    (hK : K' (a.put o.dst v') w') : if Region.wanted o ys = true then Oper.wp P o a w K' Q else K' (a.put o.dst undef) w := by
  simp only [Region.wanted, hg, if_true]
  unfold Oper.wp execOp
  simp only [ho, resolve, invoke, builtin, Sem.run_bind, Sem.run_pure, Result.andThen_ok, List.map_toArray, List.map_cons, List.map_nil, hs, hx, hr]
  exact hK
theorem app_pix (X : World) (ps : List (Int × Int)) (np gp op cp : Nat) (HN : Hid (ps.length = np)) (hps : np ≤ 64) (hne : ps ≠ []) (HR : Hid (RdP X (.slice (some ⟨gp, op, none⟩) np cp) ps)) :
    ∃ g co w', (Builtin.append_ #[40, 40] 40 #[.slice none 0 0, .slice (some ⟨gp, op, none⟩) np cp]).run Try.prog X = .ok (.slice (some ⟨g, 0, none⟩) np co) w' ∧
      w'.ownsRow X.heap.size 45 2 (.slice (some ⟨g, 0, none⟩) np co) np (pixCells ps) ∧ Below X.heap.size X w' ∧ X.heap.size ≤ g := by
  obtain ⟨i0, hi, hz0, hz1, hz2⟩ := info_parts Try.infoPix
  have hn := HN.out
  subst hn
  have hl0 : ps.length ≠ 0 := by intro e; exact hne (List.length_eq_zero_iff.1 e)
  have h0 : X.ownsRow X.heap.size 45 2 (.slice none 0 0) 0 [] := ⟨by simp, .inl ⟨rfl, rfl⟩⟩
  obtain ⟨v', w', hr, h1, h2, h3⟩ := run_append_own (P := Try.prog) X X.heap.size 40 40 45 i0 (.agg #[.int .i64 0, .int .i64 0]) 2 16 Try.underlying40 hi hz0 hz1 hz2 rfl (by decide) _ 0 [] h0 ⟨gp, op, none⟩ ps.length cp (pixCells ps) (pixCells_length ps) (rd_cells HR.out hne) (pixCells_one ps) (by unfold maxLen; omega) (by omega) (Nat.le_refl _)
  rw [Nat.zero_add, List.nil_append] at h1
  obtain ⟨g, co, rfl, hg, _, _⟩ := own_shape h1 hl0
  exact ⟨g, co, w', hr, h1, (Below.refl _ _).grown h2 (Nat.le_refl _) (by intro k hk; simp [Value.ownBlock] at hk), hg⟩
end Go.Proofs.Ytnjnelfmfijgjab
