/- What the steps of the reference's machine share. -/
import Derived.Test.YtjmkfcgnadpbaaaDoorM9
import Derived.Test.YtjmkfcgnadpbaaaDoorRmAJ
import Derived.Maps.AppendAt
import Derived.Laws.OwnMore
namespace Go.Proofs.YtjmkfcgnadpbaaaDoor
open Go.RowKit Go.Maps

theorem op_ok_at {qs : List Pq} (h : Book qs) {k : Nat} (hk : k < qs.length) {q : Pq} (hq : qs.getD k pq0 = q) : opC q = 0 := by
  rw [← hq]; exact h.ok k hk
theorem Tryd.infoTrn : (Tryd.prog.info? 72).map (fun i => (i.zero, i.size, i.bytes)) = some (some (.agg #[.int .i64 0, .int .i64 0]), 2, 16) := by kernel_rfl
theorem rnd_one : ∀ (op : List (Nat × Nat)), ∀ u ∈ rndCells op, u.oneCell' = true := by
  intro op
  induction op with
  | nil => intro u hu; simp [rndCells] at hu
  | cons a r ih =>
    intro u hu
    obtain ⟨x, y⟩ := a
    simp only [rndCells, List.mem_cons] at hu
    rcases hu with rfl | rfl | hu
    · rfl
    · rfl
    · exact ih u hu
theorem addr_zero (g j : Nat) : (⟨g, 0, none⟩ : Addr).add j = ⟨g, j, none⟩ := by unfold Addr.add; split <;> simp_all
/-- a row is copied: append(nil, row...) -/
theorem row_copy (t e : TypeId) (i : TypeInfo) (z : Value) (size bytes : Nat) (ht : Tryd.prog.underlying t = some (.slice e)) (hi : Tryd.prog.info? e = some i) (hz : i.zero = some z)
    (hsize : i.size = size) (hby : i.bytes = bytes) (hzs : z.cells.size = size) (hsz : 0 < size) (hbb : bytes ≤ 1000)
    (w : World) (B : Nat) (v : Value) (n : Nat) (xs : List Value) (h : w.ownsRow B e size v n xs) (hn : n ≤ 1000) (h1 : ∀ u ∈ xs, u.oneCell' = true) :
    ∃ v' w', (Builtin.append_ #[t, t] t #[.slice none 0 0, v]).run Tryd.prog w = .ok v' w' ∧ w'.ownsRow w.heap.size e size v' n xs ∧ Below w.heap.size w w' := by
  have h0 := h
  rcases h.2 with ⟨rfl, rfl⟩ | ⟨g, cap, cur, rfl, hb, hg, hnc, hm, hs, ht2⟩
  · have hx : xs = [] := List.eq_nil_of_length_eq_zero (by have := h.1; simpa using this)
    subst hx
    exact ⟨_, _, run_append_owned_none w w.heap.size t t e i size ht hi _ 0 [] (World.ownsRow_nil _ _ _ _), World.ownsRow_nil _ _ _ _, Below.refl _ _⟩
  · obtain ⟨v', w', hr, r1, r2, _, _⟩ := run_append_own_at (P := Tryd.prog) w w.heap.size t t e i z size bytes ht hi hz hsize hby hzs hsz (.slice none 0 0) 0 [] (World.ownsRow_nil _ _ _ _) ⟨g, 0, none⟩ n cap xs h.1
      (fun j u hj => by
        have hjl : j < xs.length := (List.getElem?_eq_some_iff.1 hj).1
        have hc := h0.cellAt j (by rw [← h.1]; exact hjl)
        rw [addr_zero, hc]; exact hj) h1 (by unfold maxLen; omega) (by
          have : (0 + n) * bytes ≤ 1000 * 1000 := Nat.mul_le_mul (by omega) hbb
          omega) (Nat.le_refl _)
    rw [Nat.zero_add, List.nil_append] at r1
    exact ⟨v', w', hr, r1, (Below.refl _ _).grown r2 (Nat.le_refl _) (fun k hk => by simp [Value.ownBlock] at hk)⟩
theorem trn_copy (w : World) (B : Nat) (v : Value) (op : List (Nat × Nat)) (h : w.ownsRow B 72 2 v op.length (rndCells op)) (hn : op.length ≤ 1000) :
    ∃ v' w', (Builtin.append_ #[39, 39] 39 #[.slice none 0 0, v]).run Tryd.prog w = .ok v' w' ∧ w'.ownsRow w.heap.size 72 2 v' op.length (rndCells op) ∧ Below w.heap.size w w' := by
  obtain ⟨i0, hi, hz0, hz1, hz2⟩ := info_parts Tryd.infoTrn
  exact row_copy _ _ i0 _ 2 16 Tryd.underlying39 hi hz0 hz1 hz2 rfl (by decide) (by decide) w B v _ _ h hn (rnd_one op)
theorem trn_app (w : World) (B : Nat) (v : Value) (op : List (Nat × Nat)) (h : w.ownsRow B 72 2 v op.length (rndCells op)) (hn : op.length ≤ 1000) (hB : B ≤ w.heap.size) (p l g : Nat)
    (c0 : w.cell? ⟨g, 0, none⟩ = some (.int .i64 (p : Int))) (c1 : w.cell? ⟨g, 1, none⟩ = some (.int .i64 (l : Int))) :
    ∃ v' w', (Builtin.append_ #[39, 39] 39 #[v, .slice (some ⟨g, 0, none⟩) 1 1]).run Tryd.prog w = .ok v' w' ∧ w'.ownsRow B 72 2 v' (op ++ [(p, l)]).length (rndCells (op ++ [(p, l)])) ∧ Below B w w' := by
  obtain ⟨i0, hi, hz0, hz1, hz2⟩ := info_parts Tryd.infoTrn
  obtain ⟨v', w', hr, r1, r2, _, _⟩ := run_append_own_at (P := Tryd.prog) w B 39 39 72 i0 _ 2 16 Tryd.underlying39 hi hz0 hz1 hz2 rfl (by decide) v _ _ h ⟨g, 0, none⟩ 1 1 [.int .i64 (p : Int), .int .i64 (l : Int)] rfl
    (fun j u hj => by
      rw [addr_zero]
      match j, hj with
      | 0, hj => simp at hj; subst hj; exact c0
      | 1, hj => simp at hj; subst hj; exact c1) (by intro u hu; simp at hu; rcases hu with rfl | rfl <;> rfl) (by unfold maxLen; omega) (by omega) hB
  refine ⟨v', w', hr, ?_, (Below.refl _ _).grown r2 hB (fun z hz => (h.lt z hz).1)⟩
  rw [List.length_append, rndCells_app]
  exact r1
/-- what comes first in a row is a row -/
theorem row_pre {w : World} {B m n cap s : Nat} {e : TypeId} {a : Option Addr} {xs : List Value} (h : w.ownsRow B e s (.slice a n cap) n xs) (hm : m ≤ n) (h0 : 0 < n := by omega) : w.ownsRow B e s (.slice a m cap) m (xs.take (m * s)) := by
  have hms : m * s ≤ n * s := Nat.mul_le_mul_right s hm
  refine ⟨by rw [List.length_take, h.1]; omega, ?_⟩
  rcases h.2 with ⟨_, h1⟩ | ⟨g, cap', cur, hv, h2, h3, h4, h5, h6, h7⟩
  · omega
  · simp only [Value.slice.injEq, true_and] at hv
    obtain ⟨rfl, rfl⟩ := hv
    exact .inr ⟨g, cap, cur, rfl, h2, h3, by omega, h5, h6, by rw [← h7, List.take_take, Nat.min_eq_left hms]⟩
theorem foot_then {X Y w : World} {b : Nat} (h : Foot [b] [b] X Y) (hb : Below X.heap.size Y w) : Foot [b] [b] X w :=
  ⟨hb.os.trans h.os, hb.tape.trans h.tape, hb.output.trans h.output, Nat.le_trans h.size hb.size, fun k hk hn => (hb.block k hk).trans (h.block k hk hn), fun _ h => .inl h⟩
theorem box_onB {Y w : World} {B b : Nat} {xs : List Value} (h : World.ownsRow Y b 44 8 (.slice (some ⟨b, 0, none⟩) 1 1) 1 xs) (hb : Below B Y w) (hB : b < B) : World.ownsRow w b 44 8 (.slice (some ⟨b, 0, none⟩) 1 1) 1 xs := by
  refine ⟨h.1, ?_⟩
  rcases h.2 with h | ⟨g, cap, cur, h1, h2, h3, h4⟩
  · exact .inl h
  · have h1' := h1
    simp only [Value.slice.injEq, Option.some.injEq, Addr.mk.injEq, and_true, true_and] at h1'
    obtain ⟨rfl, rfl⟩ := h1'
    exact .inr ⟨b, 1, cur, h1, h2, by rw [hb.block b hB]; exact h3, h4⟩
theorem row_cap {w : World} {B n cap s : Nat} {e : TypeId} {a : Addr} {xs : List Value} (h : w.ownsRow B e s (.slice (some a) n cap) n xs) : n ≤ cap ∧ cap ≤ maxLen := by
  rcases h.2 with ⟨h0, _⟩ | ⟨g, cap', cur, hv, _, _, h1, h2, _⟩
  · simp at h0
  · simp only [Value.slice.injEq, true_and] at hv
    obtain ⟨_, rfl⟩ := hv
    exact ⟨h1, h2⟩
theorem fr_one : ∀ {w : World} {B : Nat} (fv : List (Pf × Value)) (_ : ∀ q ∈ fv, w.ownsRow B 42 2 q.2 q.1.ps.length (pixCells q.1.ps)), ∀ u ∈ frCells fv, u.oneCell' = true := by
  intro w B fv
  induction fv with
  | nil => intro _ u hu; simp [frCells] at hu
  | cons a r ih =>
    intro hp u hu
    obtain ⟨f, x⟩ := a
    obtain ⟨xa, xc, hx⟩ := own_any (hp (f, x) (by simp))
    simp only at hx
    simp only [frCells, List.mem_cons] at hu
    rcases hu with rfl | rfl | rfl | rfl | hu
    · rfl
    · rfl
    · rw [hx]; rfl
    · rfl
    · exact ih (fun q hq => hp q (by simp [hq])) u hu
theorem fr_copy (w : World) (B : Nat) (v : Value) (fv : List (Pf × Value)) (h : OwnFr w B v fv) (hn : fv.length ≤ 1000) :
    ∃ v' w', (Builtin.append_ #[25, 25] 25 #[.slice none 0 0, v]).run Tryd.prog w = .ok v' w' ∧ w'.ownsRow w.heap.size 56 4 v' fv.length (frCells fv) ∧ Below w.heap.size w w' := by
  obtain ⟨i0, hi, hz0, hz1, hz2⟩ := info_parts Tryd.infoFr
  exact row_copy _ _ i0 _ 4 48 Tryd.underlying25 hi hz0 hz1 hz2 rfl (by decide) (by decide) w B v _ _ h.1 hn (fr_one fv h.2)
theorem fr_app (w : World) (B B2 : Nat) (v : Value) (fv : List (Pf × Value)) (h : OwnFr w B v fv) (hr : w.ownsRow B2 56 4 v fv.length (frCells fv)) (hB : B ≤ B2) (hB2 : B2 ≤ w.heap.size) (hn : fv.length ≤ 1000) (f : Pf) (u : Value) (hu : w.ownsRow B 42 2 u f.ps.length (pixCells f.ps)) (g : Nat)
    (c0 : w.cell? ⟨g, 0, none⟩ = some (.int .i64 f.W)) (c1 : w.cell? ⟨g, 1, none⟩ = some (.int .i64 f.H)) (c2 : w.cell? ⟨g, 2, none⟩ = some u) (c3 : w.cell? ⟨g, 3, none⟩ = some (.int .i64 f.d)) :
    ∃ v' w', (Builtin.append_ #[25, 25] 25 #[v, .slice (some ⟨g, 0, none⟩) 1 1]).run Tryd.prog w = .ok v' w' ∧ OwnFr w' B v' (fv ++ [(f, u)]) ∧ Below B2 w w' ∧ ∃ n xs, w'.ownsRow B2 56 4 v' n xs := by
  obtain ⟨i0, hi, hz0, hz1, hz2⟩ := info_parts Tryd.infoFr
  obtain ⟨ua, uc, hue⟩ := own_any hu
  obtain ⟨v', w', hrun, r1, r2, _, _⟩ := run_append_own_at (P := Tryd.prog) w B2 25 25 56 i0 _ 4 48 Tryd.underlying25 hi hz0 hz1 hz2 rfl (by decide) v _ _ hr ⟨g, 0, none⟩ 1 1 [.int .i64 f.W, .int .i64 f.H, u, .int .i64 f.d] rfl
    (fun j x hj => by
      rw [addr_zero]
      match j, hj with
      | 0, hj => simp at hj; subst hj; exact c0
      | 1, hj => simp at hj; subst hj; exact c1
      | 2, hj => simp at hj; subst hj; exact c2
      | 3, hj => simp at hj; subst hj; exact c3) (by intro x hx; simp at hx; rcases hx with rfl | rfl | rfl | rfl <;> first | rfl | (rw [hue]; rfl)) (by unfold maxLen; omega) (by omega) (by omega)
  exact ⟨v', w', hrun, h.app hu (own_mono r1 hB) r2, (Below.refl _ _).grown r2 hB2 (fun z hz => (hr.lt z hz).1), _, _, r1⟩
theorem rnd_len (op : List (Nat × Nat)) : (rndCells op).length = op.length * 2 := rndCells_length op
end Go.Proofs.YtjmkfcgnadpbaaaDoor
