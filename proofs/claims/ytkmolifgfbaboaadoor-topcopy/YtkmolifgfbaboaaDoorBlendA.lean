/- Walks of blend: own, whole, and what becomes of a pixel. -/
import Derived.Test.YtkmolifgfbaboaaDoorCloneA
import Derived.Test.YtkmolifgfbaboaaDoorOverA
import Derived.Test.YtkmolifgfbaboaaDoorBlk
import Derived.Test.YtkmolifgfbaboaaDoorRectM
namespace Go.Proofs.YtkmolifgfbaboaaDoor
open Go.RowKit

def picV (W H : Int) (v : Value) : Value := .agg #[.int .i64 W, .int .i64 H, v]

set_option maxHeartbeats 2000000 in
set_option maxRecDepth 100000 in
theorem bown_any (W H : Int) (v : Value) (ps : List (Int × Int)) (w : World) (hps : ps.length ≤ 100) (hne : ps ≠ []) (HR : Hid (RdP w v ps)) :
    Calls Tryd.prog 50 #[picV W H v] w fun e w' => ∃ v', e = .returned (picV W H v') ∧ w'.ownsRow (w.heap.size + 2) 33 2 v' ps.length (pixCells ps) ∧ Below w.heap.size w w' := by
  obtain ⟨a, cap, hv, hlc, hcap, _⟩ := HR.out
  obtain ⟨n, HN⟩ : ∃ n, Hid (ps.length = n) := ⟨_, (rfl : _ = _)⟩
  rw [HN.out] at hv
  subst hv
  unfold picV
  have T0 := (three_start w (.int .i64 W) (.int .i64 H) (.slice a n cap) 25).alloc (.cells #[.int .i64 0, .int .i64 0, .slice none 0 0] 25)
  have T1 := three_begin (w.alloc (.cells #[.int .i64 W, .int .i64 H, .slice a n cap] 25)) (.int .i64 0) (.int .i64 0) (.slice none 0 0) 25 (w.heap.size + 1) (by simp)
  have hb0 : Below w.heap.size w ((w.alloc (.cells #[.int .i64 W, .int .i64 H, .slice a n cap] 25)).alloc (.cells #[.int .i64 0, .int .i64 0, .slice none 0 0] 25)) := ((Below.refl _ _).alloc (Nat.le_refl _) _).alloc (by simp) _
  have HR0 : Hid (RdP ((w.alloc (.cells #[.int .i64 W, .int .i64 H, .slice a n cap] 25)).alloc (.cells #[.int .i64 0, .int .i64 0, .slice none 0 0] 25)) (.slice a n cap) ps) := HR.out.on hb0
  go_enter Tryd.func50, Tryd.ntmps50
  go_wp2_with fail
  refine (clone_any _ ps _ hps hne HR0).mono ?_
  rintro e w1 ⟨v', rfl, ho, hb1⟩
  have HO : Hid (w1.ownsRow (w.heap.size + 2) 33 2 v' ps.length (pixCells ps)) := by unfold Hid; simpa using ho
  rw [HN.out] at HO
  obtain ⟨a', c', hv'⟩ := own_any HO.out
  subst hv'
  obtain ⟨c0, c1, c2, f0, f1, f2, lt⟩ := T0.on hb1
  obtain ⟨d0, d1, d2, g0, g1, g2, lt2⟩ := T1.on hb1
  have hbb := hb0.trans (hb1.mono hb0.size)
  clear ho hb0 hb1 T0 T1 HR0
  go_wp2_with fail
  refine bodyPost_ret (v := .agg #[.int .i64 W, .int .i64 H, .slice a' n c']) (by simp [results, Tryd.results50, go_sem, d0, d1, d2]) rfl ⟨_, rfl, ?_, ?_⟩
  · rw [HN.out]
    refine ownsRow_setCell_below (ownsRow_setCell_below (ownsRow_setCell_below (ownsRow_setCell_below (own_mono HO.out (Nat.le_refl _)) ?_ _) ?_ _) ?_ _) ?_ _
    all_goals (simp; try omega)
  · exact (((hbb.setCell (by simp) _).setCell (by simp) _).setCell (by simp) _).setCell (by simp) _

set_option maxRecDepth 100000 in
theorem whole_any (W H : Int) (a : Option Addr) (n cap : Nat) (w : World) :
    Calls Tryd.prog 32 #[.agg #[.int .i64 W, .int .i64 H, .slice a n cap]] w fun e w' => e = .returned (rectV 0 0 W H) ∧ Below w.heap.size w w' := by
  unfold rectV
  go_enter Tryd.func32, Tryd.ntmps32
  go_wp2
  refine bodyPost_ret (v := .agg #[.int .i64 0, .int .i64 0, .int .i64 W, .int .i64 H]) (by simp [results, Tryd.results32, go_sem]) rfl ⟨rfl, ?_⟩
  exact ((Below.refl _ _).alloc (Nat.le_refl _) _).alloc (by simp) _

def pixOk (p : Int × Int) : Prop := 0 ≤ p.1 ∧ p.1 ≤ 255 ∧ 0 ≤ p.2 ∧ p.2 ≤ 255

/-- two pixels added -/
def addP (p q : Int × Int) : Int × Int := ((p.1 + q.1) % 256, (p.2 + q.2) % 256)

set_option maxRecDepth 100000 in
theorem becA_any (p q r : Int × Int) (hp : pixOk p) (hq : pixOk q) (HR : Hid (addP p q = r)) (w : World) :
    Calls Tryd.prog 33 #[pixV p.1 p.2, pixV q.1 q.2] w fun e w' => e = .returned (pixV r.1 r.2) ∧ Below w.heap.size w w' := by
  obtain ⟨a, b⟩ := p
  obtain ⟨c, d⟩ := q
  obtain ⟨v, u⟩ := r
  obtain ⟨p0, p1, p2, p3⟩ := hp
  obtain ⟨q0, q1, q2, q3⟩ := hq
  simp only at p0 p1 p2 p3 q0 q1 q2 q3 ⊢
  have h := HR.out
  unfold addP at h
  simp only [Prod.mk.injEq] at h
  obtain ⟨h1, h2⟩ := h
  have e1 : (a + c).tmod 256 = v := by rw [Int.tmod_eq_emod_of_nonneg (by omega)]; exact h1
  have e2 : (b + d).tmod 256 = u := by rw [Int.tmod_eq_emod_of_nonneg (by omega)]; exact h2
  have b1 : 0 ≤ v ∧ v ≤ 255 := by omega
  have b2 : 0 ≤ u ∧ u ≤ 255 := by omega
  obtain ⟨b1, b3⟩ := b1
  obtain ⟨b2, b4⟩ := b2
  clear h1 h2 HR
  unfold pixV
  go_enter Tryd.func33, Tryd.ntmps33
  go_wp2
  refine bodyPost_ret (v := .agg #[.int .i64 v, .int .i64 u]) (by simp [results, Tryd.results33, go_sem]) rfl ⟨rfl, ?_⟩
  exact ((((Below.refl _ _).alloc (Nat.le_refl _) _).alloc (by simp) _).alloc (by simp; omega) _)

set_option maxRecDepth 100000 in
theorem becP_any (p q r : Int × Int) (_hp : pixOk p) (_hq : pixOk q) (HR : Hid (q = r)) (w : World) :
    Calls Tryd.prog 34 #[pixV p.1 p.2, pixV q.1 q.2] w fun e w' => e = .returned (pixV r.1 r.2) ∧ Below w.heap.size w w' := by
  obtain rfl := HR.out
  obtain ⟨a, b⟩ := p
  obtain ⟨c, d⟩ := q
  unfold pixV
  simp only
  go_enter Tryd.func34, Tryd.ntmps34
  go_wp2
  refine bodyPost_ret (v := .agg #[.int .i64 c, .int .i64 d]) (by simp [results, Tryd.results34, go_sem]) rfl ⟨rfl, ?_⟩
  exact ((((Below.refl _ _).alloc (Nat.le_refl _) _).alloc (by simp) _).alloc (by simp; omega) _)
end Go.Proofs.YtkmolifgfbaboaaDoor
