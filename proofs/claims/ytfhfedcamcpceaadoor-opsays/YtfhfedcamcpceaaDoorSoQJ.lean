/- Walk: SameOp of two that are the same. -- s1 -/
import Derived.Test.YtfhfedcamcpceaaDoorM5
namespace Go.Proofs.YtfhfedcamcpceaaDoor
open Go.RowKit

set_option maxHeartbeats 4000000 in
set_option maxRecDepth 100000 in
theorem sameOp_any (q : Pq) (u0 u1 : Value) (w : World) (hps : q.ps.length ≤ 1000) (H0 : Hid (RdP w u0 q.ps)) (H1 : Hid (RdP w u1 q.ps)) :
    Calls Tryd.prog 16 #[opV q u0, opV q u1] w fun e w' => e = .returned (.bool true) ∧ Below w.heap.size w w' := by
  obtain ⟨a0, c0, hv0, _, _, hh0⟩ := H0.out
  obtain ⟨a1, c1, hv1, _, _, hh1⟩ := H1.out
  obtain ⟨n, HN⟩ : ∃ n, Hid (q.ps.length = n) := ⟨_, (rfl : _ = _)⟩
  rw [HN.out] at hv0 hv1
  clear hh0 hh1
  subst hv0 hv1
  unfold opV
  have e1 : (q.kind == q.kind) = true := by simp
  have e2 : (q.id == q.id) = true := by simp
  have e3 : (q.a == q.a) = true := by simp
  have e4 : (q.b == q.b) = true := by simp
  have e5 : (q.c == q.c) = true := by simp
  have e6 : (q.d == q.d) = true := by simp
  obtain ⟨X0, HX0⟩ : ∃ X0, Hid ((w.alloc (.cells #[.int .i64 q.kind, .int .i64 q.id, .int .i64 q.a, .int .i64 q.b, .int .i64 q.c, .int .i64 q.d, .int .i64 q.pw, .int .i64 q.ph, .slice a0 n c0] 26)).alloc (.cells #[.int .i64 q.kind, .int .i64 q.id, .int .i64 q.a, .int .i64 q.b, .int .i64 q.c, .int .i64 q.d, .int .i64 q.pw, .int .i64 q.ph, .slice a1 n c1] 26) = X0) := ⟨_, (rfl : _ = _)⟩
  have hbz : Below w.heap.size w X0 := by rw [← HX0.out]; exact ((Below.refl _ _).alloc (Nat.le_refl _) _).alloc (by simp) _
  have E0 : Nine X0 w.heap.size (.int .i64 q.kind) (.int .i64 q.id) (.int .i64 q.a) (.int .i64 q.b) (.int .i64 q.c) (.int .i64 q.d) (.int .i64 q.pw) (.int .i64 q.ph) (.slice a0 n c0) := by rw [← HX0.out]; exact (nine_start w _ _ _ _ _ _ _ _ _ 26 w.heap.size rfl).alloc _
  have E1 : Nine X0 (w.heap.size + 1) (.int .i64 q.kind) (.int .i64 q.id) (.int .i64 q.a) (.int .i64 q.b) (.int .i64 q.c) (.int .i64 q.d) (.int .i64 q.pw) (.int .i64 q.ph) (.slice a1 n c1) := by rw [← HX0.out]; exact nine_start _ _ _ _ _ _ _ _ _ _ 26 (w.heap.size + 1) (by simp)
  have HR0 : Hid (RdP X0 (.slice a0 n c0) q.ps) := H0.out.on hbz
  have HR1 : Hid (RdP X0 (.slice a1 n c1) q.ps) := H1.out.on hbz
  go_enter Tryd.func16, Tryd.ntmps16
  go_wp2_with fail
  rw [HX0.out]
  refine (samePic_any q.pw q.ph _ _ q.ps _ hps HR0 HR1).mono ?_
  rintro e w1 ⟨rfl, hb1⟩
  have hbb1 := hbz.trans (hb1.mono hbz.size)
  obtain ⟨s0, s1, s2, s3, s4, s5, s6, s7, s8, -, -, -, -, -, -, -, -, -, -⟩ := E0.on hb1
  obtain ⟨t0, t1, t2, t3, t4, t5, t6, t7, t8, -, -, -, -, -, -, -, -, -, -⟩ := E1.on hb1
  clear HX0 hbz E0 E1 HR0 HR1 hb1
  go_wp2_with fail
  go_ret
  exact ⟨rfl, hbb1⟩
end Go.Proofs.YtfhfedcamcpceaaDoor
