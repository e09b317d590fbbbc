/- Walk: SameObject of two that are the same. -/
import Derived.Test.YtadcmmkifcmknaaM6
namespace Go.Proofs.Ytadcmmkifcmknaa
open Go.RowKit

theorem eq_rect (X : World) (a b c d : Int) : (binOp .eql 27 (.agg #[.int .i64 a, .int .i64 b, .int .i64 c, .int .i64 d]) (.agg #[.int .i64 a, .int .i64 b, .int .i64 c, .int .i64 d])).run Try.prog X = .ok (.bool true) X := by
  have h : (Op.equalIn 10000 27 (.agg #[.int .i64 a, .int .i64 b, .int .i64 c, .int .i64 d]) (.agg #[.int .i64 a, .int .i64 b, .int .i64 c, .int .i64 d])).run Try.prog X = .ok true X := by
    have u3 := Try.underlying3
    rw [run_equalIn_agg X 9999 27 _ _ (by kernel_rfl) (by kernel_rfl)]
    simp only [Program.fieldsOf, Try.underlying27]
    go_simp
  rw [run_eql_struct, h]
  rfl

set_option maxHeartbeats 4000000 in
set_option maxRecDepth 100000 in
theorem sameOb_any (x : Po) (u0 u1 : Value) (w : World) (hps : x.ps.length ≤ 1000) (H0 : Hid (RdP w u0 x.ps)) (H1 : Hid (RdP w u1 x.ps)) :
    Calls Try.prog 13 #[poV x u0, poV x u1] w fun e w' => e = .returned (.bool true) ∧ Below w.heap.size w w' := by
  obtain ⟨a0, c0, hv0, _, _, hh0⟩ := H0.out
  obtain ⟨a1, c1, hv1, _, _, hh1⟩ := H1.out
  obtain ⟨n, HN⟩ : ∃ n, Hid (x.ps.length = n) := ⟨_, (rfl : _ = _)⟩
  rw [HN.out] at hv0 hv1
  clear hh0 hh1
  subst hv0 hv1
  unfold poV objV
  have e1 : (x.id == x.id) = true := by simp
  have e2 : (x.x == x.x) = true := by simp
  have e3 : (x.y == x.y) = true := by simp
  have e4 : (x.sh == x.sh) = true := by simp
  have e5 := fun X => eq_rect X x.cx x.cy x.cw x.ch
  obtain ⟨X0, HX0⟩ : ∃ X0, Hid ((w.alloc (.cells #[.int .i64 x.id, .int .i64 x.x, .int .i64 x.y, .int .i64 x.pw, .int .i64 x.ph, .slice a0 n c0, .int .i64 x.cx, .int .i64 x.cy, .int .i64 x.cw, .int .i64 x.ch, .bool x.sh] 29)).alloc (.cells #[.int .i64 x.id, .int .i64 x.x, .int .i64 x.y, .int .i64 x.pw, .int .i64 x.ph, .slice a1 n c1, .int .i64 x.cx, .int .i64 x.cy, .int .i64 x.cw, .int .i64 x.ch, .bool x.sh] 29) = X0) := ⟨_, (rfl : _ = _)⟩
  have hbz : Below w.heap.size w X0 := by rw [← HX0.out]; exact ((Below.refl _ _).alloc (Nat.le_refl _) _).alloc (by simp) _
  have E0 : Eleven X0 w.heap.size (.int .i64 x.id) (.int .i64 x.x) (.int .i64 x.y) (.int .i64 x.pw) (.int .i64 x.ph) (.slice a0 n c0) (.int .i64 x.cx) (.int .i64 x.cy) (.int .i64 x.cw) (.int .i64 x.ch) (.bool x.sh) := by rw [← HX0.out]; exact (eleven_start w _ _ _ _ _ _ _ _ _ _ _ 29 w.heap.size rfl).alloc _
  have E1 : Eleven X0 (w.heap.size + 1) (.int .i64 x.id) (.int .i64 x.x) (.int .i64 x.y) (.int .i64 x.pw) (.int .i64 x.ph) (.slice a1 n c1) (.int .i64 x.cx) (.int .i64 x.cy) (.int .i64 x.cw) (.int .i64 x.ch) (.bool x.sh) := by rw [← HX0.out]; exact eleven_start _ _ _ _ _ _ _ _ _ _ _ _ 29 (w.heap.size + 1) (by simp)
  have HR0 : Hid (RdP X0 (.slice a0 n c0) x.ps) := H0.out.on hbz
  have HR1 : Hid (RdP X0 (.slice a1 n c1) x.ps) := H1.out.on hbz
  go_enter Try.func13, Try.ntmps13
  go_wp2_with fail
  rw [HX0.out]
  refine (samePic_any x.pw x.ph _ _ x.ps _ hps HR0 HR1).mono ?_
  rintro e w1 ⟨rfl, hb1⟩
  have hbb1 := hbz.trans (hb1.mono hbz.size)
  obtain ⟨s0, s1, s2, s3, s4, s5, s6, s7, s8, s9, s10, sf0, sf1, sf2, sf3, sf4, sf5, sf6, sf7, sf8, sf9, sf10, slt⟩ := E0.on hb1
  obtain ⟨t0, t1, t2, t3, t4, t5, t6, t7, t8, t9, t10, tf0, tf1, tf2, tf3, tf4, tf5, tf6, tf7, tf8, tf9, tf10, tlt⟩ := E1.on hb1
  clear hb1 E0 E1 HR0 HR1 HX0
  go_wp2_with fail
  go_ret
  exact ⟨rfl, hbb1⟩
end Go.Proofs.Ytadcmmkifcmknaa
