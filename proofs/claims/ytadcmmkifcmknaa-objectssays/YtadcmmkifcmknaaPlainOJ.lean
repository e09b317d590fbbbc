/- Walk of blend.Plain: the row is one's own. -/
import Derived.Test.YtadcmmkifcmknaaM6
import Derived.Test.YtadcmmkifcmknaaPlainCJ
namespace Go.Proofs.Ytadcmmkifcmknaa
open Go.RowKit

set_option maxHeartbeats 2000000 in
set_option maxRecDepth 100000 in
theorem plainO_any (W H : Nat) (v a : Int) (h1 : 1 ≤ W) (h2 : W ≤ 8) (h3 : 1 ≤ H) (h4 : H ≤ 8) (w : World) :
    Calls Try.prog 26 #[.int .i64 (W : Int), .int .i64 (H : Int), pixV v a] w fun e w' => ∃ v', e = .returned (picV W H v') ∧ w'.ownsRow (w.heap.size + 3) 33 2 v' (W * H) (pixCells (List.replicate (W * H) (v, a))) ∧ Below w.heap.size w w' := by
  obtain ⟨N, HN⟩ : ∃ N, Hid (W * H = N) := ⟨_, (rfl : _ = _)⟩
  have hN : (W : Int) * (H : Int) = (N : Int) := by rw [← HN.out]; exact (Int.natCast_mul _ _).symm
  have hN1 : 1 * 1 ≤ W * H := Nat.mul_le_mul h1 h3
  have hN2 : W * H ≤ 8 * 8 := Nat.mul_le_mul h2 h4
  rw [HN.out] at hN1 hN2 ⊢
  unfold pixV picV
  have T1 := (three_begin (w.alloc (.cells #[.int .i64 v, .int .i64 a] 33)) (.int .i64 0) (.int .i64 0) (.slice none 0 0) 25 (w.heap.size + 1) (by simp)).alloc (.cells #[.int .i64 v, .int .i64 a] 33)
  have T2 := two_start ((w.alloc (.cells #[.int .i64 v, .int .i64 a] 33)).alloc (.cells #[.int .i64 0, .int .i64 0, .slice none 0 0] 25)) (.int .i64 v) (.int .i64 a) 33 (w.heap.size + 1 + 1) (by simp)
  have hb0 : Below w.heap.size w (((w.alloc (.cells #[.int .i64 v, .int .i64 a] 33)).alloc (.cells #[.int .i64 0, .int .i64 0, .slice none 0 0] 25)).alloc (.cells #[.int .i64 v, .int .i64 a] 33)) := (((Below.refl _ _).alloc (Nat.le_refl _) _).alloc (by simp) _).alloc (by simp; omega) _
  have hs0 : (((w.alloc (.cells #[.int .i64 v, .int .i64 a] 33)).alloc (.cells #[.int .i64 0, .int .i64 0, .slice none 0 0] 25)).alloc (.cells #[.int .i64 v, .int .i64 a] 33)).heap.size = w.heap.size + 3 := by simp
  have HT1 : Hid (Three (((w.alloc (.cells #[.int .i64 v, .int .i64 a] 33)).alloc (.cells #[.int .i64 0, .int .i64 0, .slice none 0 0] 25)).alloc (.cells #[.int .i64 v, .int .i64 a] 33)) (w.heap.size + 1) (.int .i64 0) (.int .i64 0) (.slice none 0 0)) := T1
  have HT2 : Hid (Two (((w.alloc (.cells #[.int .i64 v, .int .i64 a] 33)).alloc (.cells #[.int .i64 0, .int .i64 0, .slice none 0 0] 25)).alloc (.cells #[.int .i64 v, .int .i64 a] 33)) (w.heap.size + 1 + 1) (.int .i64 v) (.int .i64 a)) := T2
  have HB0 : Hid (Below w.heap.size w (((w.alloc (.cells #[.int .i64 v, .int .i64 a] 33)).alloc (.cells #[.int .i64 0, .int .i64 0, .slice none 0 0] 25)).alloc (.cells #[.int .i64 v, .int .i64 a] 33))) := hb0
  have HS0 : Hid ((((w.alloc (.cells #[.int .i64 v, .int .i64 a] 33)).alloc (.cells #[.int .i64 0, .int .i64 0, .slice none 0 0] 25)).alloc (.cells #[.int .i64 v, .int .i64 a] 33)).heap.size = w.heap.size + 3) := hs0
  clear T1 T2 hb0 hs0
  go_enter Try.func26, Try.ntmps26
  go_wp2_with fail
  all_goals refine (repeat_any v a (w.heap.size + 1 + 1) N (by omega) (by omega) _ HT2.out.c0 HT2.out.c1 HT2.out.lt).mono ?_
  all_goals rintro e w1 ⟨v1, rfl, ho1, hb1⟩
  all_goals rw [HS0.out] at ho1
  all_goals have HO1 : Hid (w1.ownsRow (w.heap.size + 3) 33 2 v1 N (pixCells (List.replicate N (v, a)))) := ho1
  all_goals obtain ⟨a1, c1, hv1⟩ := own_any ho1
  all_goals subst hv1
  all_goals have hbb := HB0.out.trans (hb1.mono HB0.out.size)
  all_goals obtain ⟨r0, r1, r2, f0, f1, f2, lt⟩ := HT1.out.on hb1
  all_goals clear ho1 hb1
  all_goals go_wp2_with fail
  all_goals refine bodyPost_ret (v := .agg #[.int .i64 (W : Int), .int .i64 (H : Int), .slice a1 N c1]) (by simp [results, Try.results26, go_sem, r0, r1, r2]) rfl ⟨_, rfl, (ownsRow_setCell_below (ownsRow_setCell_below (ownsRow_setCell_below HO1.out (a := ⟨w.heap.size + 1, 0, none⟩) (show w.heap.size + 1 < w.heap.size + 3 by omega) _) (a := ⟨w.heap.size + 1, 1, none⟩) (show w.heap.size + 1 < w.heap.size + 3 by omega) _) (a := ⟨w.heap.size + 1, 2, none⟩) (show w.heap.size + 1 < w.heap.size + 3 by omega) _), ?_⟩
  all_goals exact ((hbb.setCell (show w.heap.size ≤ w.heap.size + 1 by omega) _).setCell (show w.heap.size ≤ w.heap.size + 1 by omega) _).setCell (show w.heap.size ≤ w.heap.size + 1 by omega) _
end Go.Proofs.Ytadcmmkifcmknaa
