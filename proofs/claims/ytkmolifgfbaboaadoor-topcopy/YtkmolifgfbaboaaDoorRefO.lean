/- Walks of the reference's Over and ObjectFault. -/
import Derived.Test.YtkmolifgfbaboaaDoorObjB
import Derived.Test.YtkmolifgfbaboaaDoorOverA
import Derived.Test.YtkmolifgfbaboaaDoorFaultB
import Derived.Test.YtkmolifgfbaboaaDoorRectC
import Derived.Deep.RegionHeld3
namespace Go.Proofs.YtkmolifgfbaboaaDoor
open Go.RowKit

theorem rectC_out1 (x y : Int) (h : x < -20 ∨ 20 < x ∨ y < -20 ∨ 20 < y) : rectC x y 0 0 = 1 := by
  rcases rectC_cases x y 0 0 with r | r
  · rw [rectC_zero] at r; omega
  · exact r
set_option maxHeartbeats 2000000 in
set_option maxRecDepth 100000 in
theorem ofault_any (id x y pw ph : Int) (u : Value) (ps : List (Int × Int)) (cx cy cw ch : Int) (sh : Bool) (w : World) (hps : ps.length ≤ 1000000000) (HR : Hid (RdP w u ps)) (c : Nat) (HC : Hid (objC id x y pw ph ps cx cy cw ch = c)) :
    Calls Tryd.prog 18 #[objV id x y pw ph u cx cy cw ch sh] w fun e w' => e = .returned (.int .i64 (c : Int)) ∧ Below w.heap.size w w' := by
  unfold objV
  obtain ⟨au, cu, hvu, hlu, hcu, _⟩ := HR.out
  obtain ⟨nu, HNU⟩ : ∃ n, Hid (ps.length = n) := ⟨_, (rfl : _ = _)⟩
  rw [HNU.out] at hvu
  subst hvu
  clear hlu hcu
  have E0 := eleven_start w (.int .i64 id) (.int .i64 x) (.int .i64 y) (.int .i64 pw) (.int .i64 ph) (.slice au nu cu) (.int .i64 cx) (.int .i64 cy) (.int .i64 cw) (.int .i64 ch) (.bool sh) 41 w.heap.size rfl
  obtain ⟨W0, HW0⟩ : ∃ W0, Hid (w.alloc (.cells #[.int .i64 id, .int .i64 x, .int .i64 y, .int .i64 pw, .int .i64 ph, .slice au nu cu, .int .i64 cx, .int .i64 cy, .int .i64 cw, .int .i64 ch, .bool sh] 41) = W0) := ⟨_, (rfl : _ = _)⟩
  have hb0 : Below w.heap.size w W0 := by rw [← HW0.out]; exact (Below.refl _ _).alloc (Nat.le_refl _) _
  rw [HW0.out] at E0
  have HE0 : Hid (Eleven W0 w.heap.size (.int .i64 id) (.int .i64 x) (.int .i64 y) (.int .i64 pw) (.int .i64 ph) (.slice au nu cu) (.int .i64 cx) (.int .i64 cy) (.int .i64 cw) (.int .i64 ch) (.bool sh)) := E0
  have HR0 : Hid (RdP W0 (.slice au nu cu) ps) := HR.out.on hb0
  clear E0
  go_enter Tryd.func18, Tryd.ntmps18
  obtain ⟨k0, k1, k2, _, _, _, _, _, _, _, _, _, _, _, _, _, _, _, _, _, _, _, _⟩ := HE0.out
  rw [← HW0.out] at k0 k1 k2
  by_cases h1 : id < 1
  · obtain rfl : 1 = c := by rw [← HC.out]; unfold objC; simp [h1]
    go_wp2_with fail
    rw [HW0.out]
    exact bodyPost_ret (v := .int .i64 1) (by simp [results, Tryd.results18, go_sem]) rfl ⟨rfl, hb0⟩
  by_cases h2 : 6 < id
  · obtain rfl : 1 = c := by rw [← HC.out]; unfold objC; simp [h2]
    go_wp2_with fail
    rw [HW0.out]
    exact bodyPost_ret (v := .int .i64 1) (by simp [results, Tryd.results18, go_sem]) rfl ⟨rfl, hb0⟩
  by_cases h3 : x < -20
  · obtain rfl : 1 = c := by rw [← HC.out]; unfold objC; rw [if_neg (by omega), if_pos (rectC_out1 x y (by omega))]
    go_wp2_with fail
    rw [HW0.out]
    exact bodyPost_ret (v := .int .i64 1) (by simp [results, Tryd.results18, go_sem]) rfl ⟨rfl, hb0⟩
  by_cases h4 : 20 < x
  · obtain rfl : 1 = c := by rw [← HC.out]; unfold objC; rw [if_neg (by omega), if_pos (rectC_out1 x y (by omega))]
    go_wp2_with fail
    rw [HW0.out]
    exact bodyPost_ret (v := .int .i64 1) (by simp [results, Tryd.results18, go_sem]) rfl ⟨rfl, hb0⟩
  by_cases h5 : y < -20
  · obtain rfl : 1 = c := by rw [← HC.out]; unfold objC; rw [if_neg (by omega), if_pos (rectC_out1 x y (by omega))]
    go_wp2_with fail
    rw [HW0.out]
    exact bodyPost_ret (v := .int .i64 1) (by simp [results, Tryd.results18, go_sem]) rfl ⟨rfl, hb0⟩
  by_cases h6 : 20 < y
  · obtain rfl : 1 = c := by rw [← HC.out]; unfold objC; rw [if_neg (by omega), if_pos (rectC_out1 x y (by omega))]
    go_wp2_with fail
    rw [HW0.out]
    exact bodyPost_ret (v := .int .i64 1) (by simp [results, Tryd.results18, go_sem]) rfl ⟨rfl, hb0⟩
  have r1 : rectC x y 0 0 = 0 := by rw [rectC_zero]; omega
  obtain ⟨_, _, _, k3, k4, k5, k6, k7, k8, k9, _, _, _, _, _, _, _, _, _, _, _, _, _⟩ := HE0.out
  rw [← HW0.out] at k6 k7 k8 k9
  go_wp2_with fail
  rw [HW0.out]
  clear k0 k1 k2 k3 k4 k5 k6 k7 k8 k9
  rcases rectC_cases cx cy cw ch with r2 | r2
  case inr =>
    obtain rfl : 1 = c := by rw [← HC.out]; unfold objC; rw [if_neg (by omega), if_neg (by omega), if_pos r2]
    refine (rfault_any cx cy cw ch _ 1 r2).mono ?_
    rintro e w1 ⟨rfl, hb1⟩
    go_wp2_with fail
    exact bodyPost_ret (v := .int .i64 1) (by simp [results, Tryd.results18, go_sem]) rfl ⟨rfl, hb0.trans (hb1.mono hb0.size)⟩
  refine (rfault_any cx cy cw ch _ 0 r2).mono ?_
  rintro e w1 ⟨rfl, hb1⟩
  have HE1 : Hid (Eleven w1 w.heap.size (.int .i64 id) (.int .i64 x) (.int .i64 y) (.int .i64 pw) (.int .i64 ph) (.slice au nu cu) (.int .i64 cx) (.int .i64 cy) (.int .i64 cw) (.int .i64 ch) (.bool sh)) := HE0.out.on hb1
  have HR1 : Hid (RdP w1 (.slice au nu cu) ps) := HR0.out.on hb1
  replace hb1 := hb0.trans (hb1.mono hb0.size)
  clear HE0 HR0 HW0 hb0
  obtain ⟨_, _, _, k3, k4, k5, k6, k7, k8, k9, _, _, _, _, _, _, _, _, _, _, _, _, _⟩ := HE1.out
  go_wp2_with fail
  have HC2 : Hid (checkL pw ph ps = c) := by show _ = _; rw [← HC.out]; unfold objC; rw [if_neg (by omega), if_neg (by omega), if_neg (by omega)]
  refine (fault_any pw ph _ ps _ (by omega) HR1 c HC2).mono ?_
  rintro e w2 ⟨rfl, hb2⟩
  go_wp2_with fail
  exact bodyPost_ret (v := .int .i64 (c : Int)) (by simp [results, Tryd.results18, go_sem]) rfl ⟨rfl, hb1.trans (hb2.mono hb1.size)⟩
end Go.Proofs.YtkmolifgfbaboaaDoor
