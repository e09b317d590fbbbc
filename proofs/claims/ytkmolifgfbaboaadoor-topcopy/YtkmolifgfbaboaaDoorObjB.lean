/- Walk of objects.Check. -/
import Derived.Test.YtkmolifgfbaboaaDoorObjA
namespace Go.Proofs.YtkmolifgfbaboaaDoor
open Go.RowKit

/-- the number of the error of an object -/
def objC (id x y pw ph : Int) (ps : List (Int × Int)) (cx cy cw ch : Int) : Nat :=
  if id < 1 ∨ 6 < id then 1 else if rectC x y 0 0 = 1 then 1 else if rectC cx cy cw ch = 1 then 1 else checkL pw ph ps

theorem rectC_cases (x y w h : Int) : rectC x y w h = 0 ∨ rectC x y w h = 1 := by unfold rectC; split <;> simp

theorem objC_zero (id x y pw ph : Int) (ps : List (Int × Int)) (cx cy cw ch : Int) (h : objC id x y pw ph ps cx cy cw ch = 0) :
    1 ≤ id ∧ id ≤ 6 ∧ -20 ≤ x ∧ x ≤ 20 ∧ -20 ≤ y ∧ y ≤ 20 ∧ -20 ≤ cx ∧ cx ≤ 20 ∧ -20 ≤ cy ∧ cy ≤ 20 ∧ 0 ≤ cw ∧ cw ≤ 20 ∧ 0 ≤ ch ∧ ch ≤ 20 ∧ checkL pw ph ps = 0 := by
  unfold objC at h
  split at h
  · omega
  split at h
  · omega
  split at h
  · omega
  have r1 : rectC x y 0 0 = 0 := by rcases rectC_cases x y 0 0 with h | h <;> omega
  have r2 : rectC cx cy cw ch = 0 := by rcases rectC_cases cx cy cw ch with h | h <;> omega
  rw [rectC_zero] at r1 r2
  omega

set_option maxHeartbeats 2000000 in
set_option maxRecDepth 100000 in
theorem ocheck_any (id x y pw ph : Int) (u : Value) (ps : List (Int × Int)) (cx cy cw ch : Int) (sh : Bool) (w : World) (hps : ps.length ≤ 1000000000) (HR : Hid (RdP w u ps)) (c : Nat) (HC : Hid (objC id x y pw ph ps cx cy cw ch = c)) :
    Calls Tryd.prog 9 #[objV id x y pw ph u cx cy cw ch sh] w fun e w' => e = .returned (errV c) ∧ Below w.heap.size w w' := by
  unfold objV
  obtain ⟨au, cu, hvu, hlu, hcu, _⟩ := HR.out
  obtain ⟨nu, HNU⟩ : ∃ n, Hid (ps.length = n) := ⟨_, (rfl : _ = _)⟩
  rw [HNU.out] at hvu
  subst hvu
  clear hlu hcu
  have E0 := eleven_start w (.int .i64 id) (.int .i64 x) (.int .i64 y) (.int .i64 pw) (.int .i64 ph) (.slice au nu cu) (.int .i64 cx) (.int .i64 cy) (.int .i64 cw) (.int .i64 ch) (.bool sh) 41 w.heap.size rfl
  obtain ⟨W0, HW0⟩ : ∃ W0, Hid (w.alloc (.cells #[.int .i64 id, .int .i64 x, .int .i64 y, .int .i64 pw, .int .i64 ph, .slice au nu cu, .int .i64 cx, .int .i64 cy, .int .i64 cw, .int .i64 ch, .bool sh] 41) = W0) := ⟨_, (rfl : _ = _)⟩
  have hb0 : Below w.heap.size w W0 := by rw [← HW0.out]; exact (Below.refl _ _).alloc (Nat.le_refl _) _
  rw [HW0.out] at E0
  have HE0 : Hid (Eleven W0 w.heap.size (.int .i64 id) (.int .i64 x) (.int .i64 y) (.int .i64 pw) (.int .i64 ph) (.slice au nu cu) (.int .i64 cx) (.int .i64 cy) (.int .i64 cw) (.int .i64 ch) (.bool sh)) := E0
  have HR0 : Hid (RdP W0 (.slice au nu cu) ps) := HR.out.on hb0
  clear E0
  go_enter Tryd.func9, Tryd.ntmps9
  have k0 := HE0.out.c0
  rw [← HW0.out] at k0
  by_cases h1 : id < 1
  · obtain rfl : 1 = c := by rw [← HC.out]; unfold objC; simp [h1]
    go_wp2_with fail
    rw [HW0.out]
    exact bodyPost_ret (v := errV 1) (by unfold errV; simp [results, Tryd.results9, go_sem]) rfl ⟨rfl, hb0⟩
  by_cases h2 : 6 < id
  · obtain rfl : 1 = c := by rw [← HC.out]; unfold objC; simp [h2]
    go_wp2_with fail
    rw [HW0.out]
    exact bodyPost_ret (v := errV 1) (by unfold errV; simp [results, Tryd.results9, go_sem]) rfl ⟨rfl, hb0⟩
  have k1 := HE0.out.c1
  have k2 := HE0.out.c2
  rw [← HW0.out] at k1 k2
  go_wp2_with fail
  rw [HW0.out]
  clear k0 k1 k2
  rcases rectC_cases x y 0 0 with r1 | r1
  case inr =>
    obtain rfl : 1 = c := by rw [← HC.out]; unfold objC; rw [if_neg (by omega), if_pos r1]
    refine (rcheck_at x y 0 0 _ 1 r1 (.iface 50 (.int .i64 1)) rfl).mono ?_
    rintro e w1 ⟨rfl, hb1⟩
    go_wp2_with fail
    exact bodyPost_ret (v := errV 1) (by unfold errV; simp [results, Tryd.results9, go_sem]) rfl ⟨rfl, hb0.trans (hb1.mono hb0.size)⟩
  refine (rcheck_at x y 0 0 _ 0 r1 .nilIface rfl).mono ?_
  rintro e w1 ⟨rfl, hb1⟩
  have HE1 : Hid (Eleven w1 w.heap.size (.int .i64 id) (.int .i64 x) (.int .i64 y) (.int .i64 pw) (.int .i64 ph) (.slice au nu cu) (.int .i64 cx) (.int .i64 cy) (.int .i64 cw) (.int .i64 ch) (.bool sh)) := HE0.out.on hb1
  have HR1 : Hid (RdP w1 (.slice au nu cu) ps) := HR0.out.on hb1
  replace hb1 := hb0.trans (hb1.mono hb0.size)
  clear HE0 HR0 HW0 hb0
  obtain ⟨_, _, _, k3, k4, k5, k6, k7, k8, k9, _, _, _, _, _, _, _, _, _, _, _, _, _⟩ := HE1.out
  go_wp2_with fail
  clear k6 k7 k8 k9 k3 k4 k5
  rcases rectC_cases cx cy cw ch with r2 | r2
  case inr =>
    obtain rfl : 1 = c := by rw [← HC.out]; unfold objC; rw [if_neg (by omega), if_neg (by omega), if_pos r2]
    refine (rcheck_at cx cy cw ch _ 1 r2 (.iface 50 (.int .i64 1)) rfl).mono ?_
    rintro e w2 ⟨rfl, hb2⟩
    go_wp2_with fail
    exact bodyPost_ret (v := errV 1) (by unfold errV; simp [results, Tryd.results9, go_sem]) rfl ⟨rfl, hb1.trans (hb2.mono hb1.size)⟩
  refine (rcheck_at cx cy cw ch _ 0 r2 .nilIface rfl).mono ?_
  rintro e w2 ⟨rfl, hb2⟩
  have HE2 : Hid (Eleven w2 w.heap.size (.int .i64 id) (.int .i64 x) (.int .i64 y) (.int .i64 pw) (.int .i64 ph) (.slice au nu cu) (.int .i64 cx) (.int .i64 cy) (.int .i64 cw) (.int .i64 ch) (.bool sh)) := HE1.out.on hb2
  have HR2 : Hid (RdP w2 (.slice au nu cu) ps) := HR1.out.on hb2
  replace hb2 := hb1.trans (hb2.mono hb1.size)
  clear HE1 HR1 hb1
  obtain ⟨_, _, _, k3, k4, k5, k6, k7, k8, k9, _, _, _, _, _, _, _, _, _, _, _, _, _⟩ := HE2.out
  go_wp2_with fail
  have HC2 : Hid (checkL pw ph ps = c) := by show _ = _; rw [← HC.out]; unfold objC; rw [if_neg (by omega), if_neg (by omega), if_neg (by omega)]
  refine (check_any pw ph _ ps _ (by omega) HR2 c HC2).mono ?_
  rintro e w3 ⟨rfl, hb3⟩
  go_wp2_with fail
  exact bodyPost_ret (v := errV c) (by simp [results, Tryd.results9, go_sem]) rfl ⟨rfl, hb2.trans (hb3.mono hb2.size)⟩
end Go.Proofs.YtkmolifgfbaboaaDoor
