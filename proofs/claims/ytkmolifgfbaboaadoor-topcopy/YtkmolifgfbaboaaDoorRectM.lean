/- Arithmetic of two rects. -/
import Derived.Test.YtkmolifgfbaboaaDoorRectB
namespace Go.Proofs.YtkmolifgfbaboaaDoor

theorem both_has (a b c d a' b' c' d' i j : Int) (r : Int × Int × Int × Int) (hr : bothL a b c d a' b' c' d' = r) :
    hasB r.1 r.2.1 r.2.2.1 r.2.2.2 i j = (hasB a b c d i j && hasB a' b' c' d' i j) := by
  rw [Bool.eq_iff_iff, Bool.and_eq_true, hasB_iff, hasB_iff, hasB_iff]
  subst hr
  unfold bothL
  split
  · simp only; omega
  · simp only; omega

theorem both_empty (a b c d a' b' c' d' : Int) (r : Int × Int × Int × Int) (hr : bothL a b c d a' b' c' d' = r) (h : r ≠ (0, 0, 0, 0)) :
    hasB a b c d r.1 r.2.1 = true ∧ hasB a' b' c' d' r.1 r.2.1 = true := by
  rw [hasB_iff, hasB_iff]
  subst hr
  unfold bothL at h ⊢
  split
  · rename_i h1; rw [if_pos h1] at h; exact absurd rfl h
  · simp only; omega

set_option linter.unusedVariables false in
theorem both_bounds (a b c d a' b' c' d' M : Int) (h0 : -M ≤ a) (h1 : a ≤ M) (h2 : -M ≤ b) (h3 : b ≤ M) (h4 : 0 ≤ c) (h5 : c ≤ M) (h6 : 0 ≤ d) (h7 : d ≤ M)
    (k0 : -M ≤ a') (k1 : a' ≤ M) (k2 : -M ≤ b') (k3 : b' ≤ M) (k4 : 0 ≤ c') (k5 : c' ≤ M) (k6 : 0 ≤ d') (k7 : d' ≤ M) (r : Int × Int × Int × Int) (hr : bothL a b c d a' b' c' d' = r) :
    -M ≤ r.1 ∧ r.1 ≤ M ∧ -M ≤ r.2.1 ∧ r.2.1 ≤ M ∧ 0 ≤ r.2.2.1 ∧ r.2.2.1 ≤ M ∧ 0 ≤ r.2.2.2 ∧ r.2.2.2 ≤ M := by
  subst hr
  unfold bothL
  split
  · simp only; omega
  · simp only; omega
theorem both_comm (a b c d a' b' c' d' : Int) : bothL a' b' c' d' a b c d = bothL a b c d a' b' c' d' := by
  unfold bothL
  rw [Int.max_comm a' a, Int.max_comm b' b, Int.min_comm (a' + c'), Int.min_comm (b' + d')]
theorem both_self (a b c d : Int) : bothL a b c d a b c d = if c ≤ 0 ∨ d ≤ 0 then (0, 0, 0, 0) else (a, b, c, d) := by
  unfold bothL
  rw [Int.max_self, Int.max_self, Int.min_self, Int.min_self, Int.add_comm a c, Int.add_comm b d, Int.add_sub_cancel, Int.add_sub_cancel]
end Go.Proofs.YtkmolifgfbaboaaDoor
