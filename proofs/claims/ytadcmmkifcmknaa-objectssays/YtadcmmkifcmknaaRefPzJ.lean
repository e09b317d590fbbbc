/- What the reference's OpFault, where it is 0, says of an op. -/
import Derived.Test.YtadcmmkifcmknaaRefPJ
namespace Go.Proofs.Ytadcmmkifcmknaa
open Go.RowKit
set_option linter.unusedSimpArgs false

/-- the kinds -/
theorem rfC_kind {q : Pq} (h : rfC q = 0) : 1 ≤ q.kind ∧ q.kind ≤ 16 := by
  unfold rfC at h
  split at h
  · cases h
  · omega
/-- a picture's op has a picture that is fine, an ID, and numbers in their bounds -/
theorem rfC_pict {q : Pq} (h : rfC q = 0) (hk : q.kind = 2) : checkL q.pw q.ph q.ps = 0 ∧ 1 ≤ q.id ∧ q.id ≤ 6 := by
  obtain ⟨kd, id, a, b, c, d, pw, ph, ps⟩ := q
  simp only at hk
  subst hk
  simp [rfC, rowR, numR] at h
  split at h
  · cases h
  split at h
  · cases h
  · simp only; omega
theorem rfC_lay {q : Pq} (h : rfC q = 0) (hk : q.kind = 8 ∨ q.kind = 9) : checkL q.pw q.ph q.ps = 0 ∧ -20 ≤ q.a ∧ q.a ≤ 20 ∧ -20 ≤ q.b ∧ q.b ≤ 20 := by
  obtain ⟨kd, id, a, b, c, d, pw, ph, ps⟩ := q
  simp only at hk
  rcases hk with rfl | rfl
  all_goals
    simp [rfC, rowR, numR] at h
    split at h
    · cases h
    split at h
    · cases h
    split at h
    · cases h
    · simp only; omega
/-- what an op is that is fine and is Do's -/
theorem rfC_pre {q : Pq} (h : rfC q = 0) : (q.kind = 8 ∨ q.kind = 9 → checkL q.pw q.ph q.ps = 0 ∧ -20 ≤ q.a ∧ q.a ≤ 20 ∧ -20 ≤ q.b ∧ q.b ≤ 20) := fun hk => rfC_lay h hk
end Go.Proofs.Ytadcmmkifcmknaa
