/- What is parsed is not too long. -- s1 -/
import Derived.Test.YtfhfedcamcpceaaDoorM4
import Derived.Test.YtfhfedcamcpceaaDoorRefBJ
namespace Go.Proofs.YtfhfedcamcpceaaDoor
open Go.RowKit

theorem parseRows_lenP (rs : List UInt8) (W : Nat) : ∀ f k ab, (parseRows rs W f k ab).1.length ≤ f * W
  | 0, k, ab => by simp [parseRows]
  | f + 1, k, ab => by
    rw [parseRows]
    split
    · simp
    · split
      · simp
      · have ih := parseRows_lenP rs W f (k + 1) (Fb.restL (rs.getD (k * (1 + 2 * W)) 0).toNat ((rs.drop (k * (1 + 2 * W) + 1)).take (2 * W)) ab)
        have h2 : (Fb.restL (rs.getD (k * (1 + 2 * W)) 0).toNat ((rs.drop (k * (1 + 2 * W) + 1)).take (2 * W)) ab).length ≤ 2 * W := by
          unfold Fb.restL; rw [Fb.restTo_len]; exact List.length_take_le _ _
        simp only [List.length_append, pixOf_length, Nat.add_mul, Nat.one_mul]
        omega
theorem parse_lenP (l : List UInt8) (W' H' c : Nat) (ps : List (Int × Int)) (h : parseL l = (W', H', ps, c)) : ps.length ≤ 64 := by
  unfold parseL at h
  split at h
  · simp at h; obtain ⟨_, _, rfl, _⟩ := h; simp
  · split at h
    · simp at h; obtain ⟨_, _, rfl, _⟩ := h; simp
    · rename_i hs
      split at h
      · simp at h; obtain ⟨_, _, rfl, _⟩ := h; simp
      · split at h
        · simp at h; obtain ⟨_, _, rfl, _⟩ := h; simp
        · split at h
          · simp at h; obtain ⟨_, _, rfl, _⟩ := h; simp
          · simp only [Prod.mk.injEq] at h
            obtain ⟨_, _, rfl, _⟩ := h
            refine Nat.le_trans (parseRows_lenP _ _ _ _ _) ?_
            have h1 : (l.getD 0 0).toNat ≤ 8 ∧ (l.getD 1 0).toNat ≤ 8 := by
              have ha : sideB ((l.getD 0 0).toNat : Int) = true := by
                cases h : sideB ((l.getD 0 0).toNat : Int) with
                | false => exact absurd (Or.inl h) hs
                | true => rfl
              have hb : sideB ((l.getD 1 0).toNat : Int) = true := by
                cases h : sideB ((l.getD 1 0).toNat : Int) with
                | false => exact absurd (Or.inr h) hs
                | true => rfl
              unfold sideB at ha hb
              simp only [Bool.and_eq_true, decide_eq_true_eq] at ha hb
              omega
            exact Nat.mul_le_mul h1.2 h1.1
end Go.Proofs.YtfhfedcamcpceaaDoor
