/- A picture that is gone over place by place, as the reference does. -/
import Derived.Test.YtnjnelfmfijgjabLayM
namespace Go.Proofs.Ytnjnelfmfijgjab
open Go.RowKit

def uptoC (C : Nat → Nat → Bool) (R U : Nat) (c r : Nat) : Bool := C c r && (decide (r < R) || decide (r = R) && decide (c < U))
theorem uptoC_iff (C : Nat → Nat → Bool) (R U c r : Nat) : uptoC C R U c r = true ↔ C c r = true ∧ (r < R ∨ r = R ∧ c < U) := by
  unfold uptoC; simp
theorem refG_start (PW n : Nat) (C : Nat → Nat → Bool) (g : Nat → Int × Int) (ps : List (Int × Int)) (hl : ps.length = n) : gridL PW n (uptoC C 0 0) g ps = ps := by
  apply grid_start _ _ _ _ _ hl
  intro k _
  unfold uptoC; simp
theorem refG_set (PW PH R U : Nat) (C : Nat → Nat → Bool) (g : Nat → Int × Int) (ps : List (Int × Int)) (hU : U < PW) (hR : R < PH) (hC : C U R = true) :
    (gridL PW (PW * PH) (uptoC C R U) g ps).set (R * PW + U) (g (R * PW + U)) = gridL PW (PW * PH) (uptoC C R (U + 1)) g ps := by
  rw [grid_set _ _ _ _ _ _ _ hU (by
    have : (R + 1) * PW ≤ PH * PW := Nat.mul_le_mul_right _ hR
    rw [Nat.mul_comm PW PH]; rw [Nat.add_mul] at this; omega)]
  apply grid_congr
  intro k _
  rw [Bool.eq_iff_iff, Bool.or_eq_true, uptoC_iff, uptoC_iff]
  simp only [Bool.and_eq_true, beq_iff_eq]
  constructor
  · rintro (⟨h, h'⟩ | ⟨h, h'⟩)
    · exact ⟨h, by omega⟩
    · rw [h, h']; exact ⟨hC, by omega⟩
  · rintro ⟨h, h'⟩
    by_cases e : k % PW = U ∧ k / PW = R
    · exact .inr e
    · exact .inl ⟨h, by omega⟩
theorem refG_skip (PW PH R U : Nat) (C : Nat → Nat → Bool) (g : Nat → Int × Int) (ps : List (Int × Int)) (hC : C U R = false) :
    gridL PW (PW * PH) (uptoC C R U) g ps = gridL PW (PW * PH) (uptoC C R (U + 1)) g ps := by
  apply grid_congr
  intro k _
  rw [Bool.eq_iff_iff, uptoC_iff, uptoC_iff]
  constructor
  · rintro ⟨h, h'⟩; exact ⟨h, by omega⟩
  · rintro ⟨h, h'⟩
    by_cases e : k % PW = U ∧ k / PW = R
    · rw [e.1, e.2, hC] at h; cases h
    · exact ⟨h, by omega⟩
theorem refG_row (PW PH R : Nat) (C : Nat → Nat → Bool) (g : Nat → Int × Int) (ps : List (Int × Int)) (hP : 0 < PW) : gridL PW (PW * PH) (uptoC C R PW) g ps = gridL PW (PW * PH) (uptoC C (R + 1) 0) g ps := by
  apply grid_congr
  intro k hk
  have := mod_div_lt PW PH k hk hP
  rw [Bool.eq_iff_iff, uptoC_iff, uptoC_iff]
  constructor
  · rintro ⟨h, h'⟩; exact ⟨h, by omega⟩
  · rintro ⟨h, h'⟩; exact ⟨h, by omega⟩
theorem refG_end (PW PH : Nat) (C : Nat → Nat → Bool) (g : Nat → Int × Int) (ps : List (Int × Int)) (hP : 0 < PW) : gridL PW (PW * PH) (uptoC C PH 0) g ps = gridL PW (PW * PH) C g ps := by
  apply grid_congr
  intro k hk
  have := mod_div_lt PW PH k hk hP
  rw [Bool.eq_iff_iff, uptoC_iff]
  constructor
  · rintro ⟨h, _⟩; exact h
  · intro h; exact ⟨h, by omega⟩

/-- where an object is seen -/
def layC (QW QH : Nat) (x y a b c d : Int) (sh : Bool) (cc rr : Nat) : Bool := sh && (hasB a b c d (cc : Int) (rr : Int) && hasB x y (QW : Int) (QH : Int) (cc : Int) (rr : Int))
theorem layC_end (PW PH : Nat) (ps : List (Int × Int)) (QW QH : Nat) (qs : List (Int × Int)) (x y a b c d : Int) (sh : Bool) (hP : 0 < PW) (hl : ps.length = PW * PH) :
    gridL PW (PW * PH) (uptoC (layC QW QH x y a b c d sh) PH 0) (gq (fun p q => Fb.overL q.1 q.2 p.1 p.2) PW ps QW qs x y) ps = layL PW ps QW QH qs x y a b c d sh := by
  rw [refG_end _ _ _ _ _ hP]
  unfold layL chL
  cases sh
  · apply grid_start _ _ _ _ _ hl
    intro k _
    unfold layC; simp
  · simp only [if_true]
    rw [hl]
    apply grid_congr
    intro k _
    unfold layC; simp
theorem chC_end (f : Int × Int → Int × Int → Int × Int) (PW PH : Nat) (ps : List (Int × Int)) (QW QH : Nat) (qs : List (Int × Int)) (x y : Int) (hP : 0 < PW) (hl : ps.length = PW * PH) :
    gridL PW (PW * PH) (uptoC (fun cc rr => hasB x y (QW : Int) (QH : Int) (cc : Int) (rr : Int)) PH 0) (gq f PW ps QW qs x y) ps = chL f PW ps QW QH qs x y 0 0 (PW : Int) (PH : Int) := by
  rw [refG_end _ _ _ _ _ hP]
  unfold chL
  rw [hl]
  apply grid_congr
  intro k hk
  have := mod_div_lt PW PH k hk hP
  show hasB x y (QW : Int) (QH : Int) ((k % PW : Nat) : Int) ((k / PW : Nat) : Int) = (hasB 0 0 (PW : Int) (PH : Int) ((k % PW : Nat) : Int) ((k / PW : Nat) : Int) && hasB x y (QW : Int) (QH : Int) ((k % PW : Nat) : Int) ((k / PW : Nat) : Int))
  generalize k % PW = u at *
  generalize k / PW = v at *
  have h : hasB 0 0 (PW : Int) (PH : Int) (u : Int) (v : Int) = true := (hasB_iff _ _ _ _ _ _).2 (by omega)
  rw [h]; simp
end Go.Proofs.Ytnjnelfmfijgjab
