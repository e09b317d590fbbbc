/- Pictures as lists: some of the places are other ones. -/
import Derived.Test.YtkmolifgfbaboaaDoorRectM
import Derived.Test.YtkmolifgfbaboaaDoorBase
namespace Go.Proofs.YtkmolifgfbaboaaDoor

/-- of n pixels, row by row, those where cond is are others -/
def gridL (W n : Nat) (cond : Nat → Nat → Bool) (g : Nat → Int × Int) (ps : List (Int × Int)) : List (Int × Int) :=
  (List.range n).map fun k => if cond (k % W) (k / W) then g k else ps.getD k (0, 0)

theorem grid_len (W n : Nat) (cond : Nat → Nat → Bool) (g : Nat → Int × Int) (ps : List (Int × Int)) : (gridL W n cond g ps).length = n := by simp [gridL]
theorem grid_at (W n : Nat) (cond : Nat → Nat → Bool) (g : Nat → Int × Int) (ps : List (Int × Int)) (k : Nat) (hk : k < n) : (gridL W n cond g ps)[k]? = some (if cond (k % W) (k / W) then g k else ps.getD k (0, 0)) := by
  simp [gridL, hk]
theorem grid_getD (W n : Nat) (cond : Nat → Nat → Bool) (g : Nat → Int × Int) (ps : List (Int × Int)) (k : Nat) (hk : k < n) : (gridL W n cond g ps).getD k (0, 0) = if cond (k % W) (k / W) then g k else ps.getD k (0, 0) := by
  rw [List.getD_eq_getElem?_getD, grid_at _ _ _ _ _ _ hk]; rfl
theorem grid_congr (W n : Nat) (c1 c2 : Nat → Nat → Bool) (g : Nat → Int × Int) (ps : List (Int × Int)) (h : ∀ k, k < n → c1 (k % W) (k / W) = c2 (k % W) (k / W)) : gridL W n c1 g ps = gridL W n c2 g ps := by
  unfold gridL
  apply List.map_congr_left
  intro k hk
  rw [h k (by simpa using hk)]
theorem grid_start (W n : Nat) (cond : Nat → Nat → Bool) (g : Nat → Int × Int) (ps : List (Int × Int)) (hl : ps.length = n) (h : ∀ k, k < n → cond (k % W) (k / W) = false) : gridL W n cond g ps = ps := by
  apply List.ext_getElem?
  intro k
  by_cases hk : k < n
  · rw [grid_at _ _ _ _ _ _ hk, h k hk]
    simp [List.getD_eq_getElem?_getD, List.getElem?_eq_getElem (show k < ps.length by omega)]
  · rw [List.getElem?_eq_none (by rw [grid_len]; omega), List.getElem?_eq_none (by omega)]
theorem grid_set (W n C R : Nat) (cond : Nat → Nat → Bool) (g : Nat → Int × Int) (ps : List (Int × Int)) (hC : C < W) (hk : R * W + C < n) :
    (gridL W n cond g ps).set (R * W + C) (g (R * W + C)) = gridL W n (fun c r => cond c r || (c == C && r == R)) g ps := by
  apply List.ext_getElem?
  intro k
  have h1 : (R * W + C) % W = C := by rw [Nat.add_comm, Nat.add_mul_mod_self_right, Nat.mod_eq_of_lt hC]
  have h2 : (R * W + C) / W = R := by rw [Nat.add_comm, Nat.add_mul_div_right _ _ (by omega), Nat.div_eq_of_lt hC, Nat.zero_add]
  by_cases hkn : k < n
  · rw [grid_at _ _ _ _ _ _ hkn]
    by_cases he : k = R * W + C
    · subst he
      rw [List.getElem?_set_self (by rw [grid_len]; exact hk), h1, h2]
      simp
    · rw [List.getElem?_set_ne (by omega), grid_at _ _ _ _ _ _ hkn]
      have hne : (k % W == C && k / W == R) = false := by
        rw [Bool.eq_false_iff]
        intro h
        simp only [Bool.and_eq_true, beq_iff_eq] at h
        apply he
        have := Nat.div_add_mod k W
        rw [h.1, h.2, Nat.mul_comm] at this
        omega
      simp only [hne, Bool.or_false]
  · rw [List.getElem?_eq_none (by simp [grid_len]; omega), List.getElem?_eq_none (by rw [grid_len]; omega)]

theorem pixCells_set : ∀ (ps : List (Int × Int)) (k : Nat) (v a : Int), ((pixCells ps).set (k * 2) (.int .i64 v)).set (k * 2 + 1) (.int .i64 a) = pixCells (ps.set k (v, a))
  | [], k, v, a => by simp [pixCells]
  | (x, y) :: r, 0, v, a => by simp [pixCells]
  | (x, y) :: r, k + 1, v, a => by
    rw [show (k + 1) * 2 = k * 2 + 1 + 1 by omega]
    simp only [pixCells, List.set_cons_succ]
    rw [pixCells_set r k v a]

/-- the places that are done, where the row R is under way, its columns up to C -/
def upto (x y w h R C : Int) (c r : Nat) : Bool := hasB x y w h (c : Int) (r : Int) && (decide ((r : Int) < R) || decide ((r : Int) = R) && decide ((c : Int) < C))
theorem upto_iff (x y w h R C : Int) (c r : Nat) : upto x y w h R C c r = true ↔ (x ≤ c ∧ (c : Int) < x + w ∧ y ≤ r ∧ (r : Int) < y + h) ∧ ((r : Int) < R ∨ (r : Int) = R ∧ (c : Int) < C) := by
  unfold upto; rw [Bool.and_eq_true, hasB_iff]; simp

/-- the new pixel at a place -/
def gq (f : Int × Int → Int × Int → Int × Int) (PW : Nat) (ps : List (Int × Int)) (QW : Nat) (qs : List (Int × Int)) (x y : Int) (k : Nat) : Int × Int :=
  f (ps.getD k (0, 0)) (qs.getD ((((k / PW : Nat) : Int) - y) * (QW : Int) + ((k % PW : Nat) : Int) - x).toNat (0, 0))
/-- what change answers -/
def chL (f : Int × Int → Int × Int → Int × Int) (PW : Nat) (ps : List (Int × Int)) (QW QH : Nat) (qs : List (Int × Int)) (x y a b c d : Int) : List (Int × Int) :=
  gridL PW ps.length (fun cc rr => hasB a b c d (cc : Int) (rr : Int) && hasB x y (QW : Int) (QH : Int) (cc : Int) (rr : Int)) (gq f PW ps QW qs x y) ps

theorem mod_div_lt (PW PH k : Nat) (h : k < PW * PH) (hP : 0 < PW) : k % PW < PW ∧ k / PW < PH := ⟨Nat.mod_lt _ hP, Nat.div_lt_of_lt_mul h⟩
theorem upto_start (PW PH : Nat) (g : Nat → Int × Int) (ps : List (Int × Int)) (x y w h : Int) (hl : ps.length = PW * PH) : gridL PW (PW * PH) (upto x y w h y x) g ps = ps := by
  apply grid_start _ _ _ _ _ hl
  intro k _
  rw [Bool.eq_false_iff]
  intro hh
  rw [upto_iff] at hh
  omega
theorem upto_step (PW PH R C : Nat) (g : Nat → Int × Int) (ps : List (Int × Int)) (x y w h : Int) (hC : C < PW) (hR : R < PH) (h0 : x ≤ C) (h1 : (C : Int) < x + w) (h2 : y ≤ R) (h3 : (R : Int) < y + h) :
    (gridL PW (PW * PH) (upto x y w h R C) g ps).set (R * PW + C) (g (R * PW + C)) = gridL PW (PW * PH) (upto x y w h R ((C : Int) + 1)) g ps := by
  rw [grid_set _ _ _ _ _ _ _ hC (by
    have : (R + 1) * PW ≤ PH * PW := Nat.mul_le_mul_right _ hR
    rw [Nat.mul_comm PW PH]; rw [Nat.add_mul] at this; omega)]
  apply grid_congr
  intro k _
  rw [Bool.eq_iff_iff, Bool.or_eq_true, upto_iff, upto_iff]
  simp only [Bool.and_eq_true, beq_iff_eq]
  omega
theorem upto_row (PW PH : Nat) (g : Nat → Int × Int) (ps : List (Int × Int)) (x y w h R : Int) : gridL PW (PW * PH) (upto x y w h R (x + w)) g ps = gridL PW (PW * PH) (upto x y w h (R + 1) x) g ps := by
  apply grid_congr
  intro k _
  rw [Bool.eq_iff_iff, upto_iff, upto_iff]
  omega
/-- all is done -/
theorem upto_end (f : Int × Int → Int × Int → Int × Int) (PW PH : Nat) (ps : List (Int × Int)) (QW QH : Nat) (qs : List (Int × Int)) (x y a b c d : Int) (r1 r2 : Int × Int × Int × Int) (hP : 0 < PW) (hl : ps.length = PW * PH)
    (h1 : bothL 0 0 PW PH x y QW QH = r1) (h2 : bothL a b c d r1.1 r1.2.1 r1.2.2.1 r1.2.2.2 = r2) :
    gridL PW (PW * PH) (upto r2.1 r2.2.1 r2.2.2.1 r2.2.2.2 (r2.2.1 + r2.2.2.2) r2.1) (gq f PW ps QW qs x y) ps = chL f PW ps QW QH qs x y a b c d := by
  unfold chL
  rw [hl]
  apply grid_congr
  intro k hk
  obtain ⟨hm, hd⟩ := mod_div_lt PW PH k hk hP
  have e2 := both_has a b c d r1.1 r1.2.1 r1.2.2.1 r1.2.2.2 ((k % PW : Nat) : Int) ((k / PW : Nat) : Int) r2 h2
  have e1 := both_has 0 0 PW PH x y QW QH ((k % PW : Nat) : Int) ((k / PW : Nat) : Int) r1 h1
  have e00 : ∀ m d : Nat, m < PW → d < PH → hasB 0 0 PW PH (m : Int) (d : Int) = true := by intro m d h1 h2; rw [hasB_iff]; omega
  have e0 := e00 _ _ hm hd
  rw [e1, e0, Bool.true_and] at e2
  rw [← e2, Bool.eq_iff_iff, upto_iff, hasB_iff]
  omega
end Go.Proofs.YtkmolifgfbaboaaDoor
