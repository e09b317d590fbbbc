/- Arithmetic of one pixel in front of another. -/
namespace Fb

/-- what comes through -/
def thru (aa ba : Int) : Int := (255 - aa) * ba / 255

/-- a pixel (av, aa) in front of (bv, ba) -/
def overL (av aa bv ba : Int) : Int × Int :=
  if aa + thru aa ba = 0 then (0, 0) else ((av * aa + bv * thru aa ba) / (aa + thru aa ba), aa + thru aa ba)

theorem mul_bounds (x y a b : Int) (hx : 0 ≤ x) (hxa : x ≤ a) (hy : 0 ≤ y) (hyb : y ≤ b) : 0 ≤ x * y ∧ x * y ≤ a * b :=
  ⟨Int.mul_nonneg hx hy, Int.mul_le_mul hxa hyb hy (by omega)⟩

theorem thru_bounds (aa ba : Int) (h0 : 0 ≤ aa) (h1 : aa ≤ 255) (h2 : 0 ≤ ba) (h3 : ba ≤ 255) :
    0 ≤ (255 - aa) * ba ∧ (255 - aa) * ba ≤ 65025 ∧ 0 ≤ thru aa ba ∧ thru aa ba ≤ 255 - aa ∧ thru aa ba ≤ ba ∧ ba - aa ≤ thru aa ba := by
  have a := mul_bounds (255 - aa) ba (255 - aa) 255 (by omega) (by omega) h2 h3
  have b := mul_bounds (255 - aa) ba 255 ba (by omega) (by omega) h2 (by omega)
  have c : (255 - aa) * ba = 255 * ba - aa * ba := Int.sub_mul ..
  have d := mul_bounds aa ba aa 255 h0 (by omega) h2 h3
  unfold thru
  generalize (255 - aa) * ba = m at *
  generalize aa * ba = k at *
  omega

theorem over_bounds (av aa bv ba : Int) (p0 : 0 ≤ av) (p1 : av ≤ 255) (h0 : 0 ≤ aa) (h1 : aa ≤ 255) (q0 : 0 ≤ bv) (q1 : bv ≤ 255) (h2 : 0 ≤ ba) (h3 : ba ≤ 255) :
    aa ≤ (overL av aa bv ba).2 ∧ ba ≤ (overL av aa bv ba).2 ∧ (overL av aa bv ba).2 ≤ 255 ∧ 0 ≤ (overL av aa bv ba).2 ∧ 0 ≤ (overL av aa bv ba).1 ∧ (overL av aa bv ba).1 ≤ 255 ∧
    (0 < (overL av aa bv ba).2 → min av bv ≤ (overL av aa bv ba).1 ∧ (overL av aa bv ba).1 ≤ max av bv) ∧ (aa = 255 → overL av aa bv ba = (av, aa)) ∧ (aa = 0 → overL av aa bv ba = (bv, ba) ∨ ba = 0 ∧ overL av aa bv ba = (0, 0)) := by
  obtain ⟨_, _, t0, t1, t2, t3⟩ := thru_bounds aa ba h0 h1 h2 h3
  have z1 : aa = 255 → thru aa ba = 0 := by intro e; omega
  have z0 : aa = 0 → thru aa ba = ba := by intro e; omega
  unfold overL
  generalize thru aa ba = t at *
  by_cases hc : aa + t = 0
  · simp only [hc, if_true]
    refine ⟨by omega, by omega, by omega, by omega, by omega, by omega, by omega, by omega, fun h => .inr ⟨by omega, trivial⟩⟩
  · simp only [hc, if_false]
    have hp : 0 < aa + t := by omega
    have hlo : min av bv * (aa + t) ≤ av * aa + bv * t := by
      rw [Int.mul_add]
      have := Int.mul_le_mul_of_nonneg_right (show min av bv ≤ av by omega) h0
      have := Int.mul_le_mul_of_nonneg_right (show min av bv ≤ bv by omega) t0
      omega
    have hhi : av * aa + bv * t ≤ max av bv * (aa + t) := by
      rw [Int.mul_add]
      have := Int.mul_le_mul_of_nonneg_right (show av ≤ max av bv by omega) h0
      have := Int.mul_le_mul_of_nonneg_right (show bv ≤ max av bv by omega) t0
      omega
    have k0 := Int.le_ediv_of_mul_le hp hlo
    have k1 := Int.ediv_le_of_le_mul hp hhi
    refine ⟨by omega, by omega, by omega, by omega, by omega, by omega, fun _ => ⟨k0, k1⟩, fun h => ?_, fun h => .inl ?_⟩
    · have := z1 h
      subst this h
      simp only [Int.mul_zero, Int.add_zero]
      rw [Int.mul_ediv_cancel _ (by omega)]
    · have := z0 h
      subst this h
      simp only [Int.mul_zero, Int.zero_add]
      rw [Int.mul_ediv_cancel _ (by omega)]

theorem over_sum (av aa bv t : Int) (p0 : 0 ≤ av) (p1 : av ≤ 255) (h0 : 0 ≤ aa) (h1 : aa ≤ 255) (q0 : 0 ≤ bv) (q1 : bv ≤ 255) (t0 : 0 ≤ t) (t1 : t ≤ 255) :
    0 ≤ av * aa ∧ av * aa ≤ 65025 ∧ 0 ≤ bv * t ∧ bv * t ≤ 65025 := by
  have a := mul_bounds av aa 255 255 p0 p1 h0 h1
  have b := mul_bounds bv t 255 255 q0 q1 t0 t1
  omega
end Fb
