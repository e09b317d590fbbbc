/- Walk of blend.Over. -/
import Derived.Test.YtadcmmkifcmknaaBase
import Derived.Test.YtadcmmkifcmknaaOverM
namespace Go.Proofs.Ytadcmmkifcmknaa
open Go.RowKit

def pixV (v a : Int) : Value := .agg #[.int .i64 v, .int .i64 a]

set_option maxHeartbeats 1000000 in
set_option maxRecDepth 100000 in
theorem over_any (av aa bv ba : Int) (p0 : 0 ≤ av) (p1 : av ≤ 255) (h0 : 0 ≤ aa) (h1 : aa ≤ 255) (q0 : 0 ≤ bv) (q1 : bv ≤ 255) (h2 : 0 ≤ ba) (h3 : ba ≤ 255) (W : World) (v a : Int) (HR : Hid (Fb.overL av aa bv ba = (v, a))) :
    Calls Try.prog 63 #[pixV av aa, pixV bv ba] W fun e w' => e = .returned (pixV v a) ∧ Below W.heap.size W w' := by
  have hR := HR.out
  clear HR
  obtain ⟨m0, m1, t0, t1, t2, t3⟩ := Fb.thru_bounds aa ba h0 h1 h2 h3
  unfold Fb.overL at hR
  have hthru : (255 - aa) * ba / 255 = Fb.thru aa ba := rfl
  generalize Fb.thru aa ba = t at *
  obtain ⟨m, hm⟩ : ∃ m, (255 - aa) * ba = m := ⟨_, rfl⟩
  rw [hm] at m0 m1 hthru
  have hq : m.tdiv 255 = t := by rw [Int.tdiv_eq_ediv_of_nonneg m0, hthru]
  obtain ⟨s0, s1, s2, s3⟩ := Fb.over_sum av aa bv t p0 p1 h0 h1 q0 q1 t0 (by omega)
  obtain ⟨x, hx⟩ : ∃ m, av * aa = m := ⟨_, rfl⟩
  obtain ⟨y, hy⟩ : ∃ m, bv * t = m := ⟨_, rfl⟩
  rw [hx] at s0 s1 hR
  rw [hy] at s2 s3 hR
  
  unfold pixV
  by_cases hc : aa + t = 0
  · rw [if_pos hc] at hR
    simp only [Prod.mk.injEq] at hR
    obtain ⟨rfl, rfl⟩ := hR
    have e1 : aa = 0 := by omega
    have e2 : ba = 0 := by omega
    subst e1 e2
    clear hm hq hx hy hc m0 m1 s0 s1 s2 s3 t0 t1 h0 h1 h2 h3
    go_enter Try.func63, Try.ntmps63
    go_wp2
    exact bodyPost_ret (v := .agg #[.int .i64 0, .int .i64 0]) (by simp [results, Try.results63, go_sem]) rfl ⟨rfl, ((((Below.refl _ _).alloc (Nat.le_refl _) _).alloc (by simp) _).alloc (by simp; omega) _)⟩
  · rw [if_neg hc] at hR
    simp only [Prod.mk.injEq] at hR
    obtain ⟨hv, rfl⟩ := hR
    have hd : (x + y).tdiv (aa + t) = v := by rw [Int.tdiv_eq_ediv_of_nonneg (by omega), hv]
    have hlo : 0 ≤ v := by rw [← hv]; exact Int.ediv_nonneg (by omega) (by omega)
    have hhi : v ≤ 200000 := by have := Int.ediv_le_self (aa + t) (show 0 ≤ x + y by omega); omega
    clear hv
    go_enter Try.func63, Try.ntmps63
    go_wp2
    exact bodyPost_ret (v := .agg #[.int .i64 v, .int .i64 (aa + t)]) (by simp [results, Try.results63, go_sem]) rfl ⟨rfl, ((((Below.refl _ _).alloc (Nat.le_refl _) _).alloc (by simp) _).alloc (by simp; omega) _)⟩
end Go.Proofs.Ytadcmmkifcmknaa
