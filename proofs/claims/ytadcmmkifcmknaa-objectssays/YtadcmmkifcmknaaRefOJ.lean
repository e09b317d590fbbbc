/- Walks of the reference's Over and ObjectFault. -/
import Derived.Test.YtadcmmkifcmknaaM6
import Derived.Test.YtadcmmkifcmknaaFaultBJ
import Derived.Deep.RegionHeld3
namespace Go.Proofs.Ytadcmmkifcmknaa
open Go.RowKit

set_option maxHeartbeats 1000000 in
set_option maxRecDepth 100000 in
theorem refOver_any (av aa bv ba : Int) (p0 : 0 ≤ av) (p1 : av ≤ 255) (h0 : 0 ≤ aa) (h1 : aa ≤ 255) (q0 : 0 ≤ bv) (q1 : bv ≤ 255) (h2 : 0 ≤ ba) (h3 : ba ≤ 255) (W : World) (v a : Int) (HR : Hid (Fb.overL av aa bv ba = (v, a))) :
    Calls Try.prog 64 #[pixV av aa, pixV bv ba] W fun e w' => e = .returned (pixV v a) ∧ Below W.heap.size W w' := by
  have hR := HR.out
  clear HR
  obtain ⟨m0, m1, t0, t1, t2, t3⟩ := Fb.thru_bounds aa ba h0 h1 h2 h3
  unfold Fb.overL at hR
  have hthru : (255 - aa) * ba / 255 = Fb.thru aa ba := rfl
  generalize Fb.thru aa ba = t at *
  obtain ⟨m, hm⟩ : ∃ m, (255 - aa) * ba = m := ⟨_, rfl⟩
  rw [hm] at m0 m1 hthru
  have hq : m.tdiv 255 = t := by rw [Int.tdiv_eq_ediv_of_nonneg m0, hthru]
  obtain ⟨s0, s1, s2, s3⟩ := Fb.over_sum av aa bv t p0 p1 h0 h1 q0 q1 t0 (by omega)
  obtain ⟨x, hx⟩ : ∃ m, av * aa = m := ⟨_, rfl⟩
  obtain ⟨y, hy⟩ : ∃ m, bv * t = m := ⟨_, rfl⟩
  rw [hx] at s0 s1 hR
  rw [hy] at s2 s3 hR
  
  unfold pixV
  by_cases hc : aa + t = 0
  · rw [if_pos hc] at hR
    simp only [Prod.mk.injEq] at hR
    obtain ⟨rfl, rfl⟩ := hR
    have e1 : aa = 0 := by omega
    have e2 : ba = 0 := by omega
    subst e1 e2
    clear hm hq hx hy hc m0 m1 s0 s1 s2 s3 t0 t1 h0 h1 h2 h3
    go_enter Try.func64, Try.ntmps64
    go_wp2
    exact bodyPost_ret (v := .agg #[.int .i64 0, .int .i64 0]) (by simp [results, Try.results64, go_sem]) rfl ⟨rfl, ((((Below.refl _ _).alloc (Nat.le_refl _) _).alloc (by simp) _).alloc (by simp; omega) _)⟩
  · rw [if_neg hc] at hR
    simp only [Prod.mk.injEq] at hR
    obtain ⟨hv, rfl⟩ := hR
    have hd : (x + y).tdiv (aa + t) = v := by rw [Int.tdiv_eq_ediv_of_nonneg (by omega), hv]
    have hlo : 0 ≤ v := by rw [← hv]; exact Int.ediv_nonneg (by omega) (by omega)
    have hhi : v ≤ 200000 := by have := Int.ediv_le_self (aa + t) (show 0 ≤ x + y by omega); omega
    clear hv
    go_enter Try.func64, Try.ntmps64
    go_wp2
    have U0 := ((two_start W (.int .i64 av) (.int .i64 aa) 33 W.heap.size rfl).alloc (.cells #[.int .i64 bv, .int .i64 ba] 33)).alloc (.cells #[.int .i64 0, .int .i64 0] 33)
    have U1 := (two_start (W.alloc (.cells #[.int .i64 av, .int .i64 aa] 33)) (.int .i64 bv) (.int .i64 ba) 33 (W.heap.size + 1) (by simp)).alloc (.cells #[.int .i64 0, .int .i64 0] 33)
    have U2 := two_start ((W.alloc (.cells #[.int .i64 av, .int .i64 aa] 33)).alloc (.cells #[.int .i64 bv, .int .i64 ba] 33)) (.int .i64 0) (.int .i64 0) 33 (W.heap.size + 1 + 1) (by simp)
    have hb0 : Below W.heap.size W (((W.alloc (.cells #[.int .i64 av, .int .i64 aa] 33)).alloc (.cells #[.int .i64 bv, .int .i64 ba] 33)).alloc (.cells #[.int .i64 0, .int .i64 0] 33)) := (((Below.refl _ _).alloc (Nat.le_refl _) _).alloc (by simp) _).alloc (by simp; omega) _
    obtain ⟨W0, HW0⟩ : ∃ W0, Hid (((W.alloc (.cells #[.int .i64 av, .int .i64 aa] 33)).alloc (.cells #[.int .i64 bv, .int .i64 ba] 33)).alloc (.cells #[.int .i64 0, .int .i64 0] 33) = W0) := ⟨_, (rfl : _ = _)⟩
    rw [HW0.out] at U0 U1 U2 hb0
    rw [HW0.out]
    have hwx : IntKind.i64.wrap x = x := by rw [IntKind.wrap_i64]; omega
    have hwy : IntKind.i64.wrap y = y := by rw [IntKind.wrap_i64]; omega
    have hwz : IntKind.i64.wrap (x + y) = x + y := by rw [IntKind.wrap_i64]; omega
    have ⟨x0, x1, _, _, _⟩ := U0
    have ⟨y0, y1, _, _, _⟩ := U1
    have ⟨z0, z1, g0, g1, _⟩ := U2
    have hwv : IntKind.i64.wrap v = v := by rw [IntKind.wrap_i64]; omega
    have hws : IntKind.i64.wrap (aa + t) = aa + t := by rw [IntKind.wrap_i64]; omega
    have hquo : ∀ X, (binOp .quo 3 (.int .i64 (x + y)) (.int .i64 (aa + t))).run Try.prog X = .ok (.int .i64 v) X := by
      intro X
      have hne : ¬ (aa + t = 0) := hc
      simp [binOp, go_sem, hne, hd, hwv]
    have hk : ∀ u0 u1, ((W0.setCell ⟨W.heap.size + 1 + 1, 0, none⟩ u0).setCell ⟨W.heap.size + 1 + 1, 1, none⟩ u1).cell? ⟨W.heap.size, 0, none⟩ = some (.int .i64 av) ∧ ((W0.setCell ⟨W.heap.size + 1 + 1, 0, none⟩ u0).setCell ⟨W.heap.size + 1 + 1, 1, none⟩ u1).cell? ⟨W.heap.size, 1, none⟩ = some (.int .i64 aa) ∧ ((W0.setCell ⟨W.heap.size + 1 + 1, 0, none⟩ u0).setCell ⟨W.heap.size + 1 + 1, 1, none⟩ u1).cell? ⟨W.heap.size + 1, 0, none⟩ = some (.int .i64 bv) ∧ ((W0.setCell ⟨W.heap.size + 1 + 1, 0, none⟩ u0).setCell ⟨W.heap.size + 1 + 1, 1, none⟩ u1).cell? ⟨W.heap.size + 1, 1, none⟩ = some (.int .i64 ba) := by
      intro u0 u1
      have h0 : Two ((W0.setCell ⟨W.heap.size + 1 + 1, 0, none⟩ u0).setCell ⟨W.heap.size + 1 + 1, 1, none⟩ u1) W.heap.size (.int .i64 av) (.int .i64 aa) := (U0.other (by omega)).other (by omega)
      have h1 : Two ((W0.setCell ⟨W.heap.size + 1 + 1, 0, none⟩ u0).setCell ⟨W.heap.size + 1 + 1, 1, none⟩ u1) (W.heap.size + 1) (.int .i64 bv) (.int .i64 ba) := (U1.other (by omega)).other (by omega)
      exact ⟨h0.c0, h0.c1, h1.c0, h1.c1⟩
    clear U0 U1 U2
    go_region_held3 (fun w' => w'.cell? ⟨W.heap.size, 0, none⟩ = some (.int .i64 av) ∧ w'.cell? ⟨W.heap.size, 1, none⟩ = some (.int .i64 aa) ∧ w'.cell? ⟨W.heap.size + 1, 0, none⟩ = some (.int .i64 bv) ∧ w'.cell? ⟨W.heap.size + 1, 1, none⟩ = some (.int .i64 ba))
      (first
        | exact ⟨x0, x1, y0, y1⟩
        | exact hk _ _
        | fail)
      (fail)
    go_wp2_with fail
    exact bodyPost_ret (v := .agg #[.int .i64 v, .int .i64 (aa + t)]) (by simp [results, Try.results64, go_sem, z0, z1]) rfl ⟨rfl, ((hb0.setCell (by simp; omega) _).setCell (by simp; omega) _).drew⟩


theorem rectC_out1 (x y : Int) (h : x < -20 ∨ 20 < x ∨ y < -20 ∨ 20 < y) : rectC x y 0 0 = 1 := by
  rcases rectC_cases x y 0 0 with r | r
  · rw [rectC_zero] at r; omega
  · exact r
set_option maxHeartbeats 2000000 in
set_option maxRecDepth 100000 in
theorem ofault_any (id x y pw ph : Int) (u : Value) (ps : List (Int × Int)) (cx cy cw ch : Int) (sh : Bool) (w : World) (hps : ps.length ≤ 1000000000) (HR : Hid (RdP w u ps)) (c : Nat) (HC : Hid (objC id x y pw ph ps cx cy cw ch = c)) :
    Calls Try.prog 10 #[objV id x y pw ph u cx cy cw ch sh] w fun e w' => e = .returned (.int .i64 (c : Int)) ∧ Below w.heap.size w w' := by
  unfold objV
  obtain ⟨au, cu, hvu, hlu, hcu, _⟩ := HR.out
  obtain ⟨nu, HNU⟩ : ∃ n, Hid (ps.length = n) := ⟨_, (rfl : _ = _)⟩
  rw [HNU.out] at hvu
  subst hvu
  clear hlu hcu
  have E0 := eleven_start w (.int .i64 id) (.int .i64 x) (.int .i64 y) (.int .i64 pw) (.int .i64 ph) (.slice au nu cu) (.int .i64 cx) (.int .i64 cy) (.int .i64 cw) (.int .i64 ch) (.bool sh) 29 w.heap.size rfl
  obtain ⟨W0, HW0⟩ : ∃ W0, Hid (w.alloc (.cells #[.int .i64 id, .int .i64 x, .int .i64 y, .int .i64 pw, .int .i64 ph, .slice au nu cu, .int .i64 cx, .int .i64 cy, .int .i64 cw, .int .i64 ch, .bool sh] 29) = W0) := ⟨_, (rfl : _ = _)⟩
  have hb0 : Below w.heap.size w W0 := by rw [← HW0.out]; exact (Below.refl _ _).alloc (Nat.le_refl _) _
  rw [HW0.out] at E0
  have HE0 : Hid (Eleven W0 w.heap.size (.int .i64 id) (.int .i64 x) (.int .i64 y) (.int .i64 pw) (.int .i64 ph) (.slice au nu cu) (.int .i64 cx) (.int .i64 cy) (.int .i64 cw) (.int .i64 ch) (.bool sh)) := E0
  have HR0 : Hid (RdP W0 (.slice au nu cu) ps) := HR.out.on hb0
  clear E0
  go_enter Try.func10, Try.ntmps10
  obtain ⟨k0, k1, k2, _, _, _, _, _, _, _, _, _, _, _, _, _, _, _, _, _, _, _, _⟩ := HE0.out
  rw [← HW0.out] at k0 k1 k2
  by_cases h1 : id < 1
  · obtain rfl : 1 = c := by rw [← HC.out]; unfold objC; simp [h1]
    go_wp2_with fail
    rw [HW0.out]
    exact bodyPost_ret (v := .int .i64 1) (by simp [results, Try.results10, go_sem]) rfl ⟨rfl, hb0⟩
  by_cases h2 : 6 < id
  · obtain rfl : 1 = c := by rw [← HC.out]; unfold objC; simp [h2]
    go_wp2_with fail
    rw [HW0.out]
    exact bodyPost_ret (v := .int .i64 1) (by simp [results, Try.results10, go_sem]) rfl ⟨rfl, hb0⟩
  by_cases h3 : x < -20
  · obtain rfl : 1 = c := by rw [← HC.out]; unfold objC; rw [if_neg (by omega), if_pos (rectC_out1 x y (by omega))]
    go_wp2_with fail
    rw [HW0.out]
    exact bodyPost_ret (v := .int .i64 1) (by simp [results, Try.results10, go_sem]) rfl ⟨rfl, hb0⟩
  by_cases h4 : 20 < x
  · obtain rfl : 1 = c := by rw [← HC.out]; unfold objC; rw [if_neg (by omega), if_pos (rectC_out1 x y (by omega))]
    go_wp2_with fail
    rw [HW0.out]
    exact bodyPost_ret (v := .int .i64 1) (by simp [results, Try.results10, go_sem]) rfl ⟨rfl, hb0⟩
  by_cases h5 : y < -20
  · obtain rfl : 1 = c := by rw [← HC.out]; unfold objC; rw [if_neg (by omega), if_pos (rectC_out1 x y (by omega))]
    go_wp2_with fail
    rw [HW0.out]
    exact bodyPost_ret (v := .int .i64 1) (by simp [results, Try.results10, go_sem]) rfl ⟨rfl, hb0⟩
  by_cases h6 : 20 < y
  · obtain rfl : 1 = c := by rw [← HC.out]; unfold objC; rw [if_neg (by omega), if_pos (rectC_out1 x y (by omega))]
    go_wp2_with fail
    rw [HW0.out]
    exact bodyPost_ret (v := .int .i64 1) (by simp [results, Try.results10, go_sem]) rfl ⟨rfl, hb0⟩
  have r1 : rectC x y 0 0 = 0 := by rw [rectC_zero]; omega
  obtain ⟨_, _, _, k3, k4, k5, k6, k7, k8, k9, _, _, _, _, _, _, _, _, _, _, _, _, _⟩ := HE0.out
  rw [← HW0.out] at k6 k7 k8 k9
  go_wp2_with fail
  rw [HW0.out]
  clear k0 k1 k2 k3 k4 k5 k6 k7 k8 k9
  rcases rectC_cases cx cy cw ch with r2 | r2
  case inr =>
    obtain rfl : 1 = c := by rw [← HC.out]; unfold objC; rw [if_neg (by omega), if_neg (by omega), if_pos r2]
    refine (rfault_any cx cy cw ch _ 1 r2).mono ?_
    rintro e w1 ⟨rfl, hb1⟩
    go_wp2_with fail
    exact bodyPost_ret (v := .int .i64 1) (by simp [results, Try.results10, go_sem]) rfl ⟨rfl, hb0.trans (hb1.mono hb0.size)⟩
  refine (rfault_any cx cy cw ch _ 0 r2).mono ?_
  rintro e w1 ⟨rfl, hb1⟩
  have HE1 : Hid (Eleven w1 w.heap.size (.int .i64 id) (.int .i64 x) (.int .i64 y) (.int .i64 pw) (.int .i64 ph) (.slice au nu cu) (.int .i64 cx) (.int .i64 cy) (.int .i64 cw) (.int .i64 ch) (.bool sh)) := HE0.out.on hb1
  have HR1 : Hid (RdP w1 (.slice au nu cu) ps) := HR0.out.on hb1
  replace hb1 := hb0.trans (hb1.mono hb0.size)
  clear HE0 HR0 HW0 hb0
  obtain ⟨_, _, _, k3, k4, k5, k6, k7, k8, k9, _, _, _, _, _, _, _, _, _, _, _, _, _⟩ := HE1.out
  go_wp2_with fail
  have HC2 : Hid (checkL pw ph ps = c) := by show _ = _; rw [← HC.out]; unfold objC; rw [if_neg (by omega), if_neg (by omega), if_neg (by omega)]
  refine (fault_any pw ph _ ps _ (by omega) HR1 c HC2).mono ?_
  rintro e w2 ⟨rfl, hb2⟩
  go_wp2_with fail
  exact bodyPost_ret (v := .int .i64 (c : Int)) (by simp [results, Try.results10, go_sem]) rfl ⟨rfl, hb1.trans (hb2.mono hb1.size)⟩
end Go.Proofs.Ytadcmmkifcmknaa
