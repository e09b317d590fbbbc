/- Walks of the law's LightPicture and of the reference's SamePicture. -/
import Derived.Test.YtkmolifgfbaboaaDoorPixA
namespace Go.Proofs.YtkmolifgfbaboaaDoor
open Go.RowKit

set_option maxRecDepth 100000 in
theorem light_any (W H : Int) (a : Option Addr) (n cap : Nat) (w : World) (hn : n ≤ 9223372036854775807) (b : Bool) (HB : Hid (decide (n ≤ 80) = b)) :
    Calls Tryd.prog 7 #[.agg #[.int .i64 W, .int .i64 H, .slice a n cap]] w fun e w' => e = .returned (.bool b) ∧ Below w.heap.size w w' := by
  by_cases h : n ≤ 80
  · have hb : b = true := by rw [← HB.out]; simp [h]
    subst hb
    go_enter Tryd.func7, Tryd.ntmps7
    go_wp2
    go_ret
    exact ⟨by simp; omega, (Below.refl _ _).alloc (Nat.le_refl _) _⟩
  · have hb : b = false := by rw [← HB.out]; simp [h]
    subst hb
    go_enter Tryd.func7, Tryd.ntmps7
    go_wp2
    go_ret
    exact ⟨by simp; omega, (Below.refl _ _).alloc (Nat.le_refl _) _⟩

theorem eq_pix (X : World) (a b : Int) : (binOp .neq 33 (.agg #[.int .i64 a, .int .i64 b]) (.agg #[.int .i64 a, .int .i64 b])).run Tryd.prog X = .ok (.bool false) X := by
  have h : (Op.equalIn 10000 33 (.agg #[.int .i64 a, .int .i64 b]) (.agg #[.int .i64 a, .int .i64 b])).run Tryd.prog X = .ok true X := by
    have u3 := Tryd.underlying3
    rw [run_equalIn_agg X 9999 33 _ _ (by kernel_rfl) (by kernel_rfl)]
    simp only [Program.fieldsOf, Tryd.underlying33]
    go_simp
  rw [run_neq_struct, h]
  rfl

set_option maxHeartbeats 2000000 in
set_option maxRecDepth 100000 in
theorem samePic_any (W H : Int) (v0 v1 : Value) (ps : List (Int × Int)) (w : World) (hps : ps.length ≤ 1000) (H0 : Hid (RdP w v0 ps)) (H1 : Hid (RdP w v1 ps)) :
    Calls Tryd.prog 28 #[.agg #[.int .i64 W, .int .i64 H, v0], .agg #[.int .i64 W, .int .i64 H, v1]] w fun e w' => e = .returned (.bool true) ∧ Below w.heap.size w w' := by
  obtain ⟨a0, c0, hv0, hl0, hm0, hh0⟩ := H0.out
  obtain ⟨a1, c1, hv1, hl1, hm1, hh1⟩ := H1.out
  obtain ⟨n, HN⟩ : ∃ n, Hid (ps.length = n) := ⟨_, (rfl : _ = _)⟩
  rw [HN.out] at hv0 hv1 hl0 hl1 hps
  clear hh0 hh1
  subst hv0 hv1
  have hw : (W != W) = false := by simp
  have hh : (H != H) = false := by simp
  have hnn : ((n : Int) != (n : Int)) = false := by simp
  have HT0 := (three_start w (.int .i64 W) (.int .i64 H) (.slice a0 n c0) 25).alloc (.cells #[.int .i64 W, .int .i64 H, .slice a1 n c1] 25)
  have HT1 := three_start (w.alloc (.cells #[.int .i64 W, .int .i64 H, .slice a0 n c0] 25)) (.int .i64 W) (.int .i64 H) (.slice a1 n c1) 25
  obtain ⟨x0, x1, x2, _, _, _, _⟩ := HT0
  obtain ⟨y0, y1, y2, _, _, _, _⟩ := HT1
  have es : (w.alloc (.cells #[.int .i64 W, .int .i64 H, .slice a0 n c0] 25)).heap.size = w.heap.size + 1 := by simp
  rw [es] at y0 y1 y2
  clear es
  obtain ⟨wz, HWZ⟩ : ∃ wz, Hid ((w.alloc (.cells #[.int .i64 W, .int .i64 H, .slice a0 n c0] 25)).alloc (.cells #[.int .i64 W, .int .i64 H, .slice a1 n c1] 25) = wz) := ⟨_, (rfl : _ = _)⟩
  have hbz : Below w.heap.size w wz := by rw [← HWZ.out]; exact ((Below.refl _ _).alloc (Nat.le_refl _) _).alloc (by simp) _
  go_enter Tryd.func28, Tryd.ntmps28
  go_wp2_with fail
  rw [HWZ.out] at x0 x1 x2 y0 y1 y2 ⊢
  go_loopw [5] (fun i wr => ∃ k q : Nat, k ≤ n ∧ i = .int .i64 k ∧ wr = wz.drewN q) (fun i _ => n - (intOf i).toNat)
  case atStart => exact ⟨0, 0, by omega, rfl, rfl⟩
  case round =>
    obtain ⟨k, q, hk, rfl, rfl⟩ := hrel
    by_cases hlt : k < n
    · have hne : ps ≠ [] := by intro e; have h := HN.out; rw [e] at h; simp at h; omega
      obtain ⟨_, _, hv0, _, _, hh0⟩ := H0.out
      obtain ⟨_, _, hv1, _, _, hh1⟩ := H1.out
      obtain ⟨g0, o0, ha0, hg0, hc0⟩ := hh0 hne
      obtain ⟨g1, o1, ha1, hg1, hc1⟩ := hh1 hne
      simp only [Value.slice.injEq] at hv0 hv1
      have e0 : a0 = some ⟨g0, o0, none⟩ := hv0.1.trans ha0
      have e1 : a1 = some ⟨g1, o1, none⟩ := hv1.1.trans ha1
      subst e0 e1
      obtain ⟨p, HP⟩ : ∃ p, Hid (ps.getD k (0, 0) = p) := ⟨_, (rfl : _ = _)⟩
      have d0 := hc0 k (by rw [HN.out]; exact hlt)
      have d1 := hc1 k (by rw [HN.out]; exact hlt)
      rw [HP.out] at d0 d1
      obtain ⟨pv, pa⟩ := p
      have f0 : wz.cell? ⟨g0, o0 + k * 2, none⟩ = some (.int .i64 pv) := by rw [hbz.cell (p := ⟨g0, o0 + k * 2, none⟩) hg0]; exact d0.1
      have f1 : wz.cell? ⟨g0, o0 + k * 2 + 1, none⟩ = some (.int .i64 pa) := by rw [hbz.cell (p := ⟨g0, o0 + k * 2 + 1, none⟩) hg0]; exact d0.2
      have f2 : wz.cell? ⟨g1, o1 + k * 2, none⟩ = some (.int .i64 pv) := by rw [hbz.cell (p := ⟨g1, o1 + k * 2, none⟩) hg1]; exact d1.1
      have f3 : wz.cell? ⟨g1, o1 + k * 2 + 1, none⟩ = some (.int .i64 pa) := by rw [hbz.cell (p := ⟨g1, o1 + k * 2 + 1, none⟩) hg1]; exact d1.2
      have heq := fun X => eq_pix X pv pa
      clear d0 d1 hc0 hc1 hh0 hh1 hv0 hv1 ha0 ha1
      go_wp2_with fail
      go_quiet (fail)
      go_wp2_with fail
      go_roundw
      case rel => exact ⟨k + 1, q + nq, by omega, by go_num, rfl⟩
      case measure => simp [intOf]; omega
    · go_wp2_with fail
      go_ret
      exact ⟨rfl, below_drewN hbz q⟩
theorem rdP_own {w : World} {B : Nat} {v : Value} {ps : List (Int × Int)} (h : w.ownsRow B 33 2 v ps.length (pixCells ps)) : RdP w v ps := by
  have hc : ∀ (ps : List (Int × Int)) (j : Nat), j < ps.length → (pixCells ps)[j * 2]? = some (.int .i64 (ps.getD j (0, 0)).1) ∧ (pixCells ps)[j * 2 + 1]? = some (.int .i64 (ps.getD j (0, 0)).2) := by
    intro ps
    induction ps with
    | nil => intro j hj; simp at hj
    | cons p r ih =>
      intro j hj
      obtain ⟨a, b⟩ := p
      cases j with
      | zero => simp [pixCells]
      | succ j =>
        have := ih j (by simpa using hj)
        rw [show (j + 1) * 2 = j * 2 + 2 by omega]
        simpa [pixCells] using this
  rcases h.2 with ⟨rfl, h0⟩ | ⟨g, cap, cur, rfl, hb, hg, hn, hm, hs, ht⟩
  · exact ⟨none, 0, by rw [h0], by omega, by omega, fun hne => absurd (List.eq_nil_of_length_eq_zero h0) hne⟩
  · refine ⟨_, cap, rfl, hn, by unfold maxLen at hm; omega, fun _ => ⟨g, 0, rfl, (Array.getElem?_eq_some_iff.1 hg).1, fun j hj => ?_⟩⟩
    rw [Nat.zero_add, h.cellAt (j * 2) (by omega), h.cellAt (j * 2 + 1) (by omega)]
    exact hc ps j hj
theorem rdP_nil (w : World) : RdP w (.slice none 0 0) [] := ⟨none, 0, rfl, by simp, by omega, fun h => absurd rfl h⟩
end Go.Proofs.YtkmolifgfbaboaaDoor
