/- Walks of rect.Check. -/
import Derived.Test.YtkmolifgfbaboaaDoorRectA
namespace Go.Proofs.YtkmolifgfbaboaaDoor
open Go.RowKit

/-- Check's answer of a rect -/
def rectC (x y w h : Int) : Nat := if rectB x y w h then 0 else 1

theorem rectB_iff (x y w h : Int) : rectB x y w h = true ↔ -20 ≤ x ∧ x ≤ 20 ∧ -20 ≤ y ∧ y ≤ 20 ∧ 0 ≤ w ∧ w ≤ 20 ∧ 0 ≤ h ∧ h ≤ 20 := by unfold rectB placeB lenB; simp [and_assoc]
theorem rectC_zero (x y w h : Int) : rectC x y w h = 0 ↔ -20 ≤ x ∧ x ≤ 20 ∧ -20 ≤ y ∧ y ≤ 20 ∧ 0 ≤ w ∧ w ≤ 20 ∧ 0 ≤ h ∧ h ≤ 20 := by
  rw [← rectB_iff]; unfold rectC; by_cases h : rectB x y w h = true <;> simp [h]
theorem rectC_le (x y w h : Int) : rectC x y w h ≤ 1 := by unfold rectC; split <;> omega
theorem rectC_one (x y w h : Int) (hn : ¬ (-20 ≤ x ∧ x ≤ 20 ∧ -20 ≤ y ∧ y ≤ 20 ∧ 0 ≤ w ∧ w ≤ 20 ∧ 0 ≤ h ∧ h ≤ 20)) : rectC x y w h = 1 := by
  rw [← rectC_zero] at hn; have := rectC_le x y w h; omega

set_option maxHeartbeats 1000000 in
set_option maxRecDepth 100000 in
theorem rcheck_any (x y w h : Int) (W : World) (c : Nat) (HC : Hid (rectC x y w h = c)) :
    Calls Tryd.prog 25 #[rectV x y w h] W fun e w' => e = .returned (errV c) ∧ Below W.heap.size W w' := by
  unfold rectV
  cases h0 : placeB x with
  | false =>
    have H0 : Hid (placeB x = false) := h0
    have hc : c = 1 := by rw [← HC.out]; unfold rectC rectB; simp [h0]
    subst hc
    clear h0
    go_enter Tryd.func25, Tryd.ntmps25
    go_wp2_with fail
    refine (place_any x _ false H0).mono ?_
    rintro e w1 ⟨rfl, rfl⟩
    go_wp2_with fail
    go_ret
    exact ⟨rfl, (Below.refl _ _).alloc (Nat.le_refl _) _⟩
  | true =>
    have H0 : Hid (placeB x = true) := h0
    cases h1 : placeB y with
    | false =>
      have H1 : Hid (placeB y = false) := h1
      have hc : c = 1 := by rw [← HC.out]; unfold rectC rectB; simp [h1]
      subst hc
      clear h0 h1
      go_enter Tryd.func25, Tryd.ntmps25
      go_wp2_with fail
      refine (place_any x _ true H0).mono ?_
      rintro e w1 ⟨rfl, rfl⟩
      go_wp2_with fail
      refine (place_any y _ false H1).mono ?_
      rintro e w1 ⟨rfl, rfl⟩
      go_wp2_with fail
      go_ret
      exact ⟨rfl, (Below.refl _ _).alloc (Nat.le_refl _) _⟩
    | true =>
      have H1 : Hid (placeB y = true) := h1
      cases h2 : lenB w with
      | false =>
        have H2 : Hid (lenB w = false) := h2
        have hc : c = 1 := by rw [← HC.out]; unfold rectC rectB; simp [h2]
        subst hc
        clear h0 h1 h2
        go_enter Tryd.func25, Tryd.ntmps25
        go_wp2_with fail
        refine (place_any x _ true H0).mono ?_
        rintro e w1 ⟨rfl, rfl⟩
        go_wp2_with fail
        refine (place_any y _ true H1).mono ?_
        rintro e w1 ⟨rfl, rfl⟩
        go_wp2_with fail
        refine (length_any w _ false H2).mono ?_
        rintro e w1 ⟨rfl, rfl⟩
        go_wp2_with fail
        go_ret
        exact ⟨rfl, (Below.refl _ _).alloc (Nat.le_refl _) _⟩
      | true =>
        have H2 : Hid (lenB w = true) := h2
        cases h3 : lenB h with
        | false =>
          have H3 : Hid (lenB h = false) := h3
          have hc : c = 1 := by rw [← HC.out]; unfold rectC rectB; simp [h3]
          subst hc
          clear h0 h1 h2 h3
          go_enter Tryd.func25, Tryd.ntmps25
          go_wp2_with fail
          refine (place_any x _ true H0).mono ?_
          rintro e w1 ⟨rfl, rfl⟩
          go_wp2_with fail
          refine (place_any y _ true H1).mono ?_
          rintro e w1 ⟨rfl, rfl⟩
          go_wp2_with fail
          refine (length_any w _ true H2).mono ?_
          rintro e w1 ⟨rfl, rfl⟩
          go_wp2_with fail
          refine (length_any h _ false H3).mono ?_
          rintro e w1 ⟨rfl, rfl⟩
          go_wp2_with fail
          go_ret
          exact ⟨rfl, (Below.refl _ _).alloc (Nat.le_refl _) _⟩
        | true =>
          have H3 : Hid (lenB h = true) := h3
          have hc : c = 0 := by rw [← HC.out]; unfold rectC rectB; simp [h0, h1, h2, h3]
          subst hc
          clear h0 h1 h2 h3
          go_enter Tryd.func25, Tryd.ntmps25
          go_wp2_with fail
          refine (place_any x _ true H0).mono ?_
          rintro e w1 ⟨rfl, rfl⟩
          go_wp2_with fail
          refine (place_any y _ true H1).mono ?_
          rintro e w1 ⟨rfl, rfl⟩
          go_wp2_with fail
          refine (length_any w _ true H2).mono ?_
          rintro e w1 ⟨rfl, rfl⟩
          go_wp2_with fail
          refine (length_any h _ true H3).mono ?_
          rintro e w1 ⟨rfl, rfl⟩
          go_wp2_with fail
          go_ret
          exact ⟨rfl, (Below.refl _ _).alloc (Nat.le_refl _) _⟩
end Go.Proofs.YtkmolifgfbaboaaDoor
