/- Walks of the reference's RectFault and Has. -/
import Derived.Test.YtadcmmkifcmknaaRectB
namespace Go.Proofs.Ytadcmmkifcmknaa
open Go.RowKit

set_option maxRecDepth 100000 in
theorem refHas_any (x y w h p q : Int) (W : World) (hx : -10000 ≤ x) (hx2 : x ≤ 10000) (hy : -10000 ≤ y) (hy2 : y ≤ 10000) (hw : 0 ≤ w) (hw2 : w ≤ 10000) (hh : 0 ≤ h) (hh2 : h ≤ 10000) (b : Bool) (HB : Hid (hasB x y w h p q = b)) :
    Calls Try.prog 60 #[rectV x y w h, .int .i64 p, .int .i64 q] W fun e w' => e = .returned (.bool b) ∧ Below W.heap.size W w' := by
  unfold rectV
  by_cases h1 : x ≤ p
  · by_cases h2 : p < x + w
    · by_cases h3 : y ≤ q
      · by_cases h4 : q < y + h
        · have hb : b = true := by rw [← HB.out, hasB_iff]; omega
          subst hb
          go_enter Try.func60, Try.ntmps60
          go_wp2
          go_ret
          exact ⟨rfl, (Below.refl _ _).alloc (Nat.le_refl _) _⟩
        · have hb : b = false := by rw [← HB.out, hasB_no]; omega
          subst hb
          go_enter Try.func60, Try.ntmps60
          go_wp2
          go_ret
          exact ⟨rfl, (Below.refl _ _).alloc (Nat.le_refl _) _⟩
      · have hb : b = false := by rw [← HB.out, hasB_no]; omega
        subst hb
        go_enter Try.func60, Try.ntmps60
        go_wp2
        go_ret
        exact ⟨rfl, (Below.refl _ _).alloc (Nat.le_refl _) _⟩
    · have hb : b = false := by rw [← HB.out, hasB_no]; omega
      subst hb
      go_enter Try.func60, Try.ntmps60
      go_wp2
      go_ret
      exact ⟨rfl, (Below.refl _ _).alloc (Nat.le_refl _) _⟩
  · have hb : b = false := by rw [← HB.out, hasB_no]; omega
    subst hb
    go_enter Try.func60, Try.ntmps60
    go_wp2
    go_ret
    exact ⟨rfl, (Below.refl _ _).alloc (Nat.le_refl _) _⟩

set_option maxHeartbeats 1000000 in
set_option maxRecDepth 100000 in
theorem rfault_any (x y w h : Int) (W : World) (c : Nat) (HC : Hid (rectC x y w h = c)) :
    Calls Try.prog 29 #[rectV x y w h] W fun e w' => e = .returned (.int .i64 (c : Int)) ∧ Below W.heap.size W w' := by
  unfold rectV
  by_cases h0 : -20 ≤ x
  · by_cases h1 : x ≤ 20
    · by_cases h2 : -20 ≤ y
      · by_cases h3 : y ≤ 20
        · by_cases h4 : 0 ≤ w
          · by_cases h5 : w ≤ 20
            · by_cases h6 : 0 ≤ h
              · by_cases h7 : h ≤ 20
                · have hc : c = 0 := by rw [← HC.out, rectC_zero]; omega
                  subst hc
                  go_enter Try.func29, Try.ntmps29
                  go_wp2
                  go_ret
                  exact ⟨rfl, (Below.refl _ _).alloc (Nat.le_refl _) _⟩
                · have hc : c = 1 := by rw [← HC.out]; exact rectC_one x y w h (by omega)
                  subst hc
                  go_enter Try.func29, Try.ntmps29
                  go_wp2
                  go_ret
                  exact ⟨rfl, (Below.refl _ _).alloc (Nat.le_refl _) _⟩
              · have hc : c = 1 := by rw [← HC.out]; exact rectC_one x y w h (by omega)
                subst hc
                go_enter Try.func29, Try.ntmps29
                go_wp2
                go_ret
                exact ⟨rfl, (Below.refl _ _).alloc (Nat.le_refl _) _⟩
            · have hc : c = 1 := by rw [← HC.out]; exact rectC_one x y w h (by omega)
              subst hc
              go_enter Try.func29, Try.ntmps29
              go_wp2
              go_ret
              exact ⟨rfl, (Below.refl _ _).alloc (Nat.le_refl _) _⟩
          · have hc : c = 1 := by rw [← HC.out]; exact rectC_one x y w h (by omega)
            subst hc
            go_enter Try.func29, Try.ntmps29
            go_wp2
            go_ret
            exact ⟨rfl, (Below.refl _ _).alloc (Nat.le_refl _) _⟩
        · have hc : c = 1 := by rw [← HC.out]; exact rectC_one x y w h (by omega)
          subst hc
          go_enter Try.func29, Try.ntmps29
          go_wp2
          go_ret
          exact ⟨rfl, (Below.refl _ _).alloc (Nat.le_refl _) _⟩
      · have hc : c = 1 := by rw [← HC.out]; exact rectC_one x y w h (by omega)
        subst hc
        go_enter Try.func29, Try.ntmps29
        go_wp2
        go_ret
        exact ⟨rfl, (Below.refl _ _).alloc (Nat.le_refl _) _⟩
    · have hc : c = 1 := by rw [← HC.out]; exact rectC_one x y w h (by omega)
      subst hc
      go_enter Try.func29, Try.ntmps29
      go_wp2
      go_ret
      exact ⟨rfl, (Below.refl _ _).alloc (Nat.le_refl _) _⟩
  · have hc : c = 1 := by rw [← HC.out]; exact rectC_one x y w h (by omega)
    subst hc
    go_enter Try.func29, Try.ntmps29
    go_wp2
    go_ret
    exact ⟨rfl, (Below.refl _ _).alloc (Nat.le_refl _) _⟩
end Go.Proofs.Ytadcmmkifcmknaa
