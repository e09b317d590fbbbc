/- Walks of the reference's RectFault and Has. -/
import Derived.Test.YtkmolifgfbaboaaDoorRectB
namespace Go.Proofs.YtkmolifgfbaboaaDoor
open Go.RowKit

set_option maxHeartbeats 1000000 in
set_option maxRecDepth 100000 in
theorem rfault_any (x y w h : Int) (W : World) (c : Nat) (HC : Hid (rectC x y w h = c)) :
    Calls Tryd.prog 36 #[rectV x y w h] W fun e w' => e = .returned (.int .i64 (c : Int)) ∧ Below W.heap.size W w' := by
  unfold rectV
  by_cases h0 : -20 ≤ x
  · by_cases h1 : x ≤ 20
    · by_cases h2 : -20 ≤ y
      · by_cases h3 : y ≤ 20
        · by_cases h4 : 0 ≤ w
          · by_cases h5 : w ≤ 20
            · by_cases h6 : 0 ≤ h
              · by_cases h7 : h ≤ 20
                · have hc : c = 0 := by rw [← HC.out, rectC_zero]; omega
                  subst hc
                  go_enter Tryd.func36, Tryd.ntmps36
                  go_wp2
                  go_ret
                  exact ⟨rfl, (Below.refl _ _).alloc (Nat.le_refl _) _⟩
                · have hc : c = 1 := by rw [← HC.out]; exact rectC_one x y w h (by omega)
                  subst hc
                  go_enter Tryd.func36, Tryd.ntmps36
                  go_wp2
                  go_ret
                  exact ⟨rfl, (Below.refl _ _).alloc (Nat.le_refl _) _⟩
              · have hc : c = 1 := by rw [← HC.out]; exact rectC_one x y w h (by omega)
                subst hc
                go_enter Tryd.func36, Tryd.ntmps36
                go_wp2
                go_ret
                exact ⟨rfl, (Below.refl _ _).alloc (Nat.le_refl _) _⟩
            · have hc : c = 1 := by rw [← HC.out]; exact rectC_one x y w h (by omega)
              subst hc
              go_enter Tryd.func36, Tryd.ntmps36
              go_wp2
              go_ret
              exact ⟨rfl, (Below.refl _ _).alloc (Nat.le_refl _) _⟩
          · have hc : c = 1 := by rw [← HC.out]; exact rectC_one x y w h (by omega)
            subst hc
            go_enter Tryd.func36, Tryd.ntmps36
            go_wp2
            go_ret
            exact ⟨rfl, (Below.refl _ _).alloc (Nat.le_refl _) _⟩
        · have hc : c = 1 := by rw [← HC.out]; exact rectC_one x y w h (by omega)
          subst hc
          go_enter Tryd.func36, Tryd.ntmps36
          go_wp2
          go_ret
          exact ⟨rfl, (Below.refl _ _).alloc (Nat.le_refl _) _⟩
      · have hc : c = 1 := by rw [← HC.out]; exact rectC_one x y w h (by omega)
        subst hc
        go_enter Tryd.func36, Tryd.ntmps36
        go_wp2
        go_ret
        exact ⟨rfl, (Below.refl _ _).alloc (Nat.le_refl _) _⟩
    · have hc : c = 1 := by rw [← HC.out]; exact rectC_one x y w h (by omega)
      subst hc
      go_enter Tryd.func36, Tryd.ntmps36
      go_wp2
      go_ret
      exact ⟨rfl, (Below.refl _ _).alloc (Nat.le_refl _) _⟩
  · have hc : c = 1 := by rw [← HC.out]; exact rectC_one x y w h (by omega)
    subst hc
    go_enter Tryd.func36, Tryd.ntmps36
    go_wp2
    go_ret
    exact ⟨rfl, (Below.refl _ _).alloc (Nat.le_refl _) _⟩
end Go.Proofs.YtkmolifgfbaboaaDoor
