/- Walk: pixel of the top's laws. -/
import Derived.Test.YtadcmmkifcmknaaM6
namespace Go.Proofs.Ytadcmmkifcmknaa
open Go.RowKit

def pixB (v a : Int) : Bool := decide (0 ≤ v) && decide (v ≤ 255) && decide (0 ≤ a) && decide (a ≤ 255)
theorem pixB_iff (v a : Int) : pixB v a = true ↔ 0 ≤ v ∧ v ≤ 255 ∧ 0 ≤ a ∧ a ≤ 255 := by unfold pixB; simp [and_assoc]
theorem pixB_no (v a : Int) : pixB v a = false ↔ ¬ (0 ≤ v ∧ v ≤ 255 ∧ 0 ≤ a ∧ a ≤ 255) := by rw [← pixB_iff]; simp

set_option maxRecDepth 100000 in
theorem tpixel_any (v a : Int) (W : World) (b : Bool) (HB : Hid (pixB v a = b)) :
    Calls Try.prog 25 #[pixV v a] W fun e w' => e = .returned (.bool b) ∧ Below W.heap.size W w' := by
  unfold pixV
  by_cases h1 : 0 ≤ v
  · by_cases h2 : v ≤ 255
    · by_cases h3 : 0 ≤ a
      · by_cases h4 : a ≤ 255
        · have hb : b = true := by rw [← HB.out, pixB_iff]; omega
          subst hb
          go_enter Try.func25, Try.ntmps25
          go_wp2
          go_ret
          exact ⟨rfl, (Below.refl _ _).alloc (Nat.le_refl _) _⟩
        · have hb : b = false := by rw [← HB.out, pixB_no]; omega
          subst hb
          go_enter Try.func25, Try.ntmps25
          go_wp2
          go_ret
          exact ⟨rfl, (Below.refl _ _).alloc (Nat.le_refl _) _⟩
      · have hb : b = false := by rw [← HB.out, pixB_no]; omega
        subst hb
        go_enter Try.func25, Try.ntmps25
        go_wp2
        go_ret
        exact ⟨rfl, (Below.refl _ _).alloc (Nat.le_refl _) _⟩
    · have hb : b = false := by rw [← HB.out, pixB_no]; omega
      subst hb
      go_enter Try.func25, Try.ntmps25
      go_wp2
      go_ret
      exact ⟨rfl, (Below.refl _ _).alloc (Nat.le_refl _) _⟩
  · have hb : b = false := by rw [← HB.out, pixB_no]; omega
    subst hb
    go_enter Try.func25, Try.ntmps25
    go_wp2
    go_ret
    exact ⟨rfl, (Below.refl _ _).alloc (Nat.le_refl _) _⟩
end Go.Proofs.Ytadcmmkifcmknaa
