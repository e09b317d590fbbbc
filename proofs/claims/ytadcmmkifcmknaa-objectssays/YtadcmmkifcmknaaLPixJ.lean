/- Walk: flickerbooklaw.pixel. -/
import Derived.Test.YtadcmmkifcmknaaTPixJ
namespace Go.Proofs.Ytadcmmkifcmknaa
open Go.RowKit
set_option maxHeartbeats 2000000 in
set_option maxRecDepth 100000 in
theorem pixel_any (v a : Int) (w : World) (b : Bool) (HB : Hid (pixB v a = b)) : Calls Try.prog 21 #[pixV v a] w fun e w' => e = .returned (.bool b) ∧ Below w.heap.size w w' := by
  unfold pixV
  have hb0 : Below w.heap.size w (w.alloc (.cells #[.int .i64 v, .int .i64 a] 33)) := (Below.refl _ _).alloc (Nat.le_refl _) _
  by_cases h1 : 0 ≤ v
  case neg =>
    obtain rfl : false = b := by rw [← HB.out]; unfold pixB; simp [h1]
    go_enter Try.func21, Try.ntmps21
    go_wp2_with fail
    go_ret
    exact ⟨rfl, hb0⟩
  by_cases h2 : v ≤ 255
  case neg =>
    obtain rfl : false = b := by rw [← HB.out]; unfold pixB; simp [h2]
    go_enter Try.func21, Try.ntmps21
    go_wp2_with fail
    go_ret
    exact ⟨rfl, hb0⟩
  by_cases h3 : 0 ≤ a
  case neg =>
    obtain rfl : false = b := by rw [← HB.out]; unfold pixB; simp [h3]
    go_enter Try.func21, Try.ntmps21
    go_wp2_with fail
    go_ret
    exact ⟨rfl, hb0⟩
  by_cases h4 : a ≤ 255
  case neg =>
    obtain rfl : false = b := by rw [← HB.out]; unfold pixB; simp [h4]
    go_enter Try.func21, Try.ntmps21
    go_wp2_with fail
    go_ret
    exact ⟨rfl, hb0⟩
  obtain rfl : true = b := by rw [← HB.out]; unfold pixB; simp [h1, h2, h3, h4]
  go_enter Try.func21, Try.ntmps21
  go_wp2_with fail
  go_ret
  exact ⟨rfl, hb0⟩
end Go.Proofs.Ytadcmmkifcmknaa
