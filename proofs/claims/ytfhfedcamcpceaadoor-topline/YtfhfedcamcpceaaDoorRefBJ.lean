/- Walks of the reference's byteAt and guess. -/
import Derived.Test.YtfhfedcamcpceaaDoorM4
namespace Go.Proofs.YtfhfedcamcpceaaDoor
open Go.RowKit

def guessN (way l u : Nat) : Nat := if way = 1 then l else if way = 2 then u else if way = 3 then (l + u) / 2 else 0

set_option maxRecDepth 100000 in
theorem guess_any (way l u : Nat) (w : World) (hway : way < 4) (hl : l ≤ 255) (hu : u ≤ 255) (r : Nat) (HR : Hid (guessN way l u = r)) :
    Calls Tryd.prog 55 #[.int .i64 (way : Int), .int .i64 (l : Int), .int .i64 (u : Int)] w fun e w' => e = .returned (.int .i64 (r : Int)) ∧ w = w' := by
  have h4 : way = 0 ∨ way = 1 ∨ way = 2 ∨ way = 3 := by omega
  rcases h4 with rfl | rfl | rfl | rfl
  · have hr : r = 0 := by rw [← HR.out]; rfl
    subst hr
    go_enter Tryd.func55, Tryd.ntmps55
    go_wp2_with fail
    go_ret
    exact ⟨rfl, rfl⟩
  · have hr : r = l := by rw [← HR.out]; rfl
    subst hr
    go_enter Tryd.func55, Tryd.ntmps55
    go_wp2_with fail
    go_ret
    exact ⟨rfl, rfl⟩
  · have hr : r = u := by rw [← HR.out]; rfl
    subst hr
    go_enter Tryd.func55, Tryd.ntmps55
    go_wp2_with fail
    go_ret
    exact ⟨rfl, rfl⟩
  · have hr : r = (l + u) / 2 := by rw [← HR.out]; rfl
    clear HR
    go_enter Tryd.func55, Tryd.ntmps55
    go_wp2_with fail
    go_ret
    exact ⟨by subst hr; simp, rfl⟩

set_option maxRecDepth 100000 in
theorem byteAt_out (W H y i : Int) (a : Option Addr) (n cap : Nat) (w : World) (h : y < 0 ∨ i < 0) :
    Calls Tryd.prog 54 #[.agg #[.int .i64 W, .int .i64 H, .slice a n cap], .int .i64 y, .int .i64 i] w fun e w' => e = .returned (.int .i64 0) ∧ Below w.heap.size w w' := by
  by_cases h1 : y < 0
  · go_enter Tryd.func54, Tryd.ntmps54
    go_wp2_with fail
    go_ret
    exact ⟨rfl, (Below.refl _ _).alloc (Nat.le_refl _) _⟩
  · have h2 : i < 0 := by omega
    go_enter Tryd.func54, Tryd.ntmps54
    go_wp2_with fail
    go_ret
    exact ⟨rfl, (Below.refl _ _).alloc (Nat.le_refl _) _⟩

set_option maxRecDepth 100000 in
theorem pixOf_getD : ∀ (l : List UInt8) (j : Nat), 2 * j + 1 < l.length → (pixOf l).getD j (0, 0) = (((l.getD (2 * j) 0).toNat : Int), ((l.getD (2 * j + 1) 0).toNat : Int))
  | [], j, h => by simp at h
  | [_], j, h => by simp at h
  | a :: b :: r, 0, h => by simp [pixOf]
  | a :: b :: r, j + 1, h => by
    have := pixOf_getD r j (by simp at h; omega)
    rw [pixOf, List.getD_cons_succ, this, show 2 * (j + 1) = 2 * j + 1 + 1 by omega, List.getD_cons_succ, List.getD_cons_succ, List.getD_cons_succ, List.getD_cons_succ]

set_option maxRecDepth 100000 in
theorem pixOf_length (l : List UInt8) : (pixOf l).length = l.length / 2 := by
  match l with
  | [] => rfl
  | [_] => simp [pixOf]
  | a :: b :: r =>
    have := pixOf_length r
    simp [pixOf, this]; omega

set_option maxHeartbeats 1000000 in
set_option maxRecDepth 100000 in
theorem byteAt_in (W y i : Nat) (H : Int) (a : Option Addr) (n cap : Nat) (bs : List UInt8) (w : World) (HR : Hid (RdP w (.slice a n cap) (pixOf bs))) (hW : W ≤ 8) (hy : y ≤ 8) (hi : i < 2 * W)
    (hin : y * (2 * W) + (i / 2) * 2 + 1 < bs.length) (r : Nat) (HB : Hid ((bs.getD (y * (2 * W) + i) 0).toNat = r)) :
    Calls Tryd.prog 54 #[.agg #[.int .i64 (W : Int), .int .i64 H, .slice a n cap], .int .i64 (y : Int), .int .i64 (i : Int)] w fun e w' => e = .returned (.int .i64 (r : Int)) ∧ Below w.heap.size w w' := by
  obtain ⟨a', cap', hv, hlc, hcap, hh⟩ := HR.out
  simp only [Value.slice.injEq] at hv
  obtain ⟨rfl, hn, rfl⟩ := hv
  obtain ⟨yw, HYW⟩ : ∃ k, Hid (y * W = k) := ⟨_, (rfl : _ = _)⟩
  have hyw : yw ≤ 64 := by rw [← HYW.out]; have := Nat.mul_le_mul hy hW; omega
  have HY2 : Hid (y * (2 * W) = 2 * yw) := by unfold Hid; rw [← HYW.out]; rw [Nat.mul_left_comm]
  have hmulI : (y : Int) * (W : Int) = (yw : Int) := by rw [← HYW.out]; simp
  rw [HY2.out] at hin
  have hne : pixOf bs ≠ [] := by
    intro e
    have := pixOf_length bs
    rw [e] at this; simp at this; omega
  obtain ⟨g, off, rfl, hg, hcell⟩ := hh hne
  have hlt : yw + i / 2 < n := by rw [hn, pixOf_length]; omega
  have hc := hcell (yw + i / 2) (by rw [← hn]; exact hlt)
  rw [pixOf_getD bs (yw + i / 2) (by omega)] at hc
  obtain ⟨hc0, hc1⟩ := hc
  obtain ⟨r0, HR0⟩ : ∃ k0, Hid ((bs.getD (2 * (yw + i / 2)) 0).toNat = k0) := ⟨_, (rfl : _ = _)⟩
  obtain ⟨r1, HR1⟩ : ∃ k0, Hid ((bs.getD (2 * (yw + i / 2) + 1) 0).toNat = k0) := ⟨_, (rfl : _ = _)⟩
  rw [HR0.out] at hc0
  rw [HR1.out] at hc1
  rw [← hn] at hlc
  clear hcell hh hin hne hn
  have hd0 : (w.alloc (.cells #[.int .i64 (W : Int), .int .i64 H, .slice (some ⟨g, off, none⟩) n cap] 24)).cell? ⟨g, off + (yw + i / 2) * 2, none⟩ = some (.int .i64 (r0 : Int)) := by
    rw [((Below.refl w.heap.size w).alloc (Nat.le_refl _) _).cell (p := ⟨g, off + (yw + i / 2) * 2, none⟩) hg]; exact hc0
  have hd1 : (w.alloc (.cells #[.int .i64 (W : Int), .int .i64 H, .slice (some ⟨g, off, none⟩) n cap] 24)).cell? ⟨g, off + (yw + i / 2) * 2 + 1, none⟩ = some (.int .i64 (r1 : Int)) := by
    rw [((Below.refl w.heap.size w).alloc (Nat.le_refl _) _).cell (p := ⟨g, off + (yw + i / 2) * 2 + 1, none⟩) hg]; exact hc1
  have hmI : (i : Int) % 2 = ((i % 2 : Nat) : Int) := by simp
  by_cases hp : i % 2 = 0
  · have hr : r = r0 := by rw [← HB.out, ← HR0.out, HY2.out]; congr 2; omega
    subst hr
    rw [hp] at hmI
    have hmt : (i : Int).tmod 2 = 0 := by rw [Int.tmod_eq_emod_of_nonneg (by omega)]; exact hmI
    go_enter Tryd.func54, Tryd.ntmps54
    go_wp2_with fail
    go_ret
    exact ⟨rfl, ((Below.refl _ _).alloc (Nat.le_refl _) _).alloc (by simp) _⟩
  · have hr : r = r1 := by rw [← HB.out, ← HR1.out, HY2.out]; congr 2; omega
    subst hr
    rw [show i % 2 = 1 by omega] at hmI
    have hmt : (i : Int).tmod 2 = 1 := by rw [Int.tmod_eq_emod_of_nonneg (by omega)]; exact hmI
    go_enter Tryd.func54, Tryd.ntmps54
    go_wp2_with fail
    go_ret
    exact ⟨rfl, ((Below.refl _ _).alloc (Nat.le_refl _) _).alloc (by simp) _⟩
end Go.Proofs.YtfhfedcamcpceaaDoor
