/- Walk of things, a closed fact. -/
import Derived.Test.YtadcmmkifcmknaaM6
import Derived.Test.YtadcmmkifcmknaaSeenLJ
import Derived.Test.YtadcmmkifcmknaaSameBJ
namespace Go.Proofs.Ytadcmmkifcmknaa
open Go.RowKit

theorem rdP_solo (w : World) (g : Nat) (a b : Int) (hg : g < w.heap.size) (h0 : w.cell? ⟨g, 0, none⟩ = some (.int .i64 a)) (h1 : w.cell? ⟨g, 1, none⟩ = some (.int .i64 b)) : RdP w (.slice (some ⟨g, 0, none⟩) 1 1) [(a, b)] := by
  refine ⟨_, 1, rfl, by simp, by omega, fun _ => ⟨g, 0, rfl, hg, fun j hj => ?_⟩⟩
  have : j = 0 := by simpa using hj
  subst this
  exact ⟨h0, h1⟩
theorem doPre_nil (q : Pq) (h1 : q.ps.length ≤ 100) (h2 : q.kind = 8 ∨ q.kind = 9 → checkL q.pw q.ph q.ps = 0 ∧ -20 ≤ q.a ∧ q.a ≤ 20 ∧ -20 ≤ q.b ∧ q.b ≤ 20) : DoPre [] q :=
  ⟨by simp, fun j hj => absurd hj (by simp), fun i j hij hj => absurd hj (by simp), fun j hj => absurd hj (by simp), h1, h2⟩

set_option maxHeartbeats 4000000 in
set_option maxRecDepth 100000 in
theorem things_any (w : World) : Calls Try.prog 5 #[] w fun e w' => e = .returned (.bool true) ∧ Below w.heap.size w w' := by
  have hb0 : Below w.heap.size w (w.alloc (.cells #[.int .i64 7, .int .i64 255] 33)) := (Below.refl _ _).alloc (Nat.le_refl _) _
  have HU := hid_of2 (rdP_solo (w.alloc (.cells #[.int .i64 7, .int .i64 255] 33)) w.heap.size 7 255 (by simp) (by simp) (by simp))
  have HP := hid_of2 (doPre_nil ⟨2, 2, 0, 0, 0, 0, 1, 1, [(7, 255)]⟩ (by simp) (by intro h; simp at h))
  go_enter Try.func5, Try.ntmps5
  go_wp2_with fail
  refine (do_any _ [] ⟨2, 2, 0, 0, 0, 0, 1, 1, [(7, 255)]⟩ _ _ HP (rdO_nil _) HU).mono ?_
  rintro e w1 ⟨hb1, he⟩
  have hbb1 := hb0.trans (hb1.mono hb0.size)
  rcases he with ⟨v1, qs, hd, rfl, ho1⟩ | ⟨c, hd, _⟩
  case inr => cases hd
  have HL1 := hid_of2 ho1.rd
  have hq : qs.map Prod.fst = [⟨2, 0, 0, 1, 1, [(7, 255)], 0, 0, 20, 20, true⟩] := by
    have h := Sum.inl.inj hd
    rw [← h]; rfl
  rw [hq] at HL1
  clear hd ho1 hq HU HP hb0 hb1
  obtain ⟨a1, c1, hv1, _, _⟩ := HL1.out.shape
  subst hv1
  go_wp2_with fail
  refine (get_any _ _ 2 _ (by simp) (fun j hj => ?_) (fun i j hij hj => ?_) HL1).mono ?_
  · have : j = 0 := by simpa using hj
    subst this; simp
  · simp at hj; omega
  rintro e w2 ⟨hb2, hget⟩
  have hbb2 := hbb1.trans (hb2.mono hbb1.size)
  rcases hget with ⟨i, u, hi, hit, rfl, hou⟩ | ⟨hno, _⟩
  case inr => exact absurd rfl (hno 0 (by simp))
  obtain rfl : i = 0 := by simpa using hi
  have HUO := hid_of2 (rdP_own hou)
  obtain ⟨g, o, ua, q, uc⟩ := HUO.out
  simp only [List.getD_cons_zero, List.length_cons, List.length_nil] at ua q uc
  obtain ⟨g2, o2, hg2, hlt2, hc2⟩ := uc.2 (by simp)
  subst hg2
  rw [ua]
  obtain ⟨d0, d1⟩ := hc2 0 (by simp)
  simp at d0 d1
  have hbx : Below w2.heap.size w2 (w2.alloc (.cells #[.int .i64 2, .int .i64 0, .int .i64 0, .int .i64 1, .int .i64 1, .slice (some ⟨g2, o2, none⟩) 1 o, .int .i64 0, .int .i64 0, .int .i64 20, .int .i64 20, .bool true] 29)) := (Below.refl _ _).alloc (Nat.le_refl _) _
  have d0x : (w2.alloc (.cells #[.int .i64 2, .int .i64 0, .int .i64 0, .int .i64 1, .int .i64 1, .slice (some ⟨g2, o2, none⟩) 1 o, .int .i64 0, .int .i64 0, .int .i64 20, .int .i64 20, .bool true] 29)).cell? ⟨g2, o2, none⟩ = some (.int .i64 7) := (hbx.cell (p := ⟨g2, o2, none⟩) hlt2).trans d0
  unfold poV objV
  simp only [List.getD_cons_zero]
  go_wp2_with fail
  refine (same_ok 0 .nilIface rfl _).mono ?_
  rintro e w3 ⟨rfl, rfl⟩
  go_wp2_with fail
  go_ret
  exact ⟨rfl, hbb2.trans (hbx.mono hbb2.size)⟩
end Go.Proofs.Ytadcmmkifcmknaa
