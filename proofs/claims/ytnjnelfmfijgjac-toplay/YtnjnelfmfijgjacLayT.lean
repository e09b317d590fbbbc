/- Walk of flickerbooktop.objectFine. -/
import Derived.Test.YtnjnelfmfijgjacLayW
namespace Go.Proofs.Ytnjnelfmfijgjac
open Go.RowKit

set_option maxHeartbeats 2000000 in
set_option maxRecDepth 100000 in
theorem fine_any (id x y pw ph : Int) (u : Value) (ps : List (Int × Int)) (cx cy cw ch : Int) (sh : Bool) (w : World) (HR : Hid (RdP w u ps)) (b : Bool) (HB : Hid ((decide (ps.length ≤ 80) && decide (objC id x y pw ph ps cx cy cw ch = 0)) = b)) :
    Calls Try.prog 16 #[objV id x y pw ph u cx cy cw ch sh] w fun e w' => e = .returned (.bool b) ∧ Below w.heap.size w w' := by
  unfold objV
  obtain ⟨au, cu, hvu, hlu, hcu, _⟩ := HR.out
  obtain ⟨nu, HNU⟩ : ∃ n, Hid (ps.length = n) := ⟨_, (rfl : _ = _)⟩
  rw [HNU.out] at hvu hlu HB
  subst hvu
  have E0 := eleven_start w (.int .i64 id) (.int .i64 x) (.int .i64 y) (.int .i64 pw) (.int .i64 ph) (.slice au nu cu) (.int .i64 cx) (.int .i64 cy) (.int .i64 cw) (.int .i64 ch) (.bool sh) 39 w.heap.size rfl
  obtain ⟨W0, HW0⟩ : ∃ W0, Hid (w.alloc (.cells #[.int .i64 id, .int .i64 x, .int .i64 y, .int .i64 pw, .int .i64 ph, .slice au nu cu, .int .i64 cx, .int .i64 cy, .int .i64 cw, .int .i64 ch, .bool sh] 39) = W0) := ⟨_, (rfl : _ = _)⟩
  have hb0 : Below w.heap.size w W0 := by rw [← HW0.out]; exact (Below.refl _ _).alloc (Nat.le_refl _) _
  rw [HW0.out] at E0
  have HE0 : Hid (Eleven W0 w.heap.size (.int .i64 id) (.int .i64 x) (.int .i64 y) (.int .i64 pw) (.int .i64 ph) (.slice au nu cu) (.int .i64 cx) (.int .i64 cy) (.int .i64 cw) (.int .i64 ch) (.bool sh)) := E0
  have HR0 : Hid (RdP W0 (.slice au nu cu) ps) := HR.out.on hb0
  clear E0
  go_enter Try.func16, Try.ntmps16
  obtain ⟨_, _, _, k3, k4, k5, _, _, _, _, _, _, _, _, _, _, _, _, _, _, _, _, _⟩ := HE0.out
  rw [← HW0.out] at k3 k4 k5
  go_wp2_with fail
  rw [HW0.out]
  clear k3 k4 k5
  by_cases hl : nu ≤ 80
  case neg =>
    refine (light_any pw ph au nu cu _ (by omega) false (by unfold Hid; simp [hl])).mono ?_
    rintro e w1 ⟨rfl, hb1⟩
    obtain rfl : false = b := by rw [← HB.out]; simp [hl]
    go_wp2_with fail
    go_ret
    exact ⟨rfl, hb0.trans (hb1.mono hb0.size)⟩
  refine (light_any pw ph au nu cu _ (by omega) true (by unfold Hid; simp [hl])).mono ?_
  rintro e w1 ⟨rfl, hb1⟩
  have HE1 : Hid (Eleven w1 w.heap.size (.int .i64 id) (.int .i64 x) (.int .i64 y) (.int .i64 pw) (.int .i64 ph) (.slice au nu cu) (.int .i64 cx) (.int .i64 cy) (.int .i64 cw) (.int .i64 ch) (.bool sh)) := HE0.out.on hb1
  have HR1 : Hid (RdP w1 (.slice au nu cu) ps) := HR0.out.on hb1
  replace hb1 := hb0.trans (hb1.mono hb0.size)
  clear HE0 HR0 HW0 hb0
  obtain ⟨k0, k1, k2, k3, k4, k5, k6, k7, k8, k9, k10, _, _, _, _, _, _, _, _, _, _, _, _⟩ := HE1.out
  obtain ⟨cc, HCC⟩ : ∃ c, Hid (objC id x y pw ph ps cx cy cw ch = c) := ⟨_, (rfl : _ = _)⟩
  rw [HCC.out] at HB
  go_wp2_with fail
  refine (ocheck_any id x y pw ph _ ps cx cy cw ch sh _ (by rw [HNU.out]; omega) HR1 cc HCC).mono ?_
  rintro e w2 ⟨rfl, hb2⟩
  have hbf := hb1.trans (hb2.mono hb1.size)
  by_cases hcc : cc = 0
  · subst hcc
    obtain rfl : true = b := by rw [← HB.out]; simp [hl]
    have hev : errV 0 = .nilIface := rfl
    rw [hev]
    go_wp2_with fail
    go_ret
    exact ⟨rfl, hbf⟩
  · obtain rfl : false = b := by rw [← HB.out]; simp [hcc]
    have hev : errV cc = .iface 61 (.int .i64 (cc : Int)) := by unfold errV; rw [if_neg hcc]
    rw [hev]
    go_wp2_with fail
    go_ret
    exact ⟨rfl, hbf⟩
end Go.Proofs.Ytnjnelfmfijgjac
