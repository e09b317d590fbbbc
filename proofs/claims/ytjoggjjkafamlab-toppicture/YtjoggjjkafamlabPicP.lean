/- Walk of the law TopPicture. -/
import Derived.Test.YtjoggjjkafamlabPicL
import Derived.Test.YtjoggjjkafamlabPicN
import Derived.Test.YtjoggjjkafamlabPicO
import Derived.Test.YtjoggjjkafamlabPicJ
import Derived.Test.YtjoggjjkafamlabNum
namespace Go.Proofs.Ytjoggjjkafamlab
open Go.RowKit

theorem rdP_lit (w : World) (g : Nat) (h : Duo w g (.int .i64 0) (.int .i64 0)) : RdP w (.slice (some ⟨g, 0, none⟩) 1 1) [(0, 0)] := by
  refine ⟨_, 1, rfl, by simp, by omega, fun _ => ⟨g, 0, rfl, h.lt, fun j hj => ?_⟩⟩
  have : j = 0 := by simpa using hj
  subst this
  exact ⟨h.c0, h.c1⟩
theorem duo_start2 (w : World) (x y : Value) (T : TypeId) : Duo (w.alloc (.cells #[x, y] T)) w.heap.size x y := ⟨by simp, by simp, by simp⟩

theorem picBytes_at (W H : Nat) (v : Value) (ps : List (Int × Int)) (w : World) (HR : Hid (RdP w v ps)) (HC : Hid (checkL (W : Int) (H : Int) ps = 0)) (t : ByteArray) (HT : Hid (picBytes W H ps = t.data.toList)) :
    Calls Try.prog 13 #[.agg #[.int .i64 (W : Int), .int .i64 (H : Int), v]] w fun e w' => e = .returned (.tuple #[.string t, .nilIface]) ∧ Below w.heap.size w w' := by
  have h := picBytes_ok W H v ps w HR HC
  rw [HT.out, str_self] at h
  exact h

set_option maxHeartbeats 4000000 in
set_option maxRecDepth 100000 in
theorem topPicture_any (W H : Int) (v : Value) (ps : List (Int × Int)) (w : World) (HR : Hid (RdP w v ps)) :
    Calls Try.prog 5 #[.agg #[.int .i64 W, .int .i64 H, v]] w fun e w' => e = .returned (.bool true) ∧ Below w.heap.size w w' := by
  obtain ⟨a, cap, hv, hlc, hcap, hh⟩ := HR.out
  obtain ⟨n, HNN⟩ : ∃ n, Hid (ps.length = n) := ⟨_, (rfl : _ = _)⟩
  clear hh
  rw [HNN.out] at hv hlc
  subst hv
  have H30 := three_start w (.int .i64 W) (.int .i64 H) (.slice a n cap) 42
  have hb0 : Below w.heap.size w (w.alloc (.cells #[.int .i64 W, .int .i64 H, .slice a n cap] 42)) := (Below.refl _ _).alloc (Nat.le_refl _) _
  obtain ⟨w0, HW0⟩ : ∃ w0, Hid (w.alloc (.cells #[.int .i64 W, .int .i64 H, .slice a n cap] 42) = w0) := ⟨_, (rfl : _ = _)⟩
  have hs0 : w0.heap.size = w.heap.size + 1 := by rw [← HW0.out]; simp
  rw [HW0.out] at H30 hb0
  have HD := duo_start2 w0 (.int .i64 0) (.int .i64 0) 45
  rw [hs0] at HD
  have hb1 : Below w0.heap.size w0 (w0.alloc (.cells #[.int .i64 0, .int .i64 0] 45)) := (Below.refl _ _).alloc (Nat.le_refl _) _
  have H31 := H30.on hb1
  have HR1 := (HR.out.on hb0).on hb1
  have hbw1 := hb0.trans (hb1.mono hb0.size)
  obtain ⟨w1, HW1⟩ : ∃ w1, Hid (w0.alloc (.cells #[.int .i64 0, .int .i64 0] 45) = w1) := ⟨_, (rfl : _ = _)⟩
  rw [HW1.out] at HD H31 HR1 hbw1
  clear hs0 hb0 hb1 H30
  go_enter Try.func5, Try.ntmps5
  go_wp2_with fail
  rw [HW0.out, HW1.out]
  refine (check_any 1 1 _ [(0, 0)] w1 (by simp) (rdP_lit _ _ HD) 0 (by unfold Hid; decide)).mono ?_
  rintro e w2 ⟨rfl, hb2⟩
  rw [errV0]
  have H32 := H31.on hb2
  have HR2 : Hid (RdP w2 (.slice a n cap) ps) := HR1.on hb2
  have hbw2 := hbw1.trans (hb2.mono hbw1.size)
  clear HD H31 HR1 hbw1 hb2
  by_cases hn : n ≤ 80
  · obtain ⟨c0, c1, c2, f0, f1, f2, tl⟩ := H32
    have H32 : Three w2 w.heap.size (.int .i64 W) (.int .i64 H) (.slice a n cap) := ⟨c0, c1, c2, f0, f1, f2, tl⟩
    go_wp2_with fail
    refine (light_any W H a n cap w2 (by omega) true (by unfold Hid; simp [hn])).mono ?_
    rintro e w3 ⟨rfl, hb3⟩
    have H33 := H32.on hb3
    have HR3 : Hid (RdP w3 (.slice a n cap) ps) := HR2.out.on hb3
    have hbw3 := hbw2.trans (hb3.mono hbw2.size)
    clear H32 HR2 hbw2 hb3 c0 c1 c2 f0 f1 f2 tl
    obtain ⟨c, HC⟩ : ∃ c, Hid (checkL W H ps = c) := ⟨_, (rfl : _ = _)⟩
    by_cases hc : c = 0
    · subst hc
      obtain ⟨hW1, hW8, hH1, hH8, _, _⟩ := check_ok HC.out
      obtain ⟨W, rfl⟩ : ∃ k : Nat, W = (k : Int) := ⟨W.toNat, by omega⟩
      obtain ⟨H, rfl⟩ : ∃ k : Nat, H = (k : Int) := ⟨H.toNat, by omega⟩
      obtain ⟨t, HT⟩ := bytes_of (picBytes W H ps)
      have hts : t.size ≤ 2 + 2 * (H * (1 + 2 * W)) := by rw [size_of HT]; exact picBytes_len W H ps HC.out
      have HPT : Hid (parseL t.data.toList = (W, H, ps, 0)) := by unfold Hid; rw [← HT.out]; exact parse_picBytes W H ps HC.out
      obtain ⟨L, HLN⟩ : ∃ L, Hid (1 + 2 * W = L) := ⟨_, (rfl : _ = _)⟩
      have hL1 : L ≤ 17 := by rw [← HLN.out]; omega
      have hL2 : 3 ≤ L := by rw [← HLN.out]; omega
      have hLI : 1 + 2 * (W : Int) = (L : Int) := by rw [← HLN.out]; simp
      obtain ⟨M, HM⟩ : ∃ M, Hid (2 * H * L = M) := ⟨_, (rfl : _ = _)⟩
      have hM : M ≤ 272 := by rw [← HM.out]; have := Nat.mul_le_mul (show 2 * H ≤ 16 by omega) hL1; omega
      have hMI : 2 * (H : Int) * (L : Int) = (M : Int) := by rw [← HM.out]; simp
      have hts2 : t.size ≤ 2 + M := by rw [← HM.out, ← HLN.out, Nat.mul_assoc]; exact hts
      clear hts
      obtain ⟨c0, c1, c2, f0, f1, f2, tl⟩ := H33
      have H33 : Three w3 w.heap.size (.int .i64 (W : Int)) (.int .i64 (H : Int)) (.slice a n cap) := ⟨c0, c1, c2, f0, f1, f2, tl⟩
      go_wp2_with fail
      refine (picBytes_at W H _ ps w3 HR3 HC t HT).mono ?_
      rintro e w4 ⟨rfl, hb4⟩
      have H34 := H33.on hb4
      have HR4 : Hid (RdP w4 (.slice a n cap) ps) := HR3.out.on hb4
      have hbw4 := hbw3.trans (hb4.mono hbw3.size)
      clear H33 HR3 hbw3 hb4 c0 c1 c2 f0 f1 f2 tl
      go_wp2_with fail
      refine (parse_any t w4 (by omega) W H 0 ps HPT).mono ?_
      rintro e w5 ⟨v5, rfl, HP5, hb5⟩
      rw [errV0]
      have H35 := H34.on hb5
      have HR5 : Hid (RdP w5 (.slice a n cap) ps) := HR4.out.on hb5
      have hbw5 := hbw4.trans (hb5.mono hbw4.size)
      clear H34 HR4 hbw4 hb5
      obtain ⟨c0, c1, c2, f0, f1, f2, tl⟩ := H35
      have H35 : Three w5 w.heap.size (.int .i64 (W : Int)) (.int .i64 (H : Int)) (.slice a n cap) := ⟨c0, c1, c2, f0, f1, f2, tl⟩
      obtain ⟨a5, cap5, hv5⟩ := pow_slice HP5
      rw [HNN.out] at hv5
      subst hv5
      have hb6 : Below w5.heap.size w5 (w5.alloc (.cells #[.int .i64 (W : Int), .int .i64 (H : Int), .slice a5 n cap5] 42)) := (Below.refl _ _).alloc (Nat.le_refl _) _
      have H36 := H35.on hb6
      have HP6 : Hid (RdP (w5.alloc (.cells #[.int .i64 (W : Int), .int .i64 (H : Int), .slice a5 n cap5] 42)) (.slice a5 n cap5) ps) := HP5.on hb6
      have HR6 : Hid (RdP (w5.alloc (.cells #[.int .i64 (W : Int), .int .i64 (H : Int), .slice a5 n cap5] 42)) (.slice a n cap) ps) := HR5.out.on hb6
      have hbw6 := hbw5.trans (hb6.mono hbw5.size)
      clear H35 HR5 hbw5 hb6 HP5
      go_wp2_with fail
      refine (samePic_any (W : Int) (H : Int) _ _ ps _ (by rw [HNN.out]; omega) HP6 HR6).mono ?_
      rintro e w7 ⟨rfl, hb7⟩
      have H37 := H36.on hb7
      have hbw7 := hbw6.trans (hb7.mono hbw6.size)
      clear HP6 HR6 hbw6 hb7 c0 c1 c2 f0 f1 f2 tl H36
      obtain ⟨c0, c1, c2, f0, f1, f2, tl⟩ := H37
      go_wp2_with fail
      go_ret
      exact ⟨by rw [decide_eq_true (by omega)]; rfl, hbw7⟩
    · obtain ⟨c0, c1, c2, f0, f1, f2, tl⟩ := H33
      have H33 : Three w3 w.heap.size (.int .i64 W) (.int .i64 H) (.slice a n cap) := ⟨c0, c1, c2, f0, f1, f2, tl⟩
      have HE : Hid (errV c = .iface 52 (.int .i64 (c : Int))) := by unfold Hid errV; rw [if_neg hc]
      have hpl : ps.length ≤ 1000000000 := by rw [HNN.out]; omega
      go_wp2_with fail
      refine (picBytes_err W H _ ps w3 hpl HR3 c hc HC).mono ?_
      rintro e w4 ⟨rfl, hb4⟩
      have H34 := H33.on hb4
      have HR4 : Hid (RdP w4 (.slice a n cap) ps) := HR3.out.on hb4
      have hbw4 := hbw3.trans (hb4.mono hbw3.size)
      clear H33 HR3 hbw3 hb4 c0 c1 c2 f0 f1 f2 tl
      obtain ⟨c0, c1, c2, f0, f1, f2, tl⟩ := H34
      go_wp2_with fail
      refine (check_any W H _ ps w4 hpl HR4 c HC).mono ?_
      rintro e w5 ⟨rfl, hb5⟩
      rw [HE.out]
      have hbw5 := hbw4.trans (hb5.mono hbw4.size)
      go_wp2_with fail
      refine (number_some _ _).mono ?_
      rintro e w6 ⟨rfl, rfl⟩
      go_wp2_with fail
      refine (number_some _ _).mono ?_
      rintro e w6 ⟨rfl, rfl⟩
      go_wp2_with fail
      go_ret
      exact ⟨rfl, hbw5⟩
  · obtain ⟨c0, c1, c2, f0, f1, f2, tl⟩ := H32
    go_wp2_with fail
    refine (light_any W H a n cap w2 (by omega) false (by unfold Hid; simp [hn])).mono ?_
    rintro e w3 ⟨rfl, hb3⟩
    go_wp2_with fail
    go_ret
    exact ⟨rfl, hbw2.trans (hb3.mono hbw2.size)⟩
end Go.Proofs.Ytjoggjjkafamlab
