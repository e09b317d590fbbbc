/- Walk of the law TopPack. -/
import Derived.Test.YtjoggjjkafamlaaPackC
namespace Go.Proofs.Ytjoggjjkafamlaa
open Go.RowKit

theorem bt {a b c : World} (h1 : Below a.heap.size a b) (h2 : Below b.heap.size b c) : Below a.heap.size a c := h1.trans (h2.mono h1.size)

theorem str_self (s : ByteArray) : str s.data.toList = .string s := by unfold str; simp

theorem number_zero (w : World) : Calls Try.prog 21 #[.nilIface] w fun e w' => e = .returned (.int .i64 0) ∧ w = w' := by
  go_enter Try.func21, Try.ntmps21
  go_wp2
  go_ret
  exact ⟨rfl, rfl⟩

theorem assert_errno (W : World) (n : Int) : (Instr.typeAssert (.iface 57 (.int .i64 n)) 24 57 true).run Try.prog W = .ok (.tuple #[.int .i64 n, .bool true]) W := by kernel_rfl

theorem number_some (n : Int) (w : World) : Calls Try.prog 21 #[.iface 57 (.int .i64 n)] w fun e w' => e = .returned (.int .i64 n) ∧ w = w' := by
  have ha := fun W => assert_errno W n
  go_enter Try.func21, Try.ntmps21
  go_wp2
  go_ret
  exact ⟨rfl, rfl⟩

theorem unpack_at (s : ByteArray) (most : Int) (w : World) (hs : s.size ≤ 1000000) (hm0 : -9223372036854775808 ≤ most) (hm1 : most ≤ 9223372036854775807) (x : Value) (v : Value) (l : List UInt8) (c : Nat)
    (HZ : Hid (Fb.unpack s.data.toList most = (l, c))) (HX : Hid (str l = x)) (HV : Hid (errV c = v)) :
    Calls Try.prog 8 #[.string s, .int .i64 most] w fun e w' => e = .returned (.tuple #[x, v]) ∧ Below w.heap.size w w' := by
  have h := unpack_any s most w hs hm0 hm1
  rw [HZ.out] at h
  rw [← HX.out, ← HV.out]
  exact h

set_option maxHeartbeats 1000000 in
set_option maxRecDepth 100000 in
theorem topPack_any (s : ByteArray) (w : World) (hs : s.size ≤ maxLen) :
    Calls Try.prog 5 #[.string s] w fun e w' => e = .returned (.bool true) ∧ Below w.heap.size w w' := by
  unfold maxLen at hs
  go_enter Try.func5, Try.ntmps5
  go_wp2_with fail
  refine (unpack_at ⟨#[3, 97]⟩ 3 _ (by decide) (by decide) (by decide) (.string ⟨#[97, 97, 97]⟩) .nilIface [97, 97, 97] 0 (by unfold Hid; decide) rfl rfl).mono ?_
  rintro e w1 ⟨rfl, hb1⟩
  by_cases hbig : 1000 < s.size
  · go_wp2_with fail
    go_ret
    exact ⟨rfl, hb1⟩
  · go_wp2_with fail
    obtain ⟨l, HLl⟩ : ∃ l, Hid (s.data.toList = l) := ⟨_, (rfl : _ = _)⟩
    have hll : l.length = s.size := by rw [← HLl.out]; simp
    refine (pack_any s _ (by omega)).mono ?_
    rintro e w2 ⟨rfl, hb2⟩
    rw [HLl.out]
    obtain ⟨t, HT⟩ : ∃ t, Hid ((⟨(Fb.packL l).toArray⟩ : ByteArray) = t) := ⟨_, (rfl : _ = _)⟩
    have ht : t.size ≤ 2 * s.size := by
      rw [← HT.out, ← hll]
      have := Fb.packL_len l
      show (Fb.packL l).toArray.size ≤ _
      simpa using this
    have HTL : Hid (t.data.toList = Fb.packL l) := by unfold Hid; rw [← HT.out]
    unfold str
    rw [HT.out]
    have HU1 : Hid (Fb.unpack t.data.toList (s.size : Int) = (l, 0)) := by unfold Hid; rw [HTL.out, ← hll, Fb.unpack_packL]
    have HU2 : l ≠ [] → Hid (Fb.unpack t.data.toList ((s.size : Int) - 1) = ([], 2)) := by
      intro hne; unfold Hid; rw [HTL.out, ← hll, Fb.unpack_packL_less l hne]
    have HS : Hid (str l = .string s) := by unfold Hid; rw [← HLl.out, str_self]
    go_wp2_with fail
    refine (unpack_at t _ _ (by omega) (by omega) (by omega) (.string s) .nilIface l 0 HU1 HS rfl).mono ?_
    rintro e w3 ⟨rfl, hb3⟩
    go_wp2_with fail
    by_cases hne : l = []
    · have HE : Hid (Fb.unpack t.data.toList ((s.size : Int) - 1) = ([], 0)) := by unfold Hid; rw [HTL.out, ← hll, hne]; decide
      have hse : s = ⟨#[]⟩ := by
        have := HLl.out
        rw [hne] at this
        cases s with | mk d => cases d with | mk x => simp at this; rw [this]
      refine (unpack_at t _ _ (by omega) (by omega) (by omega) (.string ⟨#[]⟩) .nilIface [] 0 HE rfl rfl).mono ?_
      rintro e w4 ⟨rfl, hb4⟩
      clear HLl HU1 HU2 HE HS
      subst hse
      go_wp2_with fail
      go_ret
      exact ⟨rfl, bt (bt (bt hb1 hb2) hb3) hb4⟩
    · refine (unpack_at t _ _ (by omega) (by omega) (by omega) (.string ⟨#[]⟩) (.iface 57 (.int .i64 2)) [] 2 (HU2 hne) rfl rfl).mono ?_
      rintro e w4 ⟨rfl, hb4⟩
      go_wp2_with (go_at_call 21; refine (number_some 2 _).mono ?_; rintro e w5 ⟨rfl, rfl⟩)
      all_goals go_ret
      all_goals exact ⟨rfl, bt (bt (bt hb1 hb2) hb3) hb4⟩
end Go.Proofs.Ytjoggjjkafamlaa
