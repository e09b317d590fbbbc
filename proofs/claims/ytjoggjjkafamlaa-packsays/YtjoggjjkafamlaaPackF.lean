/- Walk of the law PackSays. -/
import Derived.Test.YtjoggjjkafamlaaPackE
namespace Go.Proofs.Ytjoggjjkafamlaa
open Go.RowKit

set_option maxRecDepth 100000 in
theorem same_ok (c : Nat) (v : Value) (hv : Hid (errV c = v)) (w : World) : Calls Try.prog 11 #[v, .int .i64 (c : Int)] w fun e w' => e = .returned (.bool true) ∧ w = w' := by
  by_cases h : c = 0
  · subst h
    have hv' : v = .nilIface := hv.out.symm
    subst hv'
    go_enter Try.func11, Try.ntmps11
    go_wp2
    go_ret
    exact ⟨rfl, rfl⟩
  · have hv' : v = .iface 57 (.int .i64 (c : Int)) := by rw [← hv.out]; unfold errV; rw [if_neg h]
    subst hv'
    clear hv
    have hpos : (0 : Int) < (c : Int) := by omega
    have ha := fun W => assert_errno W (c : Int)
    go_enter Try.func11, Try.ntmps11
    go_wp2
    go_ret
    exact ⟨rfl, rfl⟩

theorem pack_at (s : ByteArray) (w : World) (hs : s.size ≤ 1000000) (t : ByteArray) (HT : Hid ((⟨(Fb.packL s.data.toList).toArray⟩ : ByteArray) = t)) :
    Calls Try.prog 7 #[.string s] w fun e w' => e = .returned (.string t) ∧ Below w.heap.size w w' := by
  rw [← HT.out]; exact pack_any s w hs
theorem packed_at (s : ByteArray) (w : World) (hs : s.size ≤ 1000000) (t : ByteArray) (HT : Hid ((⟨(Fb.packL s.data.toList).toArray⟩ : ByteArray) = t)) :
    Calls Try.prog 10 #[.string s] w fun e w' => e = .returned (.string t) ∧ Below w.heap.size w w' := by
  rw [← HT.out]; exact packed_any s w hs
theorem unpacked_at (s : ByteArray) (most : Int) (w : World) (hs : s.size ≤ 1000000) (hm0 : -9223372036854775808 ≤ most) (hm1 : most ≤ 9223372036854775807) (x : Value) (l : List UInt8) (c : Nat)
    (HZ : Hid (Fb.unpack s.data.toList most = (l, c))) (HX : Hid (str l = x)) :
    Calls Try.prog 9 #[.string s, .int .i64 most] w fun e w' => e = .returned (.tuple #[x, .int .i64 (c : Int)]) ∧ w = w' := by
  have h := unpacked_any s most w hs hm0 hm1
  rw [HZ.out] at h
  rw [← HX.out]
  exact h

theorem errV_some (c : Nat) : ∃ v, Hid (errV c = v) := ⟨_, (rfl : _ = _)⟩

set_option maxHeartbeats 1000000 in
set_option maxRecDepth 100000 in
theorem packSays_any (s t : ByteArray) (most : Int) (w : World) (hs : s.size ≤ maxLen) (ht : t.size ≤ maxLen) (hm0 : -9223372036854775808 ≤ most) (hm1 : most ≤ 9223372036854775807) :
    Calls Try.prog 3 #[.string s, .string t, .int .i64 most] w fun e w' => e = .returned (.bool true) ∧ Below w.heap.size w w' := by
  unfold maxLen at hs ht
  go_enter Try.func3, Try.ntmps3
  go_wp2_with fail
  refine (pack_at ⟨#[97, 97, 98]⟩ _ (by decide) ⟨#[2, 97, 1, 98]⟩ (by unfold Hid; decide)).mono ?_
  rintro e w1 ⟨rfl, hb1⟩
  by_cases h1 : 1000 < s.size
  · go_wp2_with fail
    go_ret
    exact ⟨rfl, hb1⟩
  · by_cases h2 : 60 < t.size
    · go_wp2_with fail
      go_ret
      exact ⟨rfl, hb1⟩
    · by_cases h3 : 10000 < most
      · go_wp2_with fail
        go_ret
        exact ⟨rfl, hb1⟩
      · obtain ⟨z, HZ⟩ : ∃ z, Hid (Fb.unpack t.data.toList most = z) := ⟨_, (rfl : _ = _)⟩
        obtain ⟨l, c⟩ := z
        obtain ⟨x, HX⟩ : ∃ x, Hid ((⟨l.toArray⟩ : ByteArray) = x) := ⟨_, (rfl : _ = _)⟩
        have HXS : Hid (str l = .string x) := by unfold Hid str; rw [HX.out]
        obtain ⟨v, HV⟩ := errV_some c
        obtain ⟨p, HP⟩ : ∃ p, Hid ((⟨(Fb.packL s.data.toList).toArray⟩ : ByteArray) = p) := ⟨_, (rfl : _ = _)⟩
        go_wp2_with fail
        refine (unpack_at t most _ (by omega) hm0 hm1 _ v l c HZ HXS HV).mono ?_
        rintro e w2 ⟨rfl, hb2⟩
        go_wp2_with fail
        refine (unpacked_at t most _ (by omega) hm0 hm1 _ l c HZ HXS).mono ?_
        rintro e w3 ⟨rfl, rfl⟩
        go_wp2_with fail
        refine (pack_at s _ (by omega) p HP).mono ?_
        rintro e w4 ⟨rfl, hb4⟩
        go_wp2_with fail
        refine (packed_at s _ (by omega) p HP).mono ?_
        rintro e w5 ⟨rfl, hb5⟩
        go_wp2_with fail
        refine (same_ok c v HV _).mono ?_
        rintro e w6 ⟨rfl, rfl⟩
        go_wp2_with fail
        go_ret
        exact ⟨rfl, bt (bt (bt hb1 hb2) hb4) hb5⟩
end Go.Proofs.Ytjoggjjkafamlaa
