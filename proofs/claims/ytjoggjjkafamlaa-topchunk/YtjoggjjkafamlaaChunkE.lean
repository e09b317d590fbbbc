/- Walk of the law TopChunk. -/
import Derived.Test.YtjoggjjkafamlaaChunkD
import Derived.Test.YtjoggjjkafamlaaChunkM2
namespace Go.Proofs.Ytjoggjjkafamlaa
open Go.RowKit

theorem bytes_at (n d : ByteArray) (w : World) (hn : n.size ≤ 9223372036854775807) (hd : d.size ≤ 9223372036854775807) (x v : Value) (l : List UInt8) (c : Nat)
    (HZ : Hid (Fb.chunkBytes n.data.toList d.data.toList = (l, c))) (HX : Hid (str l = x)) (HV : Hid (errV c = v)) :
    Calls Try.prog 23 #[.agg #[.string n, .string d]] w fun e w' => e = .returned (.tuple #[x, v]) ∧ Below w.heap.size w w' := by
  have h := bytes_any n d w hn hd
  rw [HZ.out] at h
  rw [← HX.out, ← HV.out]
  exact h
theorem first_at (s : ByteArray) (w : World) (hs : s.size ≤ 1000000) (v : Value) (HF : Hid (firstV s.data.toList = v)) :
    Calls Try.prog 24 #[.string s] w fun e w' => e = .returned v ∧ Below w.heap.size w w' := by
  rw [← HF.out]; exact first_any s w hs

set_option maxHeartbeats 2000000 in
set_option maxRecDepth 100000 in
theorem topChunk_any (n d r : ByteArray) (w : World) (hn : n.size ≤ maxLen) (hd : d.size ≤ maxLen) (hr : r.size ≤ maxLen) :
    Calls Try.prog 6 #[.string n, .string d, .string r] w fun e w' => e = .returned (.bool true) ∧ Below w.heap.size w w' := by
  unfold maxLen at hn hd hr
  have HLD : Hid (d.data.toList.length = d.size) := by unfold Hid; simp
  go_enter Try.func6, Try.ntmps6
  go_wp2_with fail
  refine (name_any ⟨#[87, 65, 73, 84]⟩ _ (by decide) true (by unfold Hid; decide)).mono ?_
  rintro e w1 ⟨rfl, rfl⟩
  go_wp2_with fail
  refine (name_any ⟨#[119, 97, 105, 116]⟩ _ (by decide) false (by unfold Hid; decide)).mono ?_
  rintro e w1 ⟨rfl, rfl⟩
  by_cases h1 : 10 < n.size
  · go_wp2_with fail
    go_ret
    exact ⟨rfl, Below.refl _ _⟩
  · by_cases h2 : 500 < d.size
    · go_wp2_with fail
      go_ret
      exact ⟨rfl, Below.refl _ _⟩
    · by_cases h3 : 500 < r.size
      · go_wp2_with fail
        go_ret
        exact ⟨rfl, Below.refl _ _⟩
      · cases hnm : Fb.nameB n.data.toList with
        | false =>
          have HN : Hid (Fb.nameB n.data.toList = false) := hnm
          clear hnm
          go_wp2_with fail
          refine (bytes_at n d _ (by omega) (by omega) (.string ⟨#[]⟩) (.iface 57 (.int .i64 3)) [] 3 (Fb.chunkBytes_no _ _ HN.out) rfl rfl).mono ?_
          rintro e w2 ⟨rfl, hb2⟩
          go_wp2_with fail
          refine (name_any n _ (by omega) false HN).mono ?_
          rintro e w3 ⟨rfl, rfl⟩
          go_wp2_with fail
          go_ret
          exact ⟨rfl, hb2⟩
        | true =>
          have HN : Hid (Fb.nameB n.data.toList = true) := hnm
          clear hnm
          obtain ⟨l, HLL⟩ : ∃ l, Hid (Fb.sealL (Fb.headL n.data.toList d.data.toList) = l) := ⟨_, (rfl : _ = _)⟩
          have HB : Hid (Fb.chunkBytes n.data.toList d.data.toList = (l, 0)) := by unfold Hid; rw [← HLL.out]; exact Fb.chunkBytes_ok _ _ HN.out (by rw [HLD.out]; omega)
          obtain ⟨t, HT⟩ : ∃ t, Hid ((⟨l.toArray⟩ : ByteArray) = t) := ⟨_, (rfl : _ = _)⟩
          have HST : Hid (str l = .string t) := by unfold Hid str; rw [HT.out]
          have hts : t.size ≤ 600 := by
            rw [← HT.out]; show l.toArray.size ≤ _
            rw [← HLL.out]
            simp only [List.size_toArray]
            rw [Fb.sealL_len, Fb.headL_len _ _ (Fb.nameB_len HN.out), HLD.out]; omega
          have HFI : Hid (firstV (t ++ r).data.toList = .tuple #[.agg #[.string n, .string d], .string r, .nilIface]) := by
            unfold Hid firstV
            have e : (t ++ r).data.toList = Fb.sealL (Fb.headL n.data.toList d.data.toList) ++ r.data.toList := by
              rw [ByteArray.data_append, Array.toList_append, HLL.out, ← HT.out]
            rw [e, Fb.first_seal _ _ _ HN.out (by rw [HLD.out]; omega)]
            simp only [str_self]
            rfl
          have htr : (t ++ r).size ≤ 1000000 := by rw [ByteArray.size_append]; omega
          go_wp2_with fail
          refine (bytes_at n d _ (by omega) (by omega) (.string t) .nilIface l 0 HB HST rfl).mono ?_
          rintro e w2 ⟨rfl, hb2⟩
          go_wp2_with fail
          refine (first_at (t ++ r) _ htr _ HFI).mono ?_
          rintro e w3 ⟨rfl, hb3⟩
          go_wp2_with fail
          go_ret
          exact ⟨rfl, (bt hb2 hb3).alloc (bt hb2 hb3).size _⟩
end Go.Proofs.Ytjoggjjkafamlaa
