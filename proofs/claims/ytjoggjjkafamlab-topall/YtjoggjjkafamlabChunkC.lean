/- Walks of chunk's measure and open. -/
import Derived.Test.YtjoggjjkafamlabChunkB
namespace Go.Proofs.Ytjoggjjkafamlab
open Go.RowKit

theorem ext_data (s : ByteArray) (a b : Nat) : (s.extract a b).data.toList = (s.data.toList.drop a).take (b - a) := by
  rw [ByteArray.data_extract, Array.toList_extract, List.extract_eq_take_drop]

set_option maxHeartbeats 2000000 in
set_option maxRecDepth 100000 in
theorem measure_any (s : ByteArray) (w : World) (hs : s.size ≤ 1000000) :
    Calls Try.prog 18 #[.string s] w fun e w' => e = .returned (.tuple #[.int .i64 ((Fb.measureL s.data.toList).1 : Nat), errV (Fb.measureL s.data.toList).2]) ∧ Below w.heap.size w w' := by
  have HL : Hid (s.data.toList.length = s.size) := by unfold Hid; simp
  by_cases h8 : s.size < 8
  · have HF : Hid (Fb.measureL s.data.toList = (0, 4)) := by unfold Hid Fb.measureL; rw [if_pos (.inl (by rw [HL.out]; exact h8))]
    go_enter Try.func18, Try.ntmps18
    go_wp2_with fail
    go_ret2
    exact ⟨by rw [HF.out]; rfl, Below.refl _ _⟩
  · have HE4 : Hid ((s.extract 0 4).data.toList = s.data.toList.take 4) := by unfold Hid; rw [ext_data]; rfl
    have hx4 : (s.extract 0 4).size ≤ 9223372036854775807 := by rw [ByteArray.size_extract]; omega
    cases hnm : Fb.nameB (s.data.toList.take 4) with
    | false =>
      have HN : Hid (Fb.nameB (s.extract 0 4).data.toList = false) := by unfold Hid; rw [HE4.out]; exact hnm
      have HF : Hid (Fb.measureL s.data.toList = (0, 4)) := by unfold Hid Fb.measureL; rw [if_pos (.inr hnm)]
      clear hnm
      go_enter Try.func18, Try.ntmps18
      go_wp2_with fail
      refine (name_any _ _ hx4 false HN).mono ?_
      rintro e w1 ⟨rfl, rfl⟩
      go_wp2_with fail
      go_ret2
      exact ⟨by rw [HF.out]; rfl, Below.refl _ _⟩
    | true =>
      have HN : Hid (Fb.nameB (s.extract 0 4).data.toList = true) := by unfold Hid; rw [HE4.out]; exact hnm
      have HF0 : Hid (Fb.measureL s.data.toList = if s.data.toList.length < Fb.endL s.data.toList + 2 then (0, 4)
          else if (s.data.toList.drop (Fb.endL s.data.toList)).take 2 = Fb.pairL (Fb.sumL (s.data.toList.take (Fb.endL s.data.toList))).1 (Fb.sumL (s.data.toList.take (Fb.endL s.data.toList))).2 then (Fb.endL s.data.toList + 2, 0) else (0, 6)) := by
        unfold Hid Fb.measureL
        rw [if_neg]
        intro h
        rcases h with h | h
        · rw [HL.out] at h; exact h8 h
        · rw [hnm] at h; cases h
      clear hnm
      obtain ⟨c4, HC4⟩ : ∃ c, Hid (s.data.toList.getD 4 0 = c) := ⟨_, (rfl : _ = _)⟩
      obtain ⟨m4, HM4⟩ : ∃ m, Hid (c4.toNat = m) := ⟨_, (rfl : _ = _)⟩
      obtain ⟨c5, HC5⟩ : ∃ c, Hid (s.data.toList.getD 5 0 = c) := ⟨_, (rfl : _ = _)⟩
      obtain ⟨m5, HM5⟩ : ∃ m, Hid (c5.toNat = m) := ⟨_, (rfl : _ = _)⟩
      have hix4 := nat_at s 4 c4 HC4 m4 HM4
      have hix5 := nat_at s 5 c5 HC5 m5 HM5
      have hm4 := byte_le c4 m4 HM4
      have hm5 := byte_le c5 m5 HM5
      have hs5 : 5 < s.size := by omega
      have hs4 : 4 < s.size := by omega
      have HEN : Hid (Fb.endL s.data.toList = 6 + m4 + 256 * m5) := by unfold Hid Fb.endL; rw [HC4.out, HC5.out, HM4.out, HM5.out]
      obtain ⟨E, HE⟩ : ∃ E, Hid (6 + m4 + 256 * m5 = E) := ⟨_, (rfl : _ = _)⟩
      have hE1 : 6 ≤ E := by rw [← HE.out]; omega
      have hE2 : E ≤ 70000 := by rw [← HE.out]; omega
      rw [HE.out] at HEN
      go_enter Try.func18, Try.ntmps18
      go_wp2_with fail
      refine (name_any _ _ hx4 true HN).mono ?_
      rintro e w1 ⟨rfl, rfl⟩
      go_upto_region 3 with fail
      go_cut [4] from 5 (fun s4 wc => s4 = .int .i64 (E : Int) ∧ Below w.heap.size w wc)
      case first =>
        go_quiet (fail)
        go_wp2_with fail
        go_meet
        exact ⟨by rw [← HE.out]; simp, below_drewN (Below.refl _ _) nq⟩
      case rest =>
        obtain ⟨rfl, hbc⟩ := hcut
        clear hix4 hix5
        by_cases hshort : s.size < E + 2
        · have HF : Hid (Fb.measureL s.data.toList = (0, 4)) := by unfold Hid; rw [HF0.out, HEN.out, HL.out, if_pos hshort]
          go_wp2_with fail
          go_ret2
          exact ⟨by rw [HF.out]; rfl, hbc⟩
        · obtain ⟨x, HX⟩ : ∃ x, Hid (s.extract 0 E = x) := ⟨_, (rfl : _ = _)⟩
          have hxs : x.size ≤ 1000000 := by rw [← HX.out, ByteArray.size_extract]; omega
          have hxl : x.data.toList = s.data.toList.take E := by rw [← HX.out, ext_data]; rfl
          obtain ⟨z, HZ⟩ : ∃ z, Hid (Fb.sumL x.data.toList = z) := ⟨_, (rfl : _ = _)⟩
          obtain ⟨za, zb⟩ := z
          obtain ⟨p2, HP2⟩ : ∃ p, Hid ((⟨(Fb.pairL za zb).toArray⟩ : ByteArray) = p) := ⟨_, (rfl : _ = _)⟩
          have hz := Fb.sumL_lt x.data.toList
          rw [HZ.out] at hz
          obtain ⟨hza, hzb⟩ := hz
          simp only at hza hzb
          have hza2 : za < 256 := by omega
          have hzb2 : zb < 256 := by omega
          obtain ⟨y, HY⟩ : ∃ x, Hid (s.extract E (E + 2) = x) := ⟨_, (rfl : _ = _)⟩
          have HF1 : Hid (Fb.measureL s.data.toList = if y.data.toList = p2.data.toList then (E + 2, 0) else (0, 6)) := by
            unfold Hid
            rw [HF0.out, HEN.out, HL.out, if_neg hshort, ← hxl, HZ.out, ← HY.out, ext_data, ← HP2.out, show E + 2 - E = 2 by omega]
          clear hxl
          have hi1 : (E : Int) + 2 ≤ (s.size : Int) := by omega
          have hi2 : (E : Int) ≤ (s.size : Int) := by omega
          have hi3 : (0 : Int) ≤ (E : Int) := by omega
          have hi4 : IntKind.i64.wrap ((E : Int) + 2) = (E : Int) + 2 := by rw [IntKind.wrap_i64]; omega
          have hi5 : ((E : Int) + 2).toNat = E + 2 := by omega
          have hi6 : (E : Int) ≤ (E : Int) + 2 := by omega
          have hi7 : (0 : Int) ≤ (E : Int) + 2 := by omega
          go_upto_region 6 with fail
          go_cut [42] from 5 (fun s42 wc2 => s42 = .bool (!((s.extract E (E + 2)).toList == p2.toList)) ∧ Below w.heap.size w wc2)
          case first =>
            go_region_with (first | (go_at_call 6; rw [HX.out]; refine (sum_any x _ hxs za zb HZ).mono ?_; rintro e w3 ⟨rfl, rfl⟩) | (go_at_call 17; refine (pair_at _ _ za zb p2 _ rfl rfl hza2 hzb2 HP2).mono ?_; rintro e w4 ⟨rfl, hb4⟩))
            all_goals (go_wp2_with fail; go_meet)
            all_goals exact ⟨rfl, hbc.drew.trans (hb4.mono hbc.size)⟩
          case rest =>
            obtain ⟨rfl, hbd⟩ := hcut
            by_cases heq : y.data.toList = p2.data.toList
            · have hte : ((s.extract E (E + 2)).toList == p2.toList) = true := by rw [HY.out, Lib.toList_data, Lib.toList_data, heq]; simp
              have HF : Hid (Fb.measureL s.data.toList = (E + 2, 0)) := by unfold Hid; rw [HF1.out, if_pos heq]
              rw [hte]
              go_wp2_with fail
              go_ret2
              exact ⟨ret2 (by rw [HF.out]; rfl) (by rw [HF.out]; rfl), hbd⟩
            · have hte : ((s.extract E (E + 2)).toList == p2.toList) = false := by rw [HY.out, Lib.toList_data, Lib.toList_data]; simpa using heq
              have HF : Hid (Fb.measureL s.data.toList = (0, 6)) := by unfold Hid; rw [HF1.out, if_neg heq]
              rw [hte]
              go_wp2_with fail
              go_ret2
              exact ⟨ret2 (by rw [HF.out]; rfl) (by rw [HF.out]; rfl), hbd⟩
end Go.Proofs.Ytjoggjjkafamlab
