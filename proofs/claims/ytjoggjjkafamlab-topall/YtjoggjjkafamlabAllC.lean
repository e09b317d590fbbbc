/- Walk of the law TopAll, the way with chunks. -/
import Derived.Test.YtjoggjjkafamlabAllB
namespace Go.Proofs.Ytjoggjjkafamlab
open Go.RowKit

set_option maxHeartbeats 4000000 in
set_option maxRecDepth 100000 in
theorem topAll_some (b0 off0 b1 off1 len0 cap0 len1 cap1 : Nat) (nf df : Nat → ByteArray) (w : World) (hp : 0 < len0) (h20 : len0 ≤ 20) (h01 : len0 ≤ len1) (hl1 : len1 ≤ 9223372036854775807) (hB0 : b0 < w.heap.size) (hB1 : b1 < w.heap.size)
    (HC0 : Hid (∀ i, i < len0 → w.cell? ⟨b0, off0 + i, none⟩ = some (.string (nf i)))) (HC1 : Hid (∀ i, i < len0 → w.cell? ⟨b1, off1 + i, none⟩ = some (.string (df i))))
    (HS0 : Hid (∀ i, (nf i).size ≤ 9223372036854775807)) (HS1 : Hid (∀ i, (df i).size ≤ 9223372036854775807)) :
    Calls Try.prog 4 #[.slice (some ⟨b0, off0, none⟩) len0 cap0, .slice (some ⟨b1, off1, none⟩) len1 cap1] w fun e w' => e = .returned (.bool true) ∧ Below w.heap.size w w' := by
  have hd1 : decide (len1 < len0) = false := by simp; omega
  have hd2 : decide ((20 : Int) < (len0 : Int)) = false := by simp; omega
  have hd3 : decide ((len1 : Int) < (len0 : Int)) = false := by simp; omega
  go_enter Try.func4, Try.ntmps4
  go_wp2_with fail
  refine (bytes_at ⟨#[87, 65, 73, 84]⟩ ⟨#[]⟩ _ (by decide) (by decide) (.string ⟨#[87, 65, 73, 84, 0, 0, 59, 142]⟩) .nilIface [87, 65, 73, 84, 0, 0, 59, 142] 0 (by unfold Hid; decide) rfl rfl).mono ?_
  rintro e w1 ⟨rfl, hb1⟩
  go_wp2_with fail
  refine (all_at ⟨#[]⟩ 0 _ (by decide) (by decide) (by decide) [] 0 .nilIface (by unfold Hid; decide) rfl).mono ?_
  rintro e w2 ⟨v2, rfl, hown2, hb2⟩
  obtain ⟨ao2, cp2, hv2⟩ := own_any hown2
  simp only [List.length_nil] at hv2
  have hbb2 := bt hb1 hb2
  clear hown2 hb1 hb2
  rw [hv2]
  go_wp2_with fail
  go_loopw [8, 9] (fun v i wr => ∃ (k : Nat) (x : ByteArray) (cs : List (List UInt8 × List UInt8)), k ≤ len0 ∧ i = .int .i64 k ∧ v = .string x ∧ x.size ≤ 108 * k ∧ Below w.heap.size w wr ∧ Hid (x.data.toList = Fb.catL cs) ∧ Hid (cs.length = k) ∧ Hid (∀ p ∈ cs, Fb.nameB p.1 = true ∧ p.2.length ≤ 100) ∧ Hid (∀ j, j < k → cs[j]? = some ((nf j).data.toList, (df j).data.toList))) (fun _ i _ => len0 - (intOf i).toNat)
  case atStart => exact ⟨0, ⟨#[]⟩, [], by omega, rfl, rfl, by decide, hbb2, rfl, rfl, (by unfold Hid; intro p hp; cases hp), (by unfold Hid; intro j hj; omega)⟩
  case round =>
    obtain ⟨k, x, cs, hk, rfl, rfl, hxs, hb, HX, HCL, HV, HJ⟩ := hrel
    by_cases hlt : k < len0
    · obtain ⟨n, HNF⟩ : ∃ n, Hid (nf k = n) := ⟨_, (rfl : _ = _)⟩
      obtain ⟨d, HDF⟩ : ∃ n, Hid (df k = n) := ⟨_, (rfl : _ = _)⟩
      have hc0 : wr.cell? ⟨b0, off0 + k, none⟩ = some (.string n) := by rw [hb.cell (p := ⟨b0, off0 + k, none⟩) hB0, HC0.out k hlt, HNF.out]
      have hc1 : wr.cell? ⟨b1, off1 + k, none⟩ = some (.string d) := by rw [hb.cell (p := ⟨b1, off1 + k, none⟩) hB1, HC1.out k hlt, HDF.out]
      have hn := HS0.out k
      rw [HNF.out] at hn
      have hd := HS1.out k
      rw [HDF.out] at hd
      have hlt1 : k < len1 := by omega
      by_cases h10 : 10 < n.size
      · go_wp2_with fail
        go_ret
        exact ⟨rfl, hb⟩
      · by_cases h100 : 100 < d.size
        · go_wp2_with fail
          go_ret
          exact ⟨rfl, hb⟩
        · cases hnm : Fb.nameB n.data.toList with
          | false =>
            have HB : Hid (Fb.chunkBytes n.data.toList d.data.toList = ([], 3)) := Fb.chunkBytes_no _ _ hnm
            clear hnm
            have HBC : Hid (∀ W, Calls Try.prog 7 #[.agg #[.string n, .string d]] W fun e w' => e = .returned (.tuple #[.string ⟨#[]⟩, .iface 52 (.int .i64 3)]) ∧ Below W.heap.size W w') := fun W => bytes_at n d W hn hd _ _ [] 3 HB rfl rfl
            go_upto_region 15 with fail
            go_region_with (go_at_call 7; refine (HBC.out _).mono ?_; rintro e w3 ⟨rfl, hb3⟩)
            all_goals go_wp2_with fail
            all_goals go_ret
            all_goals exact ⟨rfl, hb.drew.trans (hb3.mono hb.size)⟩
          | true =>
            have HNM : Hid (Fb.nameB n.data.toList = true) := hnm
            have HLD : Hid (d.data.toList.length = d.size) := by unfold Hid; simp
            obtain ⟨l, HLL⟩ : ∃ l, Hid (Fb.sealL (Fb.headL n.data.toList d.data.toList) = l) := ⟨_, (rfl : _ = _)⟩
            have HB : Hid (Fb.chunkBytes n.data.toList d.data.toList = (l, 0)) := by unfold Hid; rw [← HLL.out]; exact Fb.chunkBytes_ok _ _ hnm (by rw [HLD.out]; omega)
            clear hnm
            obtain ⟨t, HT⟩ : ∃ t, Hid ((⟨l.toArray⟩ : ByteArray) = t) := ⟨_, (rfl : _ = _)⟩
            have HST : Hid (str l = .string t) := by unfold Hid str; rw [HT.out]
            have HTL : Hid (t.data.toList = l) := by unfold Hid; rw [← HT.out]
            have hts : t.size ≤ 108 := by
              rw [← HT.out]; show l.toArray.size ≤ _
              rw [← HLL.out]
              simp only [List.size_toArray]
              rw [Fb.sealL_len, Fb.headL_len _ _ (Fb.nameB_len HNM.out), HLD.out]; omega
            have HBC : Hid (∀ W, Calls Try.prog 7 #[.agg #[.string n, .string d]] W fun e w' => e = .returned (.tuple #[.string t, .nilIface]) ∧ Below W.heap.size W w') := fun W => bytes_at n d W hn hd _ _ l 0 HB HST rfl
            have HX2 : Hid ((x ++ t).data.toList = Fb.catL (cs ++ [(n.data.toList, d.data.toList)])) := by
              unfold Hid; rw [ByteArray.data_append, Array.toList_append, HX.out, HTL.out, ← HLL.out, catL_snoc]
            have HXZ : Hid ((x ++ t).size ≤ 108 * (k + 1)) := by unfold Hid; rw [ByteArray.size_append]; omega
            have HV2 : Hid (∀ p ∈ cs ++ [(n.data.toList, d.data.toList)], Fb.nameB p.1 = true ∧ p.2.length ≤ 100) := by
              unfold Hid
              intro p hp
              rw [List.mem_append] at hp
              rcases hp with hp | hp
              · exact HV.out p hp
              · simp only [List.mem_singleton] at hp
                subst hp
                exact ⟨HNM.out, by simp only; rw [HLD.out]; omega⟩
            have HJ2 : Hid (∀ j, j < k + 1 → (cs ++ [(n.data.toList, d.data.toList)])[j]? = some ((nf j).data.toList, (df j).data.toList)) := by
              unfold Hid
              intro j hj
              by_cases hjk : j < k
              · rw [List.getElem?_append_left (by rw [HCL.out]; exact hjk)]; exact HJ.out j hjk
              · have : j = k := by omega
                subst this
                rw [List.getElem?_append_right (by rw [HCL.out]; omega), HCL.out, HNF.out, HDF.out]; simp
            go_upto_region 15 with fail
            go_region_with (go_at_call 7; refine (HBC.out _).mono ?_; rintro e w3 ⟨rfl, hb3⟩)
            all_goals go_wp2_with fail
            all_goals (go_roundw; (case rel => exact ⟨k + 1, x ++ t, cs ++ [(n.data.toList, d.data.toList)], by omega, by go_num, rfl, HXZ.out, hb.drew.trans (hb3.mono hb.size), HX2, (by unfold Hid; simp [HCL.out]), HV2, HJ2⟩); (case measure => simp [intOf]; omega))
    · have hkl : k = len0 := by omega
      have HCL2 : Hid (cs.length = len0) := by unfold Hid; rw [HCL.out, hkl]
      have HJ2 : Hid (∀ j, j < len0 → cs[j]? = some ((nf j).data.toList, (df j).data.toList)) := by unfold Hid; rw [← hkl]; exact HJ.out
      have HV3 : Hid (∀ p ∈ cs, Fb.nameB p.1 = true ∧ p.2.length ≤ 65535) := fun p hp => ⟨(HV.out p hp).1, by have := (HV.out p hp).2; omega⟩
      have HA1 : Hid (Fb.allOf (len0 : Int) x.data.toList 0 = (cs, 0)) := by
        unfold Hid; rw [HX.out, Fb.allOf_cat _ _ _ HV3.out, if_pos]; right; rw [HCL2.out]; simp
      have HA2 : Hid (Fb.allOf ((len0 : Int) - 1) x.data.toList 0 = ([], 2)) := by
        unfold Hid; rw [HX.out, Fb.allOf_cat _ _ _ HV3.out, if_neg]
        intro h
        rcases h with h | h
        · rw [h] at HCL2; have := HCL2.out; simp at this; omega
        · rw [HCL2.out] at h; simp at h; omega
      have hxs2 : x.size ≤ 1000000 := by omega
      clear hkl
      go_wp2_with fail
      refine (all_at x _ _ hxs2 (by omega) (by omega) cs 0 .nilIface HA1 rfl).mono ?_
      rintro e w3 ⟨v3, rfl, hown3, hb3⟩
      rw [HCL2.out] at hown3
      obtain ⟨g, cp3, hv3, hgB, _, hcpm⟩ := own_shape hown3 (by omega)
      rw [hv3] at hown3
      rw [hv3]
      unfold maxLen at hcpm
      have hbb3 : Below w.heap.size w w3 := hb.trans (hb3.mono hb.size)
      go_wp2_with fail
      go_loopw [12] (fun i wq => ∃ (j : Nat), j ≤ len0 ∧ i = .int .i64 j ∧ ∃ q, wq = w3.drewN q) (fun i _ => len0 - (intOf i).toNat)
      case atStart => exact ⟨0, by omega, rfl, 0, rfl⟩
      case round =>
        obtain ⟨j, hj, rfl, q, rfl⟩ := hrel
        by_cases hjl : j < len0
        · have hcj := cells_at cs _ _ j (HJ2.out j hjl)
          obtain ⟨n, HNF⟩ : ∃ n, Hid (nf j = n) := ⟨_, (rfl : _ = _)⟩
          obtain ⟨d, HDF⟩ : ∃ n, Hid (df j = n) := ⟨_, (rfl : _ = _)⟩
          have hc0 : w3.cell? ⟨b0, off0 + j, none⟩ = some (.string n) := by rw [hbb3.cell (p := ⟨b0, off0 + j, none⟩) hB0, HC0.out j hjl, HNF.out]
          have hc1 : w3.cell? ⟨b1, off1 + j, none⟩ = some (.string d) := by rw [hbb3.cell (p := ⟨b1, off1 + j, none⟩) hB1, HC1.out j hjl, HDF.out]
          rw [HNF.out, HDF.out, str_self, str_self] at hcj
          have hg0 : w3.cell? ⟨g, j * 2, none⟩ = some (.string n) := by rw [hown3.cellAt (j * 2) (by omega)]; exact hcj.1
          have hg1 : w3.cell? ⟨g, j * 2 + 1, none⟩ = some (.string d) := by rw [hown3.cellAt (j * 2 + 1) (by omega)]; exact hcj.2
          clear hcj
          have hjl1 : j < len1 := by omega
          go_wp2_with fail
          go_quiet (fail)
          go_wp2_with fail
          go_roundw
          case rel => exact ⟨j + 1, by omega, by go_num, q + nq, rfl⟩
          case measure => simp [intOf]; omega
        · go_wp2_with fail
          refine (all_at x _ _ hxs2 (by omega) (by omega) [] 2 (.iface 52 (.int .i64 2)) HA2 rfl).mono ?_
          rintro e w4 ⟨v4, rfl, hown4, hb4⟩
          have hne0 : ((len0 : Int) == 0) = false := by rw [beq_eq_false_iff_ne]; omega
          go_wp2_with fail
          refine (number_some 2 _).mono ?_
          rintro e w5 ⟨rfl, rfl⟩
          go_wp2_with fail
          go_ret
          exact ⟨rfl, (below_drewN hbb3 q).trans (hb4.mono hbb3.size)⟩

theorem topAll_any (a0 a1 : Option Addr) (len0 cap0 len1 cap1 : Nat) (ns ds : List ByteArray) (w : World) (H0 : IsStrs w a0 len0 cap0 ns) (H1 : IsStrs w a1 len1 cap1 ds) :
    Calls Try.prog 4 #[.slice a0 len0 cap0, .slice a1 len1 cap1] w fun e w' => e = .returned (.bool true) ∧ Below w.heap.size w w' := by
  have hl0 := strs_len H0
  have hl1 := strs_len H1
  by_cases he : 20 < len0 ∨ len1 < len0
  · exact topAll_early a0 a1 len0 cap0 len1 cap1 w hl0 hl1 he
  · by_cases hz : len0 = 0
    · subst hz
      exact topAll_none a0 a1 cap0 len1 cap1 w hl1
    · obtain ⟨b0, off0, rfl, hB0, hc0, hs0⟩ := strs_at H0 (by omega)
      obtain ⟨b1, off1, rfl, hB1, hc1, hs1⟩ := strs_at H1 (by omega)
      exact topAll_some b0 off0 b1 off1 len0 cap0 len1 cap1 (fun i => ns.getD i ByteArray.empty) (fun i => ds.getD i ByteArray.empty) w (by omega) (by omega) (by omega) hl1 hB0 hB1 hc0 (fun i hi => hc1 i (by omega)) hs0 hs1
end Go.Proofs.Ytjoggjjkafamlab
