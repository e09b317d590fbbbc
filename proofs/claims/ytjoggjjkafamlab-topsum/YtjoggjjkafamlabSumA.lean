/- Walk of the law TopSum. -/
import Derived.Test.YtjoggjjkafamlabChunkD
import Derived.Test.YtjoggjjkafamlabChunkM3
import Derived.Test.YtjoggjjkafamlabNum
import Derived.Laws.BitsLemmas
namespace Go.Proofs.Ytjoggjjkafamlab
open Go.RowKit

theorem and_1023 (n : Int) : bits .and .i64 n 1023 = n % 1024 := by
  have hm : (BitVec.ofInt 64 1023).toNat = 2 ^ 10 - 1 := by decide
  have key : (BitVec.ofInt 64 n &&& BitVec.ofInt 64 1023).toNat = (n % ((2 ^ 64 : Nat) : Int)).toNat % 2 ^ 10 := by
    rw [BitVec.toNat_and, BitVec.toNat_ofInt, hm, Nat.and_two_pow_sub_one_eq_mod]
  show IntKind.i64.wrap ((BitVec.ofInt 64 n &&& BitVec.ofInt 64 1023).toNat : Nat) = n % 1024
  rw [key, IntKind.wrap_i64]
  omega

theorem run_one (W : World) (B : Nat) (a : Int) (x : UInt8) (ha : Hid ((x.toNat : Int) = a)) (hc : W.cell? ⟨B, 0, none⟩ = some (.int .u8 a)) :
    (convert 30 9 (.slice (some ⟨B, 0, none⟩) 1 1)).run Try.prog W = .ok (.string ⟨#[x]⟩) W := by
  refine run_convert_bytes_back _ 30 9 5 ⟨B, 0, none⟩ 1 [x] Try.underlying30 Try.underlying5 Try.underlying9 ?_
  intro j hj
  match j, hj with
  | 0, _ => rw [← ha.out] at hc; simpa [Addr.add] using hc

theorem wrap_small (n : Int) (h : 0 ≤ n ∧ n ≤ 9223372036854775807) : wrap64 n = n := by unfold wrap64; omega

theorem bytes_at (n d : ByteArray) (w : World) (hn : n.size ≤ 9223372036854775807) (hd : d.size ≤ 9223372036854775807) (x v : Value) (l : List UInt8) (c : Nat)
    (HZ : Hid (Fb.chunkBytes n.data.toList d.data.toList = (l, c))) (HX : Hid (str l = x)) (HV : Hid (errV c = v)) :
    Calls Try.prog 7 #[.agg #[.string n, .string d]] w fun e w' => e = .returned (.tuple #[x, v]) ∧ Below w.heap.size w w' := by
  have h := bytes_any n d w hn hd
  rw [HZ.out] at h
  rw [← HX.out, ← HV.out]
  exact h
theorem first_at (s : ByteArray) (w : World) (hs : s.size ≤ 1000000) (v : Value) (HF : Hid (firstV s.data.toList = v)) :
    Calls Try.prog 8 #[.string s] w fun e w' => e = .returned v ∧ Below w.heap.size w w' := by
  rw [← HF.out]; exact first_any s w hs

set_option maxHeartbeats 4000000 in
set_option maxRecDepth 100000 in
theorem topSum_any (n d : ByteArray) (at0 by0 : Int) (w : World) (hn : n.size ≤ maxLen) (hd : d.size ≤ maxLen) (_ha0 : -9223372036854775808 ≤ at0) (_ha1 : at0 ≤ 9223372036854775807) (hy0 : -9223372036854775808 ≤ by0) (hy1 : by0 ≤ 9223372036854775807) :
    Calls Try.prog 3 #[.string n, .string d, .int .i64 at0, .int .i64 by0] w fun e w' => e = .returned (.bool true) ∧ Below w.heap.size w w' := by
  unfold maxLen at hn hd
  have HLD : Hid (d.data.toList.length = d.size) := by unfold Hid; simp
  go_enter Try.func3, Try.ntmps3
  go_wp2_with fail
  refine (sum_any ⟨#[]⟩ _ (by decide) 1 0 (by unfold Hid; decide)).mono ?_
  rintro e w1 ⟨rfl, rfl⟩
  by_cases h1 : 200 < d.size
  · go_wp2_with fail
    go_ret
    exact ⟨rfl, Below.refl _ _⟩
  · by_cases h2 : by0 < 1
    · go_wp2_with fail
      go_ret
      exact ⟨rfl, Below.refl _ _⟩
    · by_cases h3 : 255 < by0
      · go_wp2_with fail
        go_ret
        exact ⟨rfl, Below.refl _ _⟩
      · cases hnm : Fb.nameB n.data.toList with
        | false =>
          have HN : Hid (Fb.nameB n.data.toList = false) := hnm
          clear hnm
          go_wp2_with fail
          refine (bytes_at n d _ (by omega) (by omega) (.string ⟨#[]⟩) (.iface 52 (.int .i64 3)) [] 3 (Fb.chunkBytes_no _ _ HN.out) rfl rfl).mono ?_
          rintro e w2 ⟨rfl, hb2⟩
          go_wp2_with fail
          go_ret
          exact ⟨rfl, hb2⟩
        | true =>
          have HN : Hid (Fb.nameB n.data.toList = true) := hnm
          clear hnm
          obtain ⟨l, HLL⟩ : ∃ l, Hid (Fb.sealL (Fb.headL n.data.toList d.data.toList) = l) := ⟨_, (rfl : _ = _)⟩
          have HB : Hid (Fb.chunkBytes n.data.toList d.data.toList = (l, 0)) := by unfold Hid; rw [← HLL.out]; exact Fb.chunkBytes_ok _ _ HN.out (by rw [HLD.out]; omega)
          obtain ⟨t, HT⟩ : ∃ t, Hid ((⟨l.toArray⟩ : ByteArray) = t) := ⟨_, (rfl : _ = _)⟩
          have HST : Hid (str l = .string t) := by unfold Hid str; rw [HT.out]
          have HTL : Hid (t.data.toList = l) := by unfold Hid; rw [← HT.out]
          have HTS : Hid (t.size = d.size + 8) := by
            unfold Hid
            rw [← HT.out]; show l.toArray.size = _
            rw [← HLL.out]
            simp only [List.size_toArray]
            rw [Fb.sealL_len, Fb.headL_len _ _ (Fb.nameB_len HN.out), HLD.out]; omega
          have hts1 : t.size ≤ d.size + 8 := by rw [HTS.out]; omega
          have hts2 : d.size + 8 ≤ t.size := by rw [HTS.out]; omega
          obtain ⟨A, HA⟩ : ∃ A : Nat, Hid (bits .and .i64 at0 1023 = (A : Int)) := ⟨(at0 % 1024).toNat, by unfold Hid; rw [and_1023]; omega⟩
          have hA : A ≤ 1023 := by have h := HA.out; rw [and_1023] at h; omega
          obtain ⟨k, HK⟩ : ∃ k, Hid (6 + A % (d.size + 2) = k) := ⟨_, (rfl : _ = _)⟩
          have hk1 : 6 ≤ k := by rw [← HK.out]; omega
          have hk2 : k < d.size + 8 := by rw [← HK.out]; have := Nat.mod_lt A (show 0 < d.size + 2 by omega); omega
          obtain ⟨c, HC⟩ : ∃ c, Hid (t.data.toList.getD k 0 = c) := ⟨_, (rfl : _ = _)⟩
          obtain ⟨m, HM⟩ : ∃ m, Hid (c.toNat = m) := ⟨_, (rfl : _ = _)⟩
          have hmb := byte_le c m HM
          have hand := HA.out
          go_wp2_with fail
          refine (bytes_at n d _ (by omega) (by omega) (.string t) .nilIface l 0 HB HST rfl).mono ?_
          rintro e w2 ⟨rfl, hb2⟩
          go_upto_region 9 with fail
          go_cut [13] from 16 (fun s13 wc => s13 = .int .i64 (k : Int) ∧ Below w.heap.size w wc)
          case first =>
            go_wp2_with fail
            go_meet
            have hlt := Nat.mod_lt A (show 0 < d.size + 2 by omega)
            have hem : (A : Int) % ((d.size : Int) + 2) = ((A % (d.size + 2) : Nat) : Int) := by simp
            exact ⟨by rw [← HK.out, hem, wrap_small _ (by omega)]; simp, hb2⟩
          case rest =>
            obtain ⟨rfl, hbc⟩ := hcut
            clear hand
            have hix := nat_at t k c HC m HM
            obtain ⟨b, hbn⟩ : ∃ b : Nat, by0 = (b : Int) := ⟨by0.toNat, by omega⟩
            subst hbn
            have hb1 : 1 ≤ b := by omega
            have hb255 : b ≤ 255 := by omega
            clear h2 h3 hy0 hy1
            obtain ⟨m2, HM2⟩ : ∃ x, Hid ((m + b) % 256 = x) := ⟨_, (rfl : _ = _)⟩
            have hm2 : m2 < 256 := by rw [← HM2.out]; omega
            have hkt : k < t.size := by omega
            go_upto_region 10 with fail
            go_cut [14] from 16 (fun s14 wd => s14 = .int .i64 (m2 : Int) ∧ Below w.heap.size w wd)
            case first =>
              go_wp2_with fail
              go_meet
              exact ⟨by rw [← HM2.out]; simp, hbc⟩
            case rest =>
              clear hbc
              obtain ⟨rfl, hbc⟩ := hcut
              by_cases hsame : m2 % 251 = m % 251
              · have hse : ((m2 : Int) % 251 == (m : Int) % 251) = true := by rw [beq_iff_eq]; omega
                go_wp2_with fail
                go_ret
                exact ⟨rfl, hbc⟩
              · have hse : ((m2 : Int) % 251 == (m : Int) % 251) = false := by rw [beq_eq_false_iff_ne]; omega
                obtain ⟨y, HY⟩ : ∃ y, Hid (UInt8.ofNat m2 = y) := ⟨_, (rfl : _ = _)⟩
                have HYN : Hid (y.toNat = m2) := by unfold Hid; rw [← HY.out, Fb.ofNat_toNat _ (by omega)]
                have HYI : Hid ((y.toNat : Int) = (m2 : Int)) := by unfold Hid; rw [HYN.out]
                have hcv := run_one (wc.alloc (.cells #[.int .u8 (m2 : Int)] 5)).drew wc.heap.size (m2 : Int) y HYI (by simp)
                have hi1 : (k : Int) ≤ (t.size : Int) := by omega
                have hi2 : (0 : Int) ≤ (k : Int) := by omega
                have hi3 : IntKind.i64.wrap ((k : Int) + 1) = (k : Int) + 1 := by rw [IntKind.wrap_i64]; omega
                have hi4 : ((k : Int) + 1).toNat = k + 1 := by omega
                have hi5 : (k : Int) + 1 ≤ (t.size : Int) := by omega
                have hi6 : (0 : Int) ≤ (k : Int) + 1 := by omega
                have hi7 : IntKind.u8.wrap (m2 : Int) = (m2 : Int) := by rw [IntKind.wrap_u8]; omega
                go_upto_region 13 with fail
                go_cut [15] from 16 (fun s15 wf => s15 = .string (t.extract 0 k ++ ⟨#[y]⟩ ++ t.extract (k + 1) t.size) ∧ Below w.heap.size w wf)
                case first =>
                  go_region
                  all_goals (go_wp2_with fail; go_meet)
                  all_goals exact ⟨rfl, (hbc.alloc hbc.size _).drew⟩
                case rest =>
                  clear hbc hcv
                  obtain ⟨rfl, hbc⟩ := hcut
                  obtain ⟨x, HX⟩ : ∃ x, Hid (t.extract 0 k ++ ⟨#[y]⟩ ++ t.extract (k + 1) t.size = x) := ⟨_, (rfl : _ = _)⟩
                  rw [HX.out]
                  have hxs : x.size ≤ 1000000 := by
                    rw [← HX.out, ByteArray.size_append, add_size, ByteArray.size_extract, ByteArray.size_extract]; omega
                  have HXL : Hid (x.data.toList = Fb.spoilt l k y) := by
                    unfold Hid Fb.spoilt
                    have htl : t.data.toList.length = t.size := by simp
                    rw [← HX.out, ByteArray.data_append, Array.toList_append, add_data, ext_data, ext_data, HTL.out, List.drop_zero, Nat.sub_zero, List.take_of_length_le (l := List.drop (k + 1) l)]
                    rw [List.length_drop, ← HTL.out, htl]; omega
                  have HME : Hid (Fb.measureL x.data.toList = (0, 6)) := by
                    unfold Hid
                    rw [HXL.out, ← HLL.out]
                    refine Fb.measure_spoilt _ _ k y HN.out (by rw [HLD.out]; omega) hk1 (by rw [HLD.out]; omega) ?_
                    rw [HLL.out, ← HTL.out, HC.out, HM.out, HYN.out]
                    exact fun e => hsame e.symm
                  have HFI : Hid (firstV x.data.toList = .tuple #[.agg #[.string ⟨#[]⟩, .string ⟨#[]⟩], .string ⟨#[]⟩, .iface 52 (.int .i64 6)]) := by
                    unfold Hid firstV Fb.firstL
                    rw [HME.out]
                    rfl
                  go_wp2_with fail
                  refine (first_at x _ hxs _ HFI).mono ?_
                  rintro e w5 ⟨rfl, hb5⟩
                  go_wp2_with fail
                  refine (number_some 6 _).mono ?_
                  rintro e w6 ⟨rfl, rfl⟩
                  go_wp2_with fail
                  go_ret
                  exact ⟨rfl, hbc.trans (hb5.mono hbc.size)⟩
end Go.Proofs.Ytjoggjjkafamlab
