/- Walks of the reference's Unpacked and Packed, and of the law's same. -/
import Derived.Test.YtfhfedcamcpceaaDoorM5
namespace Go.Proofs.YtfhfedcamcpceaaDoor
open Go.RowKit

set_option maxHeartbeats 1000000 in
set_option maxRecDepth 100000 in
theorem unpacked_any (s : ByteArray) (most : Int) (w : World) (hs : s.size ≤ 1000000) (hm0 : -9223372036854775808 ≤ most) (hm1 : most ≤ 9223372036854775807) :
    Calls Tryd.prog 61 #[.string s, .int .i64 most] w fun e w' => e = .returned (.tuple #[str (Fb.unpack s.data.toList most).1, .int .i64 ((Fb.unpack s.data.toList most).2 : Nat)]) ∧ w = w' := by
  have HL : Hid (s.data.toList.length = s.size) := by unfold Hid; simp
  by_cases hev : s.size % 2 = 1
  · have hd : (((s.size : Int) % 2) == 1) = true := by rw [beq_iff_eq]; omega
    have HU : Hid (Fb.unpack s.data.toList most = ([], 4)) := by unfold Hid Fb.unpack Fb.szAll; rw [HL.out, if_pos hev]; rfl
    go_enter Tryd.func61, Tryd.ntmps61
    go_wp2
    go_ret2
    exact ⟨by rw [HU.out]; rfl, rfl⟩
  · have hd : (((s.size : Int) % 2) == 1) = false := by rw [beq_eq_false_iff_ne]; omega
    have HU : Hid (Fb.unpack s.data.toList most = if (Fb.sz most s.data.toList 0).2 = 0 then (Fb.unp s.data.toList, 0) else ([], (Fb.sz most s.data.toList 0).2)) := by
      unfold Hid Fb.unpack Fb.szAll; rw [HL.out, if_neg hev]
    go_enter Tryd.func61, Tryd.ntmps61
    go_wp2
    go_loop [6, 7] (fun v i => ∃ (k : Nat) (ob : ByteArray) (o : List UInt8), 2 * k ≤ s.size ∧ i = .int .i64 (2 * k : Nat) ∧ v = .string ob ∧ Hid (ob.data.toList = o) ∧ ob.size ≤ 255 * k ∧ (ob.size = 0 ∨ (ob.size : Int) ≤ most) ∧ Hid (Fb.sz most s.data.toList 0 = Fb.sz most (s.data.toList.drop (2 * k)) ob.size) ∧ Hid (Fb.unp s.data.toList = o ++ Fb.unp (s.data.toList.drop (2 * k)))) (fun _ i => s.size - (intOf i).toNat)
    case atStart => exact ⟨0, ⟨#[]⟩, [], by omega, rfl, rfl, rfl, by decide, .inl rfl, rfl, rfl⟩
    case round =>
      obtain ⟨k, ob, o, hk, rfl, rfl, HOB, hob, hobm, HK, HP⟩ := hrel
      by_cases hlt : 2 * k < s.size
      · have hL := HL.out
        have hk1 : 2 * k + 1 < s.data.toList.length := by omega
        clear hL
        obtain ⟨c, HC⟩ : ∃ c, Hid (s.data.toList.getD (2 * k) 0 = c) := ⟨_, (rfl : _ = _)⟩
        obtain ⟨m, HM⟩ : ∃ m, Hid (c.toNat = m) := ⟨_, (rfl : _ = _)⟩
        obtain ⟨d, HD⟩ : ∃ d, Hid (s.data.toList.getD (2 * k + 1) 0 = d) := ⟨_, (rfl : _ = _)⟩
        have hix := nat_at s (2 * k) c HC m HM
        have hlt2 : 2 * k + 1 < s.size := by omega
        have hcb := byte_le c m HM
        have HST : Hid (Fb.unp (s.data.toList.drop (2 * k)) = List.replicate m d ++ Fb.unp (s.data.toList.drop (2 * (k + 1)))) := unp_step _ k c HC m HM d HD hk1
        by_cases h0 : m = 0
        · have HZ := sz_zero most _ k ob.size c HC m HM hk1 h0
          clear hk1
          subst h0
          go_wp2
          go_ret2
          exact ⟨by rw [HU.out, HK.out, HZ.out]; rfl, rfl⟩
        · by_cases h1 : most < ob.size + m
          · have HZ := sz_many most _ k ob.size c HC m HM hk1 h0 (by omega)
            clear hk1
            have h0' : ((m : Int) == 0) = false := by rw [beq_eq_false_iff_ne]; omega
            go_wp2
            go_ret2
            exact ⟨by rw [HU.out, HK.out, HZ.out]; rfl, rfl⟩
          · have HZ := sz_step most _ k ob.size c HC m HM hk1 h0 (by omega)
            clear hk1
            have h0' : ((m : Int) == 0) = false := by rw [beq_eq_false_iff_ne]; omega
            go_wp2
            go_loop [6, 8] (fun v i => ∃ (j : Nat) (oj : ByteArray), j ≤ m ∧ i = .int .i64 j ∧ v = .string oj ∧ oj.size = ob.size + j ∧ Hid (oj.data.toList = o ++ List.replicate j d)) (fun _ i => m - (intOf i).toNat)
            case atStart => exact ⟨0, ob, by omega, rfl, rfl, rfl, by unfold Hid; rw [HOB.out]; simp⟩
            case round =>
              obtain ⟨j, oj, hj, rfl, rfl, hojs, HJ⟩ := hrel
              have hojs2 : oj.size ≤ 255 * k + 255 := by omega
              have HSJ : Hid (oj.size = ob.size + j) := hojs
              clear hojs
              by_cases hjm : j < m
              · have HEX : Hid (s.extract (2 * k + 1) (2 * k + 2) = ⟨#[d]⟩) := by unfold Hid; rw [ext_one s (2 * k + 1) hlt2, HD.out]
                go_wp2
                go_round
                case rel => exact ⟨j + 1, oj ++ ⟨#[d]⟩, by omega, by go_num, by rw [HEX.out], by rw [add_size, HSJ.out]; omega, by unfold Hid; rw [add_data, HJ.out, List.replicate_succ', List.append_assoc]⟩
                case measure => simp [intOf]; omega
              · have hje : j = m := by omega
                subst hje
                go_wp2
                go_round
                case rel => exact ⟨k + 1, oj, o ++ List.replicate j d, by omega, by go_num, rfl, HJ, by rw [HSJ.out]; omega, .inr (by rw [HSJ.out]; omega), by unfold Hid; rw [HK.out, HZ.out, HSJ.out], by unfold Hid; rw [HP.out, HST.out, List.append_assoc]⟩
                case measure => simp [intOf]; omega
      · go_wp2
        go_ret2
        have e0 : Fb.sz most s.data.toList 0 = (ob.size, 0) := by rw [HK.out]; exact sz_end _ _ _ _ (by rw [HL.out]; omega)
        have e1 : Fb.unp s.data.toList = o := by rw [HP.out, unp_end _ _ (by rw [HL.out]; omega), List.append_nil]
        have e2 : Fb.unpack s.data.toList most = (o, 0) := by rw [HU.out, e0, e1]; rfl
        exact ⟨ret2 (by rw [e2, ← HOB.out]; exact (str_self ob).symm) (by rw [e2]; rfl), rfl⟩
end Go.Proofs.YtfhfedcamcpceaaDoor
