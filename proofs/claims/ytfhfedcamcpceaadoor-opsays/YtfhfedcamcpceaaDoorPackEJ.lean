/- Walks of the reference's Packed and of the law's same. -/
import Derived.Test.YtfhfedcamcpceaaDoorPackDJ
namespace Go.Proofs.YtfhfedcamcpceaaDoor
open Go.RowKit

set_option maxHeartbeats 1000000 in
set_option maxRecDepth 100000 in
theorem packed_any (s : ByteArray) (w : World) (hs : s.size ≤ 1000000) :
    Calls Tryd.prog 56 #[.string s] w fun e w' => e = .returned (str (Fb.packL s.data.toList)) ∧ Below w.heap.size w w' := by
  have HL : Hid (s.data.toList.length = s.size) := by unfold Hid; simp
  go_enter Tryd.func56, Tryd.ntmps56
  go_wp2
  go_loopw [3, 4, 5] (fun v c i wr => ∃ (k n : Nat) (ob : ByteArray), k ≤ s.size ∧ i = .int .i64 k ∧ c = .int .i64 n ∧ v = .string ob ∧ n < 255 ∧ ob.size ≤ 2 * k ∧ Hid (Fb.PInv s.data.toList k n ob.data.toList) ∧ Below w.heap.size w wr) (fun _ _ i _ => s.size - (intOf i).toNat)
  case atStart => exact ⟨0, 0, ⟨#[]⟩, by omega, rfl, rfl, rfl, by omega, by decide, Fb.pinv_start _, Below.refl _ _⟩
  case round =>
    obtain ⟨k, n, ob, hk, rfl, rfl, rfl, hn, hob, HI, hb⟩ := hrel
    by_cases hlt : k < s.size
    · obtain ⟨c, HC⟩ : ∃ c, Hid (s.data.toList.getD k 0 = c) := ⟨_, (rfl : _ = _)⟩
      obtain ⟨m, HM⟩ : ∃ m, Hid (c.toNat = m) := ⟨_, (rfl : _ = _)⟩
      have hix := nat_at s k c HC m HM
      have hmb := byte_le c m HM
      have HKL : Hid (k < s.data.toList.length) := by unfold Hid; rw [HL.out]; exact hlt
      obtain ⟨nb, HNB⟩ : ∃ nb, Hid (UInt8.ofNat (n + 1) = nb) := ⟨_, (rfl : _ = _)⟩
      have HA : Hid ((nb.toNat : Int) = (n : Int) + 1) := by unfold Hid; rw [← HNB.out, Fb.ofNat_toNat _ (by omega)]; simp
      have HB : Hid ((c.toNat : Int) = (m : Int)) := by unfold Hid; rw [HM.out]
      have hcv := fun nq => run_pair (wr.drewN nq) wr.heap.size rfl ((n : Int) + 1) (m : Int) nb c HA HB
      by_cases hlast : k + 1 = s.size
      · have hg1 : ((k : Int) + 1 == (s.size : Int)) = true := by rw [beq_iff_eq]; omega
        have HF : Hid (Fb.PInv s.data.toList (k + 1) 0 (ob.data.toList ++ [UInt8.ofNat (n + 1), s.data.toList.getD k 0])) := Fb.pinv_flush HI.out HKL.out (.inl (by rw [HL.out]; exact hlast))
        go_wp2
        go_quiet (fail)
        go_wp2
        go_roundw
        case rel => exact ⟨k + 1, 0, ob ++ ⟨#[nb, c]⟩, by omega, by go_num, rfl, rfl, by omega, by rw [add_two_size]; omega, by unfold Hid; rw [add_two, ← HC.out, ← HNB.out]; exact HF.out, (below_drewN hb nq).alloc (by have := hb.size; simpa using this) _⟩
        case measure => simp [intOf]; omega
      · have hg1 : ((k : Int) + 1 == (s.size : Int)) = false := by rw [beq_eq_false_iff_ne]; omega
        have hlt1 : k + 1 < s.size := by omega
        obtain ⟨c2, HC2⟩ : ∃ c, Hid (s.data.toList.getD (k + 1) 0 = c) := ⟨_, (rfl : _ = _)⟩
        obtain ⟨m2, HM2⟩ : ∃ m, Hid (c2.toNat = m) := ⟨_, (rfl : _ = _)⟩
        have hix2 := nat_at s (k + 1) c2 HC2 m2 HM2
        have hmb2 := byte_le c2 m2 HM2
        by_cases hnx : m2 = m
        · subst hnx
          have HE : Hid (s.data.toList.getD (k + 1) 0 = s.data.toList.getD k 0) := by
            unfold Hid; rw [HC.out, HC2.out]; exact UInt8.toNat_inj.1 (HM2.out.trans HM.out.symm)
          have hg2 : ((m2 : Int) != (m2 : Int)) = false := by simp
          by_cases h255 : n + 1 = 255
          · have hg3 : ((n : Int) + 1 == 255) = true := by rw [beq_iff_eq]; omega
            have HF : Hid (Fb.PInv s.data.toList (k + 1) 0 (ob.data.toList ++ [UInt8.ofNat (n + 1), s.data.toList.getD k 0])) := Fb.pinv_flush HI.out HKL.out (.inr (.inr h255))
            go_wp2
            go_quiet (fail)
            go_wp2
            go_roundw
            case rel => exact ⟨k + 1, 0, ob ++ ⟨#[nb, c]⟩, by omega, by go_num, rfl, rfl, by omega, by rw [add_two_size]; omega, by unfold Hid; rw [add_two, ← HC.out, ← HNB.out]; exact HF.out, (below_drewN hb nq).alloc (by have := hb.size; simpa using this) _⟩
            case measure => simp [intOf]; omega
          · have hg3 : ((n : Int) + 1 == 255) = false := by rw [beq_eq_false_iff_ne]; omega
            have HF : Hid (Fb.PInv s.data.toList (k + 1) (n + 1) ob.data.toList) := Fb.pinv_keep HI.out (by rw [HL.out]; exact hlt1) HE.out h255
            go_wp2
            go_quiet (fail)
            go_wp2
            go_roundw
            case rel => exact ⟨k + 1, n + 1, ob, by omega, by go_num, by go_num, rfl, by omega, by omega, HF, below_drewN hb nq⟩
            case measure => simp [intOf]; omega
        · have hg2 : ((m2 : Int) != (m : Int)) = true := by rw [bne_iff_ne]; omega
          have HF : Hid (Fb.PInv s.data.toList (k + 1) 0 (ob.data.toList ++ [UInt8.ofNat (n + 1), s.data.toList.getD k 0])) := Fb.pinv_flush HI.out HKL.out (.inr (.inl (by rw [HC.out, HC2.out]; intro e; exact hnx (by rw [← HM2.out, ← HM.out, e]))))
          go_wp2
          go_quiet (fail)
          go_wp2
          go_roundw
          case rel => exact ⟨k + 1, 0, ob ++ ⟨#[nb, c]⟩, by omega, by go_num, rfl, rfl, by omega, by rw [add_two_size]; omega, by unfold Hid; rw [add_two, ← HC.out, ← HNB.out]; exact HF.out, (below_drewN hb nq).alloc (by have := hb.size; simpa using this) _⟩
          case measure => simp [intOf]; omega
    · go_wp2
      go_ret
      exact ⟨by rw [Fb.pinv_end HI.out (by rw [HL.out]; omega)]; exact congrArg Ending.returned (str_self ob).symm, hb⟩
end Go.Proofs.YtfhfedcamcpceaaDoor
