/- Walks of package pack: what size, Unpack, Pack answer, byte by byte. -/
import Derived.Test.YtjoggjjkafamlaaPackMath
import Derived.Test.YtjoggjjkafamlaaChecked
import Derived.WalkKit
import Derived.WalkSpells
import Derived.WalkLawsBesides
import Derived.BigQuiet
import Derived.Deep.QuietTactic
import Derived.Outline
namespace Go.Proofs.Ytjoggjjkafamlaa
open Go.RowKit

def errV (c : Nat) : Value := if c = 0 then .nilIface else .iface 57 (.int .i64 (c : Int))

theorem byte_at (s : ByteArray) (k : Nat) (c : UInt8) (h : Hid (s.data.toList.getD k 0 = c)) : ∀ hp : k < s.size, s[k]'hp = c := by
  intro hp
  rw [← h.out]
  have h2 : k < s.data.toList.length := by simpa using hp
  rw [List.getD_eq_getElem?_getD, List.getElem?_eq_getElem h2]; rfl

theorem nat_at (s : ByteArray) (k : Nat) (c : UInt8) (h : Hid (s.data.toList.getD k 0 = c)) (m : Nat) (hm : Hid (c.toNat = m)) : ∀ hp : k < s.size, (s[k]'hp).toNat = m := by
  intro hp; rw [byte_at s k c h hp]; exact hm.out
theorem byte_le (c : UInt8) (m : Nat) (hm : Hid (c.toNat = m)) : m ≤ 255 := by have h1 := hm.out; have := c.toNat_lt; omega

theorem drop_two (l : List UInt8) (k : Nat) (h : 2 * k + 1 < l.length) : l.drop (2 * k) = l.getD (2 * k) 0 :: l.getD (2 * k + 1) 0 :: l.drop (2 * (k + 1)) := by
  rw [List.drop_eq_getElem_cons (by omega), List.drop_eq_getElem_cons (by omega)]
  simp only [List.getD_eq_getElem?_getD, List.getElem?_eq_getElem h, List.getElem?_eq_getElem (show 2 * k < l.length by omega)]
  rfl

theorem sz_step (most : Int) (l : List UInt8) (k t : Nat) (c : UInt8) (hc : Hid (l.getD (2 * k) 0 = c)) (m : Nat) (hm : Hid (c.toNat = m)) (h : 2 * k + 1 < l.length) (h0 : ¬ m = 0) (h1 : ¬ most < (t : Int) + (m : Int)) :
    Hid (Fb.sz most (l.drop (2 * k)) t = Fb.sz most (l.drop (2 * (k + 1))) (t + m)) := by
  unfold Hid
  have hm' := hm.out; subst hm'
  rw [drop_two l k h, Fb.sz, hc.out, if_neg (fun e => h0 (by rw [e]; rfl)), if_neg h1]
theorem sz_zero (most : Int) (l : List UInt8) (k t : Nat) (c : UInt8) (hc : Hid (l.getD (2 * k) 0 = c)) (m : Nat) (hm : Hid (c.toNat = m)) (h : 2 * k + 1 < l.length) (h0 : m = 0) : Hid (Fb.sz most (l.drop (2 * k)) t = (0, 4)) := by
  unfold Hid
  have hm' := hm.out; subst hm'
  rw [drop_two l k h, Fb.sz, hc.out, if_pos (UInt8.toNat_inj.1 h0)]
theorem sz_many (most : Int) (l : List UInt8) (k t : Nat) (c : UInt8) (hc : Hid (l.getD (2 * k) 0 = c)) (m : Nat) (hm : Hid (c.toNat = m)) (h : 2 * k + 1 < l.length) (h0 : ¬ m = 0) (h1 : most < (t : Int) + (m : Int)) :
    Hid (Fb.sz most (l.drop (2 * k)) t = (0, 2)) := by
  unfold Hid
  have hm' := hm.out; subst hm'
  rw [drop_two l k h, Fb.sz, hc.out, if_neg (fun e => h0 (by rw [e]; rfl)), if_pos h1]
theorem sz_end (most : Int) (l : List UInt8) (k t : Nat) (h : l.length ≤ 2 * k) : Fb.sz most (l.drop (2 * k)) t = (t, 0) := by
  rw [List.drop_eq_nil_of_le h]; rfl

theorem ret2 {a b c d : Value} (h1 : a = c) (h2 : b = d) : Ending.returned (.tuple #[a, b]) = .returned (.tuple #[c, d]) := by rw [h1, h2]

set_option maxHeartbeats 1000000 in
theorem size_any (s : ByteArray) (most : Int) (w : World) (hs : s.size ≤ 1000000) (hm0 : -9223372036854775808 ≤ most) (hm1 : most ≤ 9223372036854775807) :
    Calls Try.prog 25 #[.string s, .int .i64 most] w fun e w' => e = .returned (.tuple #[.int .i64 ((Fb.szAll s.data.toList most).1 : Nat), errV (Fb.szAll s.data.toList most).2]) ∧ w = w' := by
  have hlen : s.data.toList.length = s.size := by simp
  by_cases hev : s.size % 2 = 1
  · have hd : (((s.size : Int) % 2) != 0) = true := by rw [bne_iff_ne]; omega
    have HF : Hid (Fb.szAll s.data.toList most = (0, 4)) := by unfold Hid Fb.szAll; rw [hlen, if_pos hev]
    clear hlen
    go_enter Try.func25, Try.ntmps25
    go_wp2
    go_ret2
    exact ⟨by rw [HF.out]; rfl, rfl⟩
  · have hd : (((s.size : Int) % 2) != 0) = false := by rw [bne_eq_false_iff_eq]; omega
    have HF : Hid (Fb.szAll s.data.toList most = Fb.sz most s.data.toList 0) := by unfold Hid Fb.szAll; rw [hlen, if_neg hev]
    have HL : Hid (s.data.toList.length = s.size) := hlen
    clear hlen
    go_enter Try.func25, Try.ntmps25
    go_wp2
    go_loop [6, 17] (fun t i => ∃ k n : Nat, 2 * k ≤ s.size ∧ i = .int .i64 k ∧ t = .int .i64 n ∧ n ≤ 255 * k ∧ (n = 0 ∨ (n : Int) ≤ most) ∧ Hid (Fb.sz most s.data.toList 0 = Fb.sz most (s.data.toList.drop (2 * k)) n)) (fun _ i => s.size - (intOf i).toNat)
    case atStart => exact ⟨0, 0, by omega, rfl, rfl, by omega, .inl rfl, rfl⟩
    case round =>
      obtain ⟨k, n, hk, rfl, rfl, hn, hmo, HK⟩ := hrel
      by_cases hlt : 2 * k < s.size
      · have hL := HL.out
        have hk1 : 2 * k + 1 < s.data.toList.length := by omega
        clear hL
        obtain ⟨c, HC⟩ : ∃ c, Hid (s.data.toList.getD (2 * k) 0 = c) := ⟨_, (rfl : _ = _)⟩
        obtain ⟨m, HM⟩ : ∃ m, Hid (c.toNat = m) := ⟨_, (rfl : _ = _)⟩
        have hix := nat_at s (2 * k) c HC m HM
        have hcb := byte_le c m HM
        by_cases h0 : m = 0
        · have HZ := sz_zero most _ k n c HC m HM hk1 h0
          clear hk1
          subst h0
          go_wp2
          go_ret2
          exact ⟨by rw [HF.out, HK.out, HZ.out]; rfl, rfl⟩
        · by_cases h1 : most - n < m
          · have HZ := sz_many most _ k n c HC m HM hk1 h0 (by omega)
            clear hk1
            go_wp2
            go_ret2
            exact ⟨by rw [HF.out, HK.out, HZ.out]; rfl, rfl⟩
          · have HZ := sz_step most _ k n c HC m HM hk1 h0 (by omega)
            clear hk1
            go_wp2
            go_round
            case rel => exact ⟨k + 1, n + m, by omega, by go_num, by go_num, by omega, .inr (by omega), by unfold Hid; rw [HK.out, HZ.out]⟩
            case measure => simp [intOf]; omega
      · go_wp2
        go_ret2
        exact ⟨by rw [HF.out, HK.out, sz_end _ _ _ _ (by rw [HL.out]; omega)]; rfl, rfl⟩
end Go.Proofs.Ytjoggjjkafamlaa
