/- Walks of package pack: what size, Unpack, Pack answer, byte by byte. -/
import Derived.Test.YtnjnelfmfijgjaePackMath
import Derived.Test.YtnjnelfmfijgjaeChecked
import Derived.WalkKit
import Derived.WalkSpells
import Derived.WalkLawsBesides
import Derived.BigQuiet
import Derived.Deep.QuietTactic
import Derived.Outline
namespace Go.Proofs.Ytnjnelfmfijgjae
open Go.RowKit

def errV (c : Nat) : Value := if c = 0 then .nilIface else .iface 45 (.int .i64 (c : Int))

theorem byte_at (s : ByteArray) (k : Nat) (c : UInt8) (h : Hid (s.data.toList.getD k 0 = c)) : ∀ hp : k < s.size, s[k]'hp = c := by
  intro hp
  rw [← h.out]
  have h2 : k < s.data.toList.length := by simpa using hp
  rw [List.getD_eq_getElem?_getD, List.getElem?_eq_getElem h2]; rfl

theorem nat_at (s : ByteArray) (k : Nat) (c : UInt8) (h : Hid (s.data.toList.getD k 0 = c)) (m : Nat) (hm : Hid (c.toNat = m)) : ∀ hp : k < s.size, (s[k]'hp).toNat = m := by
  intro hp; rw [byte_at s k c h hp]; exact hm.out
theorem byte_le (c : UInt8) (m : Nat) (hm : Hid (c.toNat = m)) : m ≤ 255 := by have h1 := hm.out; have := c.toNat_lt; omega

theorem drop_two (l : List UInt8) (k : Nat) (h : 2 * k + 1 < l.length) : l.drop (2 * k) = l.getD (2 * k) 0 :: l.getD (2 * k + 1) 0 :: l.drop (2 * (k + 1)) := by
  rw [List.drop_eq_getElem_cons (by omega), List.drop_eq_getElem_cons (by omega)]
  simp only [List.getD_eq_getElem?_getD, List.getElem?_eq_getElem h, List.getElem?_eq_getElem (show 2 * k < l.length by omega)]
  rfl

theorem sz_step (most : Int) (l : List UInt8) (k t : Nat) (c : UInt8) (hc : Hid (l.getD (2 * k) 0 = c)) (m : Nat) (hm : Hid (c.toNat = m)) (h : 2 * k + 1 < l.length) (h0 : ¬ m = 0) (h1 : ¬ most < (t : Int) + (m : Int)) :
    Hid (Fb.sz most (l.drop (2 * k)) t = Fb.sz most (l.drop (2 * (k + 1))) (t + m)) := by
  unfold Hid
  have hm' := hm.out; subst hm'
  rw [drop_two l k h, Fb.sz, hc.out, if_neg (fun e => h0 (by rw [e]; rfl)), if_neg h1]
theorem sz_zero (most : Int) (l : List UInt8) (k t : Nat) (c : UInt8) (hc : Hid (l.getD (2 * k) 0 = c)) (m : Nat) (hm : Hid (c.toNat = m)) (h : 2 * k + 1 < l.length) (h0 : m = 0) : Hid (Fb.sz most (l.drop (2 * k)) t = (0, 4)) := by
  unfold Hid
  have hm' := hm.out; subst hm'
  rw [drop_two l k h, Fb.sz, hc.out, if_pos (UInt8.toNat_inj.1 h0)]
theorem sz_many (most : Int) (l : List UInt8) (k t : Nat) (c : UInt8) (hc : Hid (l.getD (2 * k) 0 = c)) (m : Nat) (hm : Hid (c.toNat = m)) (h : 2 * k + 1 < l.length) (h0 : ¬ m = 0) (h1 : most < (t : Int) + (m : Int)) :
    Hid (Fb.sz most (l.drop (2 * k)) t = (0, 2)) := by
  unfold Hid
  have hm' := hm.out; subst hm'
  rw [drop_two l k h, Fb.sz, hc.out, if_neg (fun e => h0 (by rw [e]; rfl)), if_pos h1]
theorem sz_end (most : Int) (l : List UInt8) (k t : Nat) (h : l.length ≤ 2 * k) : Fb.sz most (l.drop (2 * k)) t = (t, 0) := by
  rw [List.drop_eq_nil_of_le h]; rfl

theorem ret2 {a b c d : Value} (h1 : a = c) (h2 : b = d) : Ending.returned (.tuple #[a, b]) = .returned (.tuple #[c, d]) := by rw [h1, h2]

end Go.Proofs.Ytnjnelfmfijgjae
