/- Some of the walks, in one text. -/
import Derived.Test.YtfhfedcamcpceaaDoorChecked
import Derived.WalkKit
import Derived.WalkSpells
import Derived.WalkLawsBesides
import Derived.BigQuiet
import Derived.Deep.QuietTactic
import Derived.Outline
import Derived.Laws.IdiomStrings
import Derived.Lib.BufferWrite
import Derived.Lib.UnsafeStr
import Derived.Lib.Strings
import Derived.Laws.MakeOwn
import Derived.Deep.RegionWith
import Derived.Deep.Cut
import Derived.Laws.EntriesVeiled
import Derived.Lib.AppendStr
/- Plain functions on lists of bytes: sums, names and chunks (no Go in here). -/
namespace Go.Proofs.YtfhfedcamcpceaaDoor
namespace Fb

def sumStep (p : Nat × Nat) (x : UInt8) : Nat × Nat := ((p.1 + x.toNat) % 251, (p.2 + (p.1 + x.toNat) % 251) % 251)
def sumL (l : List UInt8) : Nat × Nat := l.foldl sumStep (1, 0)

set_option maxRecDepth 100000 in
theorem sumStep_lt (p : Nat × Nat) (x : UInt8) : (sumStep p x).1 < 251 ∧ (sumStep p x).2 < 251 := by
  unfold sumStep; exact ⟨Nat.mod_lt _ (by omega), Nat.mod_lt _ (by omega)⟩

set_option maxRecDepth 100000 in
theorem foldl_sum_lt (l : List UInt8) : ∀ p : Nat × Nat, p.1 < 251 → p.2 < 251 → (l.foldl sumStep p).1 < 251 ∧ (l.foldl sumStep p).2 < 251 := by
  induction l with
  | nil => intro p h1 h2; exact ⟨h1, h2⟩
  | cons x l ih => intro p _ _; exact ih _ (sumStep_lt p x).1 (sumStep_lt p x).2

set_option maxRecDepth 100000 in
theorem sumL_lt (l : List UInt8) : (sumL l).1 < 251 ∧ (sumL l).2 < 251 := foldl_sum_lt l (1, 0) (by decide) (by decide)

def letter (x : UInt8) : Bool := decide (65 ≤ x.toNat) && decide (x.toNat ≤ 90)
def nameB (l : List UInt8) : Bool := decide (l.length = 4) && l.all letter

/-- two bytes -/
def pairL (a b : Nat) : List UInt8 := [UInt8.ofNat a, UInt8.ofNat b]

/-- a chunk's bytes ahead of its sum -/
def headL (name data : List UInt8) : List UInt8 := name ++ pairL (data.length % 256) (data.length / 256) ++ data
def sealL (l : List UInt8) : List UInt8 := l ++ pairL (sumL l).1 (sumL l).2

/-- Bytes: what is written, and the number of the error -/
def chunkBytes (name data : List UInt8) : List UInt8 × Nat :=
  if nameB name = false then ([], 3) else if 65535 < data.length then ([], 2) else (sealL (headL name data), 0)

/-- where the data of the first chunk end -/
def endL (l : List UInt8) : Nat := 6 + (l.getD 4 0).toNat + 256 * (l.getD 5 0).toNat

/-- measure: how many bytes the first chunk has, and the number of the error -/
def measureL (l : List UInt8) : Nat × Nat :=
  if l.length < 8 ∨ nameB (l.take 4) = false then (0, 4) else if l.length < endL l + 2 then (0, 4)
  else if (l.drop (endL l)).take 2 = pairL (sumL (l.take (endL l))).1 (sumL (l.take (endL l))).2 then (endL l + 2, 0) else (0, 6)

/-- First: name, data, what is behind, and the number of the error -/
def firstL (l : List UInt8) : List UInt8 × List UInt8 × List UInt8 × Nat :=
  if (measureL l).2 = 0 then (l.take 4, ((l.take (measureL l).1).drop 6).take ((measureL l).1 - 8), l.drop (measureL l).1, 0) else ([], [], [], (measureL l).2)

set_option maxRecDepth 100000 in
theorem nameB_len {l : List UInt8} (h : nameB l = true) : l.length = 4 := by
  unfold nameB at h; simp at h; exact h.1

end Fb
end Go.Proofs.YtfhfedcamcpceaaDoor
/- Plain functions and lemmas on lists of bytes: packing by rows of the same byte (no Go in here). -/
namespace Go.Proofs.YtfhfedcamcpceaaDoor
namespace Fb

/-- what the pairs ahead say, the last pair first -/
def stepR : List (UInt8 × UInt8) → UInt8 → List (UInt8 × UInt8)
  | [], b => [(1, b)]
  | (n, c) :: r, b => if c = b ∧ n.toNat < 255 then (n + 1, c) :: r else (1, b) :: (n, c) :: r

def flat : List (UInt8 × UInt8) → List UInt8
  | [] => []
  | (n, c) :: r => flat r ++ [n, c]

def packR (l : List UInt8) : List (UInt8 × UInt8) := l.foldl stepR []
def packL (l : List UInt8) : List UInt8 := flat (packR l)

def unp : List UInt8 → List UInt8
  | a :: b :: r => List.replicate a.toNat b ++ unp r
  | _ => []

def sz (most : Int) : List UInt8 → Nat → Nat × Nat
  | a :: _ :: r, t => if a = 0 then (0, 4) else if most < (t : Int) + (a.toNat : Int) then (0, 2) else sz most r (t + a.toNat)
  | _, t => (t, 0)

/-- what Unpack's look at all pairs comes to -/
def szAll (l : List UInt8) (most : Int) : Nat × Nat := if l.length % 2 = 1 then (0, 4) else sz most l 0

/-- Unpack: the bytes, and the number of the error -/
def unpack (l : List UInt8) (most : Int) : List UInt8 × Nat := if (szAll l most).2 = 0 then (unp l, 0) else ([], (szAll l most).2)

set_option maxRecDepth 100000 in
theorem flat_len (r : List (UInt8 × UInt8)) : (flat r).length = 2 * r.length := by
  induction r with
  | nil => rfl
  | cons p r ih => obtain ⟨n, c⟩ := p; simp [flat, ih]; omega

set_option maxRecDepth 100000 in
theorem stepR_len (r : List (UInt8 × UInt8)) (b : UInt8) : (stepR r b).length ≤ r.length + 1 := by
  cases r with
  | nil => simp [stepR]
  | cons p r => obtain ⟨n, c⟩ := p; simp only [stepR]; split <;> simp

set_option maxRecDepth 100000 in
theorem foldl_len (l : List UInt8) : ∀ r, (l.foldl stepR r).length ≤ r.length + l.length := by
  induction l with
  | nil => intro r; simp
  | cons b l ih => intro r; have h1 := ih (stepR r b); have h2 := stepR_len r b; simp only [List.foldl_cons, List.length_cons]; omega

set_option maxRecDepth 100000 in
theorem packL_len (l : List UInt8) : (packL l).length ≤ 2 * l.length := by
  unfold packL packR
  have := foldl_len l []
  rw [flat_len]; simp at this; omega

set_option maxRecDepth 100000 in
theorem packL_even (l : List UInt8) : (packL l).length % 2 = 0 := by unfold packL; rw [flat_len]; omega

set_option maxRecDepth 100000 in
theorem unp_snoc (n c : UInt8) : ∀ (k : Nat) (x : List UInt8), x.length = 2 * k → unp (x ++ [n, c]) = unp x ++ List.replicate n.toNat c := by
  intro k
  induction k with
  | zero => intro x hx; have : x = [] := List.eq_nil_of_length_eq_zero (by omega); subst this; simp [unp]
  | succ k ih =>
    intro x hx
    match x, hx with
    | a :: b :: r, hx =>
      have := ih r (by simp at hx; omega)
      simp [unp, this]
    | [], hx => simp at hx
    | [_], hx => simp at hx; omega

def unpR : List (UInt8 × UInt8) → List UInt8
  | [] => []
  | (n, c) :: r => unpR r ++ List.replicate n.toNat c

set_option maxRecDepth 100000 in
theorem unp_flat (r : List (UInt8 × UInt8)) : unp (flat r) = unpR r := by
  induction r with
  | nil => rfl
  | cons p r ih => obtain ⟨n, c⟩ := p; simp only [flat, unpR]; rw [unp_snoc n c r.length _ (flat_len r), ih]

set_option maxRecDepth 100000 in
theorem succ_toNat (n : UInt8) (h : n.toNat < 255) : (n + 1).toNat = n.toNat + 1 := by
  rw [UInt8.toNat_add]; simp; omega

set_option maxRecDepth 100000 in
theorem unpR_step (r : List (UInt8 × UInt8)) (b : UInt8) : unpR (stepR r b) = unpR r ++ [b] := by
  cases r with
  | nil => simp [stepR, unpR]
  | cons p r =>
    obtain ⟨n, c⟩ := p
    simp only [stepR]
    split
    · rename_i h
      obtain ⟨rfl, h2⟩ := h
      simp only [unpR, succ_toNat n h2, List.append_assoc, List.replicate_succ']
    · simp [unpR]

set_option maxRecDepth 100000 in
theorem unpR_fold (l : List UInt8) : ∀ r, unpR (l.foldl stepR r) = unpR r ++ l := by
  induction l with
  | nil => intro r; simp
  | cons b l ih => intro r; simp only [List.foldl_cons]; rw [ih, unpR_step]; simp

set_option maxRecDepth 100000 in
theorem unp_packL (l : List UInt8) : unp (packL l) = l := by
  unfold packL packR; rw [unp_flat, unpR_fold]; rfl

/-- no pair is of no bytes -/
def full (r : List (UInt8 × UInt8)) : Prop := ∀ p ∈ r, p.1.toNat ≠ 0

set_option maxRecDepth 100000 in
theorem full_step (r : List (UInt8 × UInt8)) (b : UInt8) (h : full r) : full (stepR r b) := by
  cases r with
  | nil => intro p hp; simp [stepR] at hp; subst hp; show (1 : UInt8).toNat ≠ 0; decide
  | cons q r =>
    obtain ⟨n, c⟩ := q
    simp only [stepR]
    split
    · rename_i hh
      intro p hp
      simp only [List.mem_cons] at hp
      rcases hp with rfl | hp
      · simp only; rw [succ_toNat n hh.2]; omega
      · exact h p (by simp [hp])
    · intro p hp
      simp only [List.mem_cons] at hp
      rcases hp with rfl | rfl | hp
      · show (1 : UInt8).toNat ≠ 0; decide
      · exact h _ (by simp)
      · exact h p (by simp [hp])

set_option maxRecDepth 100000 in
theorem full_fold (l : List UInt8) : ∀ r, full r → full (l.foldl stepR r) := by
  induction l with
  | nil => intro r h; exact h
  | cons b l ih => intro r h; exact ih _ (full_step r b h)

set_option maxRecDepth 100000 in
theorem full_packR (l : List UInt8) : full (packR l) := full_fold l [] (by intro p hp; cases hp)

def sumR : List (UInt8 × UInt8) → Nat
  | [] => 0
  | (n, _) :: r => sumR r + n.toNat

set_option maxRecDepth 100000 in
theorem sumR_eq (r : List (UInt8 × UInt8)) : sumR r = (unpR r).length := by
  induction r with
  | nil => rfl
  | cons p r ih => obtain ⟨n, c⟩ := p; simp [sumR, unpR, ih]

set_option maxRecDepth 100000 in
theorem sz_snoc (most : Int) (n c : UInt8) (hn : n.toNat ≠ 0) : ∀ (k : Nat) (x : List UInt8) (t : Nat), x.length = 2 * k →
    sz most (x ++ [n, c]) t = if (sz most x t).2 = 0 then (if most < ((sz most x t).1 : Int) + (n.toNat : Int) then (0, 2) else ((sz most x t).1 + n.toNat, 0)) else sz most x t := by
  intro k
  induction k with
  | zero =>
    intro x t hx; have : x = [] := List.eq_nil_of_length_eq_zero (by omega)
    subst this
    have h0 : ¬ n = 0 := by intro h; apply hn; rw [h]; rfl
    simp only [List.nil_append, sz, h0, if_false, if_true]
    by_cases h : most < (t : Int) + (n.toNat : Int) <;> simp [h]
  | succ k ih =>
    intro x t hx
    match x, hx with
    | a :: b :: r, hx =>
      have := ih r (t + a.toNat) (by simp at hx; omega)
      simp only [List.cons_append, sz, this]
      by_cases h1 : a = 0
      · simp [h1]
      · by_cases h2 : most < (t : Int) + (a.toNat : Int)
        · simp [h1, h2]
        · simp [h1, h2]
    | [], hx => simp at hx
    | [_], hx => simp at hx; omega

set_option maxRecDepth 100000 in
theorem sz_flat (most : Int) (r : List (UInt8 × UInt8)) (h : full r) :
    sz most (flat r) 0 = if r = [] ∨ (sumR r : Int) ≤ most then (sumR r, 0) else (0, 2) := by
  induction r with
  | nil => simp [flat, sz, sumR]
  | cons p r ih =>
    obtain ⟨n, c⟩ := p
    have hn := h (n, c) (by simp)
    have hr := ih (fun q hq => h q (by simp [hq]))
    simp only [flat]
    rw [sz_snoc most n c hn r.length _ 0 (flat_len r), hr]
    simp only at hn
    by_cases h1 : r = [] ∨ (sumR r : Int) ≤ most
    · rw [if_pos h1]
      simp only [sumR]
      by_cases h2 : most < (sumR r : Int) + (n.toNat : Int)
      · have : ¬ (sumR r : Int) + (n.toNat : Int) ≤ most := by omega
        simp [h2, this]
      · have : (sumR r : Int) + (n.toNat : Int) ≤ most := by omega
        simp [h2, this]
    · rw [if_neg h1]
      have : ¬ (sumR r : Int) + (n.toNat : Int) ≤ most := by
        intro h3; apply h1; right; omega
      simp [sumR, this]

set_option maxRecDepth 100000 in
theorem unpack_packL (l : List UInt8) : unpack (packL l) l.length = (l, 0) := by
  have hs : szAll (packL l) l.length = (l.length, 0) := by
    unfold szAll
    rw [if_neg (by have := packL_even l; omega)]
    unfold packL
    rw [sz_flat _ _ (full_packR l)]
    have : sumR (packR l) = l.length := by rw [sumR_eq]; unfold packR; rw [unpR_fold]; simp [unpR]
    rw [this]; simp
  unfold unpack
  rw [hs, unp_packL]; rfl

set_option maxRecDepth 100000 in
theorem packR_ne (l : List UInt8) (h : l ≠ []) : packR l ≠ [] := by
  intro e
  have : unpR (packR l) = l := by unfold packR; rw [unpR_fold]; rfl
  rw [e] at this; exact h this.symm

set_option maxRecDepth 100000 in
theorem unpack_packL_less (l : List UInt8) (h : l ≠ []) : unpack (packL l) ((l.length : Int) - 1) = ([], 2) := by
  have hs : szAll (packL l) ((l.length : Int) - 1) = (0, 2) := by
    unfold szAll
    rw [if_neg (by have := packL_even l; omega)]
    unfold packL
    rw [sz_flat _ _ (full_packR l)]
    have : sumR (packR l) = l.length := by rw [sumR_eq]; unfold packR; rw [unpR_fold]; simp [unpR]
    rw [this, if_neg]
    intro hh
    rcases hh with hh | hh
    · exact packR_ne l h hh
    · omega
  unfold unpack
  rw [hs]; rfl

set_option maxRecDepth 100000 in
theorem unp_len (l : List UInt8) : ∀ k, l.length = 2 * k → (unp l).length ≤ 255 * k := by
  intro k
  induction k generalizing l with
  | zero => intro hx; have : l = [] := List.eq_nil_of_length_eq_zero (by omega); subst this; simp [unp]
  | succ k ih =>
    intro hx
    match l, hx with
    | a :: b :: r, hx =>
      have h1 := ih r (by simp at hx; omega)
      have h2 := a.toNat_lt
      simp [unp]; omega
    | [], hx => simp at hx
    | [_], hx => simp at hx; omega

end Fb
end Go.Proofs.YtfhfedcamcpceaaDoor
/- Walks of package pack: what size, Unpack, Pack answer, byte by byte. -/
namespace Go.Proofs.YtfhfedcamcpceaaDoor
open Go.RowKit

def errV (c : Nat) : Value := if c = 0 then .nilIface else .iface 69 (.int .i64 (c : Int))

set_option maxRecDepth 100000 in
theorem byte_at (s : ByteArray) (k : Nat) (c : UInt8) (h : Hid (s.data.toList.getD k 0 = c)) : ∀ hp : k < s.size, s[k]'hp = c := by
  intro hp
  rw [← h.out]
  have h2 : k < s.data.toList.length := by simpa using hp
  rw [List.getD_eq_getElem?_getD, List.getElem?_eq_getElem h2]; rfl

set_option maxRecDepth 100000 in
theorem nat_at (s : ByteArray) (k : Nat) (c : UInt8) (h : Hid (s.data.toList.getD k 0 = c)) (m : Nat) (hm : Hid (c.toNat = m)) : ∀ hp : k < s.size, (s[k]'hp).toNat = m := by
  intro hp; rw [byte_at s k c h hp]; exact hm.out
set_option maxRecDepth 100000 in
theorem byte_le (c : UInt8) (m : Nat) (hm : Hid (c.toNat = m)) : m ≤ 255 := by have h1 := hm.out; have := c.toNat_lt; omega

set_option maxRecDepth 100000 in
theorem drop_two (l : List UInt8) (k : Nat) (h : 2 * k + 1 < l.length) : l.drop (2 * k) = l.getD (2 * k) 0 :: l.getD (2 * k + 1) 0 :: l.drop (2 * (k + 1)) := by
  rw [List.drop_eq_getElem_cons (by omega), List.drop_eq_getElem_cons (by omega)]
  simp only [List.getD_eq_getElem?_getD, List.getElem?_eq_getElem h, List.getElem?_eq_getElem (show 2 * k < l.length by omega)]
  rfl

set_option maxRecDepth 100000 in
theorem sz_step (most : Int) (l : List UInt8) (k t : Nat) (c : UInt8) (hc : Hid (l.getD (2 * k) 0 = c)) (m : Nat) (hm : Hid (c.toNat = m)) (h : 2 * k + 1 < l.length) (h0 : ¬ m = 0) (h1 : ¬ most < (t : Int) + (m : Int)) :
    Hid (Fb.sz most (l.drop (2 * k)) t = Fb.sz most (l.drop (2 * (k + 1))) (t + m)) := by
  unfold Hid
  have hm' := hm.out; subst hm'
  rw [drop_two l k h, Fb.sz, hc.out, if_neg (fun e => h0 (by rw [e]; rfl)), if_neg h1]
set_option maxRecDepth 100000 in
theorem sz_zero (most : Int) (l : List UInt8) (k t : Nat) (c : UInt8) (hc : Hid (l.getD (2 * k) 0 = c)) (m : Nat) (hm : Hid (c.toNat = m)) (h : 2 * k + 1 < l.length) (h0 : m = 0) : Hid (Fb.sz most (l.drop (2 * k)) t = (0, 4)) := by
  unfold Hid
  have hm' := hm.out; subst hm'
  rw [drop_two l k h, Fb.sz, hc.out, if_pos (UInt8.toNat_inj.1 h0)]
set_option maxRecDepth 100000 in
theorem sz_many (most : Int) (l : List UInt8) (k t : Nat) (c : UInt8) (hc : Hid (l.getD (2 * k) 0 = c)) (m : Nat) (hm : Hid (c.toNat = m)) (h : 2 * k + 1 < l.length) (h0 : ¬ m = 0) (h1 : most < (t : Int) + (m : Int)) :
    Hid (Fb.sz most (l.drop (2 * k)) t = (0, 2)) := by
  unfold Hid
  have hm' := hm.out; subst hm'
  rw [drop_two l k h, Fb.sz, hc.out, if_neg (fun e => h0 (by rw [e]; rfl)), if_pos h1]
set_option maxRecDepth 100000 in
theorem sz_end (most : Int) (l : List UInt8) (k t : Nat) (h : l.length ≤ 2 * k) : Fb.sz most (l.drop (2 * k)) t = (t, 0) := by
  rw [List.drop_eq_nil_of_le h]; rfl

set_option maxRecDepth 100000 in
theorem ret2 {a b c d : Value} (h1 : a = c) (h2 : b = d) : Ending.returned (.tuple #[a, b]) = .returned (.tuple #[c, d]) := by rw [h1, h2]

set_option maxHeartbeats 1000000 in
set_option maxRecDepth 100000 in
theorem size_any (s : ByteArray) (most : Int) (w : World) (hs : s.size ≤ 1000000) (hm0 : -9223372036854775808 ≤ most) (hm1 : most ≤ 9223372036854775807) :
    Calls Tryd.prog 73 #[.string s, .int .i64 most] w fun e w' => e = .returned (.tuple #[.int .i64 ((Fb.szAll s.data.toList most).1 : Nat), errV (Fb.szAll s.data.toList most).2]) ∧ w = w' := by
  have hlen : s.data.toList.length = s.size := by simp
  by_cases hev : s.size % 2 = 1
  · have hd : (((s.size : Int) % 2) != 0) = true := by rw [bne_iff_ne]; omega
    have HF : Hid (Fb.szAll s.data.toList most = (0, 4)) := by unfold Hid Fb.szAll; rw [hlen, if_pos hev]
    clear hlen
    go_enter Tryd.func73, Tryd.ntmps73
    go_wp2
    go_ret2
    exact ⟨by rw [HF.out]; rfl, rfl⟩
  · have hd : (((s.size : Int) % 2) != 0) = false := by rw [bne_eq_false_iff_eq]; omega
    have HF : Hid (Fb.szAll s.data.toList most = Fb.sz most s.data.toList 0) := by unfold Hid Fb.szAll; rw [hlen, if_neg hev]
    have HL : Hid (s.data.toList.length = s.size) := hlen
    clear hlen
    go_enter Tryd.func73, Tryd.ntmps73
    go_wp2
    go_loop [6, 17] (fun t i => ∃ k n : Nat, 2 * k ≤ s.size ∧ i = .int .i64 k ∧ t = .int .i64 n ∧ n ≤ 255 * k ∧ (n = 0 ∨ (n : Int) ≤ most) ∧ Hid (Fb.sz most s.data.toList 0 = Fb.sz most (s.data.toList.drop (2 * k)) n)) (fun _ i => s.size - (intOf i).toNat)
    case atStart => exact ⟨0, 0, by omega, rfl, rfl, by omega, .inl rfl, rfl⟩
    case round =>
      obtain ⟨k, n, hk, rfl, rfl, hn, hmo, HK⟩ := hrel
      by_cases hlt : 2 * k < s.size
      · have hL := HL.out
        have hk1 : 2 * k + 1 < s.data.toList.length := by omega
        clear hL
        obtain ⟨c, HC⟩ : ∃ c, Hid (s.data.toList.getD (2 * k) 0 = c) := ⟨_, (rfl : _ = _)⟩
        obtain ⟨m, HM⟩ : ∃ m, Hid (c.toNat = m) := ⟨_, (rfl : _ = _)⟩
        have hix := nat_at s (2 * k) c HC m HM
        have hcb := byte_le c m HM
        by_cases h0 : m = 0
        · have HZ := sz_zero most _ k n c HC m HM hk1 h0
          clear hk1
          subst h0
          go_wp2
          go_ret2
          exact ⟨by rw [HF.out, HK.out, HZ.out]; rfl, rfl⟩
        · by_cases h1 : most - n < m
          · have HZ := sz_many most _ k n c HC m HM hk1 h0 (by omega)
            clear hk1
            go_wp2
            go_ret2
            exact ⟨by rw [HF.out, HK.out, HZ.out]; rfl, rfl⟩
          · have HZ := sz_step most _ k n c HC m HM hk1 h0 (by omega)
            clear hk1
            go_wp2
            go_round
            case rel => exact ⟨k + 1, n + m, by omega, by go_num, by go_num, by omega, .inr (by omega), by unfold Hid; rw [HK.out, HZ.out]⟩
            case measure => simp [intOf]; omega
      · go_wp2
        go_ret2
        exact ⟨by rw [HF.out, HK.out, sz_end _ _ _ _ (by rw [HL.out]; omega)]; rfl, rfl⟩
end Go.Proofs.YtfhfedcamcpceaaDoor
/- Walk of pack.Unpack. -/
namespace Go.Proofs.YtfhfedcamcpceaaDoor
open Go.RowKit

theorem Tryd.infoByte : (Tryd.prog.info? 5).map (fun i => (i.zero, i.size, i.bytes)) = some (some (.int .u8 0), 1, 1) := by kernel_rfl

/-- a byte as a value -/
def bv (b : UInt8) : Value := .int .u8 (b.toNat : Int)

/-- the string of the bytes l -/
def str (l : List UInt8) : Value := .string ⟨l.toArray⟩

set_option maxRecDepth 100000 in
theorem bv_one (l : List UInt8) : ∀ u ∈ l.map bv, u.oneCell' = true := by
  intro u hu
  simp only [List.mem_map] at hu
  obtain ⟨b, _, rfl⟩ := hu
  rfl

set_option maxRecDepth 100000 in
/-- a row of bytes that the call owns, made a text -/
theorem run_str {w : World} {B : Nat} {v : Value} {l : List UInt8} (h : w.ownsRow B 5 1 v l.length (l.map bv)) :
    (convert 59 9 v).run Tryd.prog w = .ok (str l) w := by
  rcases h.2 with ⟨rfl, h0⟩ | ⟨g, cap, cur, rfl, hb, hg, hn, hm, hs, ht⟩
  · have : l = [] := List.eq_nil_of_length_eq_zero h0
    subst this
    rw [run_convert_bytes_nil w 59 5 Tryd.underlying59 Tryd.underlying5 0 0 9 Tryd.underlying9]
    rfl
  · refine run_convert_bytes_back w 59 9 5 ⟨g, 0, none⟩ cap l Tryd.underlying59 Tryd.underlying5 Tryd.underlying9 ?_
    intro j hj
    have := h.cells (g := g) rfl j (bv l[j]) (by simp [hj])
    exact this

set_option maxRecDepth 100000 in
theorem unp_step (l : List UInt8) (k : Nat) (c : UInt8) (hc : Hid (l.getD (2 * k) 0 = c)) (m : Nat) (hm : Hid (c.toNat = m)) (d : UInt8) (hd : Hid (l.getD (2 * k + 1) 0 = d)) (h : 2 * k + 1 < l.length) :
    Fb.unp (l.drop (2 * k)) = List.replicate m d ++ Fb.unp (l.drop (2 * (k + 1))) := by
  rw [drop_two l k h, Fb.unp, hc.out, hd.out, hm.out]

set_option maxRecDepth 100000 in
theorem unp_end (l : List UInt8) (k : Nat) (h : l.length ≤ 2 * k) : Fb.unp (l.drop (2 * k)) = [] := by
  rw [List.drop_eq_nil_of_le h]; rfl

set_option maxRecDepth 100000 in
theorem own_snoc {w' : World} {B : Nat} {v' : Value} {o : List UInt8} {d : UInt8} (h : w'.ownsRow B 5 1 v' (o.length + 1) (o.map bv ++ [bv d])) : w'.ownsRow B 5 1 v' (o ++ [d]).length ((o ++ [d]).map bv) := by
  simpa using h

set_option maxRecDepth 100000 in
theorem one_new (w : World) (d : UInt8) : ∀ j u, [bv d][j]? = some u → (w.alloc (.cells #[.int .u8 (d.toNat : Int)] 5)).cell? ((⟨w.heap.size, 0, none⟩ : Addr).add j) = some u := by
  intro j u hj
  match j, hj with
  | 0, hj => simp at hj; subst hj; simp [Addr.add, bv]
  | j + 1, hj => simp at hj

set_option maxRecDepth 100000 in
/-- behind an append to a row that the call owns all below is as it was -/
theorem below_app {w wr w2 : World} {v : Value} {n : Nat} {xs : List Value} {e : TypeId} {size : Nat} {ob : Obj} (hb : Below w.heap.size w wr) (hown : wr.ownsRow w.heap.size e size v n xs) (hg : (wr.alloc ob).grownBy w2 v.ownBlock) : Below w.heap.size w w2 := by
  refine (hb.alloc hb.size ob).grown hg (by have := hb.size; simp; omega) ?_
  intro k hk
  exact (hown.lt k hk).1

set_option maxRecDepth 100000 in
theorem size_at (s : ByteArray) (most : Int) (w : World) (hs : s.size ≤ 1000000) (hm0 : -9223372036854775808 ≤ most) (hm1 : most ≤ 9223372036854775807) (tot code : Nat) (v : Value) (HZ : Hid (Fb.szAll s.data.toList most = (tot, code))) (HV : Hid (errV code = v)) :
    Calls Tryd.prog 73 #[.string s, .int .i64 most] w fun e w' => e = .returned (.tuple #[.int .i64 tot, v]) ∧ w = w' := by
  have h := size_any s most w hs hm0 hm1
  rw [HZ.out] at h
  rw [← HV.out]
  exact h

set_option maxRecDepth 100000 in
/-- each pair's bytes fit into the sum -/
theorem sz_tot (most : Int) : ∀ (k : Nat) (l : List UInt8) (t tot : Nat), l.length = 2 * k → Fb.sz most l t = (tot, 0) → tot = t + (Fb.unp l).length := by
  intro k
  induction k with
  | zero => intro l t tot hl h; have : l = [] := List.eq_nil_of_length_eq_zero (by omega); subst this; simp [Fb.sz] at h; simp [Fb.unp, h]
  | succ k ih =>
    intro l t tot hl h
    match l, hl with
    | a :: b :: r, hl =>
      rw [Fb.sz] at h
      split at h
      · simp at h
      · split at h
        · simp at h
        · have := ih r _ _ (by simp at hl; omega) h
          simp [Fb.unp]; omega
    | [], hl => simp at hl
    | [_], hl => simp at hl; omega

set_option maxHeartbeats 1000000 in
set_option maxRecDepth 100000 in
theorem unpack_any (s : ByteArray) (most : Int) (w : World) (hs : s.size ≤ 1000000) (hm0 : -9223372036854775808 ≤ most) (hm1 : most ≤ 9223372036854775807) :
    Calls Tryd.prog 58 #[.string s, .int .i64 most] w fun e w' => e = .returned (.tuple #[str (Fb.unpack s.data.toList most).1, errV (Fb.unpack s.data.toList most).2]) ∧ Below w.heap.size w w' := by
  obtain ⟨i0, hi, hz0, hz1, hz2⟩ := info_parts Tryd.infoByte
  obtain ⟨z, HZ⟩ : ∃ z, Hid (Fb.szAll s.data.toList most = z) := ⟨_, (rfl : _ = _)⟩
  obtain ⟨tot, code⟩ := z
  have HL : Hid (s.data.toList.length = s.size) := by unfold Hid; simp
  by_cases hcode : code = 0
  · subst hcode
    have HU : Hid (Fb.unpack s.data.toList most = (Fb.unp s.data.toList, 0)) := by unfold Hid Fb.unpack; rw [HZ.out, if_pos rfl]
    have hev : s.size % 2 = 0 := by
      have h := HZ.out; unfold Fb.szAll at h; rw [HL.out] at h
      split at h
      · simp at h
      · omega
    have HT : Hid (tot = (Fb.unp s.data.toList).length) := by
      have h := HZ.out; unfold Fb.szAll at h; rw [HL.out, if_neg (by omega)] at h
      have := sz_tot most (s.size / 2) _ 0 tot (by rw [HL.out]; omega) h
      unfold Hid; omega
    have htot : tot ≤ 255 * 500000 := by
      rw [HT.out]
      have := Fb.unp_len s.data.toList (s.size / 2) (by rw [HL.out]; omega)
      omega
    go_enter Tryd.func58, Tryd.ntmps58
    go_wp2_with fail
    refine (size_at s most _ hs hm0 hm1 tot 0 .nilIface HZ rfl).mono ?_
    rintro e w' ⟨rfl, rfl⟩
    go_wp2_with (at_make; refine wpList_make_own _ rfl _ _ 59 rfl w.heap.size 5 i0 (.int .u8 0) 1 Tryd.underlying59 hi hz0 hz1 _ _ _ tot rfl rfl rfl ?b1 ?b2 ?b3 ?_)
    case b1 => rw [hz2]; omega
    case b2 => unfold maxLen; omega
    case b3 => exact Nat.le_refl _
    intro w1 hown1 hgrow1
    have hb1 : Below w.heap.size w w1 := (Below.refl _ _).grown hgrow1 (Nat.le_refl _) (by intro k hk; cases hk)
    clear hgrow1
    go_wp2
    go_loopw [8, 24] (fun v i wr => ∃ (k : Nat) (o : List UInt8), 2 * k ≤ s.size ∧ i = .int .i64 k ∧ wr.ownsRow w.heap.size 5 1 v o.length (o.map bv) ∧ Below w.heap.size w wr ∧ o.length ≤ 255 * k ∧ Hid (Fb.unp s.data.toList = o ++ Fb.unp (s.data.toList.drop (2 * k)))) (fun _ i _ => s.size - (intOf i).toNat)
    case atStart => exact ⟨0, [], by omega, rfl, hown1, hb1, by simp, rfl⟩
    case round =>
      obtain ⟨k, o, hk, rfl, hown, hb, ho, HK⟩ := hrel
      by_cases hlt : 2 * k < s.size
      · have hL := HL.out
        have hk1 : 2 * k + 1 < s.data.toList.length := by omega
        clear hL
        obtain ⟨c, HC⟩ : ∃ c, Hid (s.data.toList.getD (2 * k) 0 = c) := ⟨_, (rfl : _ = _)⟩
        obtain ⟨m, HM⟩ : ∃ m, Hid (c.toNat = m) := ⟨_, (rfl : _ = _)⟩
        obtain ⟨d, HD⟩ : ∃ d, Hid (s.data.toList.getD (2 * k + 1) 0 = d) := ⟨_, (rfl : _ = _)⟩
        have hix := nat_at s (2 * k) c HC m HM
        have hix2 := byte_at s (2 * k + 1) d HD
        have hlt2 : 2 * k + 1 < s.size := by omega
        have hcb := byte_le c m HM
        have HST : Hid (Fb.unp (s.data.toList.drop (2 * k)) = List.replicate m d ++ Fb.unp (s.data.toList.drop (2 * (k + 1)))) := unp_step _ k c HC m HM d HD hk1
        clear hk1
        obtain ⟨wo, rfl⟩ : ∃ wo : World, wo = wr := ⟨_, rfl⟩
        go_wp2
        go_loopw [8, 32] (fun v i wr => ∃ (j : Nat) (oj : List UInt8), j ≤ m ∧ i = .int .i64 j ∧ wr.ownsRow w.heap.size 5 1 v oj.length (oj.map bv) ∧ Below w.heap.size w wr ∧ Hid (oj = o ++ List.replicate j d)) (fun _ i _ => m - (intOf i).toNat)
        case atStart => exact ⟨0, o, by omega, rfl, hown, hb, (List.append_nil o).symm⟩
        case round =>
          obtain ⟨j, oj, hj, rfl, hownj, hbj, HJ⟩ := hrel
          have hoj : oj.length = o.length + j := by rw [HJ.out]; simp
          have hoj2 : oj.length ≤ 255 * k + 255 := by omega
          clear hoj
          by_cases hjm : j < m
          · go_wp2_with (at_builtin; refine wpList_append_own _ rfl _ _ 59 rfl w.heap.size 5 i0 (.int .u8 0) 1 1 Tryd.underlying59 hi hz0 hz1 hz2 rfl (by decide) _ _ _ rfl (hownj.alloc _) ⟨wr.heap.size, 0, none⟩ 1 1 [bv d] rfl rfl ?c1 ?c2 ?c3 ?c4 ?c5 ?_)
            case c1 => exact one_new _ _
            case c2 => exact bv_one [d]
            case c3 => unfold maxLen; omega
            case c4 => omega
            case c5 => have := hbj.size; simp; omega
            · intro v' w2 hown' hgrow _
              have hb2 : Below w.heap.size w w2 := below_app hbj hownj hgrow
              have hown2 := own_snoc hown'
              clear hown' hgrow
              go_wp2
              go_roundw
              case rel => exact ⟨j + 1, oj ++ [d], by omega, by go_num, hown2, hb2, by unfold Hid; rw [HJ.out, List.replicate_succ', List.append_assoc]⟩
              case measure => simp [intOf]; omega
          · have hje : j = m := by omega
            subst hje
            go_wp2
            go_roundw
            case rel => exact ⟨k + 1, oj, by omega, by go_num, hownj, hbj, by omega, by unfold Hid; rw [HK.out, HST.out, HJ.out, List.append_assoc]⟩
            case measure => simp [intOf]; omega
      · have hst := run_str hown
        go_wp2
        go_ret2
        exact ⟨ret2 (by rw [HU.out, HK.out, unp_end _ _ (by rw [HL.out]; omega), List.append_nil]; rfl) (by rw [HU.out]; rfl), hb⟩
  · have HU : Hid (Fb.unpack s.data.toList most = ([], code)) := by unfold Hid Fb.unpack; rw [HZ.out, if_neg hcode]
    have HE : Hid (errV code = .iface 69 (.int .i64 (code : Int))) := by unfold Hid errV; rw [if_neg hcode]
    go_enter Tryd.func58, Tryd.ntmps58
    go_wp2_with fail
    refine (size_at s most _ hs hm0 hm1 tot code _ HZ HE).mono ?_
    rintro e w' ⟨rfl, rfl⟩
    go_wp2_with fail
    go_ret2
    exact ⟨by rw [HU.out, HE.out]; rfl, Below.refl _ _⟩
end Go.Proofs.YtfhfedcamcpceaaDoor
/- Walk of pack.Pack. -/
namespace Go.Proofs.YtfhfedcamcpceaaDoor
open Go.RowKit

set_option maxRecDepth 100000 in
theorem own_shape {w : World} {B : Nat} {v : Value} {n : Nat} {xs : List Value} {e : TypeId} {size : Nat} (h : w.ownsRow B e size v n xs) (hn : n ≠ 0) :
    ∃ g cap, v = .slice (some ⟨g, 0, none⟩) n cap ∧ B ≤ g ∧ n ≤ cap ∧ cap ≤ maxLen := by
  rcases h.2 with ⟨_, h0⟩ | ⟨g, cap, cur, rfl, hb, hg, hn', hm, _⟩
  · exact absurd h0 hn
  · exact ⟨g, cap, rfl, hb, hn', hm⟩

set_option maxRecDepth 100000 in
theorem own_any {w : World} {B : Nat} {v : Value} {n : Nat} {xs : List Value} {e : TypeId} {size : Nat} (h : w.ownsRow B e size v n xs) :
    ∃ a cap, v = .slice a n cap := by
  rcases h.2 with ⟨h1, h0⟩ | ⟨g, cap, cur, h1, _⟩
  · subst h0; exact ⟨none, 0, h1⟩
  · exact ⟨_, _, h1⟩

set_option maxRecDepth 100000 in
theorem drop_one (l : List UInt8) (k : Nat) (h : k < l.length) : l.drop k = l.getD k 0 :: l.drop (k + 1) := by
  rw [List.drop_eq_getElem_cons h]
  simp only [List.getD_eq_getElem?_getD, List.getElem?_eq_getElem h]
  rfl

set_option maxRecDepth 100000 in
theorem two_new (w : World) (n d : Int) : ∀ j u, [Value.int .u8 n, .int .u8 d][j]? = some u → (w.alloc (.cells #[.int .u8 n, .int .u8 d] 5)).cell? ((⟨w.heap.size, 0, none⟩ : Addr).add j) = some u := by
  intro j u hj
  match j, hj with
  | 0, hj => simp at hj; subst hj; simp [Addr.add]
  | 1, hj => simp at hj; subst hj; simp [Addr.add]
  | j + 2, hj => simp at hj

set_option maxRecDepth 100000 in
theorem two_one (n d : Int) : ∀ u ∈ [Value.int .u8 n, .int .u8 d], u.oneCell' = true := by
  intro u hu; simp at hu; rcases hu with rfl | rfl <;> rfl

set_option maxRecDepth 100000 in
/-- two bytes more in a row -/
theorem own_two {w' : World} {B : Nat} {v' : Value} {o : List UInt8} {d : UInt8} {dd : Nat} (hd : Hid (d.toNat = dd)) (h : w'.ownsRow B 5 1 v' (o.length + 2) (o.map bv ++ [.int .u8 1, .int .u8 (dd : Int)])) : w'.ownsRow B 5 1 v' (o ++ [1, d]).length ((o ++ [1, d]).map bv) := by
  have e : (o ++ [1, d]).map bv = o.map bv ++ [.int .u8 1, .int .u8 (dd : Int)] := by
    rw [List.map_append, ← hd.out]; rfl
  rw [e]; simpa using h

set_option maxRecDepth 100000 in
/-- one byte is counted up -/
theorem own_up {wr : World} {B g cap : Nat} {x : List UInt8} {n c : UInt8} {nn L : Nat} (hn : Hid (n.toNat = nn)) (hl : Hid (x.length = L)) (h255 : nn < 255)
    (h : wr.ownsRow B 5 1 (.slice (some ⟨g, 0, none⟩) (L + 2) cap) (L + 2) ((x ++ [n, c]).map bv)) :
    (wr.setCell ⟨g, L, none⟩ (.int .u8 ((nn : Int) + 1))).ownsRow B 5 1 (.slice (some ⟨g, 0, none⟩) (L + 2) cap) (x ++ [n + 1, c]).length ((x ++ [n + 1, c]).map bv) := by
  have h2 := (h.stored L (.int .u8 ((nn : Int) + 1))).1
  have e : ((x ++ [n, c]).map bv).set L (.int .u8 ((nn : Int) + 1)) = (x ++ [n + 1, c]).map bv := by
    have e2 : bv (n + 1) = .int .u8 ((nn : Int) + 1) := by
      unfold bv; rw [Fb.succ_toNat n (by rw [hn.out]; exact h255), hn.out]; simp
    rw [← hl.out]
    simp [e2]
  rw [e] at h2
  have e3 : (x ++ [n + 1, c]).length = L + 2 := by rw [← hl.out]; simp
  rw [e3]; exact h2

set_option maxRecDepth 100000 in
theorem cell_last {wr : World} {B g cap : Nat} {x : List UInt8} {n c : UInt8} {nn cc L : Nat} (hn : Hid (n.toNat = nn)) (hc : Hid (c.toNat = cc)) (hl : Hid (x.length = L))
    (h : wr.ownsRow B 5 1 (.slice (some ⟨g, 0, none⟩) (L + 2) cap) (L + 2) ((x ++ [n, c]).map bv)) :
    wr.cell? ⟨g, L, none⟩ = some (.int .u8 (nn : Int)) ∧ wr.cell? ⟨g, L + 1, none⟩ = some (.int .u8 (cc : Int)) ∧ wr.frozen? ⟨g, L, none⟩ = false := by
  refine ⟨?_, ?_, h.frozenAt L⟩
  · rw [h.cellAt L (by omega), ← hl.out, ← hn.out]; simp [bv]
  · rw [h.cellAt (L + 1) (by omega), ← hl.out, ← hc.out]; simp [bv]

set_option maxRecDepth 100000 in
theorem step_app (n c d : UInt8) (r : List (UInt8 × UInt8)) (nn cc dd : Nat) (hn : Hid (n.toNat = nn)) (hc : Hid (c.toNat = cc)) (hd : Hid (d.toNat = dd)) (h : cc ≠ dd ∨ ¬ nn < 255) : Fb.stepR ((n, c) :: r) d = (1, d) :: (n, c) :: r := by
  rw [Fb.stepR, if_neg]
  intro ⟨h1, h2⟩
  rw [hn.out] at h2
  subst h1
  have := hc.out.symm.trans hd.out
  rcases h with h | h
  · exact h this
  · exact h h2
set_option maxRecDepth 100000 in
theorem step_up (n c d : UInt8) (r : List (UInt8 × UInt8)) (nn cc : Nat) (hn : Hid (n.toNat = nn)) (hc : Hid (c.toNat = cc)) (hd : Hid (d.toNat = cc)) (h : nn < 255) : Fb.stepR ((n, c) :: r) d = (n + 1, c) :: r := by
  rw [Fb.stepR, if_pos]
  exact ⟨UInt8.toNat_inj.1 (hc.out.trans hd.out.symm), by rw [hn.out]; exact h⟩

set_option maxRecDepth 100000 in
theorem below_store {w wr : World} {B g L : Nat} {u : Value} (hb : Below B w wr) (hg : B ≤ g) : Below B w (wr.setCell ⟨g, L, none⟩ u) := hb.setCell hg u
set_option maxRecDepth 100000 in
theorem below_drewN {B : Nat} {a w : World} (h : Below B a w) (n : Nat) : Below B a (w.drewN n) := ⟨h.os, h.tape, h.output, h.size, h.block⟩
set_option maxRecDepth 100000 in
theorem owns_drewN {w : World} {base : Nat} {e : TypeId} {size : Nat} {v : Value} {n : Nat} {xs : List Value} (h : w.ownsRow base e size v n xs) (q : Nat) : (w.drewN q).ownsRow base e size v n xs := h

set_option maxRecDepth 100000 in
theorem pack_end (l : List UInt8) (k : Nat) (r : List (UInt8 × UInt8)) (h : l.length ≤ k) (H : Hid (Fb.packR l = (l.drop k).foldl Fb.stepR r)) : Fb.packL l = Fb.flat r := by
  unfold Fb.packL; rw [H.out, List.drop_eq_nil_of_le h]; rfl

set_option maxHeartbeats 1000000 in
set_option maxRecDepth 100000 in
theorem pack_any (s : ByteArray) (w : World) (hs : s.size ≤ 1000000) :
    Calls Tryd.prog 53 #[.string s] w fun e w' => e = .returned (str (Fb.packL s.data.toList)) ∧ Below w.heap.size w w' := by
  obtain ⟨i0, hi, hz0, hz1, hz2⟩ := info_parts Tryd.infoByte
  have HL : Hid (s.data.toList.length = s.size) := by unfold Hid; simp
  go_enter Tryd.func53, Tryd.ntmps53
  go_wp2
  go_loopw [3, 8] (fun v i wr => ∃ (k : Nat) (r : List (UInt8 × UInt8)) (o : List UInt8), k ≤ s.size ∧ i = .int .i64 k ∧ wr.ownsRow w.heap.size 5 1 v o.length (o.map bv) ∧ Below w.heap.size w wr ∧ r.length ≤ k ∧ Hid (o = Fb.flat r) ∧ Hid (Fb.packR s.data.toList = (s.data.toList.drop k).foldl Fb.stepR r)) (fun _ i _ => s.size - (intOf i).toNat)
  case atStart => exact ⟨0, [], [], by omega, rfl, World.ownsRow_nil _ _ _ _, Below.refl _ _, by simp, (rfl : _ = _), (rfl : _ = _)⟩
  case round =>
    obtain ⟨k, r, o, hk, rfl, hown, hb, hr, HO, HK⟩ := hrel
    by_cases hlt : k < s.size
    · obtain ⟨d, HD⟩ : ∃ d, Hid (s.data.toList.getD k 0 = d) := ⟨_, (rfl : _ = _)⟩
      obtain ⟨dd, HDD⟩ : ∃ m, Hid (d.toNat = m) := ⟨_, (rfl : _ = _)⟩
      have hix := nat_at s k d HD dd HDD
      have hddb := byte_le d dd HDD
      have HN : Hid (Fb.packR s.data.toList = (s.data.toList.drop (k + 1)).foldl Fb.stepR (Fb.stepR r d)) := by
        unfold Hid; rw [HK.out, drop_one _ k (by rw [HL.out]; exact hlt), HD.out]; rfl
      have hoL : o.length = 2 * r.length := by rw [HO.out, Fb.flat_len]
      have hoB : o.length ≤ 2000000 := by omega
      clear hoL
      cases r with
      | nil =>
        have ho : o = [] := HO.out
        subst ho
        obtain ⟨ao, cp, hv⟩ := own_any hown
        simp only [List.length_nil] at hv
        rw [hv] at hown
        rw [hv]
        go_wp2
        go_quiet (fail)
        have hownq := owns_drewN hown nq
        go_wp2_with (at_builtin; refine wpList_append_own _ rfl _ _ 59 rfl w.heap.size 5 i0 (.int .u8 0) 1 1 Tryd.underlying59 hi hz0 hz1 hz2 rfl (by decide) _ _ _ rfl (hownq.alloc _) ⟨wr.heap.size, 0, none⟩ 2 2 [.int .u8 1, .int .u8 (dd : Int)] rfl rfl ?c1 ?c2 ?c3 ?c4 ?c5 ?_)
        case c1 => exact two_new (wr.drewN nq) _ _
        case c2 => exact two_one _ _
        case c3 => unfold maxLen; simp
        case c4 => simp
        case c5 => have := hb.size; simp; omega
        · intro v' w2 hown' hgrow _
          have hb2 : Below w.heap.size w w2 := below_app (below_drewN hb nq) hownq hgrow
          have hown2 := own_two (o := []) HDD hown'
          clear hown' hgrow
          go_wp2
          go_roundw
          case rel => exact ⟨k + 1, [(1, d)], [1, d], by omega, by go_num, hown2, hb2, by simp, rfl, HN⟩
          case measure => simp [intOf]; omega
      | cons p r' =>
        obtain ⟨n, c⟩ := p
        obtain ⟨nn, HNN⟩ : ∃ m, Hid (n.toNat = m) := ⟨_, (rfl : _ = _)⟩
        obtain ⟨cc, HCC⟩ : ∃ m, Hid (c.toNat = m) := ⟨_, (rfl : _ = _)⟩
        obtain ⟨x, HX⟩ : ∃ x, Hid (Fb.flat r' = x) := ⟨_, (rfl : _ = _)⟩
        obtain ⟨L, HLL⟩ : ∃ m, Hid (x.length = m) := ⟨_, (rfl : _ = _)⟩
        have ho : o = x ++ [n, c] := by rw [HO.out, Fb.flat, HX.out]
        subst ho
        have hlen2 : (x ++ [n, c]).length = L + 2 := by rw [← HLL.out]; simp
        rw [hlen2] at hown hoB
        have hlen3 : Hid ((x ++ [n, c]).length = L + 2) := hlen2
        clear hlen2
        obtain ⟨g, cp, hv, hgB, hcp, hcpm⟩ := own_shape hown (by omega)
        rw [hv] at hown
        rw [hv]
        unfold maxLen at hcpm
        obtain ⟨hcn, hcl, hfz⟩ := cell_last HNN HCC HLL hown
        have hnb := byte_le n nn HNN
        have hcb := byte_le c cc HCC
        by_cases hcd : cc = dd
        · subst hcd
          by_cases h255 : nn < 255
          · have HS : Hid (Fb.stepR ((n, c) :: r') d = (n + 1, c) :: r') := step_up n c d r' nn cc HNN HCC HDD h255
            have hown2 := own_up HNN HLL h255 hown
            have hb2 : Below w.heap.size w (wr.setCell ⟨g, L, none⟩ (.int .u8 ((nn : Int) + 1))) := below_store hb hgB
            go_wp2
            go_quiet (fail)
            go_wp2
            go_roundw
            case rel => exact ⟨k + 1, (n + 1, c) :: r', x ++ [n + 1, c], by omega, by go_num, owns_drewN hown2 nq, below_drewN hb2 nq, by simp at hr ⊢; omega, by unfold Hid; rw [Fb.flat, HX.out], by unfold Hid; rw [HN.out, HS.out]⟩
            case measure => simp [intOf]; omega
          · have HS : Hid (Fb.stepR ((n, c) :: r') d = (1, d) :: (n, c) :: r') := step_app n c d r' nn cc cc HNN HCC HDD (.inr h255)
            go_wp2
            go_quiet (fail)
            have hownq := owns_drewN hown nq
            go_wp2_with (at_builtin; refine wpList_append_own _ rfl _ _ 59 rfl w.heap.size 5 i0 (.int .u8 0) 1 1 Tryd.underlying59 hi hz0 hz1 hz2 rfl (by decide) _ _ _ rfl (hownq.alloc _) ⟨wr.heap.size, 0, none⟩ 2 2 [.int .u8 1, .int .u8 (cc : Int)] rfl rfl ?e1 ?e2 ?e3 ?e4 ?e5 ?_)
            case e1 => exact two_new (wr.drewN nq) _ _
            case e2 => exact two_one _ _
            case e3 => unfold maxLen; omega
            case e4 => omega
            case e5 => have := hb.size; simp; omega
            · intro v' w2 hown' hgrow _
              have hb2 : Below w.heap.size w w2 := below_app (below_drewN hb nq) hownq hgrow
              have hown2 := own_two (o := x ++ [n, c]) HDD (by rw [hlen3.out]; simpa using hown')
              clear hown' hgrow
              go_wp2
              go_roundw
              case rel => exact ⟨k + 1, (1, d) :: (n, c) :: r', x ++ [n, c] ++ [1, d], by omega, by go_num, hown2, hb2, by simp at hr ⊢; omega, by unfold Hid; rw [Fb.flat, Fb.flat, HX.out], by unfold Hid; rw [HN.out, HS.out]⟩
              case measure => simp [intOf]; omega
        · have HS : Hid (Fb.stepR ((n, c) :: r') d = (1, d) :: (n, c) :: r') := step_app n c d r' nn cc dd HNN HCC HDD (.inl hcd)
          have hcdb : ((cc : Int) == (dd : Int)) = false := by rw [beq_eq_false_iff_ne]; omega
          go_wp2
          go_quiet (fail)
          have hownq := owns_drewN hown nq
          go_wp2_with (at_builtin; refine wpList_append_own _ rfl _ _ 59 rfl w.heap.size 5 i0 (.int .u8 0) 1 1 Tryd.underlying59 hi hz0 hz1 hz2 rfl (by decide) _ _ _ rfl (hownq.alloc _) ⟨wr.heap.size, 0, none⟩ 2 2 [.int .u8 1, .int .u8 (dd : Int)] rfl rfl ?f1 ?f2 ?f3 ?f4 ?f5 ?_)
          case f1 => exact two_new (wr.drewN nq) _ _
          case f2 => exact two_one _ _
          case f3 => unfold maxLen; omega
          case f4 => omega
          case f5 => have := hb.size; simp; omega
          · intro v' w2 hown' hgrow _
            have hb2 : Below w.heap.size w w2 := below_app (below_drewN hb nq) hownq hgrow
            have hown2 := own_two (o := x ++ [n, c]) HDD (by rw [hlen3.out]; simpa using hown')
            clear hown' hgrow
            go_wp2
            go_roundw
            case rel => exact ⟨k + 1, (1, d) :: (n, c) :: r', x ++ [n, c] ++ [1, d], by omega, by go_num, hown2, hb2, by simp at hr ⊢; omega, by unfold Hid; rw [Fb.flat, Fb.flat, HX.out], by unfold Hid; rw [HN.out, HS.out]⟩
            case measure => simp [intOf]; omega
    · have hst := run_str hown
      go_wp2
      go_ret
      exact ⟨by rw [pack_end _ k r (by rw [HL.out]; omega) HK, HO.out]; rfl, hb⟩
end Go.Proofs.YtfhfedcamcpceaaDoor
/- Plain lemmas: packing with a count of the row that is being gone over comes to the same as packing pair by pair. -/
namespace Go.Proofs.YtfhfedcamcpceaaDoor
namespace Fb

set_option maxRecDepth 100000 in
theorem getD_drop (l : List UInt8) (k : Nat) (h : k < l.length) : l.drop k = l.getD k 0 :: l.drop (k + 1) := by
  rw [List.drop_eq_getElem_cons h]
  simp only [List.getD_eq_getElem?_getD, List.getElem?_eq_getElem h]
  rfl

/-- ahead of the byte i: n bytes of its row are counted, o is told -/
def PInv (l : List UInt8) (i n : Nat) (o : List UInt8) : Prop :=
  ∃ r, o = flat r ∧ n < 255 ∧ r.length ≤ i ∧ (i < l.length → ∃ cur, stepR cur (l.getD i 0) = (UInt8.ofNat (n + 1), l.getD i 0) :: r ∧ packR l = (l.drop i).foldl stepR cur) ∧ (l.length ≤ i → packR l = r)

set_option maxRecDepth 100000 in
theorem pinv_start (l : List UInt8) : PInv l 0 0 [] :=
  ⟨[], rfl, by omega, by simp, fun _ => ⟨[], rfl, rfl⟩, fun h => by have : l = [] := List.eq_nil_of_length_eq_zero (by omega); subst this; rfl⟩

set_option maxRecDepth 100000 in
theorem ofNat_toNat (n : Nat) (h : n < 256) : (UInt8.ofNat n).toNat = n := by
  rw [UInt8.toNat_ofNat']; omega

set_option maxRecDepth 100000 in
theorem pinv_len {l : List UInt8} {i n : Nat} {o : List UInt8} (h : PInv l i n o) : o.length ≤ 2 * i := by
  obtain ⟨r, rfl, _, hr, _⟩ := h
  rw [flat_len]; omega

set_option maxRecDepth 100000 in
theorem pinv_flush {l : List UInt8} {i n : Nat} {o : List UInt8} (h : PInv l i n o) (hi : i < l.length) (hf : i + 1 = l.length ∨ l.getD (i + 1) 0 ≠ l.getD i 0 ∨ n + 1 = 255) :
    PInv l (i + 1) 0 (o ++ [UInt8.ofNat (n + 1), l.getD i 0]) := by
  obtain ⟨r, rfl, hn, hr, h1, _⟩ := h
  obtain ⟨cur, hc, hp⟩ := h1 hi
  rw [getD_drop l i hi, List.foldl_cons, hc] at hp
  refine ⟨(UInt8.ofNat (n + 1), l.getD i 0) :: r, rfl, by omega, by simp; omega, fun hlt => ⟨_, ?_, hp⟩, fun hge => ?_⟩
  · rw [stepR, if_neg]
    · rfl
    intro ⟨e1, e2⟩
    rw [ofNat_toNat _ (by omega)] at e2
    rcases hf with h | h | h
    · omega
    · exact h e1.symm
    · omega
  · rw [List.drop_eq_nil_of_le hge] at hp; exact hp

set_option maxRecDepth 100000 in
theorem pinv_keep {l : List UInt8} {i n : Nat} {o : List UInt8} (h : PInv l i n o) (hi : i + 1 < l.length) (he : l.getD (i + 1) 0 = l.getD i 0) (h255 : n + 1 ≠ 255) : PInv l (i + 1) (n + 1) o := by
  obtain ⟨r, rfl, hn, hr, h1, _⟩ := h
  obtain ⟨cur, hc, hp⟩ := h1 (by omega)
  rw [getD_drop l i (by omega), List.foldl_cons, hc] at hp
  refine ⟨r, rfl, by omega, by omega, fun hlt => ⟨_, ?_, hp⟩, fun hge => by omega⟩
  rw [stepR, if_pos ⟨he.symm, by rw [ofNat_toNat _ (by omega)]; omega⟩, he]
  congr 2
  apply UInt8.toNat_inj.1
  rw [succ_toNat _ (by rw [ofNat_toNat _ (by omega)]; omega), ofNat_toNat _ (by omega), ofNat_toNat _ (by omega)]

set_option maxRecDepth 100000 in
theorem pinv_end {l : List UInt8} {i n : Nat} {o : List UInt8} (h : PInv l i n o) (hi : l.length ≤ i) : packL l = o := by
  obtain ⟨r, rfl, hn, hr, _, h2⟩ := h
  unfold packL; rw [h2 hi]

end Fb
end Go.Proofs.YtfhfedcamcpceaaDoor
/- Small lemmas on texts, on what lies below, and on two bytes made a text. -/
namespace Go.Proofs.YtfhfedcamcpceaaDoor
open Go.RowKit

set_option maxRecDepth 100000 in
theorem bt {a b c : World} (h1 : Below a.heap.size a b) (h2 : Below b.heap.size b c) : Below a.heap.size a c := h1.trans (h2.mono h1.size)

set_option maxRecDepth 100000 in
theorem str_self (s : ByteArray) : str s.data.toList = .string s := by unfold str; simp

set_option maxRecDepth 100000 in
theorem unpack_at (s : ByteArray) (most : Int) (w : World) (hs : s.size ≤ 1000000) (hm0 : -9223372036854775808 ≤ most) (hm1 : most ≤ 9223372036854775807) (x : Value) (v : Value) (l : List UInt8) (c : Nat)
    (HZ : Hid (Fb.unpack s.data.toList most = (l, c))) (HX : Hid (str l = x)) (HV : Hid (errV c = v)) :
    Calls Tryd.prog 58 #[.string s, .int .i64 most] w fun e w' => e = .returned (.tuple #[x, v]) ∧ Below w.heap.size w w' := by
  have h := unpack_any s most w hs hm0 hm1
  rw [HZ.out] at h
  rw [← HX.out, ← HV.out]
  exact h

set_option maxRecDepth 100000 in
theorem ext_one (s : ByteArray) (k : Nat) (h : k < s.size) : s.extract k (k + 1) = ⟨#[s.data.toList.getD k 0]⟩ := by
  have h2 : k < s.data.toList.length := by simpa using h
  have h3 : k < s.data.size := by simpa using h
  apply ByteArray.ext
  rw [ByteArray.data_extract]
  apply Array.ext'
  rw [Array.toList_extract, List.extract_eq_take_drop, List.drop_eq_getElem_cons h2]
  simp only [List.getD_eq_getElem?_getD, List.getElem?_eq_getElem h2]
  simp

set_option maxRecDepth 100000 in
theorem add_data (a : ByteArray) (x : UInt8) : (a ++ (⟨#[x]⟩ : ByteArray)).data.toList = a.data.toList ++ [x] := by
  rw [ByteArray.data_append]; simp
set_option maxRecDepth 100000 in
theorem add_size (a : ByteArray) (x : UInt8) : (a ++ (⟨#[x]⟩ : ByteArray)).size = a.size + 1 := by
  rw [ByteArray.size_append]; rfl

set_option maxRecDepth 100000 in
theorem run_pair (W : World) (B : Nat) (hB : B = W.heap.size) (a b : Int) (x y : UInt8) (ha : Hid ((x.toNat : Int) = a)) (hb : Hid ((y.toNat : Int) = b)) :
    (convert 59 9 (.slice (some ⟨B, 0, none⟩) 2 2)).run Tryd.prog (W.alloc (.cells #[.int .u8 a, .int .u8 b] 5)) = .ok (.string ⟨#[x, y]⟩) (W.alloc (.cells #[.int .u8 a, .int .u8 b] 5)) := by
  subst hB
  refine run_convert_bytes_back _ 59 9 5 ⟨W.heap.size, 0, none⟩ 2 [x, y] Tryd.underlying59 Tryd.underlying5 Tryd.underlying9 ?_
  intro j hj
  match j, hj with
  | 0, _ => have := two_new W a b 0 _ rfl; rw [this, ← ha.out]; rfl
  | 1, _ => have := two_new W a b 1 _ rfl; rw [this, ← hb.out]; rfl

set_option maxRecDepth 100000 in
theorem add_two (a : ByteArray) (x y : UInt8) : (a ++ (⟨#[x, y]⟩ : ByteArray)).data.toList = a.data.toList ++ [x, y] := by
  rw [ByteArray.data_append]; simp
set_option maxRecDepth 100000 in
theorem add_two_size (a : ByteArray) (x y : UInt8) : (a ++ (⟨#[x, y]⟩ : ByteArray)).size = a.size + 2 := by
  rw [ByteArray.size_append]; rfl

end Go.Proofs.YtfhfedcamcpceaaDoor
/- Walks of strings.Clone, and of chunk's Sum, Name and pair. -/
namespace Go.Proofs.YtfhfedcamcpceaaDoor
open Go.RowKit

theorem Tryd.cellsByte : Tryd.prog.cellsOf 5 = 1 := by kernel_rfl

set_option maxHeartbeats 1000000 in
set_option maxRecDepth 100000 in
theorem lite_clone (s : ByteArray) (w : World) (hs : s.size ≤ 1000000) :
    Calls Tryd.prog 119 #[.string s] w fun e w' => e = .returned (.string s) ∧ Below w.heap.size w w' := by
  by_cases h0 : s.size = 0
  · have he : s = ⟨#[]⟩ := ByteArray.ext (Array.eq_empty_of_size_eq_zero h0)
    subst he
    go_enter Tryd.func119, Tryd.ntmps119
    go_wp2
    go_ret
    exact ⟨rfl, Below.refl _ _⟩
  · obtain ⟨i0, hi, hz0, hz1, hz2⟩ := info_parts Tryd.infoByte
    have hsz : (Tryd.prog.info? 5).map (·.size) = some 1 := by rw [hi]; simp [hz1]
    obtain ⟨M, HM⟩ : ∃ M, Hid (madeCells (Value.int .u8 0).cells (((s.size : Nat) : Int).toNat * i0.size) = M) := ⟨_, (rfl : _ = _)⟩
    have hMs : M.size = s.size := by rw [← HM.out, size_madeCells, hz1]; simp
    have hmake : ∀ W : World, (Instr.makeSlice 59 (.int .i64 (s.size : Int)) (.int .i64 (s.size : Int))).run Tryd.prog W = .ok (.slice (some ⟨W.heap.size, 0, none⟩) s.size s.size) (W.alloc (.cells M 5)) := by
      intro W
      have h := run_make (P := Tryd.prog) W 59 5 i0 (.int .u8 0) Tryd.underlying59 hi hz0 .i64 .i64 (s.size : Int) (s.size : Int) (by omega) (by omega) (by rw [hz2]; omega) (by omega)
      rw [HM.out] at h
      simpa using h
    have hcopy := Lib.run_copy_row_string (P := Tryd.prog) (w.alloc (.cells M 5)) 59 9 3 5 w.heap.size 0 s.size s.size s M 5 Tryd.underlying59 hsz (heap_alloc_new w _) (Nat.le_refl _) (by omega)
    obtain ⟨Y, HY⟩ : ∃ Y, Hid ((M.toList.take 0 ++ Lib.byteCells s.data.toList ++ M.toList.drop (0 + s.size)).toArray = Y) := ⟨_, (rfl : _ = _)⟩
    rw [HY.out] at hcopy
    have hYl : Y.toList = Lib.byteCells s.data.toList := by
      rw [← HY.out, List.toList_toArray, List.take_zero, List.nil_append, List.drop_of_length_le (by rw [Array.length_toList]; omega), List.append_nil]
    have hYs : Y.size = s.size := by rw [← Array.length_toList, hYl, Lib.byteCells_length, ← Lib.size_eq]
    have hgY : ((w.alloc (.cells M 5)).setRow w.heap.size Y).heap[w.heap.size]? = some (.cells Y 5 (0, 0)) := setRow_heap _ _ M _ 5 (0, 0) (heap_alloc_new w _)
    have hne : s.data.toList ≠ [] := fun e => h0 (by rw [Lib.size_eq, e]; rfl)
    have hstr := Lib.run_unsafeString_row (P := Tryd.prog) ((w.alloc (.cells M 5)).setRow w.heap.size Y) 138 3 9 5 Tryd.underlying138 Tryd.cellsByte w.heap.size Y.size (by unfold World.shape?; rw [hgY]) s.data.toList hne (by rw [← Lib.size_eq]; omega) (by rw [← Lib.size_eq]; omega)
      (fun j x hx => Lib.cells_of_row hgY Y.size j _ (by rw [List.take_of_length_le (by rw [Array.length_toList]; exact Nat.le_refl _), hYl]; simp [Lib.byteCells, hx]))
    rw [← Lib.size_eq] at hstr
    have hpos : 0 < s.size := by omega
    clear hYl hYs hMs hgY hne
    go_enter Tryd.func119, Tryd.ntmps119
    go_wp2
    go_ret
    have hb1 : Below w.heap.size w (w.alloc (.cells M 5)) := (Below.refl _ w).alloc (Nat.le_refl _) _
    have hb2 : Below w.heap.size (w.alloc (.cells M 5)) ((w.alloc (.cells M 5)).setRow w.heap.size Y) := ⟨rfl, rfl, rfl, by simp, fun k hk => setRow_other _ _ _ _ (by omega)⟩
    exact ⟨rfl, Lib.below_freeze (hb1.trans hb2) (p := ⟨w.heap.size, 0, none⟩) (Nat.le_refl _) _⟩

set_option maxRecDepth 100000 in
theorem name_step (l : List UInt8) (k m : Nat) (c : UInt8) (hc : Hid (l.getD k 0 = c)) (hm : Hid (c.toNat = m)) (h : k < l.length) : (l.drop k).all Fb.letter = (decide (65 ≤ m) && decide (m ≤ 90) && (l.drop (k + 1)).all Fb.letter) := by
  rw [drop_one l k h, List.all_cons, hc.out, Fb.letter, hm.out]

end Go.Proofs.YtfhfedcamcpceaaDoor
/- Walk of chunk.Bytes. -/
namespace Go.Proofs.YtfhfedcamcpceaaDoor
open Go.RowKit

set_option maxRecDepth 100000 in
theorem bcell {W w1 : World} (hb : Below W.heap.size W w1) : (∀ b o, b < W.heap.size → w1.cell? ⟨b, o, none⟩ = W.cell? ⟨b, o, none⟩) ∧ (∀ b o, b < W.heap.size → w1.frozen? ⟨b, o, none⟩ = W.frozen? ⟨b, o, none⟩) :=
  ⟨fun b o h => hb.cell (p := ⟨b, o, none⟩) h, fun b o h => hb.frozen (p := ⟨b, o, none⟩) h⟩

end Go.Proofs.YtfhfedcamcpceaaDoor
/- Walks of chunk's measure and open. -/
namespace Go.Proofs.YtfhfedcamcpceaaDoor
open Go.RowKit

set_option maxRecDepth 100000 in
theorem ext_data (s : ByteArray) (a b : Nat) : (s.extract a b).data.toList = (s.data.toList.drop a).take (b - a) := by
  rw [ByteArray.data_extract, Array.toList_extract, List.extract_eq_take_drop]

end Go.Proofs.YtfhfedcamcpceaaDoor
/- Walks of chunk's open and First. -/
namespace Go.Proofs.YtfhfedcamcpceaaDoor
open Go.RowKit

set_option maxRecDepth 100000 in
theorem ext_size (s : ByteArray) (hs : s.size ≤ 1000000) (a b : Nat) : (s.extract a b).size ≤ 1000000 := by rw [ByteArray.size_extract]; omega

/-- what is known of a block of two cells -/
structure Two (W : World) (b : Nat) (x y : Value) : Prop where
  c0 : W.cell? ⟨b, 0, none⟩ = some x
  c1 : W.cell? ⟨b, 1, none⟩ = some y
  f0 : W.frozen? ⟨b, 0, none⟩ = false
  f1 : W.frozen? ⟨b, 1, none⟩ = false
  lt : b < W.heap.size

set_option maxRecDepth 100000 in
theorem two_start (w : World) (x y : Value) (T : TypeId) : Two (w.alloc (.cells #[x, y] T)) w.heap.size x y :=
  ⟨by simp, by simp, by simp, by simp, by simp⟩
set_option maxRecDepth 100000 in
theorem Two.on {W W' : World} {b : Nat} {x y : Value} (h : Two W b x y) (hb : Below W.heap.size W W') : Two W' b x y :=
  ⟨(hb.cell (p := ⟨b, 0, none⟩) h.lt).trans h.c0, (hb.cell (p := ⟨b, 1, none⟩) h.lt).trans h.c1, (hb.frozen (p := ⟨b, 0, none⟩) h.lt).trans h.f0, (hb.frozen (p := ⟨b, 1, none⟩) h.lt).trans h.f1, Nat.lt_of_lt_of_le h.lt hb.size⟩
set_option maxRecDepth 100000 in
theorem Two.drew {W : World} {b : Nat} {x y : Value} (h : Two W b x y) : Two W.drew b x y := ⟨h.c0, h.c1, h.f0, h.f1, h.lt⟩
set_option maxRecDepth 100000 in
theorem Two.all {W : World} {b : Nat} {x y : Value} (h : Two W b x y) : W.cell? ⟨b, 0, none⟩ = some x ∧ W.cell? ⟨b, 1, none⟩ = some y ∧ W.frozen? ⟨b, 0, none⟩ = false ∧ W.frozen? ⟨b, 1, none⟩ = false ∧ b < W.heap.size := ⟨h.c0, h.c1, h.f0, h.f1, h.lt⟩

set_option maxRecDepth 100000 in
theorem errV_zero : errV 0 = .nilIface := rfl

set_option maxRecDepth 100000 in
theorem measure_fit {l : List UInt8} {n : Nat} (h : Fb.measureL l = (n, 0)) : 8 ≤ n ∧ n ≤ l.length := by
  unfold Fb.measureL at h
  split at h
  · simp at h
  · split at h
    · simp at h
    · split at h
      · simp at h
        have : 6 ≤ Fb.endL l := by unfold Fb.endL; omega
        omega
      · simp at h

/-- First's answer, as values -/
def firstV (l : List UInt8) : Value := .tuple #[.agg #[str (Fb.firstL l).1, str (Fb.firstL l).2.1], str (Fb.firstL l).2.2.1, errV (Fb.firstL l).2.2.2]

set_option maxRecDepth 100000 in
theorem str_ext (s : ByteArray) (a b : Nat) : str ((s.data.toList.drop a).take (b - a)) = .string (s.extract a b) := by
  rw [← ext_data, str_self]

end Go.Proofs.YtfhfedcamcpceaaDoor
/- Plain functions and lemmas: guesses, what is told of a row, and a row restored (no Go in here). -/
namespace Go.Proofs.YtfhfedcamcpceaaDoor
namespace Fb

def leftB (row : List UInt8) (i : Nat) : UInt8 := if i < 2 then 0 else row.getD (i - 2) 0
def guessB (way : Nat) (row above : List UInt8) (i : Nat) : UInt8 :=
  if way = 1 then leftB row i else if way = 2 then above.getD i 0 else if way = 3 then UInt8.ofNat (((leftB row i).toNat + (above.getD i 0).toNat) / 2) else 0

/-- the first n bytes told in a way -/
def tellTo (way : Nat) (row above : List UInt8) : Nat → List UInt8
  | 0 => []
  | n + 1 => tellTo way row above n ++ [row.getD n 0 - guessB way row above n]
def tellL (way : Nat) (row above : List UInt8) : List UInt8 := tellTo way row above row.length

set_option maxRecDepth 100000 in
theorem tellTo_len (way : Nat) (row above : List UInt8) : ∀ n, (tellTo way row above n).length = n
  | 0 => rfl
  | n + 1 => by simp [tellTo, tellTo_len way row above n]

/-- the first n bytes restored -/
def restTo (way : Nat) (told above : List UInt8) : Nat → List UInt8
  | 0 => []
  | n + 1 => restTo way told above n ++ [told.getD n 0 + guessB way (restTo way told above n) above n]
def restL (way : Nat) (told above : List UInt8) : List UInt8 := restTo way told above told.length

set_option maxRecDepth 100000 in
theorem restTo_len (way : Nat) (told above : List UInt8) : ∀ n, (restTo way told above n).length = n
  | 0 => rfl
  | n + 1 => by simp [restTo, restTo_len way told above n]

set_option maxRecDepth 100000 in
theorem getD_app (a b : List UInt8) (k : Nat) (h : k < a.length) : (a ++ b).getD k 0 = a.getD k 0 := by
  rw [List.getD_eq_getElem?_getD, List.getElem?_append_left h, ← List.getD_eq_getElem?_getD]

set_option maxRecDepth 100000 in
/-- a guess at i looks only at what is ahead of i -/
theorem guess_ahead (way : Nat) (a b above : List UInt8) (i : Nat) (h : ∀ j, j < i → a.getD j 0 = b.getD j 0) : guessB way a above i = guessB way b above i := by
  have hl : leftB a i = leftB b i := by
    unfold leftB
    by_cases h2 : i < 2
    · simp [h2]
    · simp only [h2, if_false]; exact h (i - 2) (by omega)
  unfold guessB
  rw [hl]

set_option maxRecDepth 100000 in
theorem take_succ_getD (l : List UInt8) (n : Nat) (h : n < l.length) : l.take (n + 1) = l.take n ++ [l.getD n 0] := by
  rw [List.take_succ_eq_append_getElem h]
  simp only [List.getD_eq_getElem?_getD, List.getElem?_eq_getElem h]
  rfl

set_option maxRecDepth 100000 in
theorem getD_take (l : List UInt8) (n j : Nat) (h : j < n) : (l.take n).getD j 0 = l.getD j 0 := by
  rw [List.getD_eq_getElem?_getD, List.getElem?_take, if_pos h, ← List.getD_eq_getElem?_getD]

set_option maxRecDepth 100000 in
theorem tell_getD (way : Nat) (row above : List UInt8) : ∀ n j, j < n → (tellTo way row above n).getD j 0 = row.getD j 0 - guessB way row above j := by
  intro n
  induction n with
  | zero => intro j h; omega
  | succ n ih =>
    intro j h
    simp only [tellTo]
    by_cases hj : j < n
    · rw [getD_app _ _ _ (by rw [tellTo_len]; exact hj)]; exact ih j hj
    · have : j = n := by omega
      subst this
      rw [List.getD_eq_getElem?_getD, List.getElem?_append_right (by rw [tellTo_len]; omega), tellTo_len]
      simp

set_option maxRecDepth 100000 in
theorem rest_tell (way : Nat) (row above : List UInt8) : ∀ n, n ≤ row.length → restTo way (tellL way row above) above n = row.take n := by
  intro n
  induction n with
  | zero => intro _; simp [restTo]
  | succ n ih =>
    intro h
    have hr := ih (by omega)
    simp only [restTo]
    rw [hr, take_succ_getD row n (by omega)]
    congr 1
    have hg : guessB way (row.take n) above n = guessB way row above n := guess_ahead way _ _ above n (fun j hj => getD_take row n j hj)
    rw [hg]
    unfold tellL
    rw [tell_getD way row above row.length n (by omega)]
    simp

set_option maxRecDepth 100000 in
theorem restL_tellL (way : Nat) (row above : List UInt8) : restL way (tellL way row above) above = row := by
  unfold restL
  have hl : (tellL way row above).length = row.length := tellTo_len way row above row.length
  rw [hl, rest_tell way row above _ (Nat.le_refl _), List.take_of_length_le (Nat.le_refl _)]

/-- of the ways from k on the one that is packed shortest (the first of several), f ways are left -/
def bestTo (row above : List UInt8) : Nat → Nat
  | 0 => 0
  | k + 1 => if (packL (tellL k row above)).length < (packL (tellL (bestTo row above k) row above)).length ∧ k ≠ 0 then k else bestTo row above k
def bestW (row above : List UInt8) : Nat := bestTo row above 4
set_option maxRecDepth 100000 in
theorem bestTo_lt (row above : List UInt8) : ∀ k, bestTo row above k ≤ k - 1
  | 0 => by simp [bestTo]
  | k + 1 => by
    have := bestTo_lt row above k
    simp only [bestTo]
    split <;> omega
set_option maxRecDepth 100000 in
theorem bestW_lt (row above : List UInt8) : bestW row above < 4 := by have := bestTo_lt row above 4; unfold bestW; omega

/-- what is told of a row, the way ahead -/
def shortL (row above : List UInt8) : List UInt8 := UInt8.ofNat (bestW row above) :: tellL (bestW row above) row above

set_option maxRecDepth 100000 in
theorem shortL_len (row above : List UInt8) : (shortL row above).length = 1 + row.length := by
  unfold shortL tellL; simp [tellTo_len]; omega

end Fb
end Go.Proofs.YtfhfedcamcpceaaDoor
/- Walks of the guesses: picture's guesser and its closures. -/
namespace Go.Proofs.YtfhfedcamcpceaaDoor
open Go.RowKit

/-- bytes that can be read -/
def RdB (w : World) (v : Value) (l : List UInt8) : Prop :=
  ∃ a cap, v = .slice a l.length cap ∧ l.length ≤ cap ∧ cap ≤ 9223372036854775807 ∧ (l ≠ [] → ∃ g, a = some ⟨g, 0, none⟩ ∧ g < w.heap.size ∧ ∀ j, j < l.length → w.cell? ⟨g, j, none⟩ = some (bv (l.getD j 0)))

set_option maxRecDepth 100000 in
theorem RdB.on {w w' : World} {v : Value} {l : List UInt8} (h : RdB w v l) (hb : Below w.heap.size w w') : RdB w' v l := by
  obtain ⟨a, cap, hv, hl, hc, hh⟩ := h
  refine ⟨a, cap, hv, hl, hc, fun hne => ?_⟩
  obtain ⟨g, ha, hg, hcell⟩ := hh hne
  refine ⟨g, ha, Nat.lt_of_lt_of_le hg hb.size, fun j hj => ?_⟩
  rw [hb.cell (p := ⟨g, j, none⟩) hg]
  exact hcell j hj
set_option maxRecDepth 100000 in
theorem RdB.drewN {w : World} {v : Value} {l : List UInt8} (h : RdB w v l) (q : Nat) : RdB (w.drewN q) v l := h
set_option maxRecDepth 100000 in
theorem RdB.drew {w : World} {v : Value} {l : List UInt8} (h : RdB w v l) : RdB w.drew v l := h

set_option maxRecDepth 100000 in
theorem rdB_own {w : World} {B : Nat} {v : Value} {l : List UInt8} (h : w.ownsRow B 5 1 v l.length (l.map bv)) : RdB w v l := by
  rcases h.2 with ⟨rfl, h0⟩ | ⟨g, cap, cur, rfl, hb, hg, hn, hm, hs, ht⟩
  · exact ⟨none, 0, by rw [h0], by omega, by omega, fun hne => absurd (List.eq_nil_of_length_eq_zero h0) hne⟩
  · refine ⟨_, cap, rfl, hn, by unfold maxLen at hm; omega, fun _ => ⟨g, rfl, (Array.getElem?_eq_some_iff.1 hg).1, fun j hj => ?_⟩⟩
    rw [h.cellAt j (by omega), List.getElem?_map, List.getD_eq_getElem?_getD, List.getElem?_eq_getElem hj]
    rfl

set_option maxRecDepth 100000 in
theorem left_any (i b : Nat) (v : Value) (r : List UInt8) (W : World) (hi : i ≤ 1000000) (hir : i < r.length + 2) (hbox : W.cell? ⟨b, 0, none⟩ = some v) (HR : Hid (RdB W v r)) :
    Calls Tryd.prog 83 #[.int .i64 (i : Int), .pointer (some ⟨b, 0, none⟩)] W fun e W' => e = .returned (bv (Fb.leftB r i)) ∧ W = W' := by
  by_cases h2 : i < 2
  · have HF : Hid (Fb.leftB r i = 0) := by unfold Hid Fb.leftB; rw [if_pos h2]
    go_enter Tryd.func83, Tryd.ntmps83
    go_wp2
    go_ret
    exact ⟨by rw [HF.out]; rfl, rfl⟩
  · obtain ⟨k, rfl⟩ : ∃ k, i = k + 2 := ⟨i - 2, by omega⟩
    obtain ⟨a, cap, rfl, hl, hc, hh⟩ := HR.out
    obtain ⟨g, rfl, hg, hcell⟩ := hh (by intro e; rw [e] at hir; simp at hir; omega)
    have hk : k < r.length := by omega
    have hck := hcell k hk
    have HF : Hid (Fb.leftB r (k + 2) = r.getD k 0) := by unfold Hid Fb.leftB; rw [if_neg h2]; rfl
    obtain ⟨x, HX⟩ : ∃ x, Hid (bv (r.getD k 0) = x) := ⟨_, (rfl : _ = _)⟩
    rw [HX.out] at hck
    clear hcell hh
    go_enter Tryd.func83, Tryd.ntmps83
    go_wp2
    go_ret
    exact ⟨by rw [HF.out, HX.out]; rfl, rfl⟩

set_option maxRecDepth 100000 in
theorem up_any (i b : Nat) (v : Value) (r : List UInt8) (W : World) (hi : i ≤ 1000000) (hbox : W.cell? ⟨b, 0, none⟩ = some v) (HR : Hid (RdB W v r)) :
    Calls Tryd.prog 84 #[.int .i64 (i : Int), .pointer (some ⟨b, 0, none⟩)] W fun e W' => e = .returned (bv (r.getD i 0)) ∧ W = W' := by
  obtain ⟨a, cap, rfl, hl, hc, hh⟩ := HR.out
  by_cases hge : r.length ≤ i
  · have HF : Hid (r.getD i 0 = 0) := by unfold Hid; rw [List.getD_eq_getElem?_getD, List.getElem?_eq_none hge]; rfl
    clear hh
    go_enter Tryd.func84, Tryd.ntmps84
    go_wp2
    go_ret
    exact ⟨by rw [HF.out]; rfl, rfl⟩
  · obtain ⟨g, rfl, hg, hcell⟩ := hh (by intro e; rw [e] at hge; simp at hge)
    have hck := hcell i (by omega)
    obtain ⟨x, HX⟩ : ∃ x, Hid (bv (r.getD i 0) = x) := ⟨_, (rfl : _ = _)⟩
    rw [HX.out] at hck
    clear hcell hh
    go_enter Tryd.func84, Tryd.ntmps84
    go_wp2
    go_ret
    exact ⟨by rw [HX.out]; rfl, rfl⟩

set_option maxRecDepth 100000 in
theorem none_any (i : Nat) (W : World) : Calls Tryd.prog 86 #[.int .i64 (i : Int)] W fun e W' => e = .returned (bv 0) ∧ W = W' := by
  go_enter Tryd.func86, Tryd.ntmps86
  go_wp2
  go_ret
  exact ⟨rfl, rfl⟩

/-- the closures as values -/
def leftF (b : Nat) : Value := .func (.func 83) #[] #[.pointer (some ⟨b, 0, none⟩)]
def upF (b : Nat) : Value := .func (.func 84) #[] #[.pointer (some ⟨b, 0, none⟩)]

set_option maxHeartbeats 1000000 in
set_option maxRecDepth 100000 in
theorem half_any (i b : Nat) (v u : Value) (r ab : List UInt8) (W : World) (hi : i ≤ 1000000) (hir : i < r.length + 2) (h0 : W.cell? ⟨b, 0, none⟩ = some v) (h1 : W.cell? ⟨b + 1, 0, none⟩ = some u)
    (h2 : W.cell? ⟨b + 2, 0, none⟩ = some (.func (.func 83) #[] #[.pointer (some ⟨b, 0, none⟩)])) (h3 : W.cell? ⟨b + 3, 0, none⟩ = some (.func (.func 84) #[] #[.pointer (some ⟨b + 1, 0, none⟩)]))
    (HR : Hid (RdB W v r)) (HA : Hid (RdB W u ab)) :
    Calls Tryd.prog 85 #[.int .i64 (i : Int), .pointer (some ⟨b + 2, 0, none⟩), .pointer (some ⟨b + 3, 0, none⟩)] W fun e W' => e = .returned (bv (UInt8.ofNat (((Fb.leftB r i).toNat + (ab.getD i 0).toNat) / 2))) ∧ ∃ q, W' = W.drewN q := by
  obtain ⟨x, HX⟩ : ∃ x, Hid ((Fb.leftB r i).toNat = x) := ⟨_, (rfl : _ = _)⟩
  obtain ⟨y, HY⟩ : ∃ x, Hid ((ab.getD i 0).toNat = x) := ⟨_, (rfl : _ = _)⟩
  have hx := byte_le _ x HX
  have hy := byte_le _ y HY
  have HL : Hid (Calls Tryd.prog 83 #[.int .i64 (i : Int), .pointer (some ⟨b, 0, none⟩)] W.drew fun e W' => e = .returned (.int .u8 (x : Int)) ∧ W.drew = W') := by
    unfold Hid
    have := left_any i b v r W.drew hi hir h0 HR.out.drew
    unfold bv at this
    rw [HX.out] at this
    exact this
  have HU : Hid (Calls Tryd.prog 84 #[.int .i64 (i : Int), .pointer (some ⟨b + 1, 0, none⟩)] W.drew fun e W' => e = .returned (.int .u8 (y : Int)) ∧ W.drew = W') := by
    unfold Hid
    have := up_any i (b + 1) u ab W.drew hi h1 HA.out.drew
    unfold bv at this
    rw [HY.out] at this
    exact this
  rw [HX.out, HY.out]
  go_enter Tryd.func85, Tryd.ntmps85
  go_wp2_with fail
  have hq0 : ((x : Int) + (y : Int)).tdiv 2 = ((x : Int) + (y : Int)) / 2 := Int.tdiv_eq_ediv_of_nonneg (by omega)
  have hq1 : IntKind.i64.wrap ((x : Int) + (y : Int)) = (x : Int) + (y : Int) := by rw [IntKind.wrap_i64]; omega
  have hq2 : IntKind.i64.wrap (((x : Int) + (y : Int)) / 2) = ((x : Int) + (y : Int)) / 2 := by rw [IntKind.wrap_i64]; omega
  have hq3 : IntKind.u8.wrap (((x : Int) + (y : Int)) / 2) = ((x : Int) + (y : Int)) / 2 := by rw [IntKind.wrap_u8]; omega
  have hq4 : IntKind.i64.wrap (x : Int) = (x : Int) := by rw [IntKind.wrap_i64]; omega
  have hq5 : IntKind.i64.wrap (y : Int) = (y : Int) := by rw [IntKind.wrap_i64]; omega
  go_cut [4] from 5 (fun s4 wc => s4 = .int .u8 (((x : Int) + (y : Int)) / 2) ∧ ∃ q, wc = W.drewN q)
  case first =>
    go_region_with (first | (go_at_call 83; refine Calls.mono HL.out ?_; rintro e w3 ⟨rfl, rfl⟩) | (go_at_call 84; refine Calls.mono HU.out ?_; rintro e w3 ⟨rfl, rfl⟩))
    all_goals (go_wp2_with fail; go_meet)
    all_goals exact ⟨rfl, 1, rfl⟩
  case rest =>
    obtain ⟨rfl, q, rfl⟩ := hcut
    go_wp2_with fail
    go_ret
    refine ⟨?_, q, rfl⟩
    have e : bv (UInt8.ofNat ((x + y) / 2)) = .int .u8 (((x : Int) + (y : Int)) / 2) := by
      unfold bv; rw [Fb.ofNat_toNat _ (by omega)]; simp
    rw [e]; rfl

/-- the boxes that guesser lays: the row, the row above, and two closures -/
structure Boxes (W : World) (b : Nat) (v u : Value) : Prop where
  c0 : W.cell? ⟨b, 0, none⟩ = some v
  c1 : W.cell? ⟨b + 1, 0, none⟩ = some u
  c2 : W.cell? ⟨b + 2, 0, none⟩ = some (.func (.func 83) #[] #[.pointer (some ⟨b, 0, none⟩)])
  c3 : W.cell? ⟨b + 3, 0, none⟩ = some (.func (.func 84) #[] #[.pointer (some ⟨b + 1, 0, none⟩)])
  lt : b + 3 < W.heap.size

set_option maxRecDepth 100000 in
theorem Boxes.on {W W' : World} {b : Nat} {v u : Value} (h : Boxes W b v u) (hb : Below W.heap.size W W') : Boxes W' b v u :=
  ⟨(hb.cell (p := ⟨b, 0, none⟩) (by have := h.lt; show b < _; omega)).trans h.c0, (hb.cell (p := ⟨b + 1, 0, none⟩) (by have := h.lt; show b + 1 < _; omega)).trans h.c1,
    (hb.cell (p := ⟨b + 2, 0, none⟩) (by have := h.lt; show b + 2 < _; omega)).trans h.c2, (hb.cell (p := ⟨b + 3, 0, none⟩) (by have := h.lt; show b + 3 < _; omega)).trans h.c3, Nat.lt_of_lt_of_le h.lt hb.size⟩
set_option maxRecDepth 100000 in
theorem Boxes.drew {W : World} {b : Nat} {v u : Value} (h : Boxes W b v u) : Boxes W.drew b v u := ⟨h.c0, h.c1, h.c2, h.c3, h.lt⟩
set_option maxRecDepth 100000 in
theorem Boxes.drewN {W : World} {b : Nat} {v u : Value} (h : Boxes W b v u) (q : Nat) : Boxes (W.drewN q) b v u := ⟨h.c0, h.c1, h.c2, h.c3, h.lt⟩
set_option maxRecDepth 100000 in
/-- a store into another block -/
theorem Boxes.store {W : World} {b g j : Nat} {v u x : Value} (h : Boxes W b v u) (h0 : g ≠ b) (h1 : g ≠ b + 1) (h2 : g ≠ b + 2) (h3 : g ≠ b + 3) : Boxes (W.setCell ⟨g, j, none⟩ x) b v u :=
  ⟨(World.cell?_of_block (Below.heap_setCell W ⟨g, j, none⟩ x b (by simpa using h0.symm))).trans h.c0, (World.cell?_of_block (Below.heap_setCell W ⟨g, j, none⟩ x (b + 1) (by simpa using h1.symm))).trans h.c1,
    (World.cell?_of_block (Below.heap_setCell W ⟨g, j, none⟩ x (b + 2) (by simpa using h2.symm))).trans h.c2, (World.cell?_of_block (Below.heap_setCell W ⟨g, j, none⟩ x (b + 3) (by simpa using h3.symm))).trans h.c3, by simpa using h.lt⟩

set_option maxRecDepth 100000 in
theorem cell_old (w : World) (o : Obj) (b j : Nat) (h : b < w.heap.size) : (w.alloc o).cell? ⟨b, j, none⟩ = w.cell? ⟨b, j, none⟩ :=
  ((Below.refl w.heap.size w).alloc (Nat.le_refl _) o).cell (p := ⟨b, j, none⟩) h
set_option maxRecDepth 100000 in
theorem cell_fresh (w : World) (x : Value) (T : TypeId) (b : Nat) (h : b = w.heap.size) : (w.alloc (.cells #[x] T)).cell? ⟨b, 0, none⟩ = some x := by subst h; simp

set_option maxRecDepth 100000 in
theorem boxes_new (w : World) (v u : Value) (T S : TypeId) : Boxes ((((w.alloc (.cells #[v] T)).alloc (.cells #[u] T)).alloc (.cells #[.func (.func 83) #[] #[.pointer (some ⟨w.heap.size, 0, none⟩)]] S)).alloc (.cells #[.func (.func 84) #[] #[.pointer (some ⟨w.heap.size + 1, 0, none⟩)]] S)) w.heap.size v u := by
  refine ⟨?_, ?_, ?_, ?_, ?_⟩
  · rw [cell_old _ _ _ _ (by simp; omega), cell_old _ _ _ _ (by simp; omega), cell_old _ _ _ _ (by simp), cell_fresh _ _ _ _ rfl]
  · rw [cell_old _ _ _ _ (by simp), cell_old _ _ _ _ (by simp), cell_fresh _ _ _ _ (by simp)]
  · rw [cell_old _ _ _ _ (by simp), cell_fresh _ _ _ _ (by simp)]
  · rw [cell_fresh _ _ _ _ (by simp)]
  · simp

/-- the closure of each way -/
def wayF (way b : Nat) : Value :=
  if way = 1 then .func (.func 83) #[] #[.pointer (some ⟨b, 0, none⟩)] else if way = 2 then .func (.func 84) #[] #[.pointer (some ⟨b + 1, 0, none⟩)]
  else if way = 3 then .func (.func 85) #[] #[.pointer (some ⟨b + 2, 0, none⟩), .pointer (some ⟨b + 3, 0, none⟩)] else .func (.func 86) #[] #[]

set_option maxHeartbeats 1000000 in
set_option maxRecDepth 100000 in
theorem guesser_any (way : Nat) (hway : way < 4) (v u : Value) (w : World) (l c l2 c2 : Nat) (a a2 : Option Addr) (hv : v = .slice a l c) (hu : u = .slice a2 l2 c2) :
    Calls Tryd.prog 74 #[.int .i64 (way : Int), v, u] w fun e w' => e = .returned (wayF way w.heap.size) ∧ Boxes w' w.heap.size v u ∧ Below w.heap.size w w' := by
  subst hv hu
  have hmf : ∀ (fn : Fn) (first cap : Array Value) (w : World), (Instr.makeFunc fn first cap).run Tryd.prog w = .ok (.func fn first cap) w := fun _ _ _ _ => rfl
  have h4 : way = 0 ∨ way = 1 ∨ way = 2 ∨ way = 3 := by omega
  rcases h4 with rfl | rfl | rfl | rfl
  all_goals go_enter Tryd.func74, Tryd.ntmps74
  all_goals go_wp2
  all_goals go_ret
  all_goals exact ⟨rfl, boxes_new _ _ _ _ _, (((((Below.refl _ _).alloc (Nat.le_refl _) _).alloc (by simp) _).alloc (by simp; omega) _).alloc (by simp; omega) _)⟩
end Go.Proofs.YtfhfedcamcpceaaDoor
/- Small lemmas on rows of bytes and on blocks of cells. -/
namespace Go.Proofs.YtfhfedcamcpceaaDoor
open Go.RowKit

/-- what is known of a block of three cells -/
structure Three (W : World) (b : Nat) (x y z : Value) : Prop where
  c0 : W.cell? ⟨b, 0, none⟩ = some x
  c1 : W.cell? ⟨b, 1, none⟩ = some y
  c2 : W.cell? ⟨b, 2, none⟩ = some z
  f0 : W.frozen? ⟨b, 0, none⟩ = false
  f1 : W.frozen? ⟨b, 1, none⟩ = false
  f2 : W.frozen? ⟨b, 2, none⟩ = false
  lt : b < W.heap.size
set_option maxRecDepth 100000 in
theorem three_start (w : World) (x y z : Value) (T : TypeId) : Three (w.alloc (.cells #[x, y, z] T)) w.heap.size x y z :=
  ⟨by simp, by simp, by simp, by simp, by simp, by simp, by simp⟩
set_option maxRecDepth 100000 in
theorem Three.on {W W' : World} {b : Nat} {x y z : Value} (h : Three W b x y z) (hb : Below W.heap.size W W') : Three W' b x y z :=
  ⟨(hb.cell (p := ⟨b, 0, none⟩) h.lt).trans h.c0, (hb.cell (p := ⟨b, 1, none⟩) h.lt).trans h.c1, (hb.cell (p := ⟨b, 2, none⟩) h.lt).trans h.c2,
    (hb.frozen (p := ⟨b, 0, none⟩) h.lt).trans h.f0, (hb.frozen (p := ⟨b, 1, none⟩) h.lt).trans h.f1, (hb.frozen (p := ⟨b, 2, none⟩) h.lt).trans h.f2, Nat.lt_of_lt_of_le h.lt hb.size⟩
set_option maxRecDepth 100000 in
theorem Three.drew {W : World} {b : Nat} {x y z : Value} (h : Three W b x y z) : Three W.drew b x y z := ⟨h.c0, h.c1, h.c2, h.f0, h.f1, h.f2, h.lt⟩

set_option maxRecDepth 100000 in
theorem grown_below2 {W W' : World} (h : Below W.heap.size W W') : W.grownBy W' none := ⟨h.os, h.tape, h.output, h.size, fun k hk _ => h.block k hk⟩
set_option maxRecDepth 100000 in
theorem own_on2 {W W' : World} {B : Nat} {e : TypeId} {size : Nat} {v : Value} {n : Nat} {xs : List Value} (h : W.ownsRow B e size v n xs) (hb : Below W.heap.size W W') : W'.ownsRow B e size v n xs :=
  h.kept (grown_below2 hb) (by cases hv : v.ownBlock <;> simp)
set_option maxRecDepth 100000 in
/-- a row made later stays when an elder one grows -/
theorem own_apart {W0 W W' : World} {B : Nat} {e : TypeId} {size : Nat} {x v : Value} {n m : Nat} {xs ys : List Value} (hx : W0.ownsRow B e size x n xs) (hv : W.ownsRow W0.heap.size e size v m ys) (hg : W.grownBy W' x.ownBlock) : W'.ownsRow W0.heap.size e size v m ys := by
  refine hv.kept hg ?_
  cases h : v.ownBlock with
  | none => exact .inl rfl
  | some k =>
    right
    intro e
    have h1 := hv.lt k h
    have h2 := hx.lt k e.symm
    omega
set_option maxRecDepth 100000 in
theorem below_str {w wr w2 : World} {v : Value} {n : Nat} {xs : List Value} {e : TypeId} {size : Nat} (hb : Below w.heap.size w wr) (hown : wr.ownsRow w.heap.size e size v n xs) (hg : wr.grownBy w2 v.ownBlock) : Below w.heap.size w w2 := by
  refine hb.grown hg hb.size ?_
  intro k hk
  exact (hown.lt k hk).1

set_option maxRecDepth 100000 in
theorem bcell2 {W w1 : World} (hb : Below W.heap.size W w1) : (∀ b o, b < W.heap.size → w1.cell? ⟨b, o, none⟩ = W.cell? ⟨b, o, none⟩) ∧ (∀ b o, b < W.heap.size → w1.frozen? ⟨b, o, none⟩ = W.frozen? ⟨b, o, none⟩) :=
  ⟨fun b o h => hb.cell (p := ⟨b, o, none⟩) h, fun b o h => hb.frozen (p := ⟨b, o, none⟩) h⟩

/-- what is known of a block of two cells -/
structure Duo (W : World) (b : Nat) (x y : Value) : Prop where
  c0 : W.cell? ⟨b, 0, none⟩ = some x
  c1 : W.cell? ⟨b, 1, none⟩ = some y
  lt : b < W.heap.size
set_option maxRecDepth 100000 in
theorem duo_start (w : World) (x y : Value) (T : TypeId) : Duo (w.alloc (.cells #[x, y] T)).drew w.heap.size x y := ⟨by simp, by simp, by simp⟩
set_option maxRecDepth 100000 in
theorem Duo.on {W W' : World} {b : Nat} {x y : Value} (h : Duo W b x y) (hb : Below W.heap.size W W') : Duo W' b x y :=
  ⟨(hb.cell (p := ⟨b, 0, none⟩) h.lt).trans h.c0, (hb.cell (p := ⟨b, 1, none⟩) h.lt).trans h.c1, Nat.lt_of_lt_of_le h.lt hb.size⟩
set_option maxRecDepth 100000 in
theorem Three.alloc {W : World} {b : Nat} {x y z : Value} (h : Three W b x y z) (o : Obj) : Three (W.alloc o) b x y z := h.on ((Below.refl _ _).alloc (Nat.le_refl _) o)

set_option maxRecDepth 100000 in
theorem errV0 : errV 0 = .nilIface := rfl
set_option maxRecDepth 100000 in
theorem rdB_nil (w : World) : RdB w (.slice none 0 0) [] := ⟨none, 0, rfl, by simp, by omega, fun h => absurd rfl h⟩

end Go.Proofs.YtfhfedcamcpceaaDoor
/- Walk of picture.tell. -/
namespace Go.Proofs.YtfhfedcamcpceaaDoor
open Go.RowKit

/-- the closure's call, in a world that keeps the boxes -/
def GuessC (way : Nat) (K : FuncId) (caps : Array Value) (b : Nat) (v u : Value) : Prop :=
  ∀ (W : World) (r ab : List UInt8) (i : Nat), i ≤ 1000000 → i < r.length + 2 → Boxes W b v u → RdB W v r → RdB W u ab →
    Calls Tryd.prog K (#[.int .i64 (i : Int)] ++ caps) W fun e W' => e = .returned (.int .u8 ((Fb.guessB way r ab i).toNat : Int)) ∧ ∃ q, W' = W.drewN q

set_option maxRecDepth 100000 in
theorem guess0 (b : Nat) (v u : Value) : GuessC 0 86 #[] b v u := by
  intro W r ab i hi hir hb hr ha
  exact (none_any i W).mono fun e W' ⟨he, hw⟩ => ⟨he, 0, hw.symm⟩
set_option maxRecDepth 100000 in
theorem guess1 (b : Nat) (v u : Value) : GuessC 1 83 #[.pointer (some ⟨b, 0, none⟩)] b v u := by
  intro W r ab i hi hir hb hr ha
  exact (left_any i b v r W hi hir hb.c0 hr).mono fun e W' ⟨he, hw⟩ => ⟨he, 0, hw.symm⟩
set_option maxRecDepth 100000 in
theorem guess2 (b : Nat) (v u : Value) : GuessC 2 84 #[.pointer (some ⟨b + 1, 0, none⟩)] b v u := by
  intro W r ab i hi hir hb hr ha
  exact (up_any i (b + 1) u ab W hi hb.c1 ha).mono fun e W' ⟨he, hw⟩ => ⟨he, 0, hw.symm⟩
set_option maxRecDepth 100000 in
theorem guess3 (b : Nat) (v u : Value) : GuessC 3 85 #[.pointer (some ⟨b + 2, 0, none⟩), .pointer (some ⟨b + 3, 0, none⟩)] b v u := by
  intro W r ab i hi hir hb hr ha
  exact half_any i b v u r ab W hi hir hb.c0 hb.c1 hb.c2 hb.c3 hr ha

set_option maxRecDepth 100000 in
theorem set_row (t : List UInt8) (x : UInt8) (k n : Nat) (hk : k < n) (ht : t.length = k) : ((t ++ List.replicate (n - k) 0).map bv).set k (bv x) = ((t ++ [x]) ++ List.replicate (n - (k + 1)) 0).map bv := by
  rw [show n - k = (n - (k + 1)) + 1 by omega, List.replicate_succ, List.map_append, List.set_append_right _ _ (by simp [ht]), List.map_cons]
  simp [ht]

set_option maxRecDepth 100000 in
theorem made_zero (n : Nat) : (madeCells #[Value.int .u8 0] n).toList = (List.replicate n (0 : UInt8)).map bv := by
  rw [toList_madeCells_one, List.map_replicate]; rfl

set_option maxRecDepth 100000 in
theorem sub_byte (x y : UInt8) : IntKind.u8.wrap ((x.toNat : Int) - (y.toNat : Int)) = ((x - y).toNat : Int) := by
  rw [IntKind.wrap_u8, UInt8.toNat_sub]
  have := x.toNat_lt; have := y.toNat_lt
  omega
set_option maxRecDepth 100000 in
theorem add_byte (x y : UInt8) : IntKind.u8.wrap ((x.toNat : Int) + (y.toNat : Int)) = ((x + y).toNat : Int) := by
  rw [IntKind.wrap_u8, UInt8.toNat_add]
  have := x.toNat_lt; have := y.toNat_lt
  omega

end Go.Proofs.YtfhfedcamcpceaaDoor
