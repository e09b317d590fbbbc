/- Lemmas for the reference's PictureBytes and PictureOf: the bytes row by row. -/
import Derived.Test.YtfhfedcamcpceaaDoorM5
import Derived.Test.YtfhfedcamcpceaaDoorRefAJ
import Derived.Test.YtfhfedcamcpceaaDoorRefBJ
namespace Go.Proofs.YtfhfedcamcpceaaDoor
open Go.RowKit

def leftG (bs : List UInt8) (L y i : Nat) : UInt8 := if i < 2 then 0 else bs.getD (y * L + (i - 2)) 0
def upG (bs : List UInt8) (L y i : Nat) : UInt8 := if y = 0 then 0 else bs.getD ((y - 1) * L + i) 0
def rowG (bs : List UInt8) (L y : Nat) : List UInt8 := (bs.drop (y * L)).take L
def abG (bs : List UInt8) (L y : Nat) : List UInt8 := if y = 0 then [] else rowG bs L (y - 1)

set_option maxRecDepth 100000 in
theorem rowG_getD (bs : List UInt8) (L y i : Nat) (h : i < L) : (rowG bs L y).getD i 0 = bs.getD (y * L + i) 0 := by
  unfold rowG
  rw [Fb.getD_take _ _ _ h, List.getD_eq_getElem?_getD, List.getElem?_drop, ← List.getD_eq_getElem?_getD]
set_option maxRecDepth 100000 in
theorem abG_getD (bs : List UInt8) (L y i : Nat) (h : i < L) : (abG bs L y).getD i 0 = upG bs L y i := by
  unfold abG upG
  by_cases h0 : y = 0
  · rw [if_pos h0, if_pos h0]; simp
  · rw [if_neg h0, if_neg h0, rowG_getD _ _ _ _ h]
set_option maxRecDepth 100000 in
theorem left_row (bs : List UInt8) (L y i : Nat) (h : i < L) : Fb.leftB (rowG bs L y) i = leftG bs L y i := by
  unfold Fb.leftB leftG
  by_cases h0 : i < 2
  · rw [if_pos h0, if_pos h0]
  · rw [if_neg h0, if_neg h0, rowG_getD _ _ _ _ (by omega)]

set_option maxRecDepth 100000 in
/-- the guess, out of the two bytes -/
theorem guess_byte (way : Nat) (a b : UInt8) (x : UInt8) (h : x = if way = 1 then a else if way = 2 then b else if way = 3 then UInt8.ofNat ((a.toNat + b.toNat) / 2) else 0) : guessN way a.toNat b.toNat = x.toNat := by
  subst h
  unfold guessN
  have h1 := a.toNat_lt
  have h2 := b.toNat_lt
  split
  · rfl
  · split
    · rfl
    · split
      · rw [UInt8.toNat_ofNat']; omega
      · rfl
set_option maxRecDepth 100000 in
theorem guess_row (way : Nat) (bs : List UInt8) (L y i : Nat) (h : i < L) : guessN way (leftG bs L y i).toNat (upG bs L y i).toNat = (Fb.guessB way (rowG bs L y) (abG bs L y) i).toNat := by
  refine guess_byte way _ _ _ ?_
  unfold Fb.guessB
  rw [left_row _ _ _ _ h, abG_getD _ _ _ _ h]

set_option maxRecDepth 100000 in
theorem in_len (W H y i n : Nat) (hn : n = H * (2 * W)) (hy : y < H) (hi : i < 2 * W) : y * (2 * W) + (i / 2) * 2 + 1 < n := by
  have h1 : (y + 1) * (2 * W) ≤ H * (2 * W) := Nat.mul_le_mul_right _ (by omega)
  rw [Nat.add_mul, Nat.one_mul] at h1
  omega

set_option maxRecDepth 100000 in
theorem left_at (W H y i : Nat) (a : Option Addr) (n cap : Nat) (bs : List UInt8) (w : World) (HR : Hid (RdP w (.slice a n cap) (pixOf bs))) (hW : W ≤ 8) (hH : H ≤ 8) (hy : y < H) (hi : i < 2 * W) (HLN : Hid (bs.length = H * (2 * W))) (r : Nat) (HB : Hid ((leftG bs (2 * W) y i).toNat = r)) :
    Calls Tryd.prog 54 #[.agg #[.int .i64 (W : Int), .int .i64 (H : Int), .slice a n cap], .int .i64 (y : Int), .int .i64 ((i : Int) - 2)] w fun e w' => e = .returned (.int .i64 (r : Int)) ∧ Below w.heap.size w w' := by
  by_cases h : i < 2
  · have hr : r = 0 := by rw [← HB.out]; unfold leftG; rw [if_pos h]; rfl
    subst hr
    exact byteAt_out _ _ _ _ _ _ _ _ (.inr (by omega))
  · rw [show (i : Int) - 2 = ((i - 2 : Nat) : Int) by omega]
    exact byteAt_in W y (i - 2) _ _ _ _ bs w HR hW (by omega) (by omega) (in_len W H y (i - 2) _ HLN.out hy (by omega)) r (by unfold Hid; rw [← HB.out]; unfold leftG; rw [if_neg h])
set_option maxRecDepth 100000 in
theorem up_at (W H y i : Nat) (a : Option Addr) (n cap : Nat) (bs : List UInt8) (w : World) (HR : Hid (RdP w (.slice a n cap) (pixOf bs))) (hW : W ≤ 8) (hH : H ≤ 8) (hy : y < H) (hi : i < 2 * W) (HLN : Hid (bs.length = H * (2 * W))) (r : Nat) (HB : Hid ((upG bs (2 * W) y i).toNat = r)) :
    Calls Tryd.prog 54 #[.agg #[.int .i64 (W : Int), .int .i64 (H : Int), .slice a n cap], .int .i64 ((y : Int) - 1), .int .i64 (i : Int)] w fun e w' => e = .returned (.int .i64 (r : Int)) ∧ Below w.heap.size w w' := by
  by_cases h : y = 0
  · have hr : r = 0 := by rw [← HB.out]; unfold upG; rw [if_pos h]; rfl
    subst hr
    exact byteAt_out _ _ _ _ _ _ _ _ (.inl (by omega))
  · rw [show (y : Int) - 1 = ((y - 1 : Nat) : Int) by omega]
    exact byteAt_in W (y - 1) i _ _ _ _ bs w HR hW (by omega) hi (in_len W H (y - 1) i _ HLN.out (by omega) hi) r (by unfold Hid; rw [← HB.out]; unfold upG; rw [if_neg h])
set_option maxRecDepth 100000 in
theorem cur_at (W H y i : Nat) (a : Option Addr) (n cap : Nat) (bs : List UInt8) (w : World) (HR : Hid (RdP w (.slice a n cap) (pixOf bs))) (hW : W ≤ 8) (hH : H ≤ 8) (hy : y < H) (hi : i < 2 * W) (HLN : Hid (bs.length = H * (2 * W))) (r : Nat) (HB : Hid ((bs.getD (y * (2 * W) + i) 0).toNat = r)) :
    Calls Tryd.prog 54 #[.agg #[.int .i64 (W : Int), .int .i64 (H : Int), .slice a n cap], .int .i64 (y : Int), .int .i64 (i : Int)] w fun e w' => e = .returned (.int .i64 (r : Int)) ∧ Below w.heap.size w w' :=
  byteAt_in W y i _ _ _ _ bs w HR hW (by omega) hi (in_len W H y i _ HLN.out hy hi) r HB

set_option maxRecDepth 100000 in
/-- a byte told -/
theorem told_byte (x g : UInt8) (c q : Nat) (hc : x.toNat = c) (hq : g.toNat = q) : ((x - g).toNat : Int) = ((c : Int) - (q : Int) + 512) % 256 := by
  have h1 := x.toNat_lt
  have h2 := g.toNat_lt
  rw [UInt8.toNat_sub]
  omega
set_option maxRecDepth 100000 in
/-- a byte read -/
theorem read_byte (x g : UInt8) (c q : Nat) (hc : x.toNat = c) (hq : g.toNat = q) : (x + g).toNat = (c + q) % 256 := by
  rw [UInt8.toNat_add]; omega
end Go.Proofs.YtfhfedcamcpceaaDoor
