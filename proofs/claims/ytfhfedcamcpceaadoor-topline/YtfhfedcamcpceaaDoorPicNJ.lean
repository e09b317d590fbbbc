/- What Bytes tells, Parse reads. -/
import Derived.Test.YtfhfedcamcpceaaDoorM4
import Derived.Test.YtfhfedcamcpceaaDoorPicGJ
namespace Go.Proofs.YtfhfedcamcpceaaDoor
open Go.RowKit

set_option maxRecDepth 100000 in
theorem ofNat_small (n : Nat) (h : n < 256) : (UInt8.ofNat n).toNat = n := by rw [UInt8.toNat_ofNat']; omega

set_option maxRecDepth 100000 in
theorem okPix_bounds {p : Int × Int} (h : okPix p = true) : 0 ≤ p.1 ∧ p.1 ≤ 255 ∧ 0 ≤ p.2 ∧ p.2 ≤ 255 := by
  unfold okPix shadeB at h; simp at h; omega

set_option maxRecDepth 100000 in
theorem pixOf_flatP : ∀ (ps : List (Int × Int)), (∀ p ∈ ps, okPix p = true) → pixOf (flatP ps) = ps
  | [], _ => rfl
  | (v, a) :: r, h => by
    have hb := okPix_bounds (h (v, a) (by simp))
    simp only at hb
    rw [flatP, pixOf, pixOf_flatP r (fun p hp => h p (by simp [hp])), ofNat_small _ (by omega), ofNat_small _ (by omega)]
    rw [show ((v.toNat : Nat) : Int) = v by omega, show ((a.toNat : Nat) : Int) = a by omega]

set_option maxRecDepth 100000 in
theorem rowsTo_split (ps : List (Int × Int)) (W k : Nat) : ∀ d, ∃ tail, rowsTo ps W (k + 1 + d) = rowsTo ps W k ++ (Fb.shortL (rowOf ps W k) (aboveOf ps W k) ++ tail)
  | 0 => ⟨[], by simp [rowsTo]⟩
  | d + 1 => by
    obtain ⟨t, ht⟩ := rowsTo_split ps W k d
    refine ⟨t ++ Fb.shortL (rowOf ps W (k + 1 + d)) (aboveOf ps W (k + 1 + d)), ?_⟩
    rw [show k + 1 + (d + 1) = (k + 1 + d) + 1 by omega, rowsTo, ht]
    simp

set_option maxRecDepth 100000 in
theorem getD_mid (a b : List UInt8) (x : UInt8) : (a ++ (x :: b)).getD a.length 0 = x := by simp
set_option maxRecDepth 100000 in
theorem drop_mid (a b : List UInt8) (x : UInt8) : (a ++ (x :: b)).drop (a.length + 1) = b := by
  rw [← List.drop_drop, List.drop_left]; rfl

set_option maxRecDepth 100000 in
theorem above_next (ps : List (Int × Int)) (W k : Nat) : aboveOf ps W (k + 1) = rowOf ps W k := by unfold aboveOf; simp

set_option maxRecDepth 100000 in
theorem parse_rows (ps : List (Int × Int)) (W H : Nat) (hl : ps.length = W * H) (hok : ∀ p ∈ ps, okPix p = true) :
    ∀ f k, k + f = H → parseRows (rowsTo ps W H) W f k (aboveOf ps W k) = ((ps.drop (k * W)).take (f * W), 0)
  | 0, k, _ => by simp [parseRows]
  | f + 1, k, h => by
    obtain ⟨tail, ht⟩ := rowsTo_split ps W k f
    rw [show k + 1 + f = H by omega] at ht
    have hlen := rowsTo_len ps W H hl k (by omega)
    have hrl := rowOf_len ps W H k hl (by omega)
    have hb := Fb.bestW_lt (rowOf ps W k) (aboveOf ps W k)
    have h1 : ((rowsTo ps W H).getD (k * (1 + 2 * W)) 0).toNat = Fb.bestW (rowOf ps W k) (aboveOf ps W k) := by
      rw [ht, ← hlen, Fb.shortL, List.cons_append, getD_mid, ofNat_small _ (by omega)]
    have h2 : ((rowsTo ps W H).drop (k * (1 + 2 * W) + 1)).take (2 * W) = Fb.tellL (Fb.bestW (rowOf ps W k) (aboveOf ps W k)) (rowOf ps W k) (aboveOf ps W k) := by
      rw [ht, ← hlen, Fb.shortL, List.cons_append, drop_mid]
      refine List.take_left' ?_
      unfold Fb.tellL; rw [Fb.tellTo_len, hrl]
    have ih := parse_rows ps W H hl hok f (k + 1) (by omega)
    rw [above_next] at ih
    rw [parseRows, h1, h2, Fb.restL_tellL, ih, if_neg (by omega), if_neg (by simp)]
    have hp : pixOf (rowOf ps W k) = (ps.drop (k * W)).take W := by
      unfold rowOf
      exact pixOf_flatP _ (fun p hp => hok p (List.mem_of_mem_drop (List.mem_of_mem_take hp)))
    rw [hp]
    refine Prod.ext ?_ rfl
    show (ps.drop (k * W)).take W ++ (ps.drop ((k + 1) * W)).take (f * W) = (ps.drop (k * W)).take ((f + 1) * W)
    rw [show (f + 1) * W = W + f * W by rw [Nat.add_mul]; omega, List.take_add, List.drop_drop, show (k + 1) * W = k * W + W by rw [Nat.add_mul]; omega]

set_option maxRecDepth 100000 in
theorem parse_picBytes (W H : Nat) (ps : List (Int × Int)) (h : checkL (W : Int) (H : Int) ps = 0) : parseL (picBytes W H ps) = (W, H, ps, 0) := by
  obtain ⟨hW1, hW8, hH1, hH8, hlen, hall⟩ := check_ok h
  have hl : ps.length = W * H := by
    have h : ((W * H : Nat) : Int) = (W : Int) * (H : Int) := by simp
    omega
  have hrl := rowsTo_len ps W H hl H (Nat.le_refl _)
  have hu : Fb.unpack (Fb.packL (rowsTo ps W H)) ((H * (1 + 2 * W) : Nat) : Int) = (rowsTo ps W H, 0) := by rw [← hrl]; exact Fb.unpack_packL _
  have hr : parseRows (rowsTo ps W H) W H 0 [] = (ps, 0) := by
    have := parse_rows ps W H hl hall H 0 (by omega)
    rw [show aboveOf ps W 0 = [] from rfl] at this
    rw [this, Nat.zero_mul, List.drop_zero, List.take_of_length_le (by rw [hl, Nat.mul_comm]; exact Nat.le_refl _)]
  have h0 : ((picBytes W H ps).getD 0 0).toNat = W := by show (UInt8.ofNat W).toNat = W; exact ofNat_small _ (by omega)
  have h1 : ((picBytes W H ps).getD 1 0).toNat = H := by show (UInt8.ofNat H).toNat = H; exact ofNat_small _ (by omega)
  have hd : (picBytes W H ps).drop 2 = Fb.packL (rowsTo ps W H) := rfl
  have hs : ¬ (sideB (W : Int) = false ∨ sideB (H : Int) = false) := by unfold sideB; simp; omega
  unfold parseL
  rw [if_neg (by simp [picBytes]), h0, h1, if_neg hs, hd, hu]
  simp only [hrl, hr]
  simp

set_option maxRecDepth 100000 in
theorem picBytes_len (W H : Nat) (ps : List (Int × Int)) (h : checkL (W : Int) (H : Int) ps = 0) : (picBytes W H ps).length ≤ 2 + 2 * (H * (1 + 2 * W)) := by
  obtain ⟨hW1, hW8, hH1, hH8, hlen, hall⟩ := check_ok h
  have hl : ps.length = W * H := by
    have h : ((W * H : Nat) : Int) = (W : Int) * (H : Int) := by simp
    omega
  have hrl := rowsTo_len ps W H hl H (Nat.le_refl _)
  have := Fb.packL_len (rowsTo ps W H)
  rw [hrl] at this
  unfold picBytes
  simp only [List.length_cons]
  omega
end Go.Proofs.YtfhfedcamcpceaaDoor
