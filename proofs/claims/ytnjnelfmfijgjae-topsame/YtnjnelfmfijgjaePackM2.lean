/- Plain lemmas: packing with a count of the row that is being gone over comes to the same as packing pair by pair. -/
import Derived.Test.YtnjnelfmfijgjaePackMath
namespace Go.Proofs.Ytnjnelfmfijgjae
namespace Fb

theorem getD_drop (l : List UInt8) (k : Nat) (h : k < l.length) : l.drop k = l.getD k 0 :: l.drop (k + 1) := by
  rw [List.drop_eq_getElem_cons h]
  simp only [List.getD_eq_getElem?_getD, List.getElem?_eq_getElem h]
  rfl

/-- ahead of the byte i: n bytes of its row are counted, o is told -/
def PInv (l : List UInt8) (i n : Nat) (o : List UInt8) : Prop :=
  ∃ r, o = flat r ∧ n < 255 ∧ r.length ≤ i ∧ (i < l.length → ∃ cur, stepR cur (l.getD i 0) = (UInt8.ofNat (n + 1), l.getD i 0) :: r ∧ packR l = (l.drop i).foldl stepR cur) ∧ (l.length ≤ i → packR l = r)

theorem pinv_start (l : List UInt8) : PInv l 0 0 [] :=
  ⟨[], rfl, by omega, by simp, fun _ => ⟨[], rfl, rfl⟩, fun h => by have : l = [] := List.eq_nil_of_length_eq_zero (by omega); subst this; rfl⟩

theorem ofNat_toNat (n : Nat) (h : n < 256) : (UInt8.ofNat n).toNat = n := by
  rw [UInt8.toNat_ofNat']; omega

theorem pinv_len {l : List UInt8} {i n : Nat} {o : List UInt8} (h : PInv l i n o) : o.length ≤ 2 * i := by
  obtain ⟨r, rfl, _, hr, _⟩ := h
  rw [flat_len]; omega

theorem pinv_flush {l : List UInt8} {i n : Nat} {o : List UInt8} (h : PInv l i n o) (hi : i < l.length) (hf : i + 1 = l.length ∨ l.getD (i + 1) 0 ≠ l.getD i 0 ∨ n + 1 = 255) :
    PInv l (i + 1) 0 (o ++ [UInt8.ofNat (n + 1), l.getD i 0]) := by
  obtain ⟨r, rfl, hn, hr, h1, _⟩ := h
  obtain ⟨cur, hc, hp⟩ := h1 hi
  rw [getD_drop l i hi, List.foldl_cons, hc] at hp
  refine ⟨(UInt8.ofNat (n + 1), l.getD i 0) :: r, rfl, by omega, by simp; omega, fun hlt => ⟨_, ?_, hp⟩, fun hge => ?_⟩
  · rw [stepR, if_neg]
    · rfl
    intro ⟨e1, e2⟩
    rw [ofNat_toNat _ (by omega)] at e2
    rcases hf with h | h | h
    · omega
    · exact h e1.symm
    · omega
  · rw [List.drop_eq_nil_of_le hge] at hp; exact hp

theorem pinv_keep {l : List UInt8} {i n : Nat} {o : List UInt8} (h : PInv l i n o) (hi : i + 1 < l.length) (he : l.getD (i + 1) 0 = l.getD i 0) (h255 : n + 1 ≠ 255) : PInv l (i + 1) (n + 1) o := by
  obtain ⟨r, rfl, hn, hr, h1, _⟩ := h
  obtain ⟨cur, hc, hp⟩ := h1 (by omega)
  rw [getD_drop l i (by omega), List.foldl_cons, hc] at hp
  refine ⟨r, rfl, by omega, by omega, fun hlt => ⟨_, ?_, hp⟩, fun hge => by omega⟩
  rw [stepR, if_pos ⟨he.symm, by rw [ofNat_toNat _ (by omega)]; omega⟩, he]
  congr 2
  apply UInt8.toNat_inj.1
  rw [succ_toNat _ (by rw [ofNat_toNat _ (by omega)]; omega), ofNat_toNat _ (by omega), ofNat_toNat _ (by omega)]

theorem pinv_end {l : List UInt8} {i n : Nat} {o : List UInt8} (h : PInv l i n o) (hi : l.length ≤ i) : packL l = o := by
  obtain ⟨r, rfl, hn, hr, _, h2⟩ := h
  unfold packL; rw [h2 hi]

end Fb
end Go.Proofs.Ytnjnelfmfijgjae
