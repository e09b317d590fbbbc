/- Plain lemmas: a chunk of which one byte is another one, by another remainder than that of 251, is not read. -/
import Derived.Test.YtjoggjjkafamlabChunkM2
namespace Go.Proofs.Ytjoggjjkafamlab
namespace Fb

def sumA (a : Nat) (x : UInt8) : Nat := (a + x.toNat) % 251

theorem foldl_fst (l : List UInt8) : ∀ p : Nat × Nat, (l.foldl sumStep p).1 = l.foldl sumA p.1 := by
  induction l with
  | nil => intro p; rfl
  | cons x l ih => intro p; simp only [List.foldl_cons]; rw [ih]; rfl

theorem sumA_inj (l : List UInt8) : ∀ a b : Nat, l.foldl sumA a = l.foldl sumA b → a % 251 = b % 251 ∨ l = [] := by
  induction l with
  | nil => intro a b _; exact .inr rfl
  | cons x l ih =>
    intro a b h
    left
    simp only [List.foldl_cons] at h
    rcases ih _ _ h with h1 | h1
    · unfold sumA at h1; omega
    · subst h1
      simp only [List.foldl_nil] at h
      unfold sumA at h; omega

theorem sumA_spoil (pre post : List UInt8) (x y : UInt8) (a : Nat) (hne : x.toNat % 251 ≠ y.toNat % 251) : (pre ++ [x] ++ post).foldl sumA a ≠ (pre ++ [y] ++ post).foldl sumA a := by
  intro h
  simp only [List.foldl_append, List.foldl_cons, List.foldl_nil] at h
  rcases sumA_inj post _ _ h with h1 | h1
  · unfold sumA at h1; omega
  · subst h1
    simp only [List.foldl_nil] at h
    unfold sumA at h; omega

theorem sumL_spoil (pre post : List UInt8) (x y : UInt8) (hne : x.toNat % 251 ≠ y.toNat % 251) : (sumL (pre ++ [x] ++ post)).1 ≠ (sumL (pre ++ [y] ++ post)).1 := by
  unfold sumL
  rw [foldl_fst, foldl_fst]
  exact sumA_spoil pre post x y 1 hne

theorem pairL_inj {a b c d : Nat} (ha : a < 256) (hc : c < 256) (h : pairL a b = pairL c d) : a = c := by
  unfold pairL at h
  simp only [List.cons.injEq] at h
  have h1 := congrArg UInt8.toNat h.1
  rw [ofNat_toNat _ ha, ofNat_toNat _ hc] at h1
  exact h1

/-- the byte at k is another one -/
def spoilt (t : List UInt8) (k : Nat) (y : UInt8) : List UInt8 := t.take k ++ [y] ++ t.drop (k + 1)

theorem spoilt_append_left (a b : List UInt8) (k : Nat) (y : UInt8) (h : k < a.length) : spoilt (a ++ b) k y = spoilt a k y ++ b := by
  unfold spoilt
  rw [List.take_append_of_le_length (by omega), List.drop_append_of_le_length (by omega)]
  simp
theorem spoilt_append_right (a b : List UInt8) (k : Nat) (y : UInt8) (h : a.length ≤ k) : spoilt (a ++ b) k y = a ++ spoilt b (k - a.length) y := by
  unfold spoilt
  rw [List.take_append, List.drop_append, List.take_of_length_le h, List.drop_of_length_le (by omega)]
  rw [show k + 1 - a.length = k - a.length + 1 by omega]
  simp
theorem spoilt_len (t : List UInt8) (k : Nat) (y : UInt8) (h : k < t.length) : (spoilt t k y).length = t.length := by
  unfold spoilt
  simp; omega
theorem split_at (t : List UInt8) (k : Nat) (h : k < t.length) : t = t.take k ++ [t.getD k 0] ++ t.drop (k + 1) := by
  have e := getD_drop t k h
  conv => lhs; rw [← List.take_append_drop k t, e]
  simp

theorem sum_spoilt (t : List UInt8) (k : Nat) (y : UInt8) (h : k < t.length) (hne : (t.getD k 0).toNat % 251 ≠ y.toNat % 251) : (sumL t).1 ≠ (sumL (spoilt t k y)).1 := by
  intro e
  have h2 := sumL_spoil (t.take k) (t.drop (k + 1)) (t.getD k 0) y hne
  rw [← split_at t k h] at h2
  exact h2 e

theorem getD_left (a b : List UInt8) (k : Nat) (h : k < a.length) : (a ++ b).getD k 0 = a.getD k 0 := by
  rw [List.getD_eq_getElem?_getD, List.getElem?_append_left h, ← List.getD_eq_getElem?_getD]
theorem getD_right (a b : List UInt8) (k : Nat) (h : a.length ≤ k) : (a ++ b).getD k 0 = b.getD (k - a.length) 0 := by
  rw [List.getD_eq_getElem?_getD, List.getElem?_append_right h, ← List.getD_eq_getElem?_getD]

theorem measure_spoilt (name data : List UInt8) (k : Nat) (y : UInt8) (hn : nameB name = true) (hd : data.length ≤ 65535) (hk6 : 6 ≤ k) (hk : k < 8 + data.length)
    (hne : ((sealL (headL name data)).getD k 0).toNat % 251 ≠ y.toNat % 251) : measureL (spoilt (sealL (headL name data)) k y) = (0, 6) := by
  have h4 := nameB_len hn
  have hL := headL_len name data h4
  have hlt := sumL_lt (headL name data)
  unfold sealL at hne ⊢
  by_cases hc : k < 6 + data.length
  · rw [spoilt_append_left _ _ _ _ (by omega)]
    rw [getD_left _ _ _ (by omega)] at hne
    have hsum := sum_spoilt (headL name data) k y (by omega) hne
    have hh : spoilt (headL name data) k y = headL name (spoilt data (k - 6) y) := by
      unfold headL
      rw [spoilt_append_right _ _ _ _ (by unfold pairL; simp [h4]; omega), spoilt_len _ _ _ (by omega)]
      rw [show (name ++ pairL (data.length % 256) (data.length / 256)).length = 6 by unfold pairL; simp [h4]]
    rw [hh] at hsum ⊢
    have hlt2 := sumL_lt (headL name (spoilt data (k - 6) y))
    have hdl := spoilt_len data (k - 6) y (by omega)
    rw [measure_head name _ _ hn (by omega) (by unfold pairL; simp), if_neg]
    intro e
    rw [List.take_of_length_le (by unfold pairL; simp)] at e
    exact hsum (pairL_inj (by omega) (by omega) e)
  · rw [spoilt_append_right _ _ _ _ (by omega)]
    rw [getD_right _ _ _ (by omega), hL] at hne
    rw [hL]
    have hk2 : k - (6 + data.length) = 0 ∨ k - (6 + data.length) = 1 := by omega
    rw [measure_head name _ _ hn hd (by rw [spoilt_len _ _ _ (by unfold pairL; simp; omega)]; unfold pairL; simp), if_neg]
    intro e
    rw [List.take_of_length_le (by rw [spoilt_len _ _ _ (by unfold pairL; simp; omega)]; unfold pairL; simp)] at e
    rcases hk2 with h | h
    · rw [h] at e hne
      unfold spoilt pairL at e
      unfold pairL at hne
      simp at e
      apply hne
      rw [e]; rfl
    · rw [h] at e hne
      unfold spoilt pairL at e
      unfold pairL at hne
      simp at e
      apply hne
      rw [e]; rfl

end Fb
end Go.Proofs.Ytjoggjjkafamlab
