/- Lemmas for picture.Parse. -/
import Derived.Test.YtjoggjjkafamlaaPicK
import Derived.Test.YtjoggjjkafamlaaPicA
import Derived.Deep.Cut
namespace Go.Proofs.Ytjoggjjkafamlaa
open Go.RowKit

theorem unpack_at2 (s : ByteArray) (most : Int) (w : World) (hs : s.size ≤ 1000000) (hm0 : -9223372036854775808 ≤ most) (hm1 : most ≤ 9223372036854775807) (x : ByteArray) (v : Value) (l : List UInt8) (c : Nat)
    (HZ : Hid (Fb.unpack s.data.toList most = (l, c))) (HX : Hid (l = x.data.toList)) (HV : Hid (errV c = v)) :
    Calls Try.prog 8 #[.string s, .int .i64 most] w fun e w' => e = .returned (.tuple #[.string x, v]) ∧ Below w.heap.size w w' := by
  have h := unpack_any s most w hs hm0 hm1
  rw [HZ.out, HX.out, str_self] at h
  rw [← HV.out]
  exact h

theorem ext_drop2 (s : ByteArray) : (s.extract 2 s.size).data.toList = s.data.toList.drop 2 := by
  rw [ByteArray.data_extract, Array.toList_extract, List.extract_eq_take_drop, List.take_of_length_le (by simp)]

theorem own_mono {W : World} {B B' : Nat} {e : TypeId} {size : Nat} {v : Value} {n : Nat} {xs : List Value} (h : W.ownsRow B e size v n xs) (hB : B' ≤ B) : W.ownsRow B' e size v n xs := by
  refine ⟨h.1, ?_⟩
  rcases h.2 with h' | ⟨g, cap, cur, hv, hb, r⟩
  · exact .inl h'
  · exact .inr ⟨g, cap, cur, hv, Nat.le_trans hB hb, r⟩
/-- the third cell is another one -/
theorem Three.set2 {W : World} {b : Nat} {x y z u : Value} (h : Three W b x y z) : Three (W.setCell ⟨b, 2, none⟩ u) b x y u :=
  ⟨(World.cell?_setCell_other _ ⟨b, 2, none⟩ ⟨b, 0, none⟩ _ (by simp)).trans h.c0, (World.cell?_setCell_other _ ⟨b, 2, none⟩ ⟨b, 1, none⟩ _ (by simp)).trans h.c1, World.cell?_setCell_same _ _ _ h.c2, (World.frozen?_setCell _ _ _ _).trans h.f0, (World.frozen?_setCell _ _ _ _).trans h.f1, (World.frozen?_setCell _ _ _ _).trans h.f2, by simpa using h.lt⟩
/-- a store into another block -/
theorem Three.other {W : World} {b b' j : Nat} {x y z u : Value} (h : Three W b x y z) (hne : b ≠ b') : Three (W.setCell ⟨b', j, none⟩ u) b x y z :=
  ⟨(World.cell?_of_block (Below.heap_setCell W ⟨b', j, none⟩ u b (by simpa using hne))).trans h.c0, (World.cell?_of_block (Below.heap_setCell W ⟨b', j, none⟩ u b (by simpa using hne))).trans h.c1, (World.cell?_of_block (Below.heap_setCell W ⟨b', j, none⟩ u b (by simpa using hne))).trans h.c2,
    (World.frozen?_of_block (Below.heap_setCell W ⟨b', j, none⟩ u b (by simpa using hne))).trans h.f0, (World.frozen?_of_block (Below.heap_setCell W ⟨b', j, none⟩ u b (by simpa using hne))).trans h.f1, (World.frozen?_of_block (Below.heap_setCell W ⟨b', j, none⟩ u b (by simpa using hne))).trans h.f2, by simpa using h.lt⟩

/-- one row more -/
theorem rows_err (rs : List UInt8) (W f k : Nat) (above : List UInt8) (h : 4 ≤ (rs.getD (k * (1 + 2 * W)) 0).toNat) : parseRows rs W (f + 1) k above = ([], 4) := by rw [parseRows, if_pos h]

def combP (qs : List (Int × Int)) (r : List (Int × Int) × Nat) : List (Int × Int) × Nat := if r.2 ≠ 0 then ([], r.2) else (qs ++ r.1, 0)
theorem combP_combP (a b : List (Int × Int)) (r : List (Int × Int) × Nat) : combP a (combP b r) = combP (a ++ b) r := by
  unfold combP
  by_cases h : r.2 = 0
  · simp [h]
  · simp [h]
theorem rows_step (rs : List UInt8) (W f k : Nat) (above : List UInt8) (h : ¬ 4 ≤ (rs.getD (k * (1 + 2 * W)) 0).toNat) :
    parseRows rs W (f + 1) k above = combP (pixOf (Fb.restL (rs.getD (k * (1 + 2 * W)) 0).toNat ((rs.drop (k * (1 + 2 * W) + 1)).take (2 * W)) above)) (parseRows rs W f (k + 1) (Fb.restL (rs.getD (k * (1 + 2 * W)) 0).toNat ((rs.drop (k * (1 + 2 * W) + 1)).take (2 * W)) above)) := by
  rw [parseRows, if_neg h]; rfl
theorem rows_nil (rs : List UInt8) (W f k : Nat) (above : List UInt8) : combP [] (parseRows rs W f k above) = parseRows rs W f k above := by
  unfold combP
  by_cases h : (parseRows rs W f k above).2 = 0
  · rw [if_neg (by omega), List.nil_append, ← h]
  · rw [if_pos h]
    cases f with
    | zero => rfl
    | succ f =>
      rw [parseRows] at h ⊢
      by_cases h1 : 4 ≤ (rs.getD (k * (1 + 2 * W)) 0).toNat
      · rw [if_pos h1]
      · rw [if_neg h1] at h ⊢
        by_cases h2 : (parseRows rs W f (k + 1) (Fb.restL (rs.getD (k * (1 + 2 * W)) 0).toNat ((rs.drop (k * (1 + 2 * W) + 1)).take (2 * W)) above)).2 = 0
        · rw [if_neg (by omega)] at h; simp at h
        · rw [if_pos h2]

/-- what Parse's answer is, once the sides may be -/
theorem parse_body (l : List UInt8) (W H : Nat) (hl : ¬ l.length < 2) (hW : (l.getD 0 0).toNat = W) (hH : (l.getD 1 0).toNat = H) (hs : ¬ (sideB (W : Int) = false ∨ sideB (H : Int) = false)) (us : List UInt8) (uc : Nat) (hu : Fb.unpack (l.drop 2) ((H * (1 + 2 * W) : Nat) : Int) = (us, uc)) :
    parseL l = if uc ≠ 0 then (0, 0, [], uc) else if us.length < H * (1 + 2 * W) then (0, 0, [], 4) else if (parseRows us W H 0 []).2 ≠ 0 then (0, 0, [], (parseRows us W H 0 []).2) else (W, H, (parseRows us W H 0 []).1, 0) := by
  unfold parseL
  rw [if_neg hl, hW, hH, if_neg hs, hu]

theorem parse_side (l : List UInt8) (W H : Nat) (hl : ¬ l.length < 2) (hW : (l.getD 0 0).toNat = W) (hH : (l.getD 1 0).toNat = H) (hs : sideB (W : Int) = false ∨ sideB (H : Int) = false) : parseL l = (0, 0, [], 1) := by
  unfold parseL
  rw [if_neg hl, hW, hH, if_pos hs]
theorem parse_short (l : List UInt8) (hl : l.length < 2) : parseL l = (0, 0, [], 4) := by unfold parseL; rw [if_pos hl]

theorem pixOf_len : ∀ (n : Nat) (l : List UInt8), l.length = 2 * n → (pixOf l).length = n
  | 0, l, h => by
    have : l = [] := List.eq_nil_of_length_eq_zero (by omega)
    subst this; rfl
  | n + 1, [], h => by simp at h
  | n + 1, [_], h => by simp at h; omega
  | n + 1, a :: b :: r, h => by
    rw [pixOf, List.length_cons, pixOf_len n r (by simp at h; omega)]
theorem own_drewN {w : World} {base : Nat} {e : TypeId} {size : Nat} {v : Value} {n : Nat} {xs : List Value} (h : w.ownsRow base e size v n xs) (q : Nat) : (w.drewN q).ownsRow base e size v n xs := h
end Go.Proofs.Ytjoggjjkafamlaa
