/- Walk of picture.Parse. -/
import Derived.Test.YtnjnelfmfijgjaePicH
import Derived.Test.YtnjnelfmfijgjaePicI
import Derived.Lib.Strings
namespace Go.Proofs.Ytnjnelfmfijgjae
open Go.RowKit

/-- the rows' pixels, f rows from row k on, and the number of the error -/
def parseRows (rs : List UInt8) (W : Nat) : Nat → Nat → List UInt8 → List (Int × Int) × Nat
  | 0, _, _ => ([], 0)
  | f + 1, k, above =>
    if 4 ≤ (rs.getD (k * (1 + 2 * W)) 0).toNat then ([], 4)
    else if (parseRows rs W f (k + 1) (Fb.restL (rs.getD (k * (1 + 2 * W)) 0).toNat ((rs.drop (k * (1 + 2 * W) + 1)).take (2 * W)) above)).2 ≠ 0
      then ([], (parseRows rs W f (k + 1) (Fb.restL (rs.getD (k * (1 + 2 * W)) 0).toNat ((rs.drop (k * (1 + 2 * W) + 1)).take (2 * W)) above)).2)
    else (pixOf (Fb.restL (rs.getD (k * (1 + 2 * W)) 0).toNat ((rs.drop (k * (1 + 2 * W) + 1)).take (2 * W)) above) ++ (parseRows rs W f (k + 1) (Fb.restL (rs.getD (k * (1 + 2 * W)) 0).toNat ((rs.drop (k * (1 + 2 * W) + 1)).take (2 * W)) above)).1, 0)

/-- Parse's answer: sides, pixels, and the number of the error -/
def parseL (l : List UInt8) : Nat × Nat × List (Int × Int) × Nat :=
  if l.length < 2 then (0, 0, [], 4)
  else if sideB ((l.getD 0 0).toNat : Int) = false ∨ sideB ((l.getD 1 0).toNat : Int) = false then (0, 0, [], 1)
  else if (Fb.unpack (l.drop 2) (((l.getD 1 0).toNat * (1 + 2 * (l.getD 0 0).toNat) : Nat) : Int)).2 ≠ 0 then (0, 0, [], (Fb.unpack (l.drop 2) (((l.getD 1 0).toNat * (1 + 2 * (l.getD 0 0).toNat) : Nat) : Int)).2)
  else if (Fb.unpack (l.drop 2) (((l.getD 1 0).toNat * (1 + 2 * (l.getD 0 0).toNat) : Nat) : Int)).1.length < (l.getD 1 0).toNat * (1 + 2 * (l.getD 0 0).toNat) then (0, 0, [], 4)
  else if (parseRows (Fb.unpack (l.drop 2) (((l.getD 1 0).toNat * (1 + 2 * (l.getD 0 0).toNat) : Nat) : Int)).1 (l.getD 0 0).toNat (l.getD 1 0).toNat 0 []).2 ≠ 0 then (0, 0, [], (parseRows (Fb.unpack (l.drop 2) (((l.getD 1 0).toNat * (1 + 2 * (l.getD 0 0).toNat) : Nat) : Int)).1 (l.getD 0 0).toNat (l.getD 1 0).toNat 0 []).2)
  else ((l.getD 0 0).toNat, (l.getD 1 0).toNat, (parseRows (Fb.unpack (l.drop 2) (((l.getD 1 0).toNat * (1 + 2 * (l.getD 0 0).toNat) : Nat) : Int)).1 (l.getD 0 0).toNat (l.getD 1 0).toNat 0 []).1, 0)

def zeroPic : Value := .agg #[.int .i64 0, .int .i64 0, .slice none 0 0]

theorem Three.onB {W W' : World} {b B : Nat} {x y z : Value} (h : Three W b x y z) (hb : Below B W W') (hlt : b < B) : Three W' b x y z :=
  ⟨(hb.cell (p := ⟨b, 0, none⟩) hlt).trans h.c0, (hb.cell (p := ⟨b, 1, none⟩) hlt).trans h.c1, (hb.cell (p := ⟨b, 2, none⟩) hlt).trans h.c2,
    (hb.frozen (p := ⟨b, 0, none⟩) hlt).trans h.f0, (hb.frozen (p := ⟨b, 1, none⟩) hlt).trans h.f1, (hb.frozen (p := ⟨b, 2, none⟩) hlt).trans h.f2, Nat.lt_of_lt_of_le h.lt hb.size⟩
theorem Three.drewN {W : World} {b : Nat} {x y z : Value} (h : Three W b x y z) (q : Nat) : Three (W.drewN q) b x y z := ⟨h.c0, h.c1, h.c2, h.f0, h.f1, h.f2, h.lt⟩

theorem rdP_own {w : World} {B : Nat} {v : Value} {ps : List (Int × Int)} (h : w.ownsRow B 26 2 v ps.length (pixCells ps)) : RdP w v ps := by
  have hc : ∀ (ps : List (Int × Int)) (j : Nat), j < ps.length → (pixCells ps)[j * 2]? = some (.int .i64 (ps.getD j (0, 0)).1) ∧ (pixCells ps)[j * 2 + 1]? = some (.int .i64 (ps.getD j (0, 0)).2) := by
    intro ps
    induction ps with
    | nil => intro j hj; simp at hj
    | cons p r ih =>
      intro j hj
      obtain ⟨a, b⟩ := p
      cases j with
      | zero => simp [pixCells]
      | succ j =>
        have := ih j (by simpa using hj)
        rw [show (j + 1) * 2 = j * 2 + 2 by omega]
        simpa [pixCells] using this
  rcases h.2 with ⟨rfl, h0⟩ | ⟨g, cap, cur, rfl, hb, hg, hn, hm, hs, ht⟩
  · exact ⟨none, 0, by rw [h0], by omega, by omega, fun hne => absurd (List.eq_nil_of_length_eq_zero h0) hne⟩
  · refine ⟨_, cap, rfl, hn, by unfold maxLen at hm; omega, fun _ => ⟨g, 0, rfl, (Array.getElem?_eq_some_iff.1 hg).1, fun j hj => ?_⟩⟩
    rw [Nat.zero_add, h.cellAt (j * 2) (by omega), h.cellAt (j * 2 + 1) (by omega)]
    exact hc ps j hj

theorem rdP_nil (w : World) : RdP w (.slice none 0 0) [] := ⟨none, 0, rfl, by simp, by omega, fun h => absurd rfl h⟩

end Go.Proofs.Ytnjnelfmfijgjae
