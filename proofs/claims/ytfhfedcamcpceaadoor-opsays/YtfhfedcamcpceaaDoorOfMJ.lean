/- Kinds by names, as the reference looks for them. -- s1 -/
import Derived.Test.YtfhfedcamcpceaaDoorFindNJ
import Derived.Test.YtfhfedcamcpceaaDoorNmAJ
namespace Go.Proofs.YtfhfedcamcpceaaDoor
open Go.RowKit

def kindNm (k : Nat) : ByteArray := ⟨(nmsB.getD k []).toArray⟩
/-- the last of the first k kinds that has the name; 0: none -/
def kn (nm : ByteArray) : Nat → Nat
  | 0 => 0
  | k + 1 => if kindNm (k + 1) = nm then k + 1 else kn nm k
theorem nameAt_none (nm : ByteArray) : ∀ (l : List Shp), nameAt nm l = none → ∀ s ∈ l, s.bytes ≠ nm := by
  intro l
  induction l with
  | nil => intro _ s h; cases h
  | cons a r ih =>
    intro h s hs
    unfold nameAt at h
    split at h
    · cases h
    · rcases List.mem_cons.1 hs with rfl | hs
      · assumption
      · exact ih h s hs
theorem kn_none (nm : ByteArray) (h : nameAt nm shps = none) : ∀ k, k ≤ 16 → kn nm k = 0 := by
  intro k
  induction k with
  | zero => intro _; rfl
  | succ k ih =>
    intro hk
    unfold kn
    have hkl : k < shps.length := hk
    rw [if_neg, ih (by omega)]
    have h2 := nameAt_none nm shps h shps[k] (List.getElem_mem hkl)
    have h3 : kindNm (k + 1) = (shps[k]).bytes := by
      unfold kindNm nmsB Shp.bytes
      rw [List.getD_eq_getElem?_getD, List.getElem?_cons_succ, List.getElem?_map, List.getElem?_eq_getElem hkl]
      rfl
    rw [h3]
    exact h2
theorem kn_some (nm : ByteArray) (s : Shp) (h : nameAt nm shps = some s) : kn nm 16 = s.kind ∧ kindAt (s.kind : Int) shps = some s := by
  obtain ⟨hm, rfl⟩ := nameAt_mem _ _ _ h
  clear h
  simp only [shps, List.mem_cons, List.not_mem_nil, or_false] at hm
  rcases hm with rfl | rfl | rfl | rfl | rfl | rfl | rfl | rfl | rfl | rfl | rfl | rfl | rfl | rfl | rfl | rfl <;> exact ⟨by decide +kernel, by rfl⟩
end Go.Proofs.YtfhfedcamcpceaaDoor
