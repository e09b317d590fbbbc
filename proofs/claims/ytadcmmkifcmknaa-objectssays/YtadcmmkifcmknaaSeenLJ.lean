/- Lists of objects. -/
import Derived.Test.YtadcmmkifcmknaaM6
namespace Go.Proofs.Ytadcmmkifcmknaa
open Go.RowKit

def Po.fault' (x : Po) : Nat := objC x.id x.x x.y x.pw x.ph x.ps x.cx x.cy x.cw x.ch
theorem getD_mem_po {os : List Po} {k : Nat} (h : k < os.length) : os.getD k po0 ∈ os := by
  rw [List.getD_eq_getElem?_getD, List.getElem?_eq_getElem h]
  simp
theorem all_mem {P : Po → Prop} (os : List Po) : (∀ j, j < os.length → P (os.getD j po0)) ↔ ∀ o ∈ os, P o := by
  constructor
  · intro h o ho
    obtain ⟨j, hj, e⟩ := List.mem_iff_getElem.1 ho
    have := h j hj
    rw [List.getD_eq_getElem?_getD, List.getElem?_eq_getElem hj] at this
    simp only [Option.getD_some] at this
    rw [e] at this
    exact this
  · intro h j hj
    exact h _ (getD_mem_po hj)
theorem setO_mem (x : Po) : ∀ (os : List Po), ∀ o ∈ setO os x, o = x ∨ o ∈ os := by
  intro os
  induction os with
  | nil => intro o ho; simp [setO] at ho; exact .inl ho
  | cons a r ih =>
    intro o ho
    unfold setO at ho
    split at ho
    · rcases List.mem_cons.1 ho with h | h
      · exact .inl h
      · exact .inr h
    · split at ho
      · rcases List.mem_cons.1 ho with h | h
        · exact .inl h
        · exact .inr (by simp [h])
      · rcases List.mem_cons.1 ho with h | h
        · exact .inr (by simp [h])
        · rcases ih o h with h | h
          · exact .inl h
          · exact .inr (by simp [h])
theorem setO_len (x : Po) : ∀ (os : List Po), (setO os x).length ≤ os.length + 1 := by
  intro os
  induction os with
  | nil => simp [setO]
  | cons a r ih =>
    unfold setO
    split
    · simp
    · split
      · simp
      · simpa using ih
theorem sort_tail {a : Po} {r : List Po} (h : SortO (a :: r)) : SortO r ∧ ∀ o ∈ r, a.id < o.id := by
  refine ⟨fun i j hij hj => ?_, ?_⟩
  · have := h (i + 1) (j + 1) (by omega) (by simpa using hj)
    rw [getD_succ, getD_succ] at this
    exact this
  · rw [← all_mem]
    intro j hj
    have := h 0 (j + 1) (by omega) (by simpa using hj)
    rw [getD_zero, getD_succ] at this
    exact this
theorem rdO_nil (w : World) : RdO w (.slice none 0 0) [] := ⟨none, 0, rfl, by simp, by omega, fun h => absurd rfl h⟩
end Go.Proofs.Ytadcmmkifcmknaa
