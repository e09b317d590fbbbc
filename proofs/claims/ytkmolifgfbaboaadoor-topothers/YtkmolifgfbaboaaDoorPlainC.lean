/- Walk of slices.Repeat of one pixel. -/
import Derived.Test.YtkmolifgfbaboaaDoorPlainB
import Derived.Test.YtkmolifgfbaboaaDoorPlainM
namespace Go.Proofs.YtkmolifgfbaboaaDoor
open Go.RowKit

theorem hid_p {p : Prop} (h : p) : Hid p := h
/-- the whole row, as its block has it -/
theorem own_full {W : World} {B g n : Nat} {e : TypeId} {size : Nat} {xs : List Value} (h : W.ownsRow B e size (.slice (some ⟨g, 0, none⟩) n n) n xs) : W.heap[g]? = some (.cells xs.toArray e (0, 0)) := by
  rcases h.2 with ⟨h0, _⟩ | ⟨g', cap, cur, hv, _, hg, _, _, hsz, htk⟩
  · simp at h0
  · simp only [Value.slice.injEq, Option.some.injEq, Addr.mk.injEq, and_true, true_and] at hv
    obtain ⟨rfl, rfl⟩ := hv
    rw [List.take_of_length_le (by simp [hsz])] at htk
    rw [hg, ← htk]
theorem full_own {W : World} {B g n : Nat} {e : TypeId} {size : Nat} {xs : List Value} (h : W.heap[g]? = some (.cells xs.toArray e (0, 0))) (hB : B ≤ g) (hn : n ≤ maxLen) (hl : xs.length = n * size) : W.ownsRow B e size (.slice (some ⟨g, 0, none⟩) n n) n xs :=
  ⟨hl, .inr ⟨g, n, xs.toArray, rfl, hB, h, Nat.le_refl _, hn, by simp [hl], by rw [List.take_of_length_le (by simp [hl])]⟩⟩

end Go.Proofs.YtkmolifgfbaboaaDoor
