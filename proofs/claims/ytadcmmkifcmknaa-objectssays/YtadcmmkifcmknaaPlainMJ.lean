/- A row of pixels that is filled by copying. -/
import Derived.Test.YtadcmmkifcmknaaM6
namespace Go.Proofs.Ytadcmmkifcmknaa
open Go.RowKit

theorem pixCells_app (a b : List (Int × Int)) : pixCells (a ++ b) = pixCells a ++ pixCells b := by
  induction a with
  | nil => rfl
  | cons p a ih => obtain ⟨n, d⟩ := p; simp [pixCells, ih]
theorem pixCells_take (a : List (Int × Int)) (k : Nat) : (pixCells a).take (k * 2) = pixCells (a.take k) := by
  induction k generalizing a with
  | zero => simp [pixCells]
  | succ k ih =>
    cases a with
    | nil => simp [pixCells]
    | cons p a => obtain ⟨x, y⟩ := p; rw [show (k + 1) * 2 = k * 2 + 1 + 1 by omega]; simp [pixCells, ih]
theorem pixCells_drop (a : List (Int × Int)) (k : Nat) : (pixCells a).drop (k * 2) = pixCells (a.drop k) := by
  induction k generalizing a with
  | zero => simp
  | succ k ih =>
    cases a with
    | nil => simp [pixCells]
    | cons p a => obtain ⟨x, y⟩ := p; rw [show (k + 1) * 2 = k * 2 + 1 + 1 by omega]; simp [pixCells, ih]
/-- k of n are filled -/
def fillL (k n : Nat) (x : Int × Int) : List (Int × Int) := List.replicate k x ++ List.replicate (n - k) (0, 0)
theorem fill_len (k n : Nat) (x : Int × Int) (h : k ≤ n) : (fillL k n x).length = n := by unfold fillL; simp; omega
theorem fill_more (k m n : Nat) (x : Int × Int) (h : k + m ≤ n) :
    (pixCells (fillL k n x)).take (k * 2) ++ pixCells (List.replicate m x) ++ (pixCells (fillL k n x)).drop (k * 2 + m * 2) = pixCells (fillL (k + m) n x) := by
  rw [pixCells_take, show k * 2 + m * 2 = (k + m) * 2 by omega, pixCells_drop, ← pixCells_app, ← pixCells_app]
  congr 1
  unfold fillL
  rw [List.take_left' (by simp), List.drop_append]
  simp only [List.drop_replicate, List.length_replicate]
  rw [show k - (k + m) = 0 by omega, List.replicate_zero, List.nil_append, List.replicate_append_replicate, show n - k - (k + m - k) = n - (k + m) by omega]
theorem fill_all (n : Nat) (x : Int × Int) : fillL n n x = List.replicate n x := by unfold fillL; simp
theorem fill_none (n : Nat) (x : Int × Int) : fillL 0 n x = List.replicate n (0, 0) := by unfold fillL; simp
theorem made_pix (n : Nat) : (madeCells #[Value.int .i64 0, Value.int .i64 0] (n * 2)).toList = pixCells (List.replicate n (0, 0)) := by
  apply List.ext_getElem?
  intro j
  by_cases hj : j < n * 2
  · have hp := pixCells_at (List.replicate n (0, 0)) (j / 2) (by simp; omega)
    have hg : (List.replicate n ((0 : Int), (0 : Int))).getD (j / 2) (0, 0) = (0, 0) := by
      rw [List.getD_eq_getElem?_getD, List.getElem?_replicate]; split <;> rfl
    rw [hg] at hp
    have h2 : j % 2 = 0 ∨ j % 2 = 1 := by omega
    rcases h2 with h | h
    · rw [show j = j / 2 * 2 by omega, hp.1]
      have : j / 2 * 2 < n * 2 := by omega
      simp [madeCells, this]
    · rw [show j = j / 2 * 2 + 1 by omega, hp.2]
      have : j / 2 * 2 + 1 < n * 2 := by omega
      simp [madeCells, this]
  · rw [List.getElem?_eq_none (by simp [madeCells]; omega), List.getElem?_eq_none (by rw [pixCells_length]; simp; omega)]
end Go.Proofs.Ytadcmmkifcmknaa
