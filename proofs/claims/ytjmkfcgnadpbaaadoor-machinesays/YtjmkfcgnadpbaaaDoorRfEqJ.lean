/- The reference's and the program's numbers of an op's error are the same. -- s1 -/
import Derived.Test.YtjmkfcgnadpbaaaDoorM9
import Derived.Test.YtjmkfcgnadpbaaaDoorRefPJ
namespace Go.Proofs.YtjmkfcgnadpbaaaDoor
open Go.RowKit

set_option maxRecDepth 100000 in
set_option maxHeartbeats 8000000 in
theorem rf_eq (q : Pq) : rfC q = opC q := by
  obtain ⟨kd, id, a, b, c, d, pw, ph, ps⟩ := q
  by_cases hk : kd < 1 ∨ 16 < kd
  · have h1 : kindAt kd shps = none := by
      simp only [shps, kindAt]
      repeat (rw [if_neg (by simp; omega)])
    unfold rfC opC
    simp only [if_pos hk, h1]
  have hk2 : kd = 1 ∨ kd = 2 ∨ kd = 3 ∨ kd = 4 ∨ kd = 5 ∨ kd = 6 ∨ kd = 7 ∨ kd = 8 ∨ kd = 9 ∨ kd = 10 ∨ kd = 11 ∨ kd = 12 ∨ kd = 13 ∨ kd = 14 ∨ kd = 15 ∨ kd = 16 := by omega
  clear hk
  unfold rfC opC forL inB
  dsimp only [numR, nums4]
  generalize checkL pw ph ps = x
  generalize ps.length = n
  rcases hk2 with rfl | rfl | rfl | rfl | rfl | rfl | rfl | rfl | rfl | rfl | rfl | rfl | rfl | rfl | rfl | rfl
  all_goals
    simp [rowR, kindAt, shps, rectC_zero]
  all_goals
    repeat' split
  all_goals first | rfl | omega | (exfalso; omega)
end Go.Proofs.YtjmkfcgnadpbaaaDoor
