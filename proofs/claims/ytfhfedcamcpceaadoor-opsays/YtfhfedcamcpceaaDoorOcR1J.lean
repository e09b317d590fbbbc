/- The reference's parts of a kind, by the table of shapes. -- s1 -/
import Derived.Test.YtfhfedcamcpceaaDoorRefPfJ
import Derived.Test.YtfhfedcamcpceaaDoorRfEqJ
import Derived.Test.YtfhfedcamcpceaaDoorOcMJ
import Derived.Test.YtfhfedcamcpceaaDoorNmAJ
namespace Go.Proofs.YtfhfedcamcpceaaDoor
open Go.RowKit

theorem parts_at (kd : Int) (s : Shp) (h : kindAt kd shps = some s) (w : World) : Calls Tryd.prog 26 #[.int .i64 kd] w fun e w' => e = .returned (.tuple #[.bool s.id, .int .i64 (s.nums : Int), .bool s.pic]) ∧ w' = w := by
  obtain ⟨hm, hk⟩ := kindAt_mem _ _ _ h
  subst hk
  clear h
  simp only [shps, List.mem_cons, List.not_mem_nil, or_false] at hm
  rcases hm with rfl | rfl | rfl | rfl | rfl | rfl | rfl | rfl | rfl | rfl | rfl | rfl | rfl | rfl | rfl | rfl
  · exact parts_1 w
  · exact parts_2 w
  · exact parts_3 w
  · exact parts_4 w
  · exact parts_5 w
  · exact parts_6 w
  · exact parts_7 w
  · exact parts_8 w
  · exact parts_9 w
  · exact parts_10 w
  · exact parts_11 w
  · exact parts_12 w
  · exact parts_13 w
  · exact parts_14 w
  · exact parts_15 w
  · exact parts_16 w
theorem name_kind (kd : Int) (s : Shp) (h : kindAt kd shps = some s) : ∃ k : Nat, kd = (k : Int) ∧ 1 ≤ k ∧ k ≤ 16 ∧ nmsB[k]? = some s.name := by
  obtain ⟨hm, hk⟩ := kindAt_mem _ _ _ h
  subst hk
  clear h
  refine ⟨s.kind, rfl, ?_⟩
  simp only [shps, List.mem_cons, List.not_mem_nil, or_false] at hm
  rcases hm with rfl | rfl | rfl | rfl | rfl | rfl | rfl | rfl | rfl | rfl | rfl | rfl | rfl | rfl | rfl | rfl <;> exact ⟨by decide, by decide, rfl⟩
end Go.Proofs.YtfhfedcamcpceaaDoor
