/- Walks: the reference's parts of an op, and its fault. -/
import Derived.Test.YtjmkfcgnadpbaaaDoorM9
namespace Go.Proofs.YtjmkfcgnadpbaaaDoor
open Go.RowKit
set_option linter.unusedSimpArgs false

set_option maxHeartbeats 4000000 in
set_option maxRecDepth 100000 in
theorem parts_1 (w : World) : Calls Tryd.prog 34 #[.int .i64 1] w fun e w' => e = .returned (.tuple #[.bool false, .int .i64 2, .bool false]) ∧ w' = w := by
  go_enter Tryd.func34, Tryd.ntmps34
  go_wp2_with fail
  first
  | (go_ret; exact ⟨rfl, rfl⟩)
  | exact bodyPost_ret (v := .tuple #[.bool false, .int .i64 2, .bool false]) (by simp [results, Tryd.results34, go_sem]) rfl ⟨rfl, rfl⟩
theorem parts_2 (w : World) : Calls Tryd.prog 34 #[.int .i64 2] w fun e w' => e = .returned (.tuple #[.bool true, .int .i64 0, .bool true]) ∧ w' = w := by
  go_enter Tryd.func34, Tryd.ntmps34
  go_wp2_with fail
  first
  | (go_ret; exact ⟨rfl, rfl⟩)
  | exact bodyPost_ret (v := .tuple #[.bool true, .int .i64 0, .bool true]) (by simp [results, Tryd.results34, go_sem]) rfl ⟨rfl, rfl⟩
theorem parts_3 (w : World) : Calls Tryd.prog 34 #[.int .i64 3] w fun e w' => e = .returned (.tuple #[.bool true, .int .i64 2, .bool false]) ∧ w' = w := by
  go_enter Tryd.func34, Tryd.ntmps34
  go_wp2_with fail
  first
  | (go_ret; exact ⟨rfl, rfl⟩)
  | exact bodyPost_ret (v := .tuple #[.bool true, .int .i64 2, .bool false]) (by simp [results, Tryd.results34, go_sem]) rfl ⟨rfl, rfl⟩
theorem parts_4 (w : World) : Calls Tryd.prog 34 #[.int .i64 4] w fun e w' => e = .returned (.tuple #[.bool true, .int .i64 4, .bool false]) ∧ w' = w := by
  go_enter Tryd.func34, Tryd.ntmps34
  go_wp2_with fail
  first
  | (go_ret; exact ⟨rfl, rfl⟩)
  | exact bodyPost_ret (v := .tuple #[.bool true, .int .i64 4, .bool false]) (by simp [results, Tryd.results34, go_sem]) rfl ⟨rfl, rfl⟩
theorem parts_5 (w : World) : Calls Tryd.prog 34 #[.int .i64 5] w fun e w' => e = .returned (.tuple #[.bool true, .int .i64 1, .bool false]) ∧ w' = w := by
  go_enter Tryd.func34, Tryd.ntmps34
  go_wp2_with fail
  first
  | (go_ret; exact ⟨rfl, rfl⟩)
  | exact bodyPost_ret (v := .tuple #[.bool true, .int .i64 1, .bool false]) (by simp [results, Tryd.results34, go_sem]) rfl ⟨rfl, rfl⟩
theorem parts_6 (w : World) : Calls Tryd.prog 34 #[.int .i64 6] w fun e w' => e = .returned (.tuple #[.bool true, .int .i64 1, .bool false]) ∧ w' = w := by
  go_enter Tryd.func34, Tryd.ntmps34
  go_wp2_with fail
  first
  | (go_ret; exact ⟨rfl, rfl⟩)
  | exact bodyPost_ret (v := .tuple #[.bool true, .int .i64 1, .bool false]) (by simp [results, Tryd.results34, go_sem]) rfl ⟨rfl, rfl⟩
theorem parts_7 (w : World) : Calls Tryd.prog 34 #[.int .i64 7] w fun e w' => e = .returned (.tuple #[.bool true, .int .i64 0, .bool false]) ∧ w' = w := by
  go_enter Tryd.func34, Tryd.ntmps34
  go_wp2_with fail
  first
  | (go_ret; exact ⟨rfl, rfl⟩)
  | exact bodyPost_ret (v := .tuple #[.bool true, .int .i64 0, .bool false]) (by simp [results, Tryd.results34, go_sem]) rfl ⟨rfl, rfl⟩
theorem parts_8 (w : World) : Calls Tryd.prog 34 #[.int .i64 8] w fun e w' => e = .returned (.tuple #[.bool true, .int .i64 2, .bool true]) ∧ w' = w := by
  go_enter Tryd.func34, Tryd.ntmps34
  go_wp2_with fail
  first
  | (go_ret; exact ⟨rfl, rfl⟩)
  | exact bodyPost_ret (v := .tuple #[.bool true, .int .i64 2, .bool true]) (by simp [results, Tryd.results34, go_sem]) rfl ⟨rfl, rfl⟩
theorem parts_9 (w : World) : Calls Tryd.prog 34 #[.int .i64 9] w fun e w' => e = .returned (.tuple #[.bool true, .int .i64 2, .bool true]) ∧ w' = w := by
  go_enter Tryd.func34, Tryd.ntmps34
  go_wp2_with fail
  first
  | (go_ret; exact ⟨rfl, rfl⟩)
  | exact bodyPost_ret (v := .tuple #[.bool true, .int .i64 2, .bool true]) (by simp [results, Tryd.results34, go_sem]) rfl ⟨rfl, rfl⟩
theorem parts_10 (w : World) : Calls Tryd.prog 34 #[.int .i64 10] w fun e w' => e = .returned (.tuple #[.bool false, .int .i64 2, .bool false]) ∧ w' = w := by
  go_enter Tryd.func34, Tryd.ntmps34
  go_wp2_with fail
  first
  | (go_ret; exact ⟨rfl, rfl⟩)
  | exact bodyPost_ret (v := .tuple #[.bool false, .int .i64 2, .bool false]) (by simp [results, Tryd.results34, go_sem]) rfl ⟨rfl, rfl⟩
theorem parts_11 (w : World) : Calls Tryd.prog 34 #[.int .i64 11] w fun e w' => e = .returned (.tuple #[.bool false, .int .i64 1, .bool false]) ∧ w' = w := by
  go_enter Tryd.func34, Tryd.ntmps34
  go_wp2_with fail
  first
  | (go_ret; exact ⟨rfl, rfl⟩)
  | exact bodyPost_ret (v := .tuple #[.bool false, .int .i64 1, .bool false]) (by simp [results, Tryd.results34, go_sem]) rfl ⟨rfl, rfl⟩
theorem parts_12 (w : World) : Calls Tryd.prog 34 #[.int .i64 12] w fun e w' => e = .returned (.tuple #[.bool false, .int .i64 1, .bool false]) ∧ w' = w := by
  go_enter Tryd.func34, Tryd.ntmps34
  go_wp2_with fail
  first
  | (go_ret; exact ⟨rfl, rfl⟩)
  | exact bodyPost_ret (v := .tuple #[.bool false, .int .i64 1, .bool false]) (by simp [results, Tryd.results34, go_sem]) rfl ⟨rfl, rfl⟩
theorem parts_13 (w : World) : Calls Tryd.prog 34 #[.int .i64 13] w fun e w' => e = .returned (.tuple #[.bool false, .int .i64 0, .bool false]) ∧ w' = w := by
  go_enter Tryd.func34, Tryd.ntmps34
  go_wp2_with fail
  first
  | (go_ret; exact ⟨rfl, rfl⟩)
  | exact bodyPost_ret (v := .tuple #[.bool false, .int .i64 0, .bool false]) (by simp [results, Tryd.results34, go_sem]) rfl ⟨rfl, rfl⟩
theorem parts_14 (w : World) : Calls Tryd.prog 34 #[.int .i64 14] w fun e w' => e = .returned (.tuple #[.bool false, .int .i64 0, .bool false]) ∧ w' = w := by
  go_enter Tryd.func34, Tryd.ntmps34
  go_wp2_with fail
  first
  | (go_ret; exact ⟨rfl, rfl⟩)
  | exact bodyPost_ret (v := .tuple #[.bool false, .int .i64 0, .bool false]) (by simp [results, Tryd.results34, go_sem]) rfl ⟨rfl, rfl⟩
theorem parts_15 (w : World) : Calls Tryd.prog 34 #[.int .i64 15] w fun e w' => e = .returned (.tuple #[.bool false, .int .i64 0, .bool false]) ∧ w' = w := by
  go_enter Tryd.func34, Tryd.ntmps34
  go_wp2_with fail
  first
  | (go_ret; exact ⟨rfl, rfl⟩)
  | exact bodyPost_ret (v := .tuple #[.bool false, .int .i64 0, .bool false]) (by simp [results, Tryd.results34, go_sem]) rfl ⟨rfl, rfl⟩
theorem parts_16 (w : World) : Calls Tryd.prog 34 #[.int .i64 16] w fun e w' => e = .returned (.tuple #[.bool false, .int .i64 0, .bool false]) ∧ w' = w := by
  go_enter Tryd.func34, Tryd.ntmps34
  go_wp2_with fail
  first
  | (go_ret; exact ⟨rfl, rfl⟩)
  | exact bodyPost_ret (v := .tuple #[.bool false, .int .i64 0, .bool false]) (by simp [results, Tryd.results34, go_sem]) rfl ⟨rfl, rfl⟩
/-- what kind of op: has it an ID, how many numbers, a picture; the bounds -/
def rowR (k : Int) : Bool × Nat × Bool × List Int × List Int :=
  if k = 1 then (false, 2, false, [1, 1, 0, 0], [8, 8, 0, 0])
  else if k = 2 then (true, 0, true, [0, 0, 0, 0], [0, 0, 0, 0])
  else if k = 3 then (true, 2, false, [-20, -20, 0, 0], [20, 20, 0, 0])
  else if k = 4 then (true, 4, false, [-20, -20, 0, 0], [20, 20, 20, 20])
  else if k = 5 then (true, 1, false, [0, 0, 0, 0], [1, 0, 0, 0])
  else if k = 6 then (true, 1, false, [1, 0, 0, 0], [6, 0, 0, 0])
  else if k = 7 then (true, 0, false, [0, 0, 0, 0], [0, 0, 0, 0])
  else if k = 8 then (true, 2, true, [-20, -20, 0, 0], [20, 20, 0, 0])
  else if k = 9 then (true, 2, true, [-20, -20, 0, 0], [20, 20, 0, 0])
  else if k = 10 then (false, 2, false, [0, 0, 0, 0], [255, 255, 0, 0])
  else if k = 11 then (false, 1, false, [0, 0, 0, 0], [99, 0, 0, 0])
  else if k = 12 then (false, 1, false, [0, 0, 0, 0], [9, 0, 0, 0])
  else if k = 13 then (false, 0, false, [0, 0, 0, 0], [0, 0, 0, 0])
  else if k = 14 then (false, 0, false, [0, 0, 0, 0], [0, 0, 0, 0])
  else if k = 15 then (false, 0, false, [0, 0, 0, 0], [0, 0, 0, 0])
  else if k = 16 then (false, 0, false, [0, 0, 0, 0], [0, 0, 0, 0])
  else (false, 0, false, [0, 0, 0, 0], [0, 0, 0, 0])
def numR (q : Pq) : List Int := [q.a, q.b, q.c, q.d]
def rfC (q : Pq) : Nat :=
  if q.kind < 1 ∨ 16 < q.kind then 3
  else if ((numR q).drop (rowR q.kind).2.1).any (fun n => n != 0) then 3
  else if (!(rowR q.kind).1 && q.id != 0) || (!(rowR q.kind).2.2.1 && (q.pw != 0 || q.ph != 0 || decide (0 < q.ps.length))) then 3
  else if (rowR q.kind).1 && (decide (q.id < 1) || decide (6 < q.id)) then 1
  else if (((numR q).zip ((rowR q.kind).2.2.2.1.zip (rowR q.kind).2.2.2.2)).take (rowR q.kind).2.1).any (fun x => decide (x.1 < x.2.1) || decide (x.2.2 < x.1)) then 1
  else if (rowR q.kind).2.2.1 then checkL q.pw q.ph q.ps else 0
/-- what the reference's OpFault answers -/
def OpfP (q : Pq) (w : World) (e : Ending) (w' : World) : Prop := e = .returned (.int .i64 (rfC q : Nat)) ∧ Below w.heap.size w w'
end Go.Proofs.YtjmkfcgnadpbaaaDoor
