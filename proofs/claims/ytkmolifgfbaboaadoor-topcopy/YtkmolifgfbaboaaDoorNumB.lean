/- Walk of the law's number. -/
import Derived.Test.YtkmolifgfbaboaaDoorBase
namespace Go.Proofs.YtkmolifgfbaboaaDoor
open Go.RowKit

theorem number_zero (w : World) : Calls Tryd.prog 13 #[.nilIface] w fun e w' => e = .returned (.int .i64 0) ∧ w = w' := by
  go_enter Tryd.func13, Tryd.ntmps13
  go_wp2
  go_ret
  exact ⟨rfl, rfl⟩

theorem assert_errno (W : World) (n : Int) : (Instr.typeAssert (.iface 50 (.int .i64 n)) 29 50 true).run Tryd.prog W = .ok (.tuple #[.int .i64 n, .bool true]) W := by kernel_rfl

theorem number_some (n : Int) (w : World) : Calls Tryd.prog 13 #[.iface 50 (.int .i64 n)] w fun e w' => e = .returned (.int .i64 n) ∧ w = w' := by
  have ha := fun W => assert_errno W n
  go_enter Tryd.func13, Tryd.ntmps13
  go_wp2
  go_ret
  exact ⟨rfl, rfl⟩

end Go.Proofs.YtkmolifgfbaboaaDoor
