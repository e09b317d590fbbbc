/- Walk of the law's number. -/
import Derived.Test.YtjoggjjkafamlabPackG
namespace Go.Proofs.Ytjoggjjkafamlab
open Go.RowKit

theorem number_zero (w : World) : Calls Try.prog 9 #[.nilIface] w fun e w' => e = .returned (.int .i64 0) ∧ w = w' := by
  go_enter Try.func9, Try.ntmps9
  go_wp2
  go_ret
  exact ⟨rfl, rfl⟩

theorem assert_errno (W : World) (n : Int) : (Instr.typeAssert (.iface 52 (.int .i64 n)) 25 52 true).run Try.prog W = .ok (.tuple #[.int .i64 n, .bool true]) W := by kernel_rfl

theorem number_some (n : Int) (w : World) : Calls Try.prog 9 #[.iface 52 (.int .i64 n)] w fun e w' => e = .returned (.int .i64 n) ∧ w = w' := by
  have ha := fun W => assert_errno W n
  go_enter Try.func9, Try.ntmps9
  go_wp2
  go_ret
  exact ⟨rfl, rfl⟩

end Go.Proofs.Ytjoggjjkafamlab
