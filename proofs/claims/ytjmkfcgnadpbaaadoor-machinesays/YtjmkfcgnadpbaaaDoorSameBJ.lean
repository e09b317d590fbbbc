/- Walk of the law's same. -/
import Derived.Test.YtjmkfcgnadpbaaaDoorM9
namespace Go.Proofs.YtjmkfcgnadpbaaaDoor
open Go.RowKit

theorem assert_same (W : World) (n : Int) : (Instr.typeAssert (.iface 58 (.int .i64 n)) 27 58 true).run Tryd.prog W = .ok (.tuple #[.int .i64 n, .bool true]) W := by kernel_rfl

set_option maxRecDepth 100000 in
theorem same_ok (c : Nat) (v : Value) (hv : Hid (errV c = v)) (w : World) : Calls Tryd.prog 8 #[v, .int .i64 (c : Int)] w fun e w' => e = .returned (.bool true) ∧ w = w' := by
  by_cases h : c = 0
  · subst h
    have hv' : v = .nilIface := hv.out.symm
    subst hv'
    go_enter Tryd.func8, Tryd.ntmps8
    go_wp2
    go_ret
    exact ⟨rfl, rfl⟩
  · have hv' : v = .iface 58 (.int .i64 (c : Int)) := by rw [← hv.out]; unfold errV; rw [if_neg h]
    subst hv'
    clear hv
    have hpos : (0 : Int) < (c : Int) := by omega
    have ha := fun W => assert_same W (c : Int)
    go_enter Tryd.func8, Tryd.ntmps8
    go_wp2
    go_ret
    exact ⟨rfl, rfl⟩

theorem errV_some (c : Nat) : ∃ v, Hid (errV c = v) := ⟨_, (rfl : _ = _)⟩

end Go.Proofs.YtjmkfcgnadpbaaaDoor
