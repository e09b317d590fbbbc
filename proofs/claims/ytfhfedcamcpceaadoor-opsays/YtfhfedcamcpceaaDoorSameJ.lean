/- Walk of the law's same. -/
import Derived.Test.YtfhfedcamcpceaaDoorM5
namespace Go.Proofs.YtfhfedcamcpceaaDoor
open Go.RowKit

theorem assert_same (W : World) (n : Int) : (Instr.typeAssert (.iface 69 (.int .i64 n)) 32 69 true).run Tryd.prog W = .ok (.tuple #[.int .i64 n, .bool true]) W := by kernel_rfl

set_option maxRecDepth 100000 in
theorem same_ok (c : Nat) (v : Value) (hv : Hid (errV c = v)) (w : World) : Calls Tryd.prog 13 #[v, .int .i64 (c : Int)] w fun e w' => e = .returned (.bool true) ∧ w = w' := by
  by_cases h : c = 0
  · subst h
    have hv' : v = .nilIface := hv.out.symm
    subst hv'
    go_enter Tryd.func13, Tryd.ntmps13
    go_wp2
    go_ret
    exact ⟨rfl, rfl⟩
  · have hv' : v = .iface 69 (.int .i64 (c : Int)) := by rw [← hv.out]; unfold errV; rw [if_neg h]
    subst hv'
    clear hv
    have hpos : (0 : Int) < (c : Int) := by omega
    have ha := fun W => assert_same W (c : Int)
    go_enter Tryd.func13, Tryd.ntmps13
    go_wp2
    go_ret
    exact ⟨rfl, rfl⟩

set_option maxRecDepth 100000 in
theorem errV_some (c : Nat) : ∃ v, Hid (errV c = v) := ⟨_, (rfl : _ = _)⟩

end Go.Proofs.YtfhfedcamcpceaaDoor
