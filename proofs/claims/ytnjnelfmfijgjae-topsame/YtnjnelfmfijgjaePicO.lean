/- picture.Bytes of a picture that may not be. -/
import Derived.Test.YtnjnelfmfijgjaePicG
namespace Go.Proofs.Ytnjnelfmfijgjae
open Go.RowKit

set_option maxHeartbeats 4000000 in
set_option maxRecDepth 100000 in
theorem picBytes_err (W H : Int) (v : Value) (ps : List (Int × Int)) (w : World) (hps : ps.length ≤ 1000000000) (HR : Hid (RdP w v ps)) (c : Nat) (hc : c ≠ 0) (HC : Hid (checkL W H ps = c)) :
    Calls Try.prog 8 #[.agg #[.int .i64 W, .int .i64 H, v]] w fun e w' => e = .returned (.tuple #[.string ⟨#[]⟩, .iface 45 (.int .i64 (c : Int))]) ∧ Below w.heap.size w w' := by
  have HE : Hid (errV c = .iface 45 (.int .i64 (c : Int))) := by unfold Hid errV; rw [if_neg hc]
  obtain ⟨a, cap, hv, hlc, hcap, hh⟩ := HR.out
  obtain ⟨n, HNN⟩ : ∃ n, Hid (ps.length = n) := ⟨_, (rfl : _ = _)⟩
  clear hh
  rw [HNN.out] at hv hlc
  subst hv
  have hb0 : Below w.heap.size w (w.alloc (.cells #[.int .i64 W, .int .i64 H, .slice a n cap] 24)) := (Below.refl _ _).alloc (Nat.le_refl _) _
  have HR0 : Hid (RdP (w.alloc (.cells #[.int .i64 W, .int .i64 H, .slice a n cap] 24)) (.slice a n cap) ps) := HR.out.on hb0
  go_enter Try.func8, Try.ntmps8
  go_wp2_with fail
  refine (check_any W H (.slice a n cap) ps _ hps HR0 c HC).mono ?_
  rintro e w1 ⟨rfl, hb1⟩
  rw [HE.out]
  have hbw1 : Below w.heap.size w w1 := hb0.trans (hb1.mono hb0.size)
  clear hb0 hb1 HR0
  go_wp2_with fail
  exact bodyPost_ret (v := .tuple #[.string ⟨#[]⟩, .iface 45 (.int .i64 (c : Int))]) (by simp [results, Try.results8, go_sem]) rfl ⟨rfl, hbw1⟩
end Go.Proofs.Ytnjnelfmfijgjae
