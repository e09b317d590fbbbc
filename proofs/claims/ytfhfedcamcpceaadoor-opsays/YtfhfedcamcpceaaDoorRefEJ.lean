/- The reference's PictureBytes of whatever picture. -/
import Derived.Test.YtfhfedcamcpceaaDoorM5
import Derived.Test.YtfhfedcamcpceaaDoorRefDJ
namespace Go.Proofs.YtfhfedcamcpceaaDoor
open Go.RowKit

set_option maxHeartbeats 4000000 in
set_option maxRecDepth 100000 in
theorem refBytes_err (W H : Int) (v : Value) (ps : List (Int × Int)) (w : World) (hps : ps.length ≤ 1000000000) (HR : Hid (RdP w v ps)) (c : Nat) (hc : c ≠ 0) (hcb : c ≤ 100) (HC : Hid (checkL W H ps = c)) :
    Calls Tryd.prog 27 #[.agg #[.int .i64 W, .int .i64 H, v]] w fun e w' => e = .returned (.tuple #[.string ⟨#[]⟩, .int .i64 (c : Int)]) ∧ Below w.heap.size w w' := by
  obtain ⟨a, cap, hv, hlc, hcap, hh⟩ := HR.out
  obtain ⟨n, HNN⟩ : ∃ n, Hid (ps.length = n) := ⟨_, (rfl : _ = _)⟩
  clear hh
  rw [HNN.out] at hv hlc
  subst hv
  have hb0 : Below w.heap.size w (w.alloc (.cells #[.int .i64 W, .int .i64 H, .slice a n cap] 24)) := (Below.refl _ _).alloc (Nat.le_refl _) _
  have HR0 : Hid (RdP (w.alloc (.cells #[.int .i64 W, .int .i64 H, .slice a n cap] 24)) (.slice a n cap) ps) := HR.out.on hb0
  have hcp : (0 : Int) < (c : Int) := by omega
  go_enter Tryd.func27, Tryd.ntmps27
  go_wp2_with fail
  refine (fault_any W H (.slice a n cap) ps _ hps HR0 c HC).mono ?_
  rintro e w1 ⟨rfl, hb1⟩
  have hbw1 : Below w.heap.size w w1 := hb0.trans (hb1.mono hb0.size)
  clear hb0 hb1 HR0
  go_wp2_with fail
  exact bodyPost_ret (v := .tuple #[.string ⟨#[]⟩, .int .i64 (c : Int)]) (by simp [results, Tryd.results27, go_sem]) rfl ⟨rfl, hbw1⟩

set_option maxRecDepth 100000 in
theorem flatP_append (a b : List (Int × Int)) : flatP (a ++ b) = flatP a ++ flatP b := by
  induction a with
  | nil => rfl
  | cons p a ih => obtain ⟨n, d⟩ := p; simp [flatP, ih]
set_option maxRecDepth 100000 in
theorem flatP_drop : ∀ (k : Nat) (ps : List (Int × Int)), flatP (ps.drop k) = (flatP ps).drop (2 * k)
  | 0, _ => by simp
  | k + 1, [] => by simp [flatP]
  | k + 1, (v, a) :: r => by
    rw [List.drop_succ_cons, flatP_drop k r, flatP, show 2 * (k + 1) = 2 * k + 1 + 1 by omega, List.drop_succ_cons, List.drop_succ_cons]
set_option maxRecDepth 100000 in
theorem flatP_take : ∀ (k : Nat) (ps : List (Int × Int)), flatP (ps.take k) = (flatP ps).take (2 * k)
  | 0, _ => by simp [flatP]
  | k + 1, [] => by simp [flatP]
  | k + 1, (v, a) :: r => by
    rw [List.take_succ_cons, flatP, flatP_take k r, flatP, show 2 * (k + 1) = 2 * k + 1 + 1 by omega, List.take_succ_cons, List.take_succ_cons]

set_option maxRecDepth 100000 in
theorem rowOf_flat (ps : List (Int × Int)) (W k : Nat) : rowOf ps W k = rowG (flatP ps) (2 * W) k := by
  unfold rowOf rowG
  rw [flatP_take, flatP_drop, Nat.mul_left_comm]
set_option maxRecDepth 100000 in
theorem aboveOf_flat (ps : List (Int × Int)) (W k : Nat) : aboveOf ps W k = abG (flatP ps) (2 * W) k := by
  unfold aboveOf abG
  by_cases h : k = 0
  · rw [if_pos h, if_pos h]
  · rw [if_neg h, if_neg h, rowOf_flat]
set_option maxRecDepth 100000 in
theorem rowsTo_flat (ps : List (Int × Int)) (W : Nat) : ∀ k, rowsTo ps W k = rowsG (flatP ps) (2 * W) k
  | 0 => rfl
  | k + 1 => by rw [rowsTo, rowsG, rowsTo_flat ps W k, rowOf_flat, aboveOf_flat]

set_option maxRecDepth 100000 in
/-- PictureBytes of a picture that may be: what Bytes tells -/
theorem refBytes_at (W H : Nat) (v : Value) (ps : List (Int × Int)) (w : World) (HR : Hid (RdP w v ps)) (HC : Hid (checkL (W : Int) (H : Int) ps = 0)) (t : ByteArray) (HT : Hid (picBytes W H ps = t.data.toList)) :
    Calls Tryd.prog 27 #[.agg #[.int .i64 (W : Int), .int .i64 (H : Int), v]] w fun e w' => e = .returned (.tuple #[.string t, .int .i64 0]) ∧ Below w.heap.size w w' := by
  obtain ⟨hW1, hW8, hH1, hH8, hlen, hall⟩ := check_ok HC.out
  have hl : ps.length = W * H := by
    have h : ((W * H : Nat) : Int) = (W : Int) * (H : Int) := by simp
    omega
  have hpf := pixOf_flatP ps hall
  obtain ⟨a, cap, hv, hlc, hcap, hh⟩ := HR.out
  have hl64 : ps.length ≤ 64 := by rw [hl]; have := Nat.mul_le_mul (show W ≤ 8 by omega) (show H ≤ 8 by omega); omega
  subst hv
  have h := refBytes_ok W H a ps.length cap (flatP ps) w (by rw [hpf]; exact HR) (by rw [hpf]; exact HC) (by unfold Hid; rw [flatP_len, hl, Nat.mul_left_comm H 2 W, Nat.mul_comm H W]) (by omega) (by omega) (by omega) (by omega) hl64
  rw [← rowsTo_flat, show UInt8.ofNat W :: UInt8.ofNat H :: Fb.packL (rowsTo ps W H) = picBytes W H ps from rfl, HT.out, str_self] at h
  exact h
end Go.Proofs.YtfhfedcamcpceaaDoor
