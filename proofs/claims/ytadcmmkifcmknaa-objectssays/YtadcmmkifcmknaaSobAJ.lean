/- Walk of the laws' SameObjects, of lists that are the same. -/
import Derived.Test.YtadcmmkifcmknaaM6
import Derived.Test.YtadcmmkifcmknaaSoAJ
import Derived.StillTailTactics
namespace Go.Proofs.Ytadcmmkifcmknaa
open Go.RowKit

set_option maxHeartbeats 8000000 in
set_option maxRecDepth 100000 in
theorem sameObs_any (v0 v1 : Value) (os : List Po) (w : World) (hos : os.length ≤ 1000) (hps : ∀ o ∈ os, o.ps.length ≤ 1000) (R0 : Hid (RdO w v0 os)) (R1 : Hid (RdO w v1 os)) :
    Calls Try.prog 14 #[v0, v1] w fun e w' => e = .returned (.bool true) ∧ Below w.heap.size w w' := by
  obtain ⟨a0, cap0, hv0, hl0, hm0⟩ := R0.out.shape
  obtain ⟨a1, cap1, hv1, hl1, hm1⟩ := R1.out.shape
  obtain ⟨n, HN⟩ : ∃ n, Hid (os.length = n) := ⟨_, (rfl : _ = _)⟩
  rw [HN.out] at hv0 hl0 hv1 hl1 hos
  subst hv0 hv1
  have HPS : Hid (∀ o ∈ os, o.ps.length ≤ 1000) := hps
  clear hps
  have hbz : Below w.heap.size w w := Below.refl _ _
  have hnn : ((n : Int) != (n : Int)) = false := by simp
  go_enter Try.func14, Try.ntmps14
  go_wp2_with fail
  go_loopw [5, 6] (fun i _ wr => ∃ k : Nat, k ≤ n ∧ i = .int .i64 k ∧ Below w.heap.size w wr) (fun i _ _ => n - (intOf i).toNat)
  case atStart => exact ⟨0, by omega, rfl, hbz⟩
  case round =>
    obtain ⟨k, hk, rfl, hbr⟩ := hrel
    by_cases hlt : k < n
    · have hlt' : k < os.length := by rw [HN.out]; exact hlt
      obtain ⟨x, HX⟩ : ∃ x, Hid (os.getD k po0 = x) := ⟨_, (rfl : _ = _)⟩
      have hxp : x.ps.length ≤ 1000 := by
        rw [← HX.out]
        refine HPS.out _ ?_
        rw [List.getD_eq_getElem?_getD, List.getElem?_eq_getElem hlt']
        exact List.getElem_mem hlt'
      obtain ⟨g, o, ua, m, uc, rfl, hg, ⟨c0, c1, c2, c3, c4, c5, c6, c7, c8, c9, c10⟩, HU0, HM0⟩ := (R0.out.on hbr).at hlt HX
      obtain ⟨g', o', va, m', vc, rfl, hg', ⟨d0, d1, d2, d3, d4, d5, d6, d7, d8, d9, d10⟩, HU1, HM1⟩ := (R1.out.on hbr).at hlt HX
      have hmm : m = m' := by rw [← HM1.out, ← HM0.out]
      subst hmm
      have hki0 : (0 : Int) ≤ (k : Int) := by omega
      have hki1 : (k : Int) < (n : Int) := by omega
      have HU0d : Hid (RdP wr.drew (.slice ua m uc) x.ps) := HU0.out.on (Below.refl _ _).drew
      have HU1d : Hid (RdP wr.drew (.slice va m vc) x.ps) := HU1.out.on (Below.refl _ _).drew
      have hso := sameOb_any x (.slice ua m uc) (.slice va m vc) wr.drew hxp HU0d HU1d
      unfold poV objV at hso
      have HSO := hid_of2 hso
      clear hso hlt' HX HU0 HU1
      go_wp2_with fail
      go_still_tail 8, (by kernel_rfl)
      go_wp2_with fail
      refine HSO.out.mono ?_
      rintro e w2 ⟨rfl, hb2⟩
      have hbb2 : Below w.heap.size w w2 := (hbr.trans ((Below.refl wr.heap.size wr).drew.mono hbr.size)).trans (Below.mono (show Below wr.heap.size wr.drew w2 from ⟨hb2.os, hb2.tape, hb2.output, hb2.size, hb2.block⟩) hbr.size)
      clear hb2 HSO HU0d HU1d c0 c1 c2 c3 c4 c5 c6 c7 c8 c9 c10 d0 d1 d2 d3 d4 d5 d6 d7 d8 d9 d10
      go_wp2_with fail
      go_roundw
      case rel => exact ⟨k + 1, by omega, by go_num, hbb2⟩
      case measure => simp [intOf]; omega
    · obtain rfl : k = n := by omega
      go_wp2_with fail
      go_ret
      exact ⟨rfl, hbr⟩
end Go.Proofs.Ytadcmmkifcmknaa
