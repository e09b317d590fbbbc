/- The reference's step, whatever the op. -/
import Derived.Test.YtjmkfcgnadpbaaaDoorRsHeadJ
import Derived.Test.YtjmkfcgnadpbaaaDoorRsBackJ
import Derived.Test.YtjmkfcgnadpbaaaDoorRsSaveJ
import Derived.Test.YtjmkfcgnadpbaaaDoorRsSeekJ
import Derived.Test.YtjmkfcgnadpbaaaDoorRsEndJ
import Derived.Test.YtjmkfcgnadpbaaaDoorRsObjJ
import Derived.Test.YtjmkfcgnadpbaaaDoorRsLoop0J
import Derived.Test.YtjmkfcgnadpbaaaDoorRsLoop1J
import Derived.Test.YtjmkfcgnadpbaaaDoorRsNextJ
import Derived.Test.YtjmkfcgnadpbaaaDoorRsWfulJ
import Derived.Test.YtjmkfcgnadpbaaaDoorRsWaitJ
namespace Go.Proofs.YtjmkfcgnadpbaaaDoor
open Go.RowKit Go.Maps

theorem op_kinds (q : Pq) (h : opC q = 0) : 1 ≤ q.kind ∧ q.kind ≤ 16 := by
  have hex : ∃ s, kindAt q.kind shps = some s := by
    unfold opC at h
    split at h
    · omega
    · exact ⟨_, by assumption⟩
  obtain ⟨s, hs⟩ := hex
  obtain ⟨hm, hk⟩ := kindAt_mem _ _ _ hs
  clear h
  rw [← hk]
  clear hs hk
  simp only [shps, List.mem_cons, List.not_mem_nil, or_false] at hm
  rcases hm with rfl | rfl | rfl | rfl | rfl | rfl | rfl | rfl | rfl | rfl | rfl | rfl | rfl | rfl | rfl | rfl <;> exact ⟨by decide, by decide⟩
theorem rstep_any (b : Nat) (Fb : Nat → Prop) (qs : List Pq) (st : Ms) (w : World) (HM : Hid (RMac w b Fb qs st)) (HBK : Hid (Book qs)) (HW : Hid (Way qs st)) :
    Calls Tryd.prog 12 #[.pointer (some ⟨b, 0, none⟩)] w fun e w' => RMacP b Fb qs st (stepM qs st) w e w' := by
  obtain ⟨k1, k2⟩ := op_kinds _ (HBK.out.ok st.pc HW.out.on)
  by_cases h1 : (qs.getD st.pc pq0).kind = 1
  · exact rst_head b Fb qs st w HM HBK HW h1
  by_cases h10 : (qs.getD st.pc pq0).kind = 10
  · exact rst_back b Fb qs st w HM HBK HW h10
  by_cases h11 : (qs.getD st.pc pq0).kind = 11
  · by_cases h40 : 40 ≤ st.frs.length
    · exact rst_wfull b Fb qs st w HM HBK HW h11 h40
    · exact rst_wait b Fb qs st w HM HBK HW h11 h40
  by_cases h12 : (qs.getD st.pc pq0).kind = 12
  · by_cases hz : (qs.getD st.pc pq0).a = 0
    · exact rst_loop0 b Fb qs st w HM HBK HW h12 hz
    · exact rst_loop1 b Fb qs st w HM HBK HW h12 hz
  by_cases h13 : (qs.getD st.pc pq0).kind = 13
  · exact rst_next b Fb qs st w HM HBK HW h13
  by_cases h14 : (qs.getD st.pc pq0).kind = 14
  · exact rst_save b Fb qs st w HM HBK HW h14
  by_cases h15 : (qs.getD st.pc pq0).kind = 15
  · exact rst_seek b Fb qs st w HM HBK HW h15
  by_cases h16 : (qs.getD st.pc pq0).kind = 16
  · exact rst_end b Fb qs st w HM HBK HW h16
  exact rst_obj b Fb qs st w HM HBK HW ⟨by omega, by omega⟩
end Go.Proofs.YtjmkfcgnadpbaaaDoor
