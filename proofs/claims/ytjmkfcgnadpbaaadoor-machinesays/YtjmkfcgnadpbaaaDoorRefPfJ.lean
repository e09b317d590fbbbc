/- Walk: the reference's fault of an op. -/
import Derived.Test.YtjmkfcgnadpbaaaDoorRefPaJ
import Derived.Test.YtjmkfcgnadpbaaaDoorRefPbJ
import Derived.Test.YtjmkfcgnadpbaaaDoorRefPcJ
import Derived.Test.YtjmkfcgnadpbaaaDoorRefPdJ
import Derived.Test.YtjmkfcgnadpbaaaDoorRefPeJ
namespace Go.Proofs.YtjmkfcgnadpbaaaDoor
open Go.RowKit

set_option maxHeartbeats 8000000 in
set_option maxRecDepth 100000 in
theorem opf_out (q : Pq) (u : Value) (w : World) (hk : q.kind < 1 ∨ 16 < q.kind) (HR : Hid (RdP w u q.ps)) :
    Calls Tryd.prog 24 #[opV q u] w fun e w' => OpfP q w e w' := by
  obtain ⟨ua, cu, hvu, _, _, _⟩ := HR.out
  obtain ⟨np, HNP⟩ : ∃ n, Hid (q.ps.length = n) := ⟨_, (rfl : _ = _)⟩
  rw [HNP.out] at hvu
  subst hvu
  have hc : rfC q = 3 := by unfold rfC; rw [if_pos hk]
  unfold OpfP opV
  rw [hc]
  by_cases h1 : q.kind < 1
  · go_enter Tryd.func24, Tryd.ntmps24
    go_wp2_with fail
    go_ret
    exact ⟨rfl, (Below.refl _ _).alloc (Nat.le_refl _) _⟩
  · have h2 : 16 < q.kind := by omega
    go_enter Tryd.func24, Tryd.ntmps24
    go_wp2_with fail
    go_ret
    exact ⟨rfl, (Below.refl _ _).alloc (Nat.le_refl _) _⟩
theorem opf_any (q : Pq) (u : Value) (w : World) (hps : q.ps.length ≤ 1000000000) (HR : Hid (RdP w u q.ps)) :
    Calls Tryd.prog 24 #[opV q u] w fun e w' => OpfP q w e w' := by
  by_cases hk : q.kind < 1 ∨ 16 < q.kind
  · exact opf_out q u w hk HR
  obtain ⟨kd, id, a, b, c, d, pw, ph, ps⟩ := q
  simp only at hk hps HR
  have hk2 : kd = 1 ∨ kd = 2 ∨ kd = 3 ∨ kd = 4 ∨ kd = 5 ∨ kd = 6 ∨ kd = 7 ∨ kd = 8 ∨ kd = 9 ∨ kd = 10 ∨ kd = 11 ∨ kd = 12 ∨ kd = 13 ∨ kd = 14 ∨ kd = 15 ∨ kd = 16 := by omega
  rcases hk2 with rfl | rfl | rfl | rfl | rfl | rfl | rfl | rfl | rfl | rfl | rfl | rfl | rfl | rfl | rfl | rfl
  · exact opf_1 id a b c d pw ph u ps w hps HR
  · exact opf_2 id a b c d pw ph u ps w hps HR
  · exact opf_3 id a b c d pw ph u ps w hps HR
  · exact opf_4 id a b c d pw ph u ps w hps HR
  · exact opf_5 id a b c d pw ph u ps w hps HR
  · exact opf_6 id a b c d pw ph u ps w hps HR
  · exact opf_7 id a b c d pw ph u ps w hps HR
  · exact opf_8 id a b c d pw ph u ps w hps HR
  · exact opf_9 id a b c d pw ph u ps w hps HR
  · exact opf_10 id a b c d pw ph u ps w hps HR
  · exact opf_11 id a b c d pw ph u ps w hps HR
  · exact opf_12 id a b c d pw ph u ps w hps HR
  · exact opf_13 id a b c d pw ph u ps w hps HR
  · exact opf_14 id a b c d pw ph u ps w hps HR
  · exact opf_15 id a b c d pw ph u ps w hps HR
  · exact opf_16 id a b c d pw ph u ps w hps HR
end Go.Proofs.YtjmkfcgnadpbaaaDoor
