/- Walk: the reference's fault of an op, kinds 7 to 9. -/
import Derived.Test.YtjmkfcgnadpbaaaDoorRefPJ
namespace Go.Proofs.YtjmkfcgnadpbaaaDoor
open Go.RowKit
set_option linter.unusedSimpArgs false

set_option maxHeartbeats 8000000 in
set_option maxRecDepth 100000 in
theorem opf_7 (id qa qb qc qd pw ph : Int) (u : Value) (ps : List (Int × Int)) (w : World) (hps : ps.length ≤ 1000000000) (HR : Hid (RdP w u ps)) :
    Calls Tryd.prog 24 #[opV ⟨7, id, qa, qb, qc, qd, pw, ph, ps⟩ u] w fun e w' => OpfP ⟨7, id, qa, qb, qc, qd, pw, ph, ps⟩ w e w' := by
  obtain ⟨ua, cu, hvu, _, _, _⟩ := HR.out
  obtain ⟨np, HNP⟩ : ∃ n, Hid (ps.length = n) := ⟨_, (rfl : _ = _)⟩
  rw [HNP.out] at hvu hps
  subst hvu
  unfold OpfP opV
  go_enter Tryd.func24, Tryd.ntmps24
  go_wp2_with fail
  refine (parts_7 _).mono ?_
  rintro e w1 ⟨rfl, rfl⟩
  go_wp2_with fail
  refine wp_loop_rounds 5 ?_
  by_cases hqa : qa = 0
  case neg =>
    rw [rounds_succ]
    go_wp2_with fail
    go_ret
    refine ⟨by rw [show rfC _ = 3 by (simp [rfC, rowR, numR, HNP.out, hqa]; try ((repeat' (first | intro _ | split)) <;> first | rfl | omega))]; rfl, ?_⟩
    (repeat (first | refine below_drewN ?_ _ | refine Below.alloc ?_ (by simp; try omega) _ | refine Below.setCell ?_ (by simp; try omega) _)); exact Below.refl _ _
  subst hqa
  rw [rounds_succ]
  go_wp2_with fail
  by_cases hqb : qb = 0
  case neg =>
    rw [rounds_succ]
    go_wp2_with fail
    go_ret
    refine ⟨by rw [show rfC _ = 3 by (simp [rfC, rowR, numR, HNP.out, hqb]; try ((repeat' (first | intro _ | split)) <;> first | rfl | omega))]; rfl, ?_⟩
    (repeat (first | refine below_drewN ?_ _ | refine Below.alloc ?_ (by simp; try omega) _ | refine Below.setCell ?_ (by simp; try omega) _)); exact Below.refl _ _
  subst hqb
  rw [rounds_succ]
  go_wp2_with fail
  by_cases hqc : qc = 0
  case neg =>
    rw [rounds_succ]
    go_wp2_with fail
    go_ret
    refine ⟨by rw [show rfC _ = 3 by (simp [rfC, rowR, numR, HNP.out, hqc]; try ((repeat' (first | intro _ | split)) <;> first | rfl | omega))]; rfl, ?_⟩
    (repeat (first | refine below_drewN ?_ _ | refine Below.alloc ?_ (by simp; try omega) _ | refine Below.setCell ?_ (by simp; try omega) _)); exact Below.refl _ _
  subst hqc
  rw [rounds_succ]
  go_wp2_with fail
  by_cases hqd : qd = 0
  case neg =>
    rw [rounds_succ]
    go_wp2_with fail
    go_ret
    refine ⟨by rw [show rfC _ = 3 by (simp [rfC, rowR, numR, HNP.out, hqd]; try ((repeat' (first | intro _ | split)) <;> first | rfl | omega))]; rfl, ?_⟩
    (repeat (first | refine below_drewN ?_ _ | refine Below.alloc ?_ (by simp; try omega) _ | refine Below.setCell ?_ (by simp; try omega) _)); exact Below.refl _ _
  subst hqd
  rw [rounds_succ]
  go_wp2_with fail
  by_cases hpw : pw = 0
  case neg =>
    rw [rounds_succ]
    go_wp2_with fail
    go_ret
    refine ⟨by rw [show rfC _ = 3 by (simp [rfC, rowR, numR, HNP.out, hpw]; try ((repeat' (first | intro _ | split)) <;> first | rfl | omega))]; rfl, ?_⟩
    (repeat (first | refine below_drewN ?_ _ | refine Below.alloc ?_ (by simp; try omega) _ | refine Below.setCell ?_ (by simp; try omega) _)); exact Below.refl _ _
  subst hpw
  by_cases hph : ph = 0
  case neg =>
    rw [rounds_succ]
    go_wp2_with fail
    go_ret
    refine ⟨by rw [show rfC _ = 3 by (simp [rfC, rowR, numR, HNP.out, hph]; try ((repeat' (first | intro _ | split)) <;> first | rfl | omega))]; rfl, ?_⟩
    (repeat (first | refine below_drewN ?_ _ | refine Below.alloc ?_ (by simp; try omega) _ | refine Below.setCell ?_ (by simp; try omega) _)); exact Below.refl _ _
  subst hph
  by_cases hnp : np = 0
  case neg =>
    have hnp2 : 0 < np := by omega
    have hnp3 : (0 : Int) < (np : Int) := by omega
    rw [rounds_succ]
    go_wp2_with fail
    go_ret
    refine ⟨by rw [show rfC _ = 3 by (simp [rfC, rowR, numR, HNP.out, hnp2]; try ((repeat' (first | intro _ | split)) <;> first | rfl | omega))]; rfl, ?_⟩
    (repeat (first | refine below_drewN ?_ _ | refine Below.alloc ?_ (by simp; try omega) _ | refine Below.setCell ?_ (by simp; try omega) _)); exact Below.refl _ _
  subst hnp
  by_cases hi1 : id < 1
  · rw [rounds_succ]
    go_wp2_with fail
    go_ret
    refine ⟨by rw [show rfC _ = 1 by (simp [rfC, rowR, numR, HNP.out, hi1]; try ((repeat' (first | intro _ | split)) <;> first | rfl | omega))]; rfl, ?_⟩
    (repeat (first | refine below_drewN ?_ _ | refine Below.alloc ?_ (by simp; try omega) _ | refine Below.setCell ?_ (by simp; try omega) _)); exact Below.refl _ _
  have HI1 : Hid (¬ id < 1) := hi1
  by_cases hi2 : 6 < id
  · rw [rounds_succ]
    go_wp2_with fail
    go_ret
    refine ⟨by rw [show rfC _ = 1 by (simp [rfC, rowR, numR, HNP.out, hi2]; try ((repeat' (first | intro _ | split)) <;> first | rfl | omega))]; rfl, ?_⟩
    (repeat (first | refine below_drewN ?_ _ | refine Below.alloc ?_ (by simp; try omega) _ | refine Below.setCell ?_ (by simp; try omega) _)); exact Below.refl _ _
  have HI2 : Hid (¬ 6 < id) := hi2
  rw [rounds_succ]
  go_wp2_with fail
  refine wp_loop_rounds 1 ?_
  rw [rounds_succ]
  go_wp2_with fail
  go_ret
  refine ⟨by rw [show rfC _ = 0 by (simp [rfC, rowR, numR, HNP.out]; try ((repeat' (first | intro _ | split)) <;> first | rfl | omega))]; rfl, ?_⟩
  (repeat (first | refine below_drewN ?_ _ | refine Below.alloc ?_ (by simp; try omega) _ | refine Below.setCell ?_ (by simp; try omega) _)); exact Below.refl _ _
set_option maxHeartbeats 8000000 in
set_option maxRecDepth 100000 in
theorem opf_8 (id qa qb qc qd pw ph : Int) (u : Value) (ps : List (Int × Int)) (w : World) (hps : ps.length ≤ 1000000000) (HR : Hid (RdP w u ps)) :
    Calls Tryd.prog 24 #[opV ⟨8, id, qa, qb, qc, qd, pw, ph, ps⟩ u] w fun e w' => OpfP ⟨8, id, qa, qb, qc, qd, pw, ph, ps⟩ w e w' := by
  obtain ⟨ua, cu, hvu, _, _, _⟩ := HR.out
  obtain ⟨np, HNP⟩ : ∃ n, Hid (ps.length = n) := ⟨_, (rfl : _ = _)⟩
  rw [HNP.out] at hvu hps
  subst hvu
  unfold OpfP opV
  go_enter Tryd.func24, Tryd.ntmps24
  go_wp2_with fail
  refine (parts_8 _).mono ?_
  rintro e w1 ⟨rfl, rfl⟩
  go_wp2_with fail
  refine wp_loop_rounds 3 ?_
  by_cases hqc : qc = 0
  case neg =>
    rw [rounds_succ]
    go_wp2_with fail
    go_ret
    refine ⟨by rw [show rfC _ = 3 by (simp [rfC, rowR, numR, HNP.out, hqc]; try ((repeat' (first | intro _ | split)) <;> first | rfl | omega))]; rfl, ?_⟩
    (repeat (first | refine below_drewN ?_ _ | refine Below.alloc ?_ (by simp; try omega) _ | refine Below.setCell ?_ (by simp; try omega) _)); exact Below.refl _ _
  subst hqc
  rw [rounds_succ]
  go_wp2_with fail
  by_cases hqd : qd = 0
  case neg =>
    rw [rounds_succ]
    go_wp2_with fail
    go_ret
    refine ⟨by rw [show rfC _ = 3 by (simp [rfC, rowR, numR, HNP.out, hqd]; try ((repeat' (first | intro _ | split)) <;> first | rfl | omega))]; rfl, ?_⟩
    (repeat (first | refine below_drewN ?_ _ | refine Below.alloc ?_ (by simp; try omega) _ | refine Below.setCell ?_ (by simp; try omega) _)); exact Below.refl _ _
  subst hqd
  rw [rounds_succ]
  go_wp2_with fail
  by_cases hi1 : id < 1
  · rw [rounds_succ]
    go_wp2_with fail
    go_ret
    refine ⟨by rw [show rfC _ = 1 by (simp [rfC, rowR, numR, HNP.out, hi1]; try ((repeat' (first | intro _ | split)) <;> first | rfl | omega))]; rfl, ?_⟩
    (repeat (first | refine below_drewN ?_ _ | refine Below.alloc ?_ (by simp; try omega) _ | refine Below.setCell ?_ (by simp; try omega) _)); exact Below.refl _ _
  have HI1 : Hid (¬ id < 1) := hi1
  by_cases hi2 : 6 < id
  · rw [rounds_succ]
    go_wp2_with fail
    go_ret
    refine ⟨by rw [show rfC _ = 1 by (simp [rfC, rowR, numR, HNP.out, hi2]; try ((repeat' (first | intro _ | split)) <;> first | rfl | omega))]; rfl, ?_⟩
    (repeat (first | refine below_drewN ?_ _ | refine Below.alloc ?_ (by simp; try omega) _ | refine Below.setCell ?_ (by simp; try omega) _)); exact Below.refl _ _
  have HI2 : Hid (¬ 6 < id) := hi2
  rw [rounds_succ]
  go_wp2_with fail
  refine wp_loop_rounds 3 ?_
  by_cases lqa : qa < -20
  · rw [rounds_succ]
    go_wp2_with fail
    go_quiet (fail)
    go_wp2_with fail
    go_ret
    refine ⟨by rw [show rfC _ = 1 by (simp [rfC, rowR, numR, HNP.out, lqa]; try ((repeat' (first | intro _ | split)) <;> first | rfl | omega))]; rfl, ?_⟩
    (repeat (first | refine below_drewN ?_ _ | refine Below.alloc ?_ (by simp; try omega) _ | refine Below.setCell ?_ (by simp; try omega) _)); exact Below.refl _ _
  have Hlqa : Hid (¬ qa < -20) := lqa
  by_cases uqa : 20 < qa
  · rw [rounds_succ]
    go_wp2_with fail
    go_quiet (fail)
    go_wp2_with fail
    go_ret
    refine ⟨by rw [show rfC _ = 1 by (simp [rfC, rowR, numR, HNP.out, uqa]; try ((repeat' (first | intro _ | split)) <;> first | rfl | omega))]; rfl, ?_⟩
    (repeat (first | refine below_drewN ?_ _ | refine Below.alloc ?_ (by simp; try omega) _ | refine Below.setCell ?_ (by simp; try omega) _)); exact Below.refl _ _
  have Huqa : Hid (¬ 20 < qa) := uqa
  rw [rounds_succ]
  go_wp2_with fail
  go_quiet (fail)
  go_wp2_with fail
  by_cases lqb : qb < -20
  · rw [rounds_succ]
    go_wp2_with fail
    go_quiet (fail)
    go_wp2_with fail
    go_ret
    refine ⟨by rw [show rfC _ = 1 by (simp [rfC, rowR, numR, HNP.out, lqb]; try ((repeat' (first | intro _ | split)) <;> first | rfl | omega))]; rfl, ?_⟩
    (repeat (first | refine below_drewN ?_ _ | refine Below.alloc ?_ (by simp; try omega) _ | refine Below.setCell ?_ (by simp; try omega) _)); exact Below.refl _ _
  have Hlqb : Hid (¬ qb < -20) := lqb
  by_cases uqb : 20 < qb
  · rw [rounds_succ]
    go_wp2_with fail
    go_quiet (fail)
    go_wp2_with fail
    go_ret
    refine ⟨by rw [show rfC _ = 1 by (simp [rfC, rowR, numR, HNP.out, uqb]; try ((repeat' (first | intro _ | split)) <;> first | rfl | omega))]; rfl, ?_⟩
    (repeat (first | refine below_drewN ?_ _ | refine Below.alloc ?_ (by simp; try omega) _ | refine Below.setCell ?_ (by simp; try omega) _)); exact Below.refl _ _
  have Huqb : Hid (¬ 20 < qb) := uqb
  rw [rounds_succ]
  go_wp2_with fail
  go_quiet (fail)
  go_wp2_with fail
  rw [rounds_succ]
  go_wp2_with fail
  refine (fault_any pw ph _ ps _ (by rw [HNP.out]; exact hps) (HR.out.on (by (repeat (first | refine below_drewN ?_ _ | refine Below.alloc ?_ (by simp; try omega) _ | refine Below.setCell ?_ (by simp; try omega) _)); exact Below.refl _ _)) _ (rfl : Hid (_ = _))).mono ?_
  rintro e w2 ⟨rfl, hb2⟩
  go_wp2_with fail
  go_ret
  refine ⟨by rw [show rfC _ = checkL pw ph ps by (simp [rfC, rowR, numR, HNP.out]; try ((repeat' (first | intro _ | split)) <;> first | rfl | omega))]; rfl, Below.trans ?_ (hb2.mono (by simp; omega))⟩
  (repeat (first | refine below_drewN ?_ _ | refine Below.alloc ?_ (by simp; try omega) _ | refine Below.setCell ?_ (by simp; try omega) _)); exact Below.refl _ _
set_option maxHeartbeats 8000000 in
set_option maxRecDepth 100000 in
theorem opf_9 (id qa qb qc qd pw ph : Int) (u : Value) (ps : List (Int × Int)) (w : World) (hps : ps.length ≤ 1000000000) (HR : Hid (RdP w u ps)) :
    Calls Tryd.prog 24 #[opV ⟨9, id, qa, qb, qc, qd, pw, ph, ps⟩ u] w fun e w' => OpfP ⟨9, id, qa, qb, qc, qd, pw, ph, ps⟩ w e w' := by
  obtain ⟨ua, cu, hvu, _, _, _⟩ := HR.out
  obtain ⟨np, HNP⟩ : ∃ n, Hid (ps.length = n) := ⟨_, (rfl : _ = _)⟩
  rw [HNP.out] at hvu hps
  subst hvu
  unfold OpfP opV
  go_enter Tryd.func24, Tryd.ntmps24
  go_wp2_with fail
  refine (parts_9 _).mono ?_
  rintro e w1 ⟨rfl, rfl⟩
  go_wp2_with fail
  refine wp_loop_rounds 3 ?_
  by_cases hqc : qc = 0
  case neg =>
    rw [rounds_succ]
    go_wp2_with fail
    go_ret
    refine ⟨by rw [show rfC _ = 3 by (simp [rfC, rowR, numR, HNP.out, hqc]; try ((repeat' (first | intro _ | split)) <;> first | rfl | omega))]; rfl, ?_⟩
    (repeat (first | refine below_drewN ?_ _ | refine Below.alloc ?_ (by simp; try omega) _ | refine Below.setCell ?_ (by simp; try omega) _)); exact Below.refl _ _
  subst hqc
  rw [rounds_succ]
  go_wp2_with fail
  by_cases hqd : qd = 0
  case neg =>
    rw [rounds_succ]
    go_wp2_with fail
    go_ret
    refine ⟨by rw [show rfC _ = 3 by (simp [rfC, rowR, numR, HNP.out, hqd]; try ((repeat' (first | intro _ | split)) <;> first | rfl | omega))]; rfl, ?_⟩
    (repeat (first | refine below_drewN ?_ _ | refine Below.alloc ?_ (by simp; try omega) _ | refine Below.setCell ?_ (by simp; try omega) _)); exact Below.refl _ _
  subst hqd
  rw [rounds_succ]
  go_wp2_with fail
  by_cases hi1 : id < 1
  · rw [rounds_succ]
    go_wp2_with fail
    go_ret
    refine ⟨by rw [show rfC _ = 1 by (simp [rfC, rowR, numR, HNP.out, hi1]; try ((repeat' (first | intro _ | split)) <;> first | rfl | omega))]; rfl, ?_⟩
    (repeat (first | refine below_drewN ?_ _ | refine Below.alloc ?_ (by simp; try omega) _ | refine Below.setCell ?_ (by simp; try omega) _)); exact Below.refl _ _
  have HI1 : Hid (¬ id < 1) := hi1
  by_cases hi2 : 6 < id
  · rw [rounds_succ]
    go_wp2_with fail
    go_ret
    refine ⟨by rw [show rfC _ = 1 by (simp [rfC, rowR, numR, HNP.out, hi2]; try ((repeat' (first | intro _ | split)) <;> first | rfl | omega))]; rfl, ?_⟩
    (repeat (first | refine below_drewN ?_ _ | refine Below.alloc ?_ (by simp; try omega) _ | refine Below.setCell ?_ (by simp; try omega) _)); exact Below.refl _ _
  have HI2 : Hid (¬ 6 < id) := hi2
  rw [rounds_succ]
  go_wp2_with fail
  refine wp_loop_rounds 3 ?_
  by_cases lqa : qa < -20
  · rw [rounds_succ]
    go_wp2_with fail
    go_quiet (fail)
    go_wp2_with fail
    go_ret
    refine ⟨by rw [show rfC _ = 1 by (simp [rfC, rowR, numR, HNP.out, lqa]; try ((repeat' (first | intro _ | split)) <;> first | rfl | omega))]; rfl, ?_⟩
    (repeat (first | refine below_drewN ?_ _ | refine Below.alloc ?_ (by simp; try omega) _ | refine Below.setCell ?_ (by simp; try omega) _)); exact Below.refl _ _
  have Hlqa : Hid (¬ qa < -20) := lqa
  by_cases uqa : 20 < qa
  · rw [rounds_succ]
    go_wp2_with fail
    go_quiet (fail)
    go_wp2_with fail
    go_ret
    refine ⟨by rw [show rfC _ = 1 by (simp [rfC, rowR, numR, HNP.out, uqa]; try ((repeat' (first | intro _ | split)) <;> first | rfl | omega))]; rfl, ?_⟩
    (repeat (first | refine below_drewN ?_ _ | refine Below.alloc ?_ (by simp; try omega) _ | refine Below.setCell ?_ (by simp; try omega) _)); exact Below.refl _ _
  have Huqa : Hid (¬ 20 < qa) := uqa
  rw [rounds_succ]
  go_wp2_with fail
  go_quiet (fail)
  go_wp2_with fail
  by_cases lqb : qb < -20
  · rw [rounds_succ]
    go_wp2_with fail
    go_quiet (fail)
    go_wp2_with fail
    go_ret
    refine ⟨by rw [show rfC _ = 1 by (simp [rfC, rowR, numR, HNP.out, lqb]; try ((repeat' (first | intro _ | split)) <;> first | rfl | omega))]; rfl, ?_⟩
    (repeat (first | refine below_drewN ?_ _ | refine Below.alloc ?_ (by simp; try omega) _ | refine Below.setCell ?_ (by simp; try omega) _)); exact Below.refl _ _
  have Hlqb : Hid (¬ qb < -20) := lqb
  by_cases uqb : 20 < qb
  · rw [rounds_succ]
    go_wp2_with fail
    go_quiet (fail)
    go_wp2_with fail
    go_ret
    refine ⟨by rw [show rfC _ = 1 by (simp [rfC, rowR, numR, HNP.out, uqb]; try ((repeat' (first | intro _ | split)) <;> first | rfl | omega))]; rfl, ?_⟩
    (repeat (first | refine below_drewN ?_ _ | refine Below.alloc ?_ (by simp; try omega) _ | refine Below.setCell ?_ (by simp; try omega) _)); exact Below.refl _ _
  have Huqb : Hid (¬ 20 < qb) := uqb
  rw [rounds_succ]
  go_wp2_with fail
  go_quiet (fail)
  go_wp2_with fail
  rw [rounds_succ]
  go_wp2_with fail
  refine (fault_any pw ph _ ps _ (by rw [HNP.out]; exact hps) (HR.out.on (by (repeat (first | refine below_drewN ?_ _ | refine Below.alloc ?_ (by simp; try omega) _ | refine Below.setCell ?_ (by simp; try omega) _)); exact Below.refl _ _)) _ (rfl : Hid (_ = _))).mono ?_
  rintro e w2 ⟨rfl, hb2⟩
  go_wp2_with fail
  go_ret
  refine ⟨by rw [show rfC _ = checkL pw ph ps by (simp [rfC, rowR, numR, HNP.out]; try ((repeat' (first | intro _ | split)) <;> first | rfl | omega))]; rfl, Below.trans ?_ (hb2.mono (by simp; omega))⟩
  (repeat (first | refine below_drewN ?_ _ | refine Below.alloc ?_ (by simp; try omega) _ | refine Below.setCell ?_ (by simp; try omega) _)); exact Below.refl _ _
end Go.Proofs.YtjmkfcgnadpbaaaDoor
