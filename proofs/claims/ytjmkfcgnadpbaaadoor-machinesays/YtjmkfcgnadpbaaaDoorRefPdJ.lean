/- Walk: the reference's fault of an op, kinds 10 to 12. -/
import Derived.Test.YtjmkfcgnadpbaaaDoorRefPJ
namespace Go.Proofs.YtjmkfcgnadpbaaaDoor
open Go.RowKit
set_option linter.unusedSimpArgs false

set_option maxHeartbeats 8000000 in
set_option maxRecDepth 100000 in
theorem opf_10 (id qa qb qc qd pw ph : Int) (u : Value) (ps : List (Int × Int)) (w : World) (hps : ps.length ≤ 1000000000) (HR : Hid (RdP w u ps)) :
    Calls Tryd.prog 24 #[opV ⟨10, id, qa, qb, qc, qd, pw, ph, ps⟩ u] w fun e w' => OpfP ⟨10, id, qa, qb, qc, qd, pw, ph, ps⟩ w e w' := by
  obtain ⟨ua, cu, hvu, _, _, _⟩ := HR.out
  obtain ⟨np, HNP⟩ : ∃ n, Hid (ps.length = n) := ⟨_, (rfl : _ = _)⟩
  rw [HNP.out] at hvu hps
  subst hvu
  unfold OpfP opV
  go_enter Tryd.func24, Tryd.ntmps24
  go_wp2_with fail
  refine (parts_10 _).mono ?_
  rintro e w1 ⟨rfl, rfl⟩
  go_wp2_with fail
  refine wp_loop_rounds 3 ?_
  by_cases hqc : qc = 0
  case neg =>
    rw [rounds_succ]
    go_wp2_with fail
    go_ret
    refine ⟨by rw [show rfC _ = 3 by (simp [rfC, rowR, numR, HNP.out, hqc]; try ((repeat' (first | intro _ | split)) <;> first | rfl | omega))]; rfl, ?_⟩
    (repeat (first | refine below_drewN ?_ _ | refine Below.alloc ?_ (by simp; try omega) _ | refine Below.setCell ?_ (by simp; try omega) _)); exact Below.refl _ _
  subst hqc
  rw [rounds_succ]
  go_wp2_with fail
  by_cases hqd : qd = 0
  case neg =>
    rw [rounds_succ]
    go_wp2_with fail
    go_ret
    refine ⟨by rw [show rfC _ = 3 by (simp [rfC, rowR, numR, HNP.out, hqd]; try ((repeat' (first | intro _ | split)) <;> first | rfl | omega))]; rfl, ?_⟩
    (repeat (first | refine below_drewN ?_ _ | refine Below.alloc ?_ (by simp; try omega) _ | refine Below.setCell ?_ (by simp; try omega) _)); exact Below.refl _ _
  subst hqd
  rw [rounds_succ]
  go_wp2_with fail
  by_cases hid : id = 0
  case neg =>
    rw [rounds_succ]
    go_wp2_with fail
    go_ret
    refine ⟨by rw [show rfC _ = 3 by (simp [rfC, rowR, numR, HNP.out, hid]; try ((repeat' (first | intro _ | split)) <;> first | rfl | omega))]; rfl, ?_⟩
    (repeat (first | refine below_drewN ?_ _ | refine Below.alloc ?_ (by simp; try omega) _ | refine Below.setCell ?_ (by simp; try omega) _)); exact Below.refl _ _
  subst hid
  by_cases hpw : pw = 0
  case neg =>
    rw [rounds_succ]
    go_wp2_with fail
    go_ret
    refine ⟨by rw [show rfC _ = 3 by (simp [rfC, rowR, numR, HNP.out, hpw]; try ((repeat' (first | intro _ | split)) <;> first | rfl | omega))]; rfl, ?_⟩
    (repeat (first | refine below_drewN ?_ _ | refine Below.alloc ?_ (by simp; try omega) _ | refine Below.setCell ?_ (by simp; try omega) _)); exact Below.refl _ _
  subst hpw
  by_cases hph : ph = 0
  case neg =>
    rw [rounds_succ]
    go_wp2_with fail
    go_ret
    refine ⟨by rw [show rfC _ = 3 by (simp [rfC, rowR, numR, HNP.out, hph]; try ((repeat' (first | intro _ | split)) <;> first | rfl | omega))]; rfl, ?_⟩
    (repeat (first | refine below_drewN ?_ _ | refine Below.alloc ?_ (by simp; try omega) _ | refine Below.setCell ?_ (by simp; try omega) _)); exact Below.refl _ _
  subst hph
  by_cases hnp : np = 0
  case neg =>
    have hnp2 : 0 < np := by omega
    have hnp3 : (0 : Int) < (np : Int) := by omega
    rw [rounds_succ]
    go_wp2_with fail
    go_ret
    refine ⟨by rw [show rfC _ = 3 by (simp [rfC, rowR, numR, HNP.out, hnp2]; try ((repeat' (first | intro _ | split)) <;> first | rfl | omega))]; rfl, ?_⟩
    (repeat (first | refine below_drewN ?_ _ | refine Below.alloc ?_ (by simp; try omega) _ | refine Below.setCell ?_ (by simp; try omega) _)); exact Below.refl _ _
  subst hnp
  rw [rounds_succ]
  go_wp2_with fail
  refine wp_loop_rounds 3 ?_
  by_cases lqa : qa < 0
  · rw [rounds_succ]
    go_wp2_with fail
    go_quiet (fail)
    go_wp2_with fail
    go_ret
    refine ⟨by rw [show rfC _ = 1 by (simp [rfC, rowR, numR, HNP.out, lqa]; try ((repeat' (first | intro _ | split)) <;> first | rfl | omega))]; rfl, ?_⟩
    (repeat (first | refine below_drewN ?_ _ | refine Below.alloc ?_ (by simp; try omega) _ | refine Below.setCell ?_ (by simp; try omega) _)); exact Below.refl _ _
  have Hlqa : Hid (¬ qa < 0) := lqa
  by_cases uqa : 255 < qa
  · rw [rounds_succ]
    go_wp2_with fail
    go_quiet (fail)
    go_wp2_with fail
    go_ret
    refine ⟨by rw [show rfC _ = 1 by (simp [rfC, rowR, numR, HNP.out, uqa]; try ((repeat' (first | intro _ | split)) <;> first | rfl | omega))]; rfl, ?_⟩
    (repeat (first | refine below_drewN ?_ _ | refine Below.alloc ?_ (by simp; try omega) _ | refine Below.setCell ?_ (by simp; try omega) _)); exact Below.refl _ _
  have Huqa : Hid (¬ 255 < qa) := uqa
  rw [rounds_succ]
  go_wp2_with fail
  go_quiet (fail)
  go_wp2_with fail
  by_cases lqb : qb < 0
  · rw [rounds_succ]
    go_wp2_with fail
    go_quiet (fail)
    go_wp2_with fail
    go_ret
    refine ⟨by rw [show rfC _ = 1 by (simp [rfC, rowR, numR, HNP.out, lqb]; try ((repeat' (first | intro _ | split)) <;> first | rfl | omega))]; rfl, ?_⟩
    (repeat (first | refine below_drewN ?_ _ | refine Below.alloc ?_ (by simp; try omega) _ | refine Below.setCell ?_ (by simp; try omega) _)); exact Below.refl _ _
  have Hlqb : Hid (¬ qb < 0) := lqb
  by_cases uqb : 255 < qb
  · rw [rounds_succ]
    go_wp2_with fail
    go_quiet (fail)
    go_wp2_with fail
    go_ret
    refine ⟨by rw [show rfC _ = 1 by (simp [rfC, rowR, numR, HNP.out, uqb]; try ((repeat' (first | intro _ | split)) <;> first | rfl | omega))]; rfl, ?_⟩
    (repeat (first | refine below_drewN ?_ _ | refine Below.alloc ?_ (by simp; try omega) _ | refine Below.setCell ?_ (by simp; try omega) _)); exact Below.refl _ _
  have Huqb : Hid (¬ 255 < qb) := uqb
  rw [rounds_succ]
  go_wp2_with fail
  go_quiet (fail)
  go_wp2_with fail
  rw [rounds_succ]
  go_wp2_with fail
  go_ret
  refine ⟨by rw [show rfC _ = 0 by (simp [rfC, rowR, numR, HNP.out]; try ((repeat' (first | intro _ | split)) <;> first | rfl | omega))]; rfl, ?_⟩
  (repeat (first | refine below_drewN ?_ _ | refine Below.alloc ?_ (by simp; try omega) _ | refine Below.setCell ?_ (by simp; try omega) _)); exact Below.refl _ _
set_option maxHeartbeats 8000000 in
set_option maxRecDepth 100000 in
theorem opf_11 (id qa qb qc qd pw ph : Int) (u : Value) (ps : List (Int × Int)) (w : World) (hps : ps.length ≤ 1000000000) (HR : Hid (RdP w u ps)) :
    Calls Tryd.prog 24 #[opV ⟨11, id, qa, qb, qc, qd, pw, ph, ps⟩ u] w fun e w' => OpfP ⟨11, id, qa, qb, qc, qd, pw, ph, ps⟩ w e w' := by
  obtain ⟨ua, cu, hvu, _, _, _⟩ := HR.out
  obtain ⟨np, HNP⟩ : ∃ n, Hid (ps.length = n) := ⟨_, (rfl : _ = _)⟩
  rw [HNP.out] at hvu hps
  subst hvu
  unfold OpfP opV
  go_enter Tryd.func24, Tryd.ntmps24
  go_wp2_with fail
  refine (parts_11 _).mono ?_
  rintro e w1 ⟨rfl, rfl⟩
  go_wp2_with fail
  refine wp_loop_rounds 4 ?_
  by_cases hqb : qb = 0
  case neg =>
    rw [rounds_succ]
    go_wp2_with fail
    go_ret
    refine ⟨by rw [show rfC _ = 3 by (simp [rfC, rowR, numR, HNP.out, hqb]; try ((repeat' (first | intro _ | split)) <;> first | rfl | omega))]; rfl, ?_⟩
    (repeat (first | refine below_drewN ?_ _ | refine Below.alloc ?_ (by simp; try omega) _ | refine Below.setCell ?_ (by simp; try omega) _)); exact Below.refl _ _
  subst hqb
  rw [rounds_succ]
  go_wp2_with fail
  by_cases hqc : qc = 0
  case neg =>
    rw [rounds_succ]
    go_wp2_with fail
    go_ret
    refine ⟨by rw [show rfC _ = 3 by (simp [rfC, rowR, numR, HNP.out, hqc]; try ((repeat' (first | intro _ | split)) <;> first | rfl | omega))]; rfl, ?_⟩
    (repeat (first | refine below_drewN ?_ _ | refine Below.alloc ?_ (by simp; try omega) _ | refine Below.setCell ?_ (by simp; try omega) _)); exact Below.refl _ _
  subst hqc
  rw [rounds_succ]
  go_wp2_with fail
  by_cases hqd : qd = 0
  case neg =>
    rw [rounds_succ]
    go_wp2_with fail
    go_ret
    refine ⟨by rw [show rfC _ = 3 by (simp [rfC, rowR, numR, HNP.out, hqd]; try ((repeat' (first | intro _ | split)) <;> first | rfl | omega))]; rfl, ?_⟩
    (repeat (first | refine below_drewN ?_ _ | refine Below.alloc ?_ (by simp; try omega) _ | refine Below.setCell ?_ (by simp; try omega) _)); exact Below.refl _ _
  subst hqd
  rw [rounds_succ]
  go_wp2_with fail
  by_cases hid : id = 0
  case neg =>
    rw [rounds_succ]
    go_wp2_with fail
    go_ret
    refine ⟨by rw [show rfC _ = 3 by (simp [rfC, rowR, numR, HNP.out, hid]; try ((repeat' (first | intro _ | split)) <;> first | rfl | omega))]; rfl, ?_⟩
    (repeat (first | refine below_drewN ?_ _ | refine Below.alloc ?_ (by simp; try omega) _ | refine Below.setCell ?_ (by simp; try omega) _)); exact Below.refl _ _
  subst hid
  by_cases hpw : pw = 0
  case neg =>
    rw [rounds_succ]
    go_wp2_with fail
    go_ret
    refine ⟨by rw [show rfC _ = 3 by (simp [rfC, rowR, numR, HNP.out, hpw]; try ((repeat' (first | intro _ | split)) <;> first | rfl | omega))]; rfl, ?_⟩
    (repeat (first | refine below_drewN ?_ _ | refine Below.alloc ?_ (by simp; try omega) _ | refine Below.setCell ?_ (by simp; try omega) _)); exact Below.refl _ _
  subst hpw
  by_cases hph : ph = 0
  case neg =>
    rw [rounds_succ]
    go_wp2_with fail
    go_ret
    refine ⟨by rw [show rfC _ = 3 by (simp [rfC, rowR, numR, HNP.out, hph]; try ((repeat' (first | intro _ | split)) <;> first | rfl | omega))]; rfl, ?_⟩
    (repeat (first | refine below_drewN ?_ _ | refine Below.alloc ?_ (by simp; try omega) _ | refine Below.setCell ?_ (by simp; try omega) _)); exact Below.refl _ _
  subst hph
  by_cases hnp : np = 0
  case neg =>
    have hnp2 : 0 < np := by omega
    have hnp3 : (0 : Int) < (np : Int) := by omega
    rw [rounds_succ]
    go_wp2_with fail
    go_ret
    refine ⟨by rw [show rfC _ = 3 by (simp [rfC, rowR, numR, HNP.out, hnp2]; try ((repeat' (first | intro _ | split)) <;> first | rfl | omega))]; rfl, ?_⟩
    (repeat (first | refine below_drewN ?_ _ | refine Below.alloc ?_ (by simp; try omega) _ | refine Below.setCell ?_ (by simp; try omega) _)); exact Below.refl _ _
  subst hnp
  rw [rounds_succ]
  go_wp2_with fail
  refine wp_loop_rounds 2 ?_
  by_cases lqa : qa < 0
  · rw [rounds_succ]
    go_wp2_with fail
    go_quiet (fail)
    go_wp2_with fail
    go_ret
    refine ⟨by rw [show rfC _ = 1 by (simp [rfC, rowR, numR, HNP.out, lqa]; try ((repeat' (first | intro _ | split)) <;> first | rfl | omega))]; rfl, ?_⟩
    (repeat (first | refine below_drewN ?_ _ | refine Below.alloc ?_ (by simp; try omega) _ | refine Below.setCell ?_ (by simp; try omega) _)); exact Below.refl _ _
  have Hlqa : Hid (¬ qa < 0) := lqa
  by_cases uqa : 99 < qa
  · rw [rounds_succ]
    go_wp2_with fail
    go_quiet (fail)
    go_wp2_with fail
    go_ret
    refine ⟨by rw [show rfC _ = 1 by (simp [rfC, rowR, numR, HNP.out, uqa]; try ((repeat' (first | intro _ | split)) <;> first | rfl | omega))]; rfl, ?_⟩
    (repeat (first | refine below_drewN ?_ _ | refine Below.alloc ?_ (by simp; try omega) _ | refine Below.setCell ?_ (by simp; try omega) _)); exact Below.refl _ _
  have Huqa : Hid (¬ 99 < qa) := uqa
  rw [rounds_succ]
  go_wp2_with fail
  go_quiet (fail)
  go_wp2_with fail
  rw [rounds_succ]
  go_wp2_with fail
  go_ret
  refine ⟨by rw [show rfC _ = 0 by (simp [rfC, rowR, numR, HNP.out]; try ((repeat' (first | intro _ | split)) <;> first | rfl | omega))]; rfl, ?_⟩
  (repeat (first | refine below_drewN ?_ _ | refine Below.alloc ?_ (by simp; try omega) _ | refine Below.setCell ?_ (by simp; try omega) _)); exact Below.refl _ _
set_option maxHeartbeats 8000000 in
set_option maxRecDepth 100000 in
theorem opf_12 (id qa qb qc qd pw ph : Int) (u : Value) (ps : List (Int × Int)) (w : World) (hps : ps.length ≤ 1000000000) (HR : Hid (RdP w u ps)) :
    Calls Tryd.prog 24 #[opV ⟨12, id, qa, qb, qc, qd, pw, ph, ps⟩ u] w fun e w' => OpfP ⟨12, id, qa, qb, qc, qd, pw, ph, ps⟩ w e w' := by
  obtain ⟨ua, cu, hvu, _, _, _⟩ := HR.out
  obtain ⟨np, HNP⟩ : ∃ n, Hid (ps.length = n) := ⟨_, (rfl : _ = _)⟩
  rw [HNP.out] at hvu hps
  subst hvu
  unfold OpfP opV
  go_enter Tryd.func24, Tryd.ntmps24
  go_wp2_with fail
  refine (parts_12 _).mono ?_
  rintro e w1 ⟨rfl, rfl⟩
  go_wp2_with fail
  refine wp_loop_rounds 4 ?_
  by_cases hqb : qb = 0
  case neg =>
    rw [rounds_succ]
    go_wp2_with fail
    go_ret
    refine ⟨by rw [show rfC _ = 3 by (simp [rfC, rowR, numR, HNP.out, hqb]; try ((repeat' (first | intro _ | split)) <;> first | rfl | omega))]; rfl, ?_⟩
    (repeat (first | refine below_drewN ?_ _ | refine Below.alloc ?_ (by simp; try omega) _ | refine Below.setCell ?_ (by simp; try omega) _)); exact Below.refl _ _
  subst hqb
  rw [rounds_succ]
  go_wp2_with fail
  by_cases hqc : qc = 0
  case neg =>
    rw [rounds_succ]
    go_wp2_with fail
    go_ret
    refine ⟨by rw [show rfC _ = 3 by (simp [rfC, rowR, numR, HNP.out, hqc]; try ((repeat' (first | intro _ | split)) <;> first | rfl | omega))]; rfl, ?_⟩
    (repeat (first | refine below_drewN ?_ _ | refine Below.alloc ?_ (by simp; try omega) _ | refine Below.setCell ?_ (by simp; try omega) _)); exact Below.refl _ _
  subst hqc
  rw [rounds_succ]
  go_wp2_with fail
  by_cases hqd : qd = 0
  case neg =>
    rw [rounds_succ]
    go_wp2_with fail
    go_ret
    refine ⟨by rw [show rfC _ = 3 by (simp [rfC, rowR, numR, HNP.out, hqd]; try ((repeat' (first | intro _ | split)) <;> first | rfl | omega))]; rfl, ?_⟩
    (repeat (first | refine below_drewN ?_ _ | refine Below.alloc ?_ (by simp; try omega) _ | refine Below.setCell ?_ (by simp; try omega) _)); exact Below.refl _ _
  subst hqd
  rw [rounds_succ]
  go_wp2_with fail
  by_cases hid : id = 0
  case neg =>
    rw [rounds_succ]
    go_wp2_with fail
    go_ret
    refine ⟨by rw [show rfC _ = 3 by (simp [rfC, rowR, numR, HNP.out, hid]; try ((repeat' (first | intro _ | split)) <;> first | rfl | omega))]; rfl, ?_⟩
    (repeat (first | refine below_drewN ?_ _ | refine Below.alloc ?_ (by simp; try omega) _ | refine Below.setCell ?_ (by simp; try omega) _)); exact Below.refl _ _
  subst hid
  by_cases hpw : pw = 0
  case neg =>
    rw [rounds_succ]
    go_wp2_with fail
    go_ret
    refine ⟨by rw [show rfC _ = 3 by (simp [rfC, rowR, numR, HNP.out, hpw]; try ((repeat' (first | intro _ | split)) <;> first | rfl | omega))]; rfl, ?_⟩
    (repeat (first | refine below_drewN ?_ _ | refine Below.alloc ?_ (by simp; try omega) _ | refine Below.setCell ?_ (by simp; try omega) _)); exact Below.refl _ _
  subst hpw
  by_cases hph : ph = 0
  case neg =>
    rw [rounds_succ]
    go_wp2_with fail
    go_ret
    refine ⟨by rw [show rfC _ = 3 by (simp [rfC, rowR, numR, HNP.out, hph]; try ((repeat' (first | intro _ | split)) <;> first | rfl | omega))]; rfl, ?_⟩
    (repeat (first | refine below_drewN ?_ _ | refine Below.alloc ?_ (by simp; try omega) _ | refine Below.setCell ?_ (by simp; try omega) _)); exact Below.refl _ _
  subst hph
  by_cases hnp : np = 0
  case neg =>
    have hnp2 : 0 < np := by omega
    have hnp3 : (0 : Int) < (np : Int) := by omega
    rw [rounds_succ]
    go_wp2_with fail
    go_ret
    refine ⟨by rw [show rfC _ = 3 by (simp [rfC, rowR, numR, HNP.out, hnp2]; try ((repeat' (first | intro _ | split)) <;> first | rfl | omega))]; rfl, ?_⟩
    (repeat (first | refine below_drewN ?_ _ | refine Below.alloc ?_ (by simp; try omega) _ | refine Below.setCell ?_ (by simp; try omega) _)); exact Below.refl _ _
  subst hnp
  rw [rounds_succ]
  go_wp2_with fail
  refine wp_loop_rounds 2 ?_
  by_cases lqa : qa < 0
  · rw [rounds_succ]
    go_wp2_with fail
    go_quiet (fail)
    go_wp2_with fail
    go_ret
    refine ⟨by rw [show rfC _ = 1 by (simp [rfC, rowR, numR, HNP.out, lqa]; try ((repeat' (first | intro _ | split)) <;> first | rfl | omega))]; rfl, ?_⟩
    (repeat (first | refine below_drewN ?_ _ | refine Below.alloc ?_ (by simp; try omega) _ | refine Below.setCell ?_ (by simp; try omega) _)); exact Below.refl _ _
  have Hlqa : Hid (¬ qa < 0) := lqa
  by_cases uqa : 9 < qa
  · rw [rounds_succ]
    go_wp2_with fail
    go_quiet (fail)
    go_wp2_with fail
    go_ret
    refine ⟨by rw [show rfC _ = 1 by (simp [rfC, rowR, numR, HNP.out, uqa]; try ((repeat' (first | intro _ | split)) <;> first | rfl | omega))]; rfl, ?_⟩
    (repeat (first | refine below_drewN ?_ _ | refine Below.alloc ?_ (by simp; try omega) _ | refine Below.setCell ?_ (by simp; try omega) _)); exact Below.refl _ _
  have Huqa : Hid (¬ 9 < qa) := uqa
  rw [rounds_succ]
  go_wp2_with fail
  go_quiet (fail)
  go_wp2_with fail
  rw [rounds_succ]
  go_wp2_with fail
  go_ret
  refine ⟨by rw [show rfC _ = 0 by (simp [rfC, rowR, numR, HNP.out]; try ((repeat' (first | intro _ | split)) <;> first | rfl | omega))]; rfl, ?_⟩
  (repeat (first | refine below_drewN ?_ _ | refine Below.alloc ?_ (by simp; try omega) _ | refine Below.setCell ?_ (by simp; try omega) _)); exact Below.refl _ _
end Go.Proofs.YtjmkfcgnadpbaaaDoor
