/- Some of the walks, in one text. -/
import Derived.Test.YtceabiodelfdoaaDoorM7
import Derived.Deep.RegionHeld3
import Derived.Deep.Cut
/- Walk: the reference's fault of an op, kinds 4 to 6. -/
namespace Go.Proofs.YtceabiodelfdoaaDoor
open Go.RowKit
set_option linter.unusedSimpArgs false

set_option maxHeartbeats 8000000 in
set_option maxRecDepth 100000 in
theorem opf_4 (id qa qb qc qd pw ph : Int) (u : Value) (ps : List (Int × Int)) (w : World) (hps : ps.length ≤ 1000000000) (HR : Hid (RdP w u ps)) :
    Calls Tryd.prog 17 #[opV ⟨4, id, qa, qb, qc, qd, pw, ph, ps⟩ u] w fun e w' => OpfP ⟨4, id, qa, qb, qc, qd, pw, ph, ps⟩ w e w' := by
  obtain ⟨ua, cu, hvu, _, _, _⟩ := HR.out
  obtain ⟨np, HNP⟩ : ∃ n, Hid (ps.length = n) := ⟨_, (rfl : _ = _)⟩
  rw [HNP.out] at hvu hps
  subst hvu
  unfold OpfP opV
  go_enter Tryd.func17, Tryd.ntmps17
  go_wp2_with fail
  refine (parts_4 _).mono ?_
  rintro e w1 ⟨rfl, rfl⟩
  go_wp2_with fail
  refine wp_loop_rounds 1 ?_
  by_cases hpw : pw = 0
  case neg =>
    rw [rounds_succ]
    go_wp2_with fail
    go_ret
    refine ⟨by rw [show rfC _ = 3 by (simp [rfC, rowR, numR, HNP.out, hpw]; try ((repeat' (first | intro _ | split)) <;> first | rfl | omega))]; rfl, ?_⟩
    (repeat (first | refine below_drewN ?_ _ | refine Below.alloc ?_ (by simp; try omega) _ | refine Below.setCell ?_ (by simp; try omega) _)); exact Below.refl _ _
  subst hpw
  by_cases hph : ph = 0
  case neg =>
    rw [rounds_succ]
    go_wp2_with fail
    go_ret
    refine ⟨by rw [show rfC _ = 3 by (simp [rfC, rowR, numR, HNP.out, hph]; try ((repeat' (first | intro _ | split)) <;> first | rfl | omega))]; rfl, ?_⟩
    (repeat (first | refine below_drewN ?_ _ | refine Below.alloc ?_ (by simp; try omega) _ | refine Below.setCell ?_ (by simp; try omega) _)); exact Below.refl _ _
  subst hph
  by_cases hnp : np = 0
  case neg =>
    have hnp2 : 0 < np := by omega
    have hnp3 : (0 : Int) < (np : Int) := by omega
    rw [rounds_succ]
    go_wp2_with fail
    go_ret
    refine ⟨by rw [show rfC _ = 3 by (simp [rfC, rowR, numR, HNP.out, hnp2]; try ((repeat' (first | intro _ | split)) <;> first | rfl | omega))]; rfl, ?_⟩
    (repeat (first | refine below_drewN ?_ _ | refine Below.alloc ?_ (by simp; try omega) _ | refine Below.setCell ?_ (by simp; try omega) _)); exact Below.refl _ _
  subst hnp
  by_cases hi1 : id < 1
  · rw [rounds_succ]
    go_wp2_with fail
    go_ret
    refine ⟨by rw [show rfC _ = 1 by (simp [rfC, rowR, numR, HNP.out, hi1]; try ((repeat' (first | intro _ | split)) <;> first | rfl | omega))]; rfl, ?_⟩
    (repeat (first | refine below_drewN ?_ _ | refine Below.alloc ?_ (by simp; try omega) _ | refine Below.setCell ?_ (by simp; try omega) _)); exact Below.refl _ _
  have HI1 : Hid (¬ id < 1) := hi1
  by_cases hi2 : 6 < id
  · rw [rounds_succ]
    go_wp2_with fail
    go_ret
    refine ⟨by rw [show rfC _ = 1 by (simp [rfC, rowR, numR, HNP.out, hi2]; try ((repeat' (first | intro _ | split)) <;> first | rfl | omega))]; rfl, ?_⟩
    (repeat (first | refine below_drewN ?_ _ | refine Below.alloc ?_ (by simp; try omega) _ | refine Below.setCell ?_ (by simp; try omega) _)); exact Below.refl _ _
  have HI2 : Hid (¬ 6 < id) := hi2
  rw [rounds_succ]
  go_wp2_with fail
  refine wp_loop_rounds 5 ?_
  by_cases lqa : qa < -20
  · rw [rounds_succ]
    go_wp2_with fail
    go_quiet (fail)
    go_wp2_with fail
    go_ret
    refine ⟨by rw [show rfC _ = 1 by (simp [rfC, rowR, numR, HNP.out, lqa]; try ((repeat' (first | intro _ | split)) <;> first | rfl | omega))]; rfl, ?_⟩
    (repeat (first | refine below_drewN ?_ _ | refine Below.alloc ?_ (by simp; try omega) _ | refine Below.setCell ?_ (by simp; try omega) _)); exact Below.refl _ _
  have Hlqa : Hid (¬ qa < -20) := lqa
  by_cases uqa : 20 < qa
  · rw [rounds_succ]
    go_wp2_with fail
    go_quiet (fail)
    go_wp2_with fail
    go_ret
    refine ⟨by rw [show rfC _ = 1 by (simp [rfC, rowR, numR, HNP.out, uqa]; try ((repeat' (first | intro _ | split)) <;> first | rfl | omega))]; rfl, ?_⟩
    (repeat (first | refine below_drewN ?_ _ | refine Below.alloc ?_ (by simp; try omega) _ | refine Below.setCell ?_ (by simp; try omega) _)); exact Below.refl _ _
  have Huqa : Hid (¬ 20 < qa) := uqa
  rw [rounds_succ]
  go_wp2_with fail
  go_quiet (fail)
  go_wp2_with fail
  by_cases lqb : qb < -20
  · rw [rounds_succ]
    go_wp2_with fail
    go_quiet (fail)
    go_wp2_with fail
    go_ret
    refine ⟨by rw [show rfC _ = 1 by (simp [rfC, rowR, numR, HNP.out, lqb]; try ((repeat' (first | intro _ | split)) <;> first | rfl | omega))]; rfl, ?_⟩
    (repeat (first | refine below_drewN ?_ _ | refine Below.alloc ?_ (by simp; try omega) _ | refine Below.setCell ?_ (by simp; try omega) _)); exact Below.refl _ _
  have Hlqb : Hid (¬ qb < -20) := lqb
  by_cases uqb : 20 < qb
  · rw [rounds_succ]
    go_wp2_with fail
    go_quiet (fail)
    go_wp2_with fail
    go_ret
    refine ⟨by rw [show rfC _ = 1 by (simp [rfC, rowR, numR, HNP.out, uqb]; try ((repeat' (first | intro _ | split)) <;> first | rfl | omega))]; rfl, ?_⟩
    (repeat (first | refine below_drewN ?_ _ | refine Below.alloc ?_ (by simp; try omega) _ | refine Below.setCell ?_ (by simp; try omega) _)); exact Below.refl _ _
  have Huqb : Hid (¬ 20 < qb) := uqb
  rw [rounds_succ]
  go_wp2_with fail
  go_quiet (fail)
  go_wp2_with fail
  by_cases lqc : qc < 0
  · rw [rounds_succ]
    go_wp2_with fail
    go_quiet (fail)
    go_wp2_with fail
    go_ret
    refine ⟨by rw [show rfC _ = 1 by (simp [rfC, rowR, numR, HNP.out, lqc]; try ((repeat' (first | intro _ | split)) <;> first | rfl | omega))]; rfl, ?_⟩
    (repeat (first | refine below_drewN ?_ _ | refine Below.alloc ?_ (by simp; try omega) _ | refine Below.setCell ?_ (by simp; try omega) _)); exact Below.refl _ _
  have Hlqc : Hid (¬ qc < 0) := lqc
  by_cases uqc : 20 < qc
  · rw [rounds_succ]
    go_wp2_with fail
    go_quiet (fail)
    go_wp2_with fail
    go_ret
    refine ⟨by rw [show rfC _ = 1 by (simp [rfC, rowR, numR, HNP.out, uqc]; try ((repeat' (first | intro _ | split)) <;> first | rfl | omega))]; rfl, ?_⟩
    (repeat (first | refine below_drewN ?_ _ | refine Below.alloc ?_ (by simp; try omega) _ | refine Below.setCell ?_ (by simp; try omega) _)); exact Below.refl _ _
  have Huqc : Hid (¬ 20 < qc) := uqc
  rw [rounds_succ]
  go_wp2_with fail
  go_quiet (fail)
  go_wp2_with fail
  by_cases lqd : qd < 0
  · rw [rounds_succ]
    go_wp2_with fail
    go_quiet (fail)
    go_wp2_with fail
    go_ret
    refine ⟨by rw [show rfC _ = 1 by (simp [rfC, rowR, numR, HNP.out, lqd]; try ((repeat' (first | intro _ | split)) <;> first | rfl | omega))]; rfl, ?_⟩
    (repeat (first | refine below_drewN ?_ _ | refine Below.alloc ?_ (by simp; try omega) _ | refine Below.setCell ?_ (by simp; try omega) _)); exact Below.refl _ _
  have Hlqd : Hid (¬ qd < 0) := lqd
  by_cases uqd : 20 < qd
  · rw [rounds_succ]
    go_wp2_with fail
    go_quiet (fail)
    go_wp2_with fail
    go_ret
    refine ⟨by rw [show rfC _ = 1 by (simp [rfC, rowR, numR, HNP.out, uqd]; try ((repeat' (first | intro _ | split)) <;> first | rfl | omega))]; rfl, ?_⟩
    (repeat (first | refine below_drewN ?_ _ | refine Below.alloc ?_ (by simp; try omega) _ | refine Below.setCell ?_ (by simp; try omega) _)); exact Below.refl _ _
  have Huqd : Hid (¬ 20 < qd) := uqd
  rw [rounds_succ]
  go_wp2_with fail
  go_quiet (fail)
  go_wp2_with fail
  rw [rounds_succ]
  go_wp2_with fail
  go_ret
  refine ⟨by rw [show rfC _ = 0 by (simp [rfC, rowR, numR, HNP.out]; try ((repeat' (first | intro _ | split)) <;> first | rfl | omega))]; rfl, ?_⟩
  (repeat (first | refine below_drewN ?_ _ | refine Below.alloc ?_ (by simp; try omega) _ | refine Below.setCell ?_ (by simp; try omega) _)); exact Below.refl _ _
set_option maxHeartbeats 8000000 in
set_option maxRecDepth 100000 in
theorem opf_5 (id qa qb qc qd pw ph : Int) (u : Value) (ps : List (Int × Int)) (w : World) (hps : ps.length ≤ 1000000000) (HR : Hid (RdP w u ps)) :
    Calls Tryd.prog 17 #[opV ⟨5, id, qa, qb, qc, qd, pw, ph, ps⟩ u] w fun e w' => OpfP ⟨5, id, qa, qb, qc, qd, pw, ph, ps⟩ w e w' := by
  obtain ⟨ua, cu, hvu, _, _, _⟩ := HR.out
  obtain ⟨np, HNP⟩ : ∃ n, Hid (ps.length = n) := ⟨_, (rfl : _ = _)⟩
  rw [HNP.out] at hvu hps
  subst hvu
  unfold OpfP opV
  go_enter Tryd.func17, Tryd.ntmps17
  go_wp2_with fail
  refine (parts_5 _).mono ?_
  rintro e w1 ⟨rfl, rfl⟩
  go_wp2_with fail
  refine wp_loop_rounds 4 ?_
  by_cases hqb : qb = 0
  case neg =>
    rw [rounds_succ]
    go_wp2_with fail
    go_ret
    refine ⟨by rw [show rfC _ = 3 by (simp [rfC, rowR, numR, HNP.out, hqb]; try ((repeat' (first | intro _ | split)) <;> first | rfl | omega))]; rfl, ?_⟩
    (repeat (first | refine below_drewN ?_ _ | refine Below.alloc ?_ (by simp; try omega) _ | refine Below.setCell ?_ (by simp; try omega) _)); exact Below.refl _ _
  subst hqb
  rw [rounds_succ]
  go_wp2_with fail
  by_cases hqc : qc = 0
  case neg =>
    rw [rounds_succ]
    go_wp2_with fail
    go_ret
    refine ⟨by rw [show rfC _ = 3 by (simp [rfC, rowR, numR, HNP.out, hqc]; try ((repeat' (first | intro _ | split)) <;> first | rfl | omega))]; rfl, ?_⟩
    (repeat (first | refine below_drewN ?_ _ | refine Below.alloc ?_ (by simp; try omega) _ | refine Below.setCell ?_ (by simp; try omega) _)); exact Below.refl _ _
  subst hqc
  rw [rounds_succ]
  go_wp2_with fail
  by_cases hqd : qd = 0
  case neg =>
    rw [rounds_succ]
    go_wp2_with fail
    go_ret
    refine ⟨by rw [show rfC _ = 3 by (simp [rfC, rowR, numR, HNP.out, hqd]; try ((repeat' (first | intro _ | split)) <;> first | rfl | omega))]; rfl, ?_⟩
    (repeat (first | refine below_drewN ?_ _ | refine Below.alloc ?_ (by simp; try omega) _ | refine Below.setCell ?_ (by simp; try omega) _)); exact Below.refl _ _
  subst hqd
  rw [rounds_succ]
  go_wp2_with fail
  by_cases hpw : pw = 0
  case neg =>
    rw [rounds_succ]
    go_wp2_with fail
    go_ret
    refine ⟨by rw [show rfC _ = 3 by (simp [rfC, rowR, numR, HNP.out, hpw]; try ((repeat' (first | intro _ | split)) <;> first | rfl | omega))]; rfl, ?_⟩
    (repeat (first | refine below_drewN ?_ _ | refine Below.alloc ?_ (by simp; try omega) _ | refine Below.setCell ?_ (by simp; try omega) _)); exact Below.refl _ _
  subst hpw
  by_cases hph : ph = 0
  case neg =>
    rw [rounds_succ]
    go_wp2_with fail
    go_ret
    refine ⟨by rw [show rfC _ = 3 by (simp [rfC, rowR, numR, HNP.out, hph]; try ((repeat' (first | intro _ | split)) <;> first | rfl | omega))]; rfl, ?_⟩
    (repeat (first | refine below_drewN ?_ _ | refine Below.alloc ?_ (by simp; try omega) _ | refine Below.setCell ?_ (by simp; try omega) _)); exact Below.refl _ _
  subst hph
  by_cases hnp : np = 0
  case neg =>
    have hnp2 : 0 < np := by omega
    have hnp3 : (0 : Int) < (np : Int) := by omega
    rw [rounds_succ]
    go_wp2_with fail
    go_ret
    refine ⟨by rw [show rfC _ = 3 by (simp [rfC, rowR, numR, HNP.out, hnp2]; try ((repeat' (first | intro _ | split)) <;> first | rfl | omega))]; rfl, ?_⟩
    (repeat (first | refine below_drewN ?_ _ | refine Below.alloc ?_ (by simp; try omega) _ | refine Below.setCell ?_ (by simp; try omega) _)); exact Below.refl _ _
  subst hnp
  by_cases hi1 : id < 1
  · rw [rounds_succ]
    go_wp2_with fail
    go_ret
    refine ⟨by rw [show rfC _ = 1 by (simp [rfC, rowR, numR, HNP.out, hi1]; try ((repeat' (first | intro _ | split)) <;> first | rfl | omega))]; rfl, ?_⟩
    (repeat (first | refine below_drewN ?_ _ | refine Below.alloc ?_ (by simp; try omega) _ | refine Below.setCell ?_ (by simp; try omega) _)); exact Below.refl _ _
  have HI1 : Hid (¬ id < 1) := hi1
  by_cases hi2 : 6 < id
  · rw [rounds_succ]
    go_wp2_with fail
    go_ret
    refine ⟨by rw [show rfC _ = 1 by (simp [rfC, rowR, numR, HNP.out, hi2]; try ((repeat' (first | intro _ | split)) <;> first | rfl | omega))]; rfl, ?_⟩
    (repeat (first | refine below_drewN ?_ _ | refine Below.alloc ?_ (by simp; try omega) _ | refine Below.setCell ?_ (by simp; try omega) _)); exact Below.refl _ _
  have HI2 : Hid (¬ 6 < id) := hi2
  rw [rounds_succ]
  go_wp2_with fail
  refine wp_loop_rounds 2 ?_
  by_cases lqa : qa < 0
  · rw [rounds_succ]
    go_wp2_with fail
    go_quiet (fail)
    go_wp2_with fail
    go_ret
    refine ⟨by rw [show rfC _ = 1 by (simp [rfC, rowR, numR, HNP.out, lqa]; try ((repeat' (first | intro _ | split)) <;> first | rfl | omega))]; rfl, ?_⟩
    (repeat (first | refine below_drewN ?_ _ | refine Below.alloc ?_ (by simp; try omega) _ | refine Below.setCell ?_ (by simp; try omega) _)); exact Below.refl _ _
  have Hlqa : Hid (¬ qa < 0) := lqa
  by_cases uqa : 1 < qa
  · rw [rounds_succ]
    go_wp2_with fail
    go_quiet (fail)
    go_wp2_with fail
    go_ret
    refine ⟨by rw [show rfC _ = 1 by (simp [rfC, rowR, numR, HNP.out, uqa]; try ((repeat' (first | intro _ | split)) <;> first | rfl | omega))]; rfl, ?_⟩
    (repeat (first | refine below_drewN ?_ _ | refine Below.alloc ?_ (by simp; try omega) _ | refine Below.setCell ?_ (by simp; try omega) _)); exact Below.refl _ _
  have Huqa : Hid (¬ 1 < qa) := uqa
  rw [rounds_succ]
  go_wp2_with fail
  go_quiet (fail)
  go_wp2_with fail
  rw [rounds_succ]
  go_wp2_with fail
  go_ret
  refine ⟨by rw [show rfC _ = 0 by (simp [rfC, rowR, numR, HNP.out]; try ((repeat' (first | intro _ | split)) <;> first | rfl | omega))]; rfl, ?_⟩
  (repeat (first | refine below_drewN ?_ _ | refine Below.alloc ?_ (by simp; try omega) _ | refine Below.setCell ?_ (by simp; try omega) _)); exact Below.refl _ _
set_option maxHeartbeats 8000000 in
set_option maxRecDepth 100000 in
theorem opf_6 (id qa qb qc qd pw ph : Int) (u : Value) (ps : List (Int × Int)) (w : World) (hps : ps.length ≤ 1000000000) (HR : Hid (RdP w u ps)) :
    Calls Tryd.prog 17 #[opV ⟨6, id, qa, qb, qc, qd, pw, ph, ps⟩ u] w fun e w' => OpfP ⟨6, id, qa, qb, qc, qd, pw, ph, ps⟩ w e w' := by
  obtain ⟨ua, cu, hvu, _, _, _⟩ := HR.out
  obtain ⟨np, HNP⟩ : ∃ n, Hid (ps.length = n) := ⟨_, (rfl : _ = _)⟩
  rw [HNP.out] at hvu hps
  subst hvu
  unfold OpfP opV
  go_enter Tryd.func17, Tryd.ntmps17
  go_wp2_with fail
  refine (parts_6 _).mono ?_
  rintro e w1 ⟨rfl, rfl⟩
  go_wp2_with fail
  refine wp_loop_rounds 4 ?_
  by_cases hqb : qb = 0
  case neg =>
    rw [rounds_succ]
    go_wp2_with fail
    go_ret
    refine ⟨by rw [show rfC _ = 3 by (simp [rfC, rowR, numR, HNP.out, hqb]; try ((repeat' (first | intro _ | split)) <;> first | rfl | omega))]; rfl, ?_⟩
    (repeat (first | refine below_drewN ?_ _ | refine Below.alloc ?_ (by simp; try omega) _ | refine Below.setCell ?_ (by simp; try omega) _)); exact Below.refl _ _
  subst hqb
  rw [rounds_succ]
  go_wp2_with fail
  by_cases hqc : qc = 0
  case neg =>
    rw [rounds_succ]
    go_wp2_with fail
    go_ret
    refine ⟨by rw [show rfC _ = 3 by (simp [rfC, rowR, numR, HNP.out, hqc]; try ((repeat' (first | intro _ | split)) <;> first | rfl | omega))]; rfl, ?_⟩
    (repeat (first | refine below_drewN ?_ _ | refine Below.alloc ?_ (by simp; try omega) _ | refine Below.setCell ?_ (by simp; try omega) _)); exact Below.refl _ _
  subst hqc
  rw [rounds_succ]
  go_wp2_with fail
  by_cases hqd : qd = 0
  case neg =>
    rw [rounds_succ]
    go_wp2_with fail
    go_ret
    refine ⟨by rw [show rfC _ = 3 by (simp [rfC, rowR, numR, HNP.out, hqd]; try ((repeat' (first | intro _ | split)) <;> first | rfl | omega))]; rfl, ?_⟩
    (repeat (first | refine below_drewN ?_ _ | refine Below.alloc ?_ (by simp; try omega) _ | refine Below.setCell ?_ (by simp; try omega) _)); exact Below.refl _ _
  subst hqd
  rw [rounds_succ]
  go_wp2_with fail
  by_cases hpw : pw = 0
  case neg =>
    rw [rounds_succ]
    go_wp2_with fail
    go_ret
    refine ⟨by rw [show rfC _ = 3 by (simp [rfC, rowR, numR, HNP.out, hpw]; try ((repeat' (first | intro _ | split)) <;> first | rfl | omega))]; rfl, ?_⟩
    (repeat (first | refine below_drewN ?_ _ | refine Below.alloc ?_ (by simp; try omega) _ | refine Below.setCell ?_ (by simp; try omega) _)); exact Below.refl _ _
  subst hpw
  by_cases hph : ph = 0
  case neg =>
    rw [rounds_succ]
    go_wp2_with fail
    go_ret
    refine ⟨by rw [show rfC _ = 3 by (simp [rfC, rowR, numR, HNP.out, hph]; try ((repeat' (first | intro _ | split)) <;> first | rfl | omega))]; rfl, ?_⟩
    (repeat (first | refine below_drewN ?_ _ | refine Below.alloc ?_ (by simp; try omega) _ | refine Below.setCell ?_ (by simp; try omega) _)); exact Below.refl _ _
  subst hph
  by_cases hnp : np = 0
  case neg =>
    have hnp2 : 0 < np := by omega
    have hnp3 : (0 : Int) < (np : Int) := by omega
    rw [rounds_succ]
    go_wp2_with fail
    go_ret
    refine ⟨by rw [show rfC _ = 3 by (simp [rfC, rowR, numR, HNP.out, hnp2]; try ((repeat' (first | intro _ | split)) <;> first | rfl | omega))]; rfl, ?_⟩
    (repeat (first | refine below_drewN ?_ _ | refine Below.alloc ?_ (by simp; try omega) _ | refine Below.setCell ?_ (by simp; try omega) _)); exact Below.refl _ _
  subst hnp
  by_cases hi1 : id < 1
  · rw [rounds_succ]
    go_wp2_with fail
    go_ret
    refine ⟨by rw [show rfC _ = 1 by (simp [rfC, rowR, numR, HNP.out, hi1]; try ((repeat' (first | intro _ | split)) <;> first | rfl | omega))]; rfl, ?_⟩
    (repeat (first | refine below_drewN ?_ _ | refine Below.alloc ?_ (by simp; try omega) _ | refine Below.setCell ?_ (by simp; try omega) _)); exact Below.refl _ _
  have HI1 : Hid (¬ id < 1) := hi1
  by_cases hi2 : 6 < id
  · rw [rounds_succ]
    go_wp2_with fail
    go_ret
    refine ⟨by rw [show rfC _ = 1 by (simp [rfC, rowR, numR, HNP.out, hi2]; try ((repeat' (first | intro _ | split)) <;> first | rfl | omega))]; rfl, ?_⟩
    (repeat (first | refine below_drewN ?_ _ | refine Below.alloc ?_ (by simp; try omega) _ | refine Below.setCell ?_ (by simp; try omega) _)); exact Below.refl _ _
  have HI2 : Hid (¬ 6 < id) := hi2
  rw [rounds_succ]
  go_wp2_with fail
  refine wp_loop_rounds 2 ?_
  by_cases lqa : qa < 1
  · rw [rounds_succ]
    go_wp2_with fail
    go_quiet (fail)
    go_wp2_with fail
    go_ret
    refine ⟨by rw [show rfC _ = 1 by (simp [rfC, rowR, numR, HNP.out, lqa]; try ((repeat' (first | intro _ | split)) <;> first | rfl | omega))]; rfl, ?_⟩
    (repeat (first | refine below_drewN ?_ _ | refine Below.alloc ?_ (by simp; try omega) _ | refine Below.setCell ?_ (by simp; try omega) _)); exact Below.refl _ _
  have Hlqa : Hid (¬ qa < 1) := lqa
  by_cases uqa : 6 < qa
  · rw [rounds_succ]
    go_wp2_with fail
    go_quiet (fail)
    go_wp2_with fail
    go_ret
    refine ⟨by rw [show rfC _ = 1 by (simp [rfC, rowR, numR, HNP.out, uqa]; try ((repeat' (first | intro _ | split)) <;> first | rfl | omega))]; rfl, ?_⟩
    (repeat (first | refine below_drewN ?_ _ | refine Below.alloc ?_ (by simp; try omega) _ | refine Below.setCell ?_ (by simp; try omega) _)); exact Below.refl _ _
  have Huqa : Hid (¬ 6 < qa) := uqa
  rw [rounds_succ]
  go_wp2_with fail
  go_quiet (fail)
  go_wp2_with fail
  rw [rounds_succ]
  go_wp2_with fail
  go_ret
  refine ⟨by rw [show rfC _ = 0 by (simp [rfC, rowR, numR, HNP.out]; try ((repeat' (first | intro _ | split)) <;> first | rfl | omega))]; rfl, ?_⟩
  (repeat (first | refine below_drewN ?_ _ | refine Below.alloc ?_ (by simp; try omega) _ | refine Below.setCell ?_ (by simp; try omega) _)); exact Below.refl _ _
end Go.Proofs.YtceabiodelfdoaaDoor
/- Walk: the reference's fault of an op, kinds 7 to 9. -/
namespace Go.Proofs.YtceabiodelfdoaaDoor
open Go.RowKit
set_option linter.unusedSimpArgs false

set_option maxHeartbeats 8000000 in
set_option maxRecDepth 100000 in
theorem opf_7 (id qa qb qc qd pw ph : Int) (u : Value) (ps : List (Int × Int)) (w : World) (hps : ps.length ≤ 1000000000) (HR : Hid (RdP w u ps)) :
    Calls Tryd.prog 17 #[opV ⟨7, id, qa, qb, qc, qd, pw, ph, ps⟩ u] w fun e w' => OpfP ⟨7, id, qa, qb, qc, qd, pw, ph, ps⟩ w e w' := by
  obtain ⟨ua, cu, hvu, _, _, _⟩ := HR.out
  obtain ⟨np, HNP⟩ : ∃ n, Hid (ps.length = n) := ⟨_, (rfl : _ = _)⟩
  rw [HNP.out] at hvu hps
  subst hvu
  unfold OpfP opV
  go_enter Tryd.func17, Tryd.ntmps17
  go_wp2_with fail
  refine (parts_7 _).mono ?_
  rintro e w1 ⟨rfl, rfl⟩
  go_wp2_with fail
  refine wp_loop_rounds 5 ?_
  by_cases hqa : qa = 0
  case neg =>
    rw [rounds_succ]
    go_wp2_with fail
    go_ret
    refine ⟨by rw [show rfC _ = 3 by (simp [rfC, rowR, numR, HNP.out, hqa]; try ((repeat' (first | intro _ | split)) <;> first | rfl | omega))]; rfl, ?_⟩
    (repeat (first | refine below_drewN ?_ _ | refine Below.alloc ?_ (by simp; try omega) _ | refine Below.setCell ?_ (by simp; try omega) _)); exact Below.refl _ _
  subst hqa
  rw [rounds_succ]
  go_wp2_with fail
  by_cases hqb : qb = 0
  case neg =>
    rw [rounds_succ]
    go_wp2_with fail
    go_ret
    refine ⟨by rw [show rfC _ = 3 by (simp [rfC, rowR, numR, HNP.out, hqb]; try ((repeat' (first | intro _ | split)) <;> first | rfl | omega))]; rfl, ?_⟩
    (repeat (first | refine below_drewN ?_ _ | refine Below.alloc ?_ (by simp; try omega) _ | refine Below.setCell ?_ (by simp; try omega) _)); exact Below.refl _ _
  subst hqb
  rw [rounds_succ]
  go_wp2_with fail
  by_cases hqc : qc = 0
  case neg =>
    rw [rounds_succ]
    go_wp2_with fail
    go_ret
    refine ⟨by rw [show rfC _ = 3 by (simp [rfC, rowR, numR, HNP.out, hqc]; try ((repeat' (first | intro _ | split)) <;> first | rfl | omega))]; rfl, ?_⟩
    (repeat (first | refine below_drewN ?_ _ | refine Below.alloc ?_ (by simp; try omega) _ | refine Below.setCell ?_ (by simp; try omega) _)); exact Below.refl _ _
  subst hqc
  rw [rounds_succ]
  go_wp2_with fail
  by_cases hqd : qd = 0
  case neg =>
    rw [rounds_succ]
    go_wp2_with fail
    go_ret
    refine ⟨by rw [show rfC _ = 3 by (simp [rfC, rowR, numR, HNP.out, hqd]; try ((repeat' (first | intro _ | split)) <;> first | rfl | omega))]; rfl, ?_⟩
    (repeat (first | refine below_drewN ?_ _ | refine Below.alloc ?_ (by simp; try omega) _ | refine Below.setCell ?_ (by simp; try omega) _)); exact Below.refl _ _
  subst hqd
  rw [rounds_succ]
  go_wp2_with fail
  by_cases hpw : pw = 0
  case neg =>
    rw [rounds_succ]
    go_wp2_with fail
    go_ret
    refine ⟨by rw [show rfC _ = 3 by (simp [rfC, rowR, numR, HNP.out, hpw]; try ((repeat' (first | intro _ | split)) <;> first | rfl | omega))]; rfl, ?_⟩
    (repeat (first | refine below_drewN ?_ _ | refine Below.alloc ?_ (by simp; try omega) _ | refine Below.setCell ?_ (by simp; try omega) _)); exact Below.refl _ _
  subst hpw
  by_cases hph : ph = 0
  case neg =>
    rw [rounds_succ]
    go_wp2_with fail
    go_ret
    refine ⟨by rw [show rfC _ = 3 by (simp [rfC, rowR, numR, HNP.out, hph]; try ((repeat' (first | intro _ | split)) <;> first | rfl | omega))]; rfl, ?_⟩
    (repeat (first | refine below_drewN ?_ _ | refine Below.alloc ?_ (by simp; try omega) _ | refine Below.setCell ?_ (by simp; try omega) _)); exact Below.refl _ _
  subst hph
  by_cases hnp : np = 0
  case neg =>
    have hnp2 : 0 < np := by omega
    have hnp3 : (0 : Int) < (np : Int) := by omega
    rw [rounds_succ]
    go_wp2_with fail
    go_ret
    refine ⟨by rw [show rfC _ = 3 by (simp [rfC, rowR, numR, HNP.out, hnp2]; try ((repeat' (first | intro _ | split)) <;> first | rfl | omega))]; rfl, ?_⟩
    (repeat (first | refine below_drewN ?_ _ | refine Below.alloc ?_ (by simp; try omega) _ | refine Below.setCell ?_ (by simp; try omega) _)); exact Below.refl _ _
  subst hnp
  by_cases hi1 : id < 1
  · rw [rounds_succ]
    go_wp2_with fail
    go_ret
    refine ⟨by rw [show rfC _ = 1 by (simp [rfC, rowR, numR, HNP.out, hi1]; try ((repeat' (first | intro _ | split)) <;> first | rfl | omega))]; rfl, ?_⟩
    (repeat (first | refine below_drewN ?_ _ | refine Below.alloc ?_ (by simp; try omega) _ | refine Below.setCell ?_ (by simp; try omega) _)); exact Below.refl _ _
  have HI1 : Hid (¬ id < 1) := hi1
  by_cases hi2 : 6 < id
  · rw [rounds_succ]
    go_wp2_with fail
    go_ret
    refine ⟨by rw [show rfC _ = 1 by (simp [rfC, rowR, numR, HNP.out, hi2]; try ((repeat' (first | intro _ | split)) <;> first | rfl | omega))]; rfl, ?_⟩
    (repeat (first | refine below_drewN ?_ _ | refine Below.alloc ?_ (by simp; try omega) _ | refine Below.setCell ?_ (by simp; try omega) _)); exact Below.refl _ _
  have HI2 : Hid (¬ 6 < id) := hi2
  rw [rounds_succ]
  go_wp2_with fail
  refine wp_loop_rounds 1 ?_
  rw [rounds_succ]
  go_wp2_with fail
  go_ret
  refine ⟨by rw [show rfC _ = 0 by (simp [rfC, rowR, numR, HNP.out]; try ((repeat' (first | intro _ | split)) <;> first | rfl | omega))]; rfl, ?_⟩
  (repeat (first | refine below_drewN ?_ _ | refine Below.alloc ?_ (by simp; try omega) _ | refine Below.setCell ?_ (by simp; try omega) _)); exact Below.refl _ _
set_option maxHeartbeats 8000000 in
set_option maxRecDepth 100000 in
theorem opf_8 (id qa qb qc qd pw ph : Int) (u : Value) (ps : List (Int × Int)) (w : World) (hps : ps.length ≤ 1000000000) (HR : Hid (RdP w u ps)) :
    Calls Tryd.prog 17 #[opV ⟨8, id, qa, qb, qc, qd, pw, ph, ps⟩ u] w fun e w' => OpfP ⟨8, id, qa, qb, qc, qd, pw, ph, ps⟩ w e w' := by
  obtain ⟨ua, cu, hvu, _, _, _⟩ := HR.out
  obtain ⟨np, HNP⟩ : ∃ n, Hid (ps.length = n) := ⟨_, (rfl : _ = _)⟩
  rw [HNP.out] at hvu hps
  subst hvu
  unfold OpfP opV
  go_enter Tryd.func17, Tryd.ntmps17
  go_wp2_with fail
  refine (parts_8 _).mono ?_
  rintro e w1 ⟨rfl, rfl⟩
  go_wp2_with fail
  refine wp_loop_rounds 3 ?_
  by_cases hqc : qc = 0
  case neg =>
    rw [rounds_succ]
    go_wp2_with fail
    go_ret
    refine ⟨by rw [show rfC _ = 3 by (simp [rfC, rowR, numR, HNP.out, hqc]; try ((repeat' (first | intro _ | split)) <;> first | rfl | omega))]; rfl, ?_⟩
    (repeat (first | refine below_drewN ?_ _ | refine Below.alloc ?_ (by simp; try omega) _ | refine Below.setCell ?_ (by simp; try omega) _)); exact Below.refl _ _
  subst hqc
  rw [rounds_succ]
  go_wp2_with fail
  by_cases hqd : qd = 0
  case neg =>
    rw [rounds_succ]
    go_wp2_with fail
    go_ret
    refine ⟨by rw [show rfC _ = 3 by (simp [rfC, rowR, numR, HNP.out, hqd]; try ((repeat' (first | intro _ | split)) <;> first | rfl | omega))]; rfl, ?_⟩
    (repeat (first | refine below_drewN ?_ _ | refine Below.alloc ?_ (by simp; try omega) _ | refine Below.setCell ?_ (by simp; try omega) _)); exact Below.refl _ _
  subst hqd
  rw [rounds_succ]
  go_wp2_with fail
  by_cases hi1 : id < 1
  · rw [rounds_succ]
    go_wp2_with fail
    go_ret
    refine ⟨by rw [show rfC _ = 1 by (simp [rfC, rowR, numR, HNP.out, hi1]; try ((repeat' (first | intro _ | split)) <;> first | rfl | omega))]; rfl, ?_⟩
    (repeat (first | refine below_drewN ?_ _ | refine Below.alloc ?_ (by simp; try omega) _ | refine Below.setCell ?_ (by simp; try omega) _)); exact Below.refl _ _
  have HI1 : Hid (¬ id < 1) := hi1
  by_cases hi2 : 6 < id
  · rw [rounds_succ]
    go_wp2_with fail
    go_ret
    refine ⟨by rw [show rfC _ = 1 by (simp [rfC, rowR, numR, HNP.out, hi2]; try ((repeat' (first | intro _ | split)) <;> first | rfl | omega))]; rfl, ?_⟩
    (repeat (first | refine below_drewN ?_ _ | refine Below.alloc ?_ (by simp; try omega) _ | refine Below.setCell ?_ (by simp; try omega) _)); exact Below.refl _ _
  have HI2 : Hid (¬ 6 < id) := hi2
  rw [rounds_succ]
  go_wp2_with fail
  refine wp_loop_rounds 3 ?_
  by_cases lqa : qa < -20
  · rw [rounds_succ]
    go_wp2_with fail
    go_quiet (fail)
    go_wp2_with fail
    go_ret
    refine ⟨by rw [show rfC _ = 1 by (simp [rfC, rowR, numR, HNP.out, lqa]; try ((repeat' (first | intro _ | split)) <;> first | rfl | omega))]; rfl, ?_⟩
    (repeat (first | refine below_drewN ?_ _ | refine Below.alloc ?_ (by simp; try omega) _ | refine Below.setCell ?_ (by simp; try omega) _)); exact Below.refl _ _
  have Hlqa : Hid (¬ qa < -20) := lqa
  by_cases uqa : 20 < qa
  · rw [rounds_succ]
    go_wp2_with fail
    go_quiet (fail)
    go_wp2_with fail
    go_ret
    refine ⟨by rw [show rfC _ = 1 by (simp [rfC, rowR, numR, HNP.out, uqa]; try ((repeat' (first | intro _ | split)) <;> first | rfl | omega))]; rfl, ?_⟩
    (repeat (first | refine below_drewN ?_ _ | refine Below.alloc ?_ (by simp; try omega) _ | refine Below.setCell ?_ (by simp; try omega) _)); exact Below.refl _ _
  have Huqa : Hid (¬ 20 < qa) := uqa
  rw [rounds_succ]
  go_wp2_with fail
  go_quiet (fail)
  go_wp2_with fail
  by_cases lqb : qb < -20
  · rw [rounds_succ]
    go_wp2_with fail
    go_quiet (fail)
    go_wp2_with fail
    go_ret
    refine ⟨by rw [show rfC _ = 1 by (simp [rfC, rowR, numR, HNP.out, lqb]; try ((repeat' (first | intro _ | split)) <;> first | rfl | omega))]; rfl, ?_⟩
    (repeat (first | refine below_drewN ?_ _ | refine Below.alloc ?_ (by simp; try omega) _ | refine Below.setCell ?_ (by simp; try omega) _)); exact Below.refl _ _
  have Hlqb : Hid (¬ qb < -20) := lqb
  by_cases uqb : 20 < qb
  · rw [rounds_succ]
    go_wp2_with fail
    go_quiet (fail)
    go_wp2_with fail
    go_ret
    refine ⟨by rw [show rfC _ = 1 by (simp [rfC, rowR, numR, HNP.out, uqb]; try ((repeat' (first | intro _ | split)) <;> first | rfl | omega))]; rfl, ?_⟩
    (repeat (first | refine below_drewN ?_ _ | refine Below.alloc ?_ (by simp; try omega) _ | refine Below.setCell ?_ (by simp; try omega) _)); exact Below.refl _ _
  have Huqb : Hid (¬ 20 < qb) := uqb
  rw [rounds_succ]
  go_wp2_with fail
  go_quiet (fail)
  go_wp2_with fail
  rw [rounds_succ]
  go_wp2_with fail
  refine (fault_any pw ph _ ps _ (by rw [HNP.out]; exact hps) (HR.out.on (by (repeat (first | refine below_drewN ?_ _ | refine Below.alloc ?_ (by simp; try omega) _ | refine Below.setCell ?_ (by simp; try omega) _)); exact Below.refl _ _)) _ (rfl : Hid (_ = _))).mono ?_
  rintro e w2 ⟨rfl, hb2⟩
  go_wp2_with fail
  go_ret
  refine ⟨by rw [show rfC _ = checkL pw ph ps by (simp [rfC, rowR, numR, HNP.out]; try ((repeat' (first | intro _ | split)) <;> first | rfl | omega))]; rfl, Below.trans ?_ (hb2.mono (by simp; omega))⟩
  (repeat (first | refine below_drewN ?_ _ | refine Below.alloc ?_ (by simp; try omega) _ | refine Below.setCell ?_ (by simp; try omega) _)); exact Below.refl _ _
set_option maxHeartbeats 8000000 in
set_option maxRecDepth 100000 in
theorem opf_9 (id qa qb qc qd pw ph : Int) (u : Value) (ps : List (Int × Int)) (w : World) (hps : ps.length ≤ 1000000000) (HR : Hid (RdP w u ps)) :
    Calls Tryd.prog 17 #[opV ⟨9, id, qa, qb, qc, qd, pw, ph, ps⟩ u] w fun e w' => OpfP ⟨9, id, qa, qb, qc, qd, pw, ph, ps⟩ w e w' := by
  obtain ⟨ua, cu, hvu, _, _, _⟩ := HR.out
  obtain ⟨np, HNP⟩ : ∃ n, Hid (ps.length = n) := ⟨_, (rfl : _ = _)⟩
  rw [HNP.out] at hvu hps
  subst hvu
  unfold OpfP opV
  go_enter Tryd.func17, Tryd.ntmps17
  go_wp2_with fail
  refine (parts_9 _).mono ?_
  rintro e w1 ⟨rfl, rfl⟩
  go_wp2_with fail
  refine wp_loop_rounds 3 ?_
  by_cases hqc : qc = 0
  case neg =>
    rw [rounds_succ]
    go_wp2_with fail
    go_ret
    refine ⟨by rw [show rfC _ = 3 by (simp [rfC, rowR, numR, HNP.out, hqc]; try ((repeat' (first | intro _ | split)) <;> first | rfl | omega))]; rfl, ?_⟩
    (repeat (first | refine below_drewN ?_ _ | refine Below.alloc ?_ (by simp; try omega) _ | refine Below.setCell ?_ (by simp; try omega) _)); exact Below.refl _ _
  subst hqc
  rw [rounds_succ]
  go_wp2_with fail
  by_cases hqd : qd = 0
  case neg =>
    rw [rounds_succ]
    go_wp2_with fail
    go_ret
    refine ⟨by rw [show rfC _ = 3 by (simp [rfC, rowR, numR, HNP.out, hqd]; try ((repeat' (first | intro _ | split)) <;> first | rfl | omega))]; rfl, ?_⟩
    (repeat (first | refine below_drewN ?_ _ | refine Below.alloc ?_ (by simp; try omega) _ | refine Below.setCell ?_ (by simp; try omega) _)); exact Below.refl _ _
  subst hqd
  rw [rounds_succ]
  go_wp2_with fail
  by_cases hi1 : id < 1
  · rw [rounds_succ]
    go_wp2_with fail
    go_ret
    refine ⟨by rw [show rfC _ = 1 by (simp [rfC, rowR, numR, HNP.out, hi1]; try ((repeat' (first | intro _ | split)) <;> first | rfl | omega))]; rfl, ?_⟩
    (repeat (first | refine below_drewN ?_ _ | refine Below.alloc ?_ (by simp; try omega) _ | refine Below.setCell ?_ (by simp; try omega) _)); exact Below.refl _ _
  have HI1 : Hid (¬ id < 1) := hi1
  by_cases hi2 : 6 < id
  · rw [rounds_succ]
    go_wp2_with fail
    go_ret
    refine ⟨by rw [show rfC _ = 1 by (simp [rfC, rowR, numR, HNP.out, hi2]; try ((repeat' (first | intro _ | split)) <;> first | rfl | omega))]; rfl, ?_⟩
    (repeat (first | refine below_drewN ?_ _ | refine Below.alloc ?_ (by simp; try omega) _ | refine Below.setCell ?_ (by simp; try omega) _)); exact Below.refl _ _
  have HI2 : Hid (¬ 6 < id) := hi2
  rw [rounds_succ]
  go_wp2_with fail
  refine wp_loop_rounds 3 ?_
  by_cases lqa : qa < -20
  · rw [rounds_succ]
    go_wp2_with fail
    go_quiet (fail)
    go_wp2_with fail
    go_ret
    refine ⟨by rw [show rfC _ = 1 by (simp [rfC, rowR, numR, HNP.out, lqa]; try ((repeat' (first | intro _ | split)) <;> first | rfl | omega))]; rfl, ?_⟩
    (repeat (first | refine below_drewN ?_ _ | refine Below.alloc ?_ (by simp; try omega) _ | refine Below.setCell ?_ (by simp; try omega) _)); exact Below.refl _ _
  have Hlqa : Hid (¬ qa < -20) := lqa
  by_cases uqa : 20 < qa
  · rw [rounds_succ]
    go_wp2_with fail
    go_quiet (fail)
    go_wp2_with fail
    go_ret
    refine ⟨by rw [show rfC _ = 1 by (simp [rfC, rowR, numR, HNP.out, uqa]; try ((repeat' (first | intro _ | split)) <;> first | rfl | omega))]; rfl, ?_⟩
    (repeat (first | refine below_drewN ?_ _ | refine Below.alloc ?_ (by simp; try omega) _ | refine Below.setCell ?_ (by simp; try omega) _)); exact Below.refl _ _
  have Huqa : Hid (¬ 20 < qa) := uqa
  rw [rounds_succ]
  go_wp2_with fail
  go_quiet (fail)
  go_wp2_with fail
  by_cases lqb : qb < -20
  · rw [rounds_succ]
    go_wp2_with fail
    go_quiet (fail)
    go_wp2_with fail
    go_ret
    refine ⟨by rw [show rfC _ = 1 by (simp [rfC, rowR, numR, HNP.out, lqb]; try ((repeat' (first | intro _ | split)) <;> first | rfl | omega))]; rfl, ?_⟩
    (repeat (first | refine below_drewN ?_ _ | refine Below.alloc ?_ (by simp; try omega) _ | refine Below.setCell ?_ (by simp; try omega) _)); exact Below.refl _ _
  have Hlqb : Hid (¬ qb < -20) := lqb
  by_cases uqb : 20 < qb
  · rw [rounds_succ]
    go_wp2_with fail
    go_quiet (fail)
    go_wp2_with fail
    go_ret
    refine ⟨by rw [show rfC _ = 1 by (simp [rfC, rowR, numR, HNP.out, uqb]; try ((repeat' (first | intro _ | split)) <;> first | rfl | omega))]; rfl, ?_⟩
    (repeat (first | refine below_drewN ?_ _ | refine Below.alloc ?_ (by simp; try omega) _ | refine Below.setCell ?_ (by simp; try omega) _)); exact Below.refl _ _
  have Huqb : Hid (¬ 20 < qb) := uqb
  rw [rounds_succ]
  go_wp2_with fail
  go_quiet (fail)
  go_wp2_with fail
  rw [rounds_succ]
  go_wp2_with fail
  refine (fault_any pw ph _ ps _ (by rw [HNP.out]; exact hps) (HR.out.on (by (repeat (first | refine below_drewN ?_ _ | refine Below.alloc ?_ (by simp; try omega) _ | refine Below.setCell ?_ (by simp; try omega) _)); exact Below.refl _ _)) _ (rfl : Hid (_ = _))).mono ?_
  rintro e w2 ⟨rfl, hb2⟩
  go_wp2_with fail
  go_ret
  refine ⟨by rw [show rfC _ = checkL pw ph ps by (simp [rfC, rowR, numR, HNP.out]; try ((repeat' (first | intro _ | split)) <;> first | rfl | omega))]; rfl, Below.trans ?_ (hb2.mono (by simp; omega))⟩
  (repeat (first | refine below_drewN ?_ _ | refine Below.alloc ?_ (by simp; try omega) _ | refine Below.setCell ?_ (by simp; try omega) _)); exact Below.refl _ _
end Go.Proofs.YtceabiodelfdoaaDoor
/- Walk: the reference's fault of an op, kinds 10 to 12. -/
namespace Go.Proofs.YtceabiodelfdoaaDoor
open Go.RowKit
set_option linter.unusedSimpArgs false

set_option maxHeartbeats 8000000 in
set_option maxRecDepth 100000 in
theorem opf_10 (id qa qb qc qd pw ph : Int) (u : Value) (ps : List (Int × Int)) (w : World) (hps : ps.length ≤ 1000000000) (HR : Hid (RdP w u ps)) :
    Calls Tryd.prog 17 #[opV ⟨10, id, qa, qb, qc, qd, pw, ph, ps⟩ u] w fun e w' => OpfP ⟨10, id, qa, qb, qc, qd, pw, ph, ps⟩ w e w' := by
  obtain ⟨ua, cu, hvu, _, _, _⟩ := HR.out
  obtain ⟨np, HNP⟩ : ∃ n, Hid (ps.length = n) := ⟨_, (rfl : _ = _)⟩
  rw [HNP.out] at hvu hps
  subst hvu
  unfold OpfP opV
  go_enter Tryd.func17, Tryd.ntmps17
  go_wp2_with fail
  refine (parts_10 _).mono ?_
  rintro e w1 ⟨rfl, rfl⟩
  go_wp2_with fail
  refine wp_loop_rounds 3 ?_
  by_cases hqc : qc = 0
  case neg =>
    rw [rounds_succ]
    go_wp2_with fail
    go_ret
    refine ⟨by rw [show rfC _ = 3 by (simp [rfC, rowR, numR, HNP.out, hqc]; try ((repeat' (first | intro _ | split)) <;> first | rfl | omega))]; rfl, ?_⟩
    (repeat (first | refine below_drewN ?_ _ | refine Below.alloc ?_ (by simp; try omega) _ | refine Below.setCell ?_ (by simp; try omega) _)); exact Below.refl _ _
  subst hqc
  rw [rounds_succ]
  go_wp2_with fail
  by_cases hqd : qd = 0
  case neg =>
    rw [rounds_succ]
    go_wp2_with fail
    go_ret
    refine ⟨by rw [show rfC _ = 3 by (simp [rfC, rowR, numR, HNP.out, hqd]; try ((repeat' (first | intro _ | split)) <;> first | rfl | omega))]; rfl, ?_⟩
    (repeat (first | refine below_drewN ?_ _ | refine Below.alloc ?_ (by simp; try omega) _ | refine Below.setCell ?_ (by simp; try omega) _)); exact Below.refl _ _
  subst hqd
  rw [rounds_succ]
  go_wp2_with fail
  by_cases hid : id = 0
  case neg =>
    rw [rounds_succ]
    go_wp2_with fail
    go_ret
    refine ⟨by rw [show rfC _ = 3 by (simp [rfC, rowR, numR, HNP.out, hid]; try ((repeat' (first | intro _ | split)) <;> first | rfl | omega))]; rfl, ?_⟩
    (repeat (first | refine below_drewN ?_ _ | refine Below.alloc ?_ (by simp; try omega) _ | refine Below.setCell ?_ (by simp; try omega) _)); exact Below.refl _ _
  subst hid
  by_cases hpw : pw = 0
  case neg =>
    rw [rounds_succ]
    go_wp2_with fail
    go_ret
    refine ⟨by rw [show rfC _ = 3 by (simp [rfC, rowR, numR, HNP.out, hpw]; try ((repeat' (first | intro _ | split)) <;> first | rfl | omega))]; rfl, ?_⟩
    (repeat (first | refine below_drewN ?_ _ | refine Below.alloc ?_ (by simp; try omega) _ | refine Below.setCell ?_ (by simp; try omega) _)); exact Below.refl _ _
  subst hpw
  by_cases hph : ph = 0
  case neg =>
    rw [rounds_succ]
    go_wp2_with fail
    go_ret
    refine ⟨by rw [show rfC _ = 3 by (simp [rfC, rowR, numR, HNP.out, hph]; try ((repeat' (first | intro _ | split)) <;> first | rfl | omega))]; rfl, ?_⟩
    (repeat (first | refine below_drewN ?_ _ | refine Below.alloc ?_ (by simp; try omega) _ | refine Below.setCell ?_ (by simp; try omega) _)); exact Below.refl _ _
  subst hph
  by_cases hnp : np = 0
  case neg =>
    have hnp2 : 0 < np := by omega
    have hnp3 : (0 : Int) < (np : Int) := by omega
    rw [rounds_succ]
    go_wp2_with fail
    go_ret
    refine ⟨by rw [show rfC _ = 3 by (simp [rfC, rowR, numR, HNP.out, hnp2]; try ((repeat' (first | intro _ | split)) <;> first | rfl | omega))]; rfl, ?_⟩
    (repeat (first | refine below_drewN ?_ _ | refine Below.alloc ?_ (by simp; try omega) _ | refine Below.setCell ?_ (by simp; try omega) _)); exact Below.refl _ _
  subst hnp
  rw [rounds_succ]
  go_wp2_with fail
  refine wp_loop_rounds 3 ?_
  by_cases lqa : qa < 0
  · rw [rounds_succ]
    go_wp2_with fail
    go_quiet (fail)
    go_wp2_with fail
    go_ret
    refine ⟨by rw [show rfC _ = 1 by (simp [rfC, rowR, numR, HNP.out, lqa]; try ((repeat' (first | intro _ | split)) <;> first | rfl | omega))]; rfl, ?_⟩
    (repeat (first | refine below_drewN ?_ _ | refine Below.alloc ?_ (by simp; try omega) _ | refine Below.setCell ?_ (by simp; try omega) _)); exact Below.refl _ _
  have Hlqa : Hid (¬ qa < 0) := lqa
  by_cases uqa : 255 < qa
  · rw [rounds_succ]
    go_wp2_with fail
    go_quiet (fail)
    go_wp2_with fail
    go_ret
    refine ⟨by rw [show rfC _ = 1 by (simp [rfC, rowR, numR, HNP.out, uqa]; try ((repeat' (first | intro _ | split)) <;> first | rfl | omega))]; rfl, ?_⟩
    (repeat (first | refine below_drewN ?_ _ | refine Below.alloc ?_ (by simp; try omega) _ | refine Below.setCell ?_ (by simp; try omega) _)); exact Below.refl _ _
  have Huqa : Hid (¬ 255 < qa) := uqa
  rw [rounds_succ]
  go_wp2_with fail
  go_quiet (fail)
  go_wp2_with fail
  by_cases lqb : qb < 0
  · rw [rounds_succ]
    go_wp2_with fail
    go_quiet (fail)
    go_wp2_with fail
    go_ret
    refine ⟨by rw [show rfC _ = 1 by (simp [rfC, rowR, numR, HNP.out, lqb]; try ((repeat' (first | intro _ | split)) <;> first | rfl | omega))]; rfl, ?_⟩
    (repeat (first | refine below_drewN ?_ _ | refine Below.alloc ?_ (by simp; try omega) _ | refine Below.setCell ?_ (by simp; try omega) _)); exact Below.refl _ _
  have Hlqb : Hid (¬ qb < 0) := lqb
  by_cases uqb : 255 < qb
  · rw [rounds_succ]
    go_wp2_with fail
    go_quiet (fail)
    go_wp2_with fail
    go_ret
    refine ⟨by rw [show rfC _ = 1 by (simp [rfC, rowR, numR, HNP.out, uqb]; try ((repeat' (first | intro _ | split)) <;> first | rfl | omega))]; rfl, ?_⟩
    (repeat (first | refine below_drewN ?_ _ | refine Below.alloc ?_ (by simp; try omega) _ | refine Below.setCell ?_ (by simp; try omega) _)); exact Below.refl _ _
  have Huqb : Hid (¬ 255 < qb) := uqb
  rw [rounds_succ]
  go_wp2_with fail
  go_quiet (fail)
  go_wp2_with fail
  rw [rounds_succ]
  go_wp2_with fail
  go_ret
  refine ⟨by rw [show rfC _ = 0 by (simp [rfC, rowR, numR, HNP.out]; try ((repeat' (first | intro _ | split)) <;> first | rfl | omega))]; rfl, ?_⟩
  (repeat (first | refine below_drewN ?_ _ | refine Below.alloc ?_ (by simp; try omega) _ | refine Below.setCell ?_ (by simp; try omega) _)); exact Below.refl _ _
set_option maxHeartbeats 8000000 in
set_option maxRecDepth 100000 in
theorem opf_11 (id qa qb qc qd pw ph : Int) (u : Value) (ps : List (Int × Int)) (w : World) (hps : ps.length ≤ 1000000000) (HR : Hid (RdP w u ps)) :
    Calls Tryd.prog 17 #[opV ⟨11, id, qa, qb, qc, qd, pw, ph, ps⟩ u] w fun e w' => OpfP ⟨11, id, qa, qb, qc, qd, pw, ph, ps⟩ w e w' := by
  obtain ⟨ua, cu, hvu, _, _, _⟩ := HR.out
  obtain ⟨np, HNP⟩ : ∃ n, Hid (ps.length = n) := ⟨_, (rfl : _ = _)⟩
  rw [HNP.out] at hvu hps
  subst hvu
  unfold OpfP opV
  go_enter Tryd.func17, Tryd.ntmps17
  go_wp2_with fail
  refine (parts_11 _).mono ?_
  rintro e w1 ⟨rfl, rfl⟩
  go_wp2_with fail
  refine wp_loop_rounds 4 ?_
  by_cases hqb : qb = 0
  case neg =>
    rw [rounds_succ]
    go_wp2_with fail
    go_ret
    refine ⟨by rw [show rfC _ = 3 by (simp [rfC, rowR, numR, HNP.out, hqb]; try ((repeat' (first | intro _ | split)) <;> first | rfl | omega))]; rfl, ?_⟩
    (repeat (first | refine below_drewN ?_ _ | refine Below.alloc ?_ (by simp; try omega) _ | refine Below.setCell ?_ (by simp; try omega) _)); exact Below.refl _ _
  subst hqb
  rw [rounds_succ]
  go_wp2_with fail
  by_cases hqc : qc = 0
  case neg =>
    rw [rounds_succ]
    go_wp2_with fail
    go_ret
    refine ⟨by rw [show rfC _ = 3 by (simp [rfC, rowR, numR, HNP.out, hqc]; try ((repeat' (first | intro _ | split)) <;> first | rfl | omega))]; rfl, ?_⟩
    (repeat (first | refine below_drewN ?_ _ | refine Below.alloc ?_ (by simp; try omega) _ | refine Below.setCell ?_ (by simp; try omega) _)); exact Below.refl _ _
  subst hqc
  rw [rounds_succ]
  go_wp2_with fail
  by_cases hqd : qd = 0
  case neg =>
    rw [rounds_succ]
    go_wp2_with fail
    go_ret
    refine ⟨by rw [show rfC _ = 3 by (simp [rfC, rowR, numR, HNP.out, hqd]; try ((repeat' (first | intro _ | split)) <;> first | rfl | omega))]; rfl, ?_⟩
    (repeat (first | refine below_drewN ?_ _ | refine Below.alloc ?_ (by simp; try omega) _ | refine Below.setCell ?_ (by simp; try omega) _)); exact Below.refl _ _
  subst hqd
  rw [rounds_succ]
  go_wp2_with fail
  by_cases hid : id = 0
  case neg =>
    rw [rounds_succ]
    go_wp2_with fail
    go_ret
    refine ⟨by rw [show rfC _ = 3 by (simp [rfC, rowR, numR, HNP.out, hid]; try ((repeat' (first | intro _ | split)) <;> first | rfl | omega))]; rfl, ?_⟩
    (repeat (first | refine below_drewN ?_ _ | refine Below.alloc ?_ (by simp; try omega) _ | refine Below.setCell ?_ (by simp; try omega) _)); exact Below.refl _ _
  subst hid
  by_cases hpw : pw = 0
  case neg =>
    rw [rounds_succ]
    go_wp2_with fail
    go_ret
    refine ⟨by rw [show rfC _ = 3 by (simp [rfC, rowR, numR, HNP.out, hpw]; try ((repeat' (first | intro _ | split)) <;> first | rfl | omega))]; rfl, ?_⟩
    (repeat (first | refine below_drewN ?_ _ | refine Below.alloc ?_ (by simp; try omega) _ | refine Below.setCell ?_ (by simp; try omega) _)); exact Below.refl _ _
  subst hpw
  by_cases hph : ph = 0
  case neg =>
    rw [rounds_succ]
    go_wp2_with fail
    go_ret
    refine ⟨by rw [show rfC _ = 3 by (simp [rfC, rowR, numR, HNP.out, hph]; try ((repeat' (first | intro _ | split)) <;> first | rfl | omega))]; rfl, ?_⟩
    (repeat (first | refine below_drewN ?_ _ | refine Below.alloc ?_ (by simp; try omega) _ | refine Below.setCell ?_ (by simp; try omega) _)); exact Below.refl _ _
  subst hph
  by_cases hnp : np = 0
  case neg =>
    have hnp2 : 0 < np := by omega
    have hnp3 : (0 : Int) < (np : Int) := by omega
    rw [rounds_succ]
    go_wp2_with fail
    go_ret
    refine ⟨by rw [show rfC _ = 3 by (simp [rfC, rowR, numR, HNP.out, hnp2]; try ((repeat' (first | intro _ | split)) <;> first | rfl | omega))]; rfl, ?_⟩
    (repeat (first | refine below_drewN ?_ _ | refine Below.alloc ?_ (by simp; try omega) _ | refine Below.setCell ?_ (by simp; try omega) _)); exact Below.refl _ _
  subst hnp
  rw [rounds_succ]
  go_wp2_with fail
  refine wp_loop_rounds 2 ?_
  by_cases lqa : qa < 0
  · rw [rounds_succ]
    go_wp2_with fail
    go_quiet (fail)
    go_wp2_with fail
    go_ret
    refine ⟨by rw [show rfC _ = 1 by (simp [rfC, rowR, numR, HNP.out, lqa]; try ((repeat' (first | intro _ | split)) <;> first | rfl | omega))]; rfl, ?_⟩
    (repeat (first | refine below_drewN ?_ _ | refine Below.alloc ?_ (by simp; try omega) _ | refine Below.setCell ?_ (by simp; try omega) _)); exact Below.refl _ _
  have Hlqa : Hid (¬ qa < 0) := lqa
  by_cases uqa : 99 < qa
  · rw [rounds_succ]
    go_wp2_with fail
    go_quiet (fail)
    go_wp2_with fail
    go_ret
    refine ⟨by rw [show rfC _ = 1 by (simp [rfC, rowR, numR, HNP.out, uqa]; try ((repeat' (first | intro _ | split)) <;> first | rfl | omega))]; rfl, ?_⟩
    (repeat (first | refine below_drewN ?_ _ | refine Below.alloc ?_ (by simp; try omega) _ | refine Below.setCell ?_ (by simp; try omega) _)); exact Below.refl _ _
  have Huqa : Hid (¬ 99 < qa) := uqa
  rw [rounds_succ]
  go_wp2_with fail
  go_quiet (fail)
  go_wp2_with fail
  rw [rounds_succ]
  go_wp2_with fail
  go_ret
  refine ⟨by rw [show rfC _ = 0 by (simp [rfC, rowR, numR, HNP.out]; try ((repeat' (first | intro _ | split)) <;> first | rfl | omega))]; rfl, ?_⟩
  (repeat (first | refine below_drewN ?_ _ | refine Below.alloc ?_ (by simp; try omega) _ | refine Below.setCell ?_ (by simp; try omega) _)); exact Below.refl _ _
set_option maxHeartbeats 8000000 in
set_option maxRecDepth 100000 in
theorem opf_12 (id qa qb qc qd pw ph : Int) (u : Value) (ps : List (Int × Int)) (w : World) (hps : ps.length ≤ 1000000000) (HR : Hid (RdP w u ps)) :
    Calls Tryd.prog 17 #[opV ⟨12, id, qa, qb, qc, qd, pw, ph, ps⟩ u] w fun e w' => OpfP ⟨12, id, qa, qb, qc, qd, pw, ph, ps⟩ w e w' := by
  obtain ⟨ua, cu, hvu, _, _, _⟩ := HR.out
  obtain ⟨np, HNP⟩ : ∃ n, Hid (ps.length = n) := ⟨_, (rfl : _ = _)⟩
  rw [HNP.out] at hvu hps
  subst hvu
  unfold OpfP opV
  go_enter Tryd.func17, Tryd.ntmps17
  go_wp2_with fail
  refine (parts_12 _).mono ?_
  rintro e w1 ⟨rfl, rfl⟩
  go_wp2_with fail
  refine wp_loop_rounds 4 ?_
  by_cases hqb : qb = 0
  case neg =>
    rw [rounds_succ]
    go_wp2_with fail
    go_ret
    refine ⟨by rw [show rfC _ = 3 by (simp [rfC, rowR, numR, HNP.out, hqb]; try ((repeat' (first | intro _ | split)) <;> first | rfl | omega))]; rfl, ?_⟩
    (repeat (first | refine below_drewN ?_ _ | refine Below.alloc ?_ (by simp; try omega) _ | refine Below.setCell ?_ (by simp; try omega) _)); exact Below.refl _ _
  subst hqb
  rw [rounds_succ]
  go_wp2_with fail
  by_cases hqc : qc = 0
  case neg =>
    rw [rounds_succ]
    go_wp2_with fail
    go_ret
    refine ⟨by rw [show rfC _ = 3 by (simp [rfC, rowR, numR, HNP.out, hqc]; try ((repeat' (first | intro _ | split)) <;> first | rfl | omega))]; rfl, ?_⟩
    (repeat (first | refine below_drewN ?_ _ | refine Below.alloc ?_ (by simp; try omega) _ | refine Below.setCell ?_ (by simp; try omega) _)); exact Below.refl _ _
  subst hqc
  rw [rounds_succ]
  go_wp2_with fail
  by_cases hqd : qd = 0
  case neg =>
    rw [rounds_succ]
    go_wp2_with fail
    go_ret
    refine ⟨by rw [show rfC _ = 3 by (simp [rfC, rowR, numR, HNP.out, hqd]; try ((repeat' (first | intro _ | split)) <;> first | rfl | omega))]; rfl, ?_⟩
    (repeat (first | refine below_drewN ?_ _ | refine Below.alloc ?_ (by simp; try omega) _ | refine Below.setCell ?_ (by simp; try omega) _)); exact Below.refl _ _
  subst hqd
  rw [rounds_succ]
  go_wp2_with fail
  by_cases hid : id = 0
  case neg =>
    rw [rounds_succ]
    go_wp2_with fail
    go_ret
    refine ⟨by rw [show rfC _ = 3 by (simp [rfC, rowR, numR, HNP.out, hid]; try ((repeat' (first | intro _ | split)) <;> first | rfl | omega))]; rfl, ?_⟩
    (repeat (first | refine below_drewN ?_ _ | refine Below.alloc ?_ (by simp; try omega) _ | refine Below.setCell ?_ (by simp; try omega) _)); exact Below.refl _ _
  subst hid
  by_cases hpw : pw = 0
  case neg =>
    rw [rounds_succ]
    go_wp2_with fail
    go_ret
    refine ⟨by rw [show rfC _ = 3 by (simp [rfC, rowR, numR, HNP.out, hpw]; try ((repeat' (first | intro _ | split)) <;> first | rfl | omega))]; rfl, ?_⟩
    (repeat (first | refine below_drewN ?_ _ | refine Below.alloc ?_ (by simp; try omega) _ | refine Below.setCell ?_ (by simp; try omega) _)); exact Below.refl _ _
  subst hpw
  by_cases hph : ph = 0
  case neg =>
    rw [rounds_succ]
    go_wp2_with fail
    go_ret
    refine ⟨by rw [show rfC _ = 3 by (simp [rfC, rowR, numR, HNP.out, hph]; try ((repeat' (first | intro _ | split)) <;> first | rfl | omega))]; rfl, ?_⟩
    (repeat (first | refine below_drewN ?_ _ | refine Below.alloc ?_ (by simp; try omega) _ | refine Below.setCell ?_ (by simp; try omega) _)); exact Below.refl _ _
  subst hph
  by_cases hnp : np = 0
  case neg =>
    have hnp2 : 0 < np := by omega
    have hnp3 : (0 : Int) < (np : Int) := by omega
    rw [rounds_succ]
    go_wp2_with fail
    go_ret
    refine ⟨by rw [show rfC _ = 3 by (simp [rfC, rowR, numR, HNP.out, hnp2]; try ((repeat' (first | intro _ | split)) <;> first | rfl | omega))]; rfl, ?_⟩
    (repeat (first | refine below_drewN ?_ _ | refine Below.alloc ?_ (by simp; try omega) _ | refine Below.setCell ?_ (by simp; try omega) _)); exact Below.refl _ _
  subst hnp
  rw [rounds_succ]
  go_wp2_with fail
  refine wp_loop_rounds 2 ?_
  by_cases lqa : qa < 0
  · rw [rounds_succ]
    go_wp2_with fail
    go_quiet (fail)
    go_wp2_with fail
    go_ret
    refine ⟨by rw [show rfC _ = 1 by (simp [rfC, rowR, numR, HNP.out, lqa]; try ((repeat' (first | intro _ | split)) <;> first | rfl | omega))]; rfl, ?_⟩
    (repeat (first | refine below_drewN ?_ _ | refine Below.alloc ?_ (by simp; try omega) _ | refine Below.setCell ?_ (by simp; try omega) _)); exact Below.refl _ _
  have Hlqa : Hid (¬ qa < 0) := lqa
  by_cases uqa : 9 < qa
  · rw [rounds_succ]
    go_wp2_with fail
    go_quiet (fail)
    go_wp2_with fail
    go_ret
    refine ⟨by rw [show rfC _ = 1 by (simp [rfC, rowR, numR, HNP.out, uqa]; try ((repeat' (first | intro _ | split)) <;> first | rfl | omega))]; rfl, ?_⟩
    (repeat (first | refine below_drewN ?_ _ | refine Below.alloc ?_ (by simp; try omega) _ | refine Below.setCell ?_ (by simp; try omega) _)); exact Below.refl _ _
  have Huqa : Hid (¬ 9 < qa) := uqa
  rw [rounds_succ]
  go_wp2_with fail
  go_quiet (fail)
  go_wp2_with fail
  rw [rounds_succ]
  go_wp2_with fail
  go_ret
  refine ⟨by rw [show rfC _ = 0 by (simp [rfC, rowR, numR, HNP.out]; try ((repeat' (first | intro _ | split)) <;> first | rfl | omega))]; rfl, ?_⟩
  (repeat (first | refine below_drewN ?_ _ | refine Below.alloc ?_ (by simp; try omega) _ | refine Below.setCell ?_ (by simp; try omega) _)); exact Below.refl _ _
end Go.Proofs.YtceabiodelfdoaaDoor
/- Walk: the reference's fault of an op, kinds 13 to 16. -/
namespace Go.Proofs.YtceabiodelfdoaaDoor
open Go.RowKit
set_option linter.unusedSimpArgs false

set_option maxHeartbeats 8000000 in
set_option maxRecDepth 100000 in
theorem opf_13 (id qa qb qc qd pw ph : Int) (u : Value) (ps : List (Int × Int)) (w : World) (hps : ps.length ≤ 1000000000) (HR : Hid (RdP w u ps)) :
    Calls Tryd.prog 17 #[opV ⟨13, id, qa, qb, qc, qd, pw, ph, ps⟩ u] w fun e w' => OpfP ⟨13, id, qa, qb, qc, qd, pw, ph, ps⟩ w e w' := by
  obtain ⟨ua, cu, hvu, _, _, _⟩ := HR.out
  obtain ⟨np, HNP⟩ : ∃ n, Hid (ps.length = n) := ⟨_, (rfl : _ = _)⟩
  rw [HNP.out] at hvu hps
  subst hvu
  unfold OpfP opV
  go_enter Tryd.func17, Tryd.ntmps17
  go_wp2_with fail
  refine (parts_13 _).mono ?_
  rintro e w1 ⟨rfl, rfl⟩
  go_wp2_with fail
  refine wp_loop_rounds 5 ?_
  by_cases hqa : qa = 0
  case neg =>
    rw [rounds_succ]
    go_wp2_with fail
    go_ret
    refine ⟨by rw [show rfC _ = 3 by (simp [rfC, rowR, numR, HNP.out, hqa]; try ((repeat' (first | intro _ | split)) <;> first | rfl | omega))]; rfl, ?_⟩
    (repeat (first | refine below_drewN ?_ _ | refine Below.alloc ?_ (by simp; try omega) _ | refine Below.setCell ?_ (by simp; try omega) _)); exact Below.refl _ _
  subst hqa
  rw [rounds_succ]
  go_wp2_with fail
  by_cases hqb : qb = 0
  case neg =>
    rw [rounds_succ]
    go_wp2_with fail
    go_ret
    refine ⟨by rw [show rfC _ = 3 by (simp [rfC, rowR, numR, HNP.out, hqb]; try ((repeat' (first | intro _ | split)) <;> first | rfl | omega))]; rfl, ?_⟩
    (repeat (first | refine below_drewN ?_ _ | refine Below.alloc ?_ (by simp; try omega) _ | refine Below.setCell ?_ (by simp; try omega) _)); exact Below.refl _ _
  subst hqb
  rw [rounds_succ]
  go_wp2_with fail
  by_cases hqc : qc = 0
  case neg =>
    rw [rounds_succ]
    go_wp2_with fail
    go_ret
    refine ⟨by rw [show rfC _ = 3 by (simp [rfC, rowR, numR, HNP.out, hqc]; try ((repeat' (first | intro _ | split)) <;> first | rfl | omega))]; rfl, ?_⟩
    (repeat (first | refine below_drewN ?_ _ | refine Below.alloc ?_ (by simp; try omega) _ | refine Below.setCell ?_ (by simp; try omega) _)); exact Below.refl _ _
  subst hqc
  rw [rounds_succ]
  go_wp2_with fail
  by_cases hqd : qd = 0
  case neg =>
    rw [rounds_succ]
    go_wp2_with fail
    go_ret
    refine ⟨by rw [show rfC _ = 3 by (simp [rfC, rowR, numR, HNP.out, hqd]; try ((repeat' (first | intro _ | split)) <;> first | rfl | omega))]; rfl, ?_⟩
    (repeat (first | refine below_drewN ?_ _ | refine Below.alloc ?_ (by simp; try omega) _ | refine Below.setCell ?_ (by simp; try omega) _)); exact Below.refl _ _
  subst hqd
  rw [rounds_succ]
  go_wp2_with fail
  by_cases hid : id = 0
  case neg =>
    rw [rounds_succ]
    go_wp2_with fail
    go_ret
    refine ⟨by rw [show rfC _ = 3 by (simp [rfC, rowR, numR, HNP.out, hid]; try ((repeat' (first | intro _ | split)) <;> first | rfl | omega))]; rfl, ?_⟩
    (repeat (first | refine below_drewN ?_ _ | refine Below.alloc ?_ (by simp; try omega) _ | refine Below.setCell ?_ (by simp; try omega) _)); exact Below.refl _ _
  subst hid
  by_cases hpw : pw = 0
  case neg =>
    rw [rounds_succ]
    go_wp2_with fail
    go_ret
    refine ⟨by rw [show rfC _ = 3 by (simp [rfC, rowR, numR, HNP.out, hpw]; try ((repeat' (first | intro _ | split)) <;> first | rfl | omega))]; rfl, ?_⟩
    (repeat (first | refine below_drewN ?_ _ | refine Below.alloc ?_ (by simp; try omega) _ | refine Below.setCell ?_ (by simp; try omega) _)); exact Below.refl _ _
  subst hpw
  by_cases hph : ph = 0
  case neg =>
    rw [rounds_succ]
    go_wp2_with fail
    go_ret
    refine ⟨by rw [show rfC _ = 3 by (simp [rfC, rowR, numR, HNP.out, hph]; try ((repeat' (first | intro _ | split)) <;> first | rfl | omega))]; rfl, ?_⟩
    (repeat (first | refine below_drewN ?_ _ | refine Below.alloc ?_ (by simp; try omega) _ | refine Below.setCell ?_ (by simp; try omega) _)); exact Below.refl _ _
  subst hph
  by_cases hnp : np = 0
  case neg =>
    have hnp2 : 0 < np := by omega
    have hnp3 : (0 : Int) < (np : Int) := by omega
    rw [rounds_succ]
    go_wp2_with fail
    go_ret
    refine ⟨by rw [show rfC _ = 3 by (simp [rfC, rowR, numR, HNP.out, hnp2]; try ((repeat' (first | intro _ | split)) <;> first | rfl | omega))]; rfl, ?_⟩
    (repeat (first | refine below_drewN ?_ _ | refine Below.alloc ?_ (by simp; try omega) _ | refine Below.setCell ?_ (by simp; try omega) _)); exact Below.refl _ _
  subst hnp
  rw [rounds_succ]
  go_wp2_with fail
  refine wp_loop_rounds 1 ?_
  rw [rounds_succ]
  go_wp2_with fail
  go_ret
  refine ⟨by rw [show rfC _ = 0 by (simp [rfC, rowR, numR, HNP.out]; try ((repeat' (first | intro _ | split)) <;> first | rfl | omega))]; rfl, ?_⟩
  (repeat (first | refine below_drewN ?_ _ | refine Below.alloc ?_ (by simp; try omega) _ | refine Below.setCell ?_ (by simp; try omega) _)); exact Below.refl _ _
set_option maxHeartbeats 8000000 in
set_option maxRecDepth 100000 in
theorem opf_14 (id qa qb qc qd pw ph : Int) (u : Value) (ps : List (Int × Int)) (w : World) (hps : ps.length ≤ 1000000000) (HR : Hid (RdP w u ps)) :
    Calls Tryd.prog 17 #[opV ⟨14, id, qa, qb, qc, qd, pw, ph, ps⟩ u] w fun e w' => OpfP ⟨14, id, qa, qb, qc, qd, pw, ph, ps⟩ w e w' := by
  obtain ⟨ua, cu, hvu, _, _, _⟩ := HR.out
  obtain ⟨np, HNP⟩ : ∃ n, Hid (ps.length = n) := ⟨_, (rfl : _ = _)⟩
  rw [HNP.out] at hvu hps
  subst hvu
  unfold OpfP opV
  go_enter Tryd.func17, Tryd.ntmps17
  go_wp2_with fail
  refine (parts_14 _).mono ?_
  rintro e w1 ⟨rfl, rfl⟩
  go_wp2_with fail
  refine wp_loop_rounds 5 ?_
  by_cases hqa : qa = 0
  case neg =>
    rw [rounds_succ]
    go_wp2_with fail
    go_ret
    refine ⟨by rw [show rfC _ = 3 by (simp [rfC, rowR, numR, HNP.out, hqa]; try ((repeat' (first | intro _ | split)) <;> first | rfl | omega))]; rfl, ?_⟩
    (repeat (first | refine below_drewN ?_ _ | refine Below.alloc ?_ (by simp; try omega) _ | refine Below.setCell ?_ (by simp; try omega) _)); exact Below.refl _ _
  subst hqa
  rw [rounds_succ]
  go_wp2_with fail
  by_cases hqb : qb = 0
  case neg =>
    rw [rounds_succ]
    go_wp2_with fail
    go_ret
    refine ⟨by rw [show rfC _ = 3 by (simp [rfC, rowR, numR, HNP.out, hqb]; try ((repeat' (first | intro _ | split)) <;> first | rfl | omega))]; rfl, ?_⟩
    (repeat (first | refine below_drewN ?_ _ | refine Below.alloc ?_ (by simp; try omega) _ | refine Below.setCell ?_ (by simp; try omega) _)); exact Below.refl _ _
  subst hqb
  rw [rounds_succ]
  go_wp2_with fail
  by_cases hqc : qc = 0
  case neg =>
    rw [rounds_succ]
    go_wp2_with fail
    go_ret
    refine ⟨by rw [show rfC _ = 3 by (simp [rfC, rowR, numR, HNP.out, hqc]; try ((repeat' (first | intro _ | split)) <;> first | rfl | omega))]; rfl, ?_⟩
    (repeat (first | refine below_drewN ?_ _ | refine Below.alloc ?_ (by simp; try omega) _ | refine Below.setCell ?_ (by simp; try omega) _)); exact Below.refl _ _
  subst hqc
  rw [rounds_succ]
  go_wp2_with fail
  by_cases hqd : qd = 0
  case neg =>
    rw [rounds_succ]
    go_wp2_with fail
    go_ret
    refine ⟨by rw [show rfC _ = 3 by (simp [rfC, rowR, numR, HNP.out, hqd]; try ((repeat' (first | intro _ | split)) <;> first | rfl | omega))]; rfl, ?_⟩
    (repeat (first | refine below_drewN ?_ _ | refine Below.alloc ?_ (by simp; try omega) _ | refine Below.setCell ?_ (by simp; try omega) _)); exact Below.refl _ _
  subst hqd
  rw [rounds_succ]
  go_wp2_with fail
  by_cases hid : id = 0
  case neg =>
    rw [rounds_succ]
    go_wp2_with fail
    go_ret
    refine ⟨by rw [show rfC _ = 3 by (simp [rfC, rowR, numR, HNP.out, hid]; try ((repeat' (first | intro _ | split)) <;> first | rfl | omega))]; rfl, ?_⟩
    (repeat (first | refine below_drewN ?_ _ | refine Below.alloc ?_ (by simp; try omega) _ | refine Below.setCell ?_ (by simp; try omega) _)); exact Below.refl _ _
  subst hid
  by_cases hpw : pw = 0
  case neg =>
    rw [rounds_succ]
    go_wp2_with fail
    go_ret
    refine ⟨by rw [show rfC _ = 3 by (simp [rfC, rowR, numR, HNP.out, hpw]; try ((repeat' (first | intro _ | split)) <;> first | rfl | omega))]; rfl, ?_⟩
    (repeat (first | refine below_drewN ?_ _ | refine Below.alloc ?_ (by simp; try omega) _ | refine Below.setCell ?_ (by simp; try omega) _)); exact Below.refl _ _
  subst hpw
  by_cases hph : ph = 0
  case neg =>
    rw [rounds_succ]
    go_wp2_with fail
    go_ret
    refine ⟨by rw [show rfC _ = 3 by (simp [rfC, rowR, numR, HNP.out, hph]; try ((repeat' (first | intro _ | split)) <;> first | rfl | omega))]; rfl, ?_⟩
    (repeat (first | refine below_drewN ?_ _ | refine Below.alloc ?_ (by simp; try omega) _ | refine Below.setCell ?_ (by simp; try omega) _)); exact Below.refl _ _
  subst hph
  by_cases hnp : np = 0
  case neg =>
    have hnp2 : 0 < np := by omega
    have hnp3 : (0 : Int) < (np : Int) := by omega
    rw [rounds_succ]
    go_wp2_with fail
    go_ret
    refine ⟨by rw [show rfC _ = 3 by (simp [rfC, rowR, numR, HNP.out, hnp2]; try ((repeat' (first | intro _ | split)) <;> first | rfl | omega))]; rfl, ?_⟩
    (repeat (first | refine below_drewN ?_ _ | refine Below.alloc ?_ (by simp; try omega) _ | refine Below.setCell ?_ (by simp; try omega) _)); exact Below.refl _ _
  subst hnp
  rw [rounds_succ]
  go_wp2_with fail
  refine wp_loop_rounds 1 ?_
  rw [rounds_succ]
  go_wp2_with fail
  go_ret
  refine ⟨by rw [show rfC _ = 0 by (simp [rfC, rowR, numR, HNP.out]; try ((repeat' (first | intro _ | split)) <;> first | rfl | omega))]; rfl, ?_⟩
  (repeat (first | refine below_drewN ?_ _ | refine Below.alloc ?_ (by simp; try omega) _ | refine Below.setCell ?_ (by simp; try omega) _)); exact Below.refl _ _
set_option maxHeartbeats 8000000 in
set_option maxRecDepth 100000 in
theorem opf_15 (id qa qb qc qd pw ph : Int) (u : Value) (ps : List (Int × Int)) (w : World) (hps : ps.length ≤ 1000000000) (HR : Hid (RdP w u ps)) :
    Calls Tryd.prog 17 #[opV ⟨15, id, qa, qb, qc, qd, pw, ph, ps⟩ u] w fun e w' => OpfP ⟨15, id, qa, qb, qc, qd, pw, ph, ps⟩ w e w' := by
  obtain ⟨ua, cu, hvu, _, _, _⟩ := HR.out
  obtain ⟨np, HNP⟩ : ∃ n, Hid (ps.length = n) := ⟨_, (rfl : _ = _)⟩
  rw [HNP.out] at hvu hps
  subst hvu
  unfold OpfP opV
  go_enter Tryd.func17, Tryd.ntmps17
  go_wp2_with fail
  refine (parts_15 _).mono ?_
  rintro e w1 ⟨rfl, rfl⟩
  go_wp2_with fail
  refine wp_loop_rounds 5 ?_
  by_cases hqa : qa = 0
  case neg =>
    rw [rounds_succ]
    go_wp2_with fail
    go_ret
    refine ⟨by rw [show rfC _ = 3 by (simp [rfC, rowR, numR, HNP.out, hqa]; try ((repeat' (first | intro _ | split)) <;> first | rfl | omega))]; rfl, ?_⟩
    (repeat (first | refine below_drewN ?_ _ | refine Below.alloc ?_ (by simp; try omega) _ | refine Below.setCell ?_ (by simp; try omega) _)); exact Below.refl _ _
  subst hqa
  rw [rounds_succ]
  go_wp2_with fail
  by_cases hqb : qb = 0
  case neg =>
    rw [rounds_succ]
    go_wp2_with fail
    go_ret
    refine ⟨by rw [show rfC _ = 3 by (simp [rfC, rowR, numR, HNP.out, hqb]; try ((repeat' (first | intro _ | split)) <;> first | rfl | omega))]; rfl, ?_⟩
    (repeat (first | refine below_drewN ?_ _ | refine Below.alloc ?_ (by simp; try omega) _ | refine Below.setCell ?_ (by simp; try omega) _)); exact Below.refl _ _
  subst hqb
  rw [rounds_succ]
  go_wp2_with fail
  by_cases hqc : qc = 0
  case neg =>
    rw [rounds_succ]
    go_wp2_with fail
    go_ret
    refine ⟨by rw [show rfC _ = 3 by (simp [rfC, rowR, numR, HNP.out, hqc]; try ((repeat' (first | intro _ | split)) <;> first | rfl | omega))]; rfl, ?_⟩
    (repeat (first | refine below_drewN ?_ _ | refine Below.alloc ?_ (by simp; try omega) _ | refine Below.setCell ?_ (by simp; try omega) _)); exact Below.refl _ _
  subst hqc
  rw [rounds_succ]
  go_wp2_with fail
  by_cases hqd : qd = 0
  case neg =>
    rw [rounds_succ]
    go_wp2_with fail
    go_ret
    refine ⟨by rw [show rfC _ = 3 by (simp [rfC, rowR, numR, HNP.out, hqd]; try ((repeat' (first | intro _ | split)) <;> first | rfl | omega))]; rfl, ?_⟩
    (repeat (first | refine below_drewN ?_ _ | refine Below.alloc ?_ (by simp; try omega) _ | refine Below.setCell ?_ (by simp; try omega) _)); exact Below.refl _ _
  subst hqd
  rw [rounds_succ]
  go_wp2_with fail
  by_cases hid : id = 0
  case neg =>
    rw [rounds_succ]
    go_wp2_with fail
    go_ret
    refine ⟨by rw [show rfC _ = 3 by (simp [rfC, rowR, numR, HNP.out, hid]; try ((repeat' (first | intro _ | split)) <;> first | rfl | omega))]; rfl, ?_⟩
    (repeat (first | refine below_drewN ?_ _ | refine Below.alloc ?_ (by simp; try omega) _ | refine Below.setCell ?_ (by simp; try omega) _)); exact Below.refl _ _
  subst hid
  by_cases hpw : pw = 0
  case neg =>
    rw [rounds_succ]
    go_wp2_with fail
    go_ret
    refine ⟨by rw [show rfC _ = 3 by (simp [rfC, rowR, numR, HNP.out, hpw]; try ((repeat' (first | intro _ | split)) <;> first | rfl | omega))]; rfl, ?_⟩
    (repeat (first | refine below_drewN ?_ _ | refine Below.alloc ?_ (by simp; try omega) _ | refine Below.setCell ?_ (by simp; try omega) _)); exact Below.refl _ _
  subst hpw
  by_cases hph : ph = 0
  case neg =>
    rw [rounds_succ]
    go_wp2_with fail
    go_ret
    refine ⟨by rw [show rfC _ = 3 by (simp [rfC, rowR, numR, HNP.out, hph]; try ((repeat' (first | intro _ | split)) <;> first | rfl | omega))]; rfl, ?_⟩
    (repeat (first | refine below_drewN ?_ _ | refine Below.alloc ?_ (by simp; try omega) _ | refine Below.setCell ?_ (by simp; try omega) _)); exact Below.refl _ _
  subst hph
  by_cases hnp : np = 0
  case neg =>
    have hnp2 : 0 < np := by omega
    have hnp3 : (0 : Int) < (np : Int) := by omega
    rw [rounds_succ]
    go_wp2_with fail
    go_ret
    refine ⟨by rw [show rfC _ = 3 by (simp [rfC, rowR, numR, HNP.out, hnp2]; try ((repeat' (first | intro _ | split)) <;> first | rfl | omega))]; rfl, ?_⟩
    (repeat (first | refine below_drewN ?_ _ | refine Below.alloc ?_ (by simp; try omega) _ | refine Below.setCell ?_ (by simp; try omega) _)); exact Below.refl _ _
  subst hnp
  rw [rounds_succ]
  go_wp2_with fail
  refine wp_loop_rounds 1 ?_
  rw [rounds_succ]
  go_wp2_with fail
  go_ret
  refine ⟨by rw [show rfC _ = 0 by (simp [rfC, rowR, numR, HNP.out]; try ((repeat' (first | intro _ | split)) <;> first | rfl | omega))]; rfl, ?_⟩
  (repeat (first | refine below_drewN ?_ _ | refine Below.alloc ?_ (by simp; try omega) _ | refine Below.setCell ?_ (by simp; try omega) _)); exact Below.refl _ _
set_option maxHeartbeats 8000000 in
set_option maxRecDepth 100000 in
theorem opf_16 (id qa qb qc qd pw ph : Int) (u : Value) (ps : List (Int × Int)) (w : World) (hps : ps.length ≤ 1000000000) (HR : Hid (RdP w u ps)) :
    Calls Tryd.prog 17 #[opV ⟨16, id, qa, qb, qc, qd, pw, ph, ps⟩ u] w fun e w' => OpfP ⟨16, id, qa, qb, qc, qd, pw, ph, ps⟩ w e w' := by
  obtain ⟨ua, cu, hvu, _, _, _⟩ := HR.out
  obtain ⟨np, HNP⟩ : ∃ n, Hid (ps.length = n) := ⟨_, (rfl : _ = _)⟩
  rw [HNP.out] at hvu hps
  subst hvu
  unfold OpfP opV
  go_enter Tryd.func17, Tryd.ntmps17
  go_wp2_with fail
  refine (parts_16 _).mono ?_
  rintro e w1 ⟨rfl, rfl⟩
  go_wp2_with fail
  refine wp_loop_rounds 5 ?_
  by_cases hqa : qa = 0
  case neg =>
    rw [rounds_succ]
    go_wp2_with fail
    go_ret
    refine ⟨by rw [show rfC _ = 3 by (simp [rfC, rowR, numR, HNP.out, hqa]; try ((repeat' (first | intro _ | split)) <;> first | rfl | omega))]; rfl, ?_⟩
    (repeat (first | refine below_drewN ?_ _ | refine Below.alloc ?_ (by simp; try omega) _ | refine Below.setCell ?_ (by simp; try omega) _)); exact Below.refl _ _
  subst hqa
  rw [rounds_succ]
  go_wp2_with fail
  by_cases hqb : qb = 0
  case neg =>
    rw [rounds_succ]
    go_wp2_with fail
    go_ret
    refine ⟨by rw [show rfC _ = 3 by (simp [rfC, rowR, numR, HNP.out, hqb]; try ((repeat' (first | intro _ | split)) <;> first | rfl | omega))]; rfl, ?_⟩
    (repeat (first | refine below_drewN ?_ _ | refine Below.alloc ?_ (by simp; try omega) _ | refine Below.setCell ?_ (by simp; try omega) _)); exact Below.refl _ _
  subst hqb
  rw [rounds_succ]
  go_wp2_with fail
  by_cases hqc : qc = 0
  case neg =>
    rw [rounds_succ]
    go_wp2_with fail
    go_ret
    refine ⟨by rw [show rfC _ = 3 by (simp [rfC, rowR, numR, HNP.out, hqc]; try ((repeat' (first | intro _ | split)) <;> first | rfl | omega))]; rfl, ?_⟩
    (repeat (first | refine below_drewN ?_ _ | refine Below.alloc ?_ (by simp; try omega) _ | refine Below.setCell ?_ (by simp; try omega) _)); exact Below.refl _ _
  subst hqc
  rw [rounds_succ]
  go_wp2_with fail
  by_cases hqd : qd = 0
  case neg =>
    rw [rounds_succ]
    go_wp2_with fail
    go_ret
    refine ⟨by rw [show rfC _ = 3 by (simp [rfC, rowR, numR, HNP.out, hqd]; try ((repeat' (first | intro _ | split)) <;> first | rfl | omega))]; rfl, ?_⟩
    (repeat (first | refine below_drewN ?_ _ | refine Below.alloc ?_ (by simp; try omega) _ | refine Below.setCell ?_ (by simp; try omega) _)); exact Below.refl _ _
  subst hqd
  rw [rounds_succ]
  go_wp2_with fail
  by_cases hid : id = 0
  case neg =>
    rw [rounds_succ]
    go_wp2_with fail
    go_ret
    refine ⟨by rw [show rfC _ = 3 by (simp [rfC, rowR, numR, HNP.out, hid]; try ((repeat' (first | intro _ | split)) <;> first | rfl | omega))]; rfl, ?_⟩
    (repeat (first | refine below_drewN ?_ _ | refine Below.alloc ?_ (by simp; try omega) _ | refine Below.setCell ?_ (by simp; try omega) _)); exact Below.refl _ _
  subst hid
  by_cases hpw : pw = 0
  case neg =>
    rw [rounds_succ]
    go_wp2_with fail
    go_ret
    refine ⟨by rw [show rfC _ = 3 by (simp [rfC, rowR, numR, HNP.out, hpw]; try ((repeat' (first | intro _ | split)) <;> first | rfl | omega))]; rfl, ?_⟩
    (repeat (first | refine below_drewN ?_ _ | refine Below.alloc ?_ (by simp; try omega) _ | refine Below.setCell ?_ (by simp; try omega) _)); exact Below.refl _ _
  subst hpw
  by_cases hph : ph = 0
  case neg =>
    rw [rounds_succ]
    go_wp2_with fail
    go_ret
    refine ⟨by rw [show rfC _ = 3 by (simp [rfC, rowR, numR, HNP.out, hph]; try ((repeat' (first | intro _ | split)) <;> first | rfl | omega))]; rfl, ?_⟩
    (repeat (first | refine below_drewN ?_ _ | refine Below.alloc ?_ (by simp; try omega) _ | refine Below.setCell ?_ (by simp; try omega) _)); exact Below.refl _ _
  subst hph
  by_cases hnp : np = 0
  case neg =>
    have hnp2 : 0 < np := by omega
    have hnp3 : (0 : Int) < (np : Int) := by omega
    rw [rounds_succ]
    go_wp2_with fail
    go_ret
    refine ⟨by rw [show rfC _ = 3 by (simp [rfC, rowR, numR, HNP.out, hnp2]; try ((repeat' (first | intro _ | split)) <;> first | rfl | omega))]; rfl, ?_⟩
    (repeat (first | refine below_drewN ?_ _ | refine Below.alloc ?_ (by simp; try omega) _ | refine Below.setCell ?_ (by simp; try omega) _)); exact Below.refl _ _
  subst hnp
  rw [rounds_succ]
  go_wp2_with fail
  refine wp_loop_rounds 1 ?_
  rw [rounds_succ]
  go_wp2_with fail
  go_ret
  refine ⟨by rw [show rfC _ = 0 by (simp [rfC, rowR, numR, HNP.out]; try ((repeat' (first | intro _ | split)) <;> first | rfl | omega))]; rfl, ?_⟩
  (repeat (first | refine below_drewN ?_ _ | refine Below.alloc ?_ (by simp; try omega) _ | refine Below.setCell ?_ (by simp; try omega) _)); exact Below.refl _ _
end Go.Proofs.YtceabiodelfdoaaDoor
/- Walk: the reference's fault of an op. -/
namespace Go.Proofs.YtceabiodelfdoaaDoor
open Go.RowKit

set_option maxHeartbeats 8000000 in
set_option maxRecDepth 100000 in
theorem opf_out (q : Pq) (u : Value) (w : World) (hk : q.kind < 1 ∨ 16 < q.kind) (HR : Hid (RdP w u q.ps)) :
    Calls Tryd.prog 17 #[opV q u] w fun e w' => OpfP q w e w' := by
  obtain ⟨ua, cu, hvu, _, _, _⟩ := HR.out
  obtain ⟨np, HNP⟩ : ∃ n, Hid (q.ps.length = n) := ⟨_, (rfl : _ = _)⟩
  rw [HNP.out] at hvu
  subst hvu
  have hc : rfC q = 3 := by unfold rfC; rw [if_pos hk]
  unfold OpfP opV
  rw [hc]
  by_cases h1 : q.kind < 1
  · go_enter Tryd.func17, Tryd.ntmps17
    go_wp2_with fail
    go_ret
    exact ⟨rfl, (Below.refl _ _).alloc (Nat.le_refl _) _⟩
  · have h2 : 16 < q.kind := by omega
    go_enter Tryd.func17, Tryd.ntmps17
    go_wp2_with fail
    go_ret
    exact ⟨rfl, (Below.refl _ _).alloc (Nat.le_refl _) _⟩
theorem opf_any (q : Pq) (u : Value) (w : World) (hps : q.ps.length ≤ 1000000000) (HR : Hid (RdP w u q.ps)) :
    Calls Tryd.prog 17 #[opV q u] w fun e w' => OpfP q w e w' := by
  by_cases hk : q.kind < 1 ∨ 16 < q.kind
  · exact opf_out q u w hk HR
  obtain ⟨kd, id, a, b, c, d, pw, ph, ps⟩ := q
  simp only at hk hps HR
  have hk2 : kd = 1 ∨ kd = 2 ∨ kd = 3 ∨ kd = 4 ∨ kd = 5 ∨ kd = 6 ∨ kd = 7 ∨ kd = 8 ∨ kd = 9 ∨ kd = 10 ∨ kd = 11 ∨ kd = 12 ∨ kd = 13 ∨ kd = 14 ∨ kd = 15 ∨ kd = 16 := by omega
  rcases hk2 with rfl | rfl | rfl | rfl | rfl | rfl | rfl | rfl | rfl | rfl | rfl | rfl | rfl | rfl | rfl | rfl
  · exact opf_1 id a b c d pw ph u ps w hps HR
  · exact opf_2 id a b c d pw ph u ps w hps HR
  · exact opf_3 id a b c d pw ph u ps w hps HR
  · exact opf_4 id a b c d pw ph u ps w hps HR
  · exact opf_5 id a b c d pw ph u ps w hps HR
  · exact opf_6 id a b c d pw ph u ps w hps HR
  · exact opf_7 id a b c d pw ph u ps w hps HR
  · exact opf_8 id a b c d pw ph u ps w hps HR
  · exact opf_9 id a b c d pw ph u ps w hps HR
  · exact opf_10 id a b c d pw ph u ps w hps HR
  · exact opf_11 id a b c d pw ph u ps w hps HR
  · exact opf_12 id a b c d pw ph u ps w hps HR
  · exact opf_13 id a b c d pw ph u ps w hps HR
  · exact opf_14 id a b c d pw ph u ps w hps HR
  · exact opf_15 id a b c d pw ph u ps w hps HR
  · exact opf_16 id a b c d pw ph u ps w hps HR
end Go.Proofs.YtceabiodelfdoaaDoor
/- The reference's and the program's numbers of an op's error are the same. -- s1 -/
namespace Go.Proofs.YtceabiodelfdoaaDoor
open Go.RowKit

set_option maxRecDepth 100000 in
set_option maxHeartbeats 8000000 in
theorem rf_eq (q : Pq) : rfC q = opC q := by
  obtain ⟨kd, id, a, b, c, d, pw, ph, ps⟩ := q
  by_cases hk : kd < 1 ∨ 16 < kd
  · have h1 : kindAt kd shps = none := by
      simp only [shps, kindAt]
      repeat (rw [if_neg (by simp; omega)])
    unfold rfC opC
    simp only [if_pos hk, h1]
  have hk2 : kd = 1 ∨ kd = 2 ∨ kd = 3 ∨ kd = 4 ∨ kd = 5 ∨ kd = 6 ∨ kd = 7 ∨ kd = 8 ∨ kd = 9 ∨ kd = 10 ∨ kd = 11 ∨ kd = 12 ∨ kd = 13 ∨ kd = 14 ∨ kd = 15 ∨ kd = 16 := by omega
  clear hk
  unfold rfC opC forL inB
  dsimp only [numR, nums4]
  generalize checkL pw ph ps = x
  generalize ps.length = n
  rcases hk2 with rfl | rfl | rfl | rfl | rfl | rfl | rfl | rfl | rfl | rfl | rfl | rfl | rfl | rfl | rfl | rfl
  all_goals
    simp [rowR, kindAt, shps, rectC_zero]
  all_goals
    repeat' split
  all_goals first | rfl | omega | (exfalso; omega)
end Go.Proofs.YtceabiodelfdoaaDoor
/- The reference's parts of a kind, by the table of shapes. -- s1 -/
namespace Go.Proofs.YtceabiodelfdoaaDoor
open Go.RowKit

theorem parts_at (kd : Int) (s : Shp) (h : kindAt kd shps = some s) (w : World) : Calls Tryd.prog 31 #[.int .i64 kd] w fun e w' => e = .returned (.tuple #[.bool s.id, .int .i64 (s.nums : Int), .bool s.pic]) ∧ w' = w := by
  obtain ⟨hm, hk⟩ := kindAt_mem _ _ _ h
  subst hk
  clear h
  simp only [shps, List.mem_cons, List.not_mem_nil, or_false] at hm
  rcases hm with rfl | rfl | rfl | rfl | rfl | rfl | rfl | rfl | rfl | rfl | rfl | rfl | rfl | rfl | rfl | rfl
  · exact parts_1 w
  · exact parts_2 w
  · exact parts_3 w
  · exact parts_4 w
  · exact parts_5 w
  · exact parts_6 w
  · exact parts_7 w
  · exact parts_8 w
  · exact parts_9 w
  · exact parts_10 w
  · exact parts_11 w
  · exact parts_12 w
  · exact parts_13 w
  · exact parts_14 w
  · exact parts_15 w
  · exact parts_16 w
theorem name_kind (kd : Int) (s : Shp) (h : kindAt kd shps = some s) : ∃ k : Nat, kd = (k : Int) ∧ 1 ≤ k ∧ k ≤ 16 ∧ nmsB[k]? = some s.name := by
  obtain ⟨hm, hk⟩ := kindAt_mem _ _ _ h
  subst hk
  clear h
  refine ⟨s.kind, rfl, ?_⟩
  simp only [shps, List.mem_cons, List.not_mem_nil, or_false] at hm
  rcases hm with rfl | rfl | rfl | rfl | rfl | rfl | rfl | rfl | rfl | rfl | rfl | rfl | rfl | rfl | rfl | rfl <;> exact ⟨by decide, by decide, rfl⟩
end Go.Proofs.YtceabiodelfdoaaDoor
/- Lemmas for the reference's PictureBytes and PictureOf: the bytes row by row. -/
namespace Go.Proofs.YtceabiodelfdoaaDoor
open Go.RowKit

def leftG (bs : List UInt8) (L y i : Nat) : UInt8 := if i < 2 then 0 else bs.getD (y * L + (i - 2)) 0
def upG (bs : List UInt8) (L y i : Nat) : UInt8 := if y = 0 then 0 else bs.getD ((y - 1) * L + i) 0
def rowG (bs : List UInt8) (L y : Nat) : List UInt8 := (bs.drop (y * L)).take L
def abG (bs : List UInt8) (L y : Nat) : List UInt8 := if y = 0 then [] else rowG bs L (y - 1)

set_option maxRecDepth 100000 in
theorem rowG_getD (bs : List UInt8) (L y i : Nat) (h : i < L) : (rowG bs L y).getD i 0 = bs.getD (y * L + i) 0 := by
  unfold rowG
  rw [Fb.getD_take _ _ _ h, List.getD_eq_getElem?_getD, List.getElem?_drop, ← List.getD_eq_getElem?_getD]
set_option maxRecDepth 100000 in
theorem abG_getD (bs : List UInt8) (L y i : Nat) (h : i < L) : (abG bs L y).getD i 0 = upG bs L y i := by
  unfold abG upG
  by_cases h0 : y = 0
  · rw [if_pos h0, if_pos h0]; simp
  · rw [if_neg h0, if_neg h0, rowG_getD _ _ _ _ h]
set_option maxRecDepth 100000 in
theorem left_row (bs : List UInt8) (L y i : Nat) (h : i < L) : Fb.leftB (rowG bs L y) i = leftG bs L y i := by
  unfold Fb.leftB leftG
  by_cases h0 : i < 2
  · rw [if_pos h0, if_pos h0]
  · rw [if_neg h0, if_neg h0, rowG_getD _ _ _ _ (by omega)]

set_option maxRecDepth 100000 in
/-- the guess, out of the two bytes -/
theorem guess_byte (way : Nat) (a b : UInt8) (x : UInt8) (h : x = if way = 1 then a else if way = 2 then b else if way = 3 then UInt8.ofNat ((a.toNat + b.toNat) / 2) else 0) : guessN way a.toNat b.toNat = x.toNat := by
  subst h
  unfold guessN
  have h1 := a.toNat_lt
  have h2 := b.toNat_lt
  split
  · rfl
  · split
    · rfl
    · split
      · rw [UInt8.toNat_ofNat']; omega
      · rfl
set_option maxRecDepth 100000 in
theorem guess_row (way : Nat) (bs : List UInt8) (L y i : Nat) (h : i < L) : guessN way (leftG bs L y i).toNat (upG bs L y i).toNat = (Fb.guessB way (rowG bs L y) (abG bs L y) i).toNat := by
  refine guess_byte way _ _ _ ?_
  unfold Fb.guessB
  rw [left_row _ _ _ _ h, abG_getD _ _ _ _ h]

set_option maxRecDepth 100000 in
theorem in_len (W H y i n : Nat) (hn : n = H * (2 * W)) (hy : y < H) (hi : i < 2 * W) : y * (2 * W) + (i / 2) * 2 + 1 < n := by
  have h1 : (y + 1) * (2 * W) ≤ H * (2 * W) := Nat.mul_le_mul_right _ (by omega)
  rw [Nat.add_mul, Nat.one_mul] at h1
  omega

set_option maxRecDepth 100000 in
theorem left_at (W H y i : Nat) (a : Option Addr) (n cap : Nat) (bs : List UInt8) (w : World) (HR : Hid (RdP w (.slice a n cap) (pixOf bs))) (hW : W ≤ 8) (hH : H ≤ 8) (hy : y < H) (hi : i < 2 * W) (HLN : Hid (bs.length = H * (2 * W))) (r : Nat) (HB : Hid ((leftG bs (2 * W) y i).toNat = r)) :
    Calls Tryd.prog 61 #[.agg #[.int .i64 (W : Int), .int .i64 (H : Int), .slice a n cap], .int .i64 (y : Int), .int .i64 ((i : Int) - 2)] w fun e w' => e = .returned (.int .i64 (r : Int)) ∧ Below w.heap.size w w' := by
  by_cases h : i < 2
  · have hr : r = 0 := by rw [← HB.out]; unfold leftG; rw [if_pos h]; rfl
    subst hr
    exact byteAt_out _ _ _ _ _ _ _ _ (.inr (by omega))
  · rw [show (i : Int) - 2 = ((i - 2 : Nat) : Int) by omega]
    exact byteAt_in W y (i - 2) _ _ _ _ bs w HR hW (by omega) (by omega) (in_len W H y (i - 2) _ HLN.out hy (by omega)) r (by unfold Hid; rw [← HB.out]; unfold leftG; rw [if_neg h])
set_option maxRecDepth 100000 in
theorem up_at (W H y i : Nat) (a : Option Addr) (n cap : Nat) (bs : List UInt8) (w : World) (HR : Hid (RdP w (.slice a n cap) (pixOf bs))) (hW : W ≤ 8) (hH : H ≤ 8) (hy : y < H) (hi : i < 2 * W) (HLN : Hid (bs.length = H * (2 * W))) (r : Nat) (HB : Hid ((upG bs (2 * W) y i).toNat = r)) :
    Calls Tryd.prog 61 #[.agg #[.int .i64 (W : Int), .int .i64 (H : Int), .slice a n cap], .int .i64 ((y : Int) - 1), .int .i64 (i : Int)] w fun e w' => e = .returned (.int .i64 (r : Int)) ∧ Below w.heap.size w w' := by
  by_cases h : y = 0
  · have hr : r = 0 := by rw [← HB.out]; unfold upG; rw [if_pos h]; rfl
    subst hr
    exact byteAt_out _ _ _ _ _ _ _ _ (.inl (by omega))
  · rw [show (y : Int) - 1 = ((y - 1 : Nat) : Int) by omega]
    exact byteAt_in W (y - 1) i _ _ _ _ bs w HR hW (by omega) hi (in_len W H (y - 1) i _ HLN.out (by omega) hi) r (by unfold Hid; rw [← HB.out]; unfold upG; rw [if_neg h])
set_option maxRecDepth 100000 in
theorem cur_at (W H y i : Nat) (a : Option Addr) (n cap : Nat) (bs : List UInt8) (w : World) (HR : Hid (RdP w (.slice a n cap) (pixOf bs))) (hW : W ≤ 8) (hH : H ≤ 8) (hy : y < H) (hi : i < 2 * W) (HLN : Hid (bs.length = H * (2 * W))) (r : Nat) (HB : Hid ((bs.getD (y * (2 * W) + i) 0).toNat = r)) :
    Calls Tryd.prog 61 #[.agg #[.int .i64 (W : Int), .int .i64 (H : Int), .slice a n cap], .int .i64 (y : Int), .int .i64 (i : Int)] w fun e w' => e = .returned (.int .i64 (r : Int)) ∧ Below w.heap.size w w' :=
  byteAt_in W y i _ _ _ _ bs w HR hW (by omega) hi (in_len W H y i _ HLN.out hy hi) r HB

set_option maxRecDepth 100000 in
/-- a byte told -/
theorem told_byte (x g : UInt8) (c q : Nat) (hc : x.toNat = c) (hq : g.toNat = q) : ((x - g).toNat : Int) = ((c : Int) - (q : Int) + 512) % 256 := by
  have h1 := x.toNat_lt
  have h2 := g.toNat_lt
  rw [UInt8.toNat_sub]
  omega
set_option maxRecDepth 100000 in
/-- a byte read -/
theorem read_byte (x g : UInt8) (c q : Nat) (hc : x.toNat = c) (hq : g.toNat = q) : (x + g).toNat = (c + q) % 256 := by
  rw [UInt8.toNat_add]; omega
end Go.Proofs.YtceabiodelfdoaaDoor
/- Walk of the reference's PictureBytes. -/
namespace Go.Proofs.YtceabiodelfdoaaDoor
open Go.RowKit

/-- what is told of the first k rows, out of the bytes -/
def rowsG (bs : List UInt8) (L : Nat) : Nat → List UInt8
  | 0 => []
  | k + 1 => rowsG bs L k ++ Fb.shortL (rowG bs L k) (abG bs L k)

set_option maxRecDepth 100000 in
theorem guessN_le (way l u : Nat) (hl : l ≤ 255) (hu : u ≤ 255) : guessN way l u ≤ 255 := by
  unfold guessN
  split
  · exact hl
  · split
    · exact hu
    · split <;> omega

/-- what holds at each call: the picture reads, and what lay there lies there -/
def Gd (w : World) (v : Value) (ps : List (Int × Int)) (w' : World) : Prop := RdP w' v ps ∧ Below w.heap.size w w'
set_option maxRecDepth 100000 in
theorem Gd.on {w : World} {v : Value} {ps : List (Int × Int)} {w1 w2 : World} (h : Gd w v ps w1) (hb : Below w1.heap.size w1 w2) : Gd w v ps w2 := ⟨h.1.on hb, h.2.trans (hb.mono h.2.size)⟩

set_option maxRecDepth 100000 in
theorem Gd.drew {w : World} {v : Value} {ps : List (Int × Int)} {w1 : World} (h : Gd w v ps w1) : Gd w v ps w1.drew := ⟨h.1, h.2.drew⟩

set_option maxRecDepth 100000 in
theorem ext_drop1 (s : ByteArray) : (s.extract 1 s.size).data.toList = s.data.toList.drop 1 := by
  rw [ByteArray.data_extract, Array.toList_extract, List.extract_eq_take_drop, List.take_of_length_le (by simp)]
set_option maxRecDepth 100000 in
theorem packed_s (s : ByteArray) (w : World) (hs : s.size ≤ 1000000) (l : List UInt8) (HL : Hid (s.data.toList = l)) (t : ByteArray) (HT : Hid (Fb.packL l = t.data.toList)) :
    Calls Tryd.prog 63 #[.string s] w fun e w' => e = .returned (.string t) ∧ Below w.heap.size w w' := by
  have h := packed_any s w hs
  rw [HL.out, HT.out, str_self] at h
  exact h

set_option maxRecDepth 100000 in
theorem Gd.drewN {w : World} {v : Value} {ps : List (Int × Int)} {w1 : World} (h : Gd w v ps w1) (q : Nat) : Gd w v ps (w1.drewN q) := ⟨h.1, below_drewN h.2 q⟩
set_option maxRecDepth 100000 in
theorem Three.drewN2 {W : World} {b : Nat} {x y z : Value} (h : Three W b x y z) (q : Nat) : Three (W.drewN q) b x y z := ⟨h.c0, h.c1, h.c2, h.f0, h.f1, h.f2, h.lt⟩

set_option maxRecDepth 100000 in
theorem run_pairG (X : World) (B : Nat) (a b : Int) (x y : UInt8) (ha : Hid ((x.toNat : Int) = a)) (hb : Hid ((y.toNat : Int) = b)) (h0 : X.cell? ⟨B, 0, none⟩ = some (.int .u8 a)) (h1 : X.cell? ⟨B, 1, none⟩ = some (.int .u8 b)) :
    (convert 51 9 (.slice (some ⟨B, 0, none⟩) 2 2)).run Tryd.prog X = .ok (.string ⟨#[x, y]⟩) X := by
  refine run_convert_bytes_back _ 51 9 5 ⟨B, 0, none⟩ 2 [x, y] Tryd.underlying51 Tryd.underlying5 Tryd.underlying9 ?_
  intro j hj
  match j, hj with
  | 0, _ => rw [← ha.out] at h0; simpa [Addr.add] using h0
  | 1, _ => rw [← hb.out] at h1; simpa [Addr.add] using h1

def bestIs (row ab : List UInt8) (m : Nat) (b : ByteArray) : Prop := m ≠ 0 → b.data.toList = UInt8.ofNat (Fb.bestTo row ab m) :: Fb.tellL (Fb.bestTo row ab m) row ab

set_option maxHeartbeats 4000000 in
set_option maxRecDepth 100000 in
theorem refBytes_ok (W H : Nat) (a : Option Addr) (n cap : Nat) (bs : List UInt8) (w : World) (HR : Hid (RdP w (.slice a n cap) (pixOf bs))) (HC : Hid (checkL (W : Int) (H : Int) (pixOf bs) = 0)) (HLN : Hid (bs.length = H * (2 * W)))
    (hW1 : 1 ≤ W) (hW : W ≤ 8) (hH1 : 1 ≤ H) (hH : H ≤ 8) (hn : n ≤ 64) :
    Calls Tryd.prog 36 #[.agg #[.int .i64 (W : Int), .int .i64 (H : Int), .slice a n cap]] w fun e w' => e = .returned (.tuple #[str (UInt8.ofNat W :: UInt8.ofNat H :: Fb.packL (rowsG bs (2 * W) H)), .int .i64 0]) ∧ Below w.heap.size w w' := by
  have H3 := three_start w (.int .i64 (W : Int)) (.int .i64 (H : Int)) (.slice a n cap) 43
  obtain ⟨w0, HW0⟩ : ∃ w0, Hid (w.alloc (.cells #[.int .i64 (W : Int), .int .i64 (H : Int), .slice a n cap] 43) = w0) := ⟨_, (rfl : _ = _)⟩
  have hb0 : Below w.heap.size w w0 := by rw [← HW0.out]; exact (Below.refl _ _).alloc (Nat.le_refl _) _
  have HR0 : Hid (RdP w0 (.slice a n cap) (pixOf bs)) := HR.out.on hb0
  rw [HW0.out] at H3
  have hpl : (pixOf bs).length ≤ 1000000000 := by obtain ⟨_, _, hv, _⟩ := HR.out; simp only [Value.slice.injEq] at hv; omega
  go_enter Tryd.func36, Tryd.ntmps36
  go_wp2_with fail
  rw [HW0.out]
  refine (fault_any (W : Int) (H : Int) _ (pixOf bs) w0 hpl HR0 0 HC).mono ?_
  rintro e w1 ⟨rfl, hb1⟩
  have H31 : Hid (Three w1 w.heap.size (.int .i64 (W : Int)) (.int .i64 (H : Int)) (.slice a n cap)) := H3.on hb1
  have HG1 : Hid (Gd w (.slice a n cap) (pixOf bs) w1) := ⟨HR0.out.on hb1, hb0.trans (hb1.mono hb0.size)⟩
  clear H3 hb0 hb1 HR0
  go_wp2_with fail
  go_loopw [5, 6] (fun s y wr => ∃ (k : Nat) (o : ByteArray), k ≤ H ∧ y = .int .i64 k ∧ s = .string o ∧ Hid (o.data.toList = rowsG bs (2 * W) k) ∧ Hid (Three wr w.heap.size (.int .i64 (W : Int)) (.int .i64 (H : Int)) (.slice a n cap)) ∧ Hid (Gd w (.slice a n cap) (pixOf bs) wr) ∧ o.size ≤ k * 17) (fun _ y _ => H - (intOf y).toNat)
  case atStart => exact ⟨0, ⟨#[]⟩, by omega, rfl, rfl, rfl, H31, HG1, by decide⟩
  case round =>
    clear H31 HG1
    obtain ⟨k, o, hk, rfl, rfl, HO, H3R, HGR, hos⟩ := hrel
    obtain ⟨t0, t1, t2, f0, f1, f2, tl⟩ := H3R.out
    by_cases hlt : k < H
    · obtain ⟨row, HROW⟩ : ∃ row, Hid (rowG bs (2 * W) k = row) := ⟨_, (rfl : _ = _)⟩
      obtain ⟨ab, HAB⟩ : ∃ ab, Hid (abG bs (2 * W) k = ab) := ⟨_, (rfl : _ = _)⟩
      have HRL : Hid (row.length = 2 * W) := by
        unfold Hid; rw [← HROW.out]; unfold rowG
        rw [List.length_take, List.length_drop, HLN.out]
        have h1 : (k + 1) * (2 * W) ≤ H * (2 * W) := Nat.mul_le_mul_right _ (by omega)
        rw [Nat.add_mul, Nat.one_mul] at h1
        omega
      go_wp2_with fail
      go_loopw [7, 8] (fun b m wr2 => ∃ (m' : Nat) (bb : ByteArray), m' ≤ 4 ∧ m = .int .i64 m' ∧ b = .string bb ∧ Hid (bestIs row ab m' bb) ∧ Hid (Three wr2 w.heap.size (.int .i64 (W : Int)) (.int .i64 (H : Int)) (.slice a n cap)) ∧ Hid (Gd w (.slice a n cap) (pixOf bs) wr2)) (fun _ m _ => 4 - (intOf m).toNat)
      case atStart => exact ⟨0, ⟨#[]⟩, by omega, rfl, rfl, fun h => absurd rfl h, H3R, HGR⟩
      case round =>
        clear t0 t1 t2 f0 f1 f2 tl
        obtain ⟨m, bb, hm, rfl, rfl, HBB, H3S, HGS⟩ := hrel
        obtain ⟨t0, t1, t2, f0, f1, f2, tl⟩ := H3S.out
        by_cases hm4 : m < 4
        · have hdec : decide ((m : Int) < 4) = true := by simp; omega
          obtain ⟨nb, HNB⟩ : ∃ nb, Hid (UInt8.ofNat m = nb) := ⟨_, (rfl : _ = _)⟩
          have HNI : Hid ((nb.toNat : Int) = (m : Int)) := by unfold Hid; rw [← HNB.out, UInt8.toNat_ofNat']; omega
          have hcv := run_one1 (wr.alloc (.cells #[.int .u8 (m : Int)] 5)) wr.heap.size (m : Int) nb HNI (by simp)
          have hba : Below wr.heap.size wr (wr.alloc (.cells #[.int .u8 (m : Int)] 5)) := (Below.refl _ _).alloc (Nat.le_refl _) _
          have H3A : Hid (Three (wr.alloc (.cells #[.int .u8 (m : Int)] 5)) w.heap.size (.int .i64 (W : Int)) (.int .i64 (H : Int)) (.slice a n cap)) := H3S.out.on hba
          have HGA : Hid (Gd w (.slice a n cap) (pixOf bs) (wr.alloc (.cells #[.int .u8 (m : Int)] 5))) := HGS.out.on hba
          go_wp2_with fail
          go_loopw [9, 10] (fun tv iv wr3 => ∃ (i : Nat) (tb : ByteArray), i ≤ 2 * W ∧ iv = .int .i64 i ∧ tv = .string tb ∧ Hid (tb.data.toList = nb :: Fb.tellTo m row ab i) ∧ tb.size = i + 1 ∧ Hid (Three wr3 w.heap.size (.int .i64 (W : Int)) (.int .i64 (H : Int)) (.slice a n cap)) ∧ Hid (Gd w (.slice a n cap) (pixOf bs) wr3)) (fun _ iv _ => 2 * W - (intOf iv).toNat)
          case atStart => exact ⟨0, ⟨#[nb]⟩, by omega, rfl, rfl, rfl, rfl, H3A, HGA⟩
          case round =>
            clear t0 t1 t2 f0 f1 f2 tl hcv hba H3A HGA
            obtain ⟨i, tb, hi, rfl, rfl, HTB, hts, H3I, HGI⟩ := hrel
            obtain ⟨t0, t1, t2, f0, f1, f2, tl⟩ := H3I.out
            by_cases hi2 : i < 2 * W
            · obtain ⟨bc, HBC⟩ : ∃ r, Hid ((bs.getD (k * (2 * W) + i) 0).toNat = r) := ⟨_, (rfl : _ = _)⟩
              obtain ⟨bl, HBL⟩ : ∃ r, Hid ((leftG bs (2 * W) k i).toNat = r) := ⟨_, (rfl : _ = _)⟩
              obtain ⟨bu, HBU⟩ : ∃ r, Hid ((upG bs (2 * W) k i).toNat = r) := ⟨_, (rfl : _ = _)⟩
              obtain ⟨bg, HBG⟩ : ∃ r, Hid (guessN m bl bu = r) := ⟨_, (rfl : _ = _)⟩
              have hbc := byte_le _ bc HBC
              have hbl := byte_le _ bl HBL
              have hbu := byte_le _ bu HBU
              have hq1 : IntKind.i64.wrap ((i : Int) - 2) = (i : Int) - 2 := by rw [IntKind.wrap_i64]; omega
              have hq2 : IntKind.i64.wrap ((k : Int) - 1) = (k : Int) - 1 := by rw [IntKind.wrap_i64]; omega
              have hq3 : IntKind.i64.wrap ((bc : Int) - (bg : Int)) = (bc : Int) - (bg : Int) := by
                have := guessN_le m bl bu hbl hbu
                rw [HBG.out] at this
                rw [IntKind.wrap_i64]; omega
              obtain ⟨nd, HND⟩ : ∃ nd, Hid (row.getD i 0 - Fb.guessB m row ab i = nd) := ⟨_, (rfl : _ = _)⟩
              obtain ⟨D, HD⟩ : ∃ D, Hid (nd.toNat = D) := ⟨_, (rfl : _ = _)⟩
              have HDI : Hid ((nd.toNat : Int) = (D : Int)) := by unfold Hid; rw [HD.out]
              have hDb := byte_le nd D HD
              have hbgb : bg ≤ 255 := by rw [← HBG.out]; exact guessN_le m bl bu hbl hbu
              have hdm : ((bc : Int) - (bg : Int) + 512) % 256 = (D : Int) := by
                rw [← HDI.out, ← HND.out]
                refine (told_byte _ _ bc bg ?_ ?_).symm
                · rw [← HROW.out, rowG_getD _ _ _ _ hi2, HBC.out]
                · rw [← HROW.out, ← HAB.out, ← guess_row _ _ _ _ _ hi2, HBL.out, HBU.out, HBG.out]
              have HT2 : Hid ((tb ++ ⟨#[nd]⟩).data.toList = nb :: Fb.tellTo m row ab (i + 1)) := by
                unfold Hid; rw [ByteArray.data_append, Array.toList_append, HTB.out, Fb.tellTo, HND.out]; simp
              have hts2 : (tb ++ ⟨#[nd]⟩ : ByteArray).size = i + 1 + 1 := by rw [ByteArray.size_append, hts]; rfl
              have hcv := fun X : World => run_one1 (X.alloc (.cells #[.int .u8 (D : Int)] 5)) X.heap.size (D : Int) nd HDI (by simp)
              have H3D := H3I.out.drew
              have HGD := HGI.out.drew
              go_upto_region 16 with fail
              go_region_held3 (fun w' => w'.cell? ⟨w.heap.size, 0, none⟩ = some (.int .i64 (W : Int)) ∧ w'.cell? ⟨w.heap.size, 1, none⟩ = some (.int .i64 (H : Int)) ∧ w'.cell? ⟨w.heap.size, 2, none⟩ = some (.slice a n cap) ∧ Hid (Three w' w.heap.size (.int .i64 (W : Int)) (.int .i64 (H : Int)) (.slice a n cap)) ∧ Hid (Gd w (.slice a n cap) (pixOf bs) w'))
                (first | exact ⟨HXc.c0, HXc.c1, HXc.c2, HXc, HGc⟩ | exact ⟨HXb.c0, HXb.c1, HXb.c2, HXb, HGb⟩ | exact ⟨HXa.c0, HXa.c1, HXa.c2, HXa, HGa⟩ | exact ⟨H3D.c0, H3D.c1, H3D.c2, H3D, HGD⟩ | fail)
                (first
                  | (go_at_call 62; refine (guess_any m bl bu _ (by omega) hbl hbu bg HBG).mono ?_; rintro e wx ⟨rfl, rfl⟩)
                  | (go_at_call 61; have HGb1 := HGb.1; refine (up_at W H k i a n cap bs _ HGb1 hW hH hlt hi2 HLN bu HBU).mono ?_; rintro e wx ⟨rfl, hbx⟩; have HXc := HXb.on hbx; have HGc := HGb.on hbx)
                  | (go_at_call 61; have HGa1 := HGa.1; refine (left_at W H k i a n cap bs _ HGa1 hW hH hlt hi2 HLN bl HBL).mono ?_; rintro e wx ⟨rfl, hbx⟩; have HXb := HXa.on hbx; have HGb := HGa.on hbx)
                  | (go_at_call 61; refine (cur_at W H k i a n cap bs _ HGD.1 hW hH hlt hi2 HLN bc HBC).mono ?_; rintro e wx ⟨rfl, hbx⟩; have HXa := H3D.on hbx; have HGa := HGD.on hbx)
                  | fail)
              all_goals (have HXd : Hid (Three _ _ _ _ _) := HXc.alloc (.cells #[.int .u8 (D : Int)] 5))
              all_goals (have HGd : Hid (Gd _ _ _ _) := HGc.on ((Below.refl _ _).alloc (Nat.le_refl _) (.cells #[.int .u8 (D : Int)] 5)))
              all_goals clear HXa HXb HXc HGa HGb HGc t0 t1 t2 f0 f1 f2 tl
              all_goals go_wp2_with fail
              all_goals (go_roundw; (case rel => exact ⟨i + 1, tb ++ ⟨#[nd]⟩, by omega, by go_num, rfl, HT2, hts2, HXd, HGd⟩); (case measure => simp [intOf]; omega))
            · have hie : i = 2 * W := by omega
              subst hie
              have HTL : Hid (tb.data.toList = nb :: Fb.tellL m row ab) := by unfold Hid; rw [HTB.out]; unfold Fb.tellL; rw [HRL.out]
              clear HTB
              by_cases hm0 : m = 0
              · subst hm0
                have HB1 : Hid (bestIs row ab 1 tb) := by
                  unfold Hid bestIs
                  intro _
                  rw [HTL.out, ← HNB.out, best_step]; simp [Fb.bestTo]
                have hmb : (((0 : Nat) : Int) == 0) = true := by decide
                go_wp2_with fail
                go_quiet (fail)
                go_wp2_with fail
                go_roundw
                case rel => exact ⟨1, tb, by omega, by go_num, rfl, HB1, H3I.out.drewN2 _, HGI.out.drewN _⟩
                case measure => simp [intOf]
              · obtain ⟨p1, HP1⟩ := bytes_of (Fb.packL (Fb.tellL m row ab))
                obtain ⟨p2, HP2⟩ := bytes_of (Fb.packL (Fb.tellL (Fb.bestTo row ab m) row ab))
                have hbl : bb.size = 2 * W + 1 := by
                  have h := HBB.out hm0
                  have h2 : bb.size = bb.data.toList.length := by simp
                  rw [h2, h, List.length_cons, Fb.tellL, Fb.tellTo_len, HRL.out]
                have HE1 : Hid ((tb.extract 1 tb.size).data.toList = Fb.tellL m row ab) := by
                  unfold Hid; rw [ext_drop1, HTL.out]; rfl
                have HE2 : Hid ((bb.extract 1 bb.size).data.toList = Fb.tellL (Fb.bestTo row ab m) row ab) := by
                  unfold Hid; rw [ext_drop1, HBB.out hm0]; rfl
                have hmb : ((m : Int) == 0) = false := by rw [beq_eq_false_iff_ne]; omega
                have hs1 : (tb.extract 1 tb.size).size ≤ 1000000 := by rw [ByteArray.size_extract]; omega
                have hs2 : (bb.extract 1 bb.size).size ≤ 1000000 := by rw [ByteArray.size_extract]; omega
                have H3D := H3I.out.drew
                have HGD := HGI.out.drew
                have hp1 : p1.size = (Fb.packL (Fb.tellL m row ab)).length := size_of HP1
                have hp2 : p2.size = (Fb.packL (Fb.tellL (Fb.bestTo row ab m) row ab)).length := size_of HP2
                have hp1b : p1.size ≤ 1000 := by rw [hp1]; have := Fb.packL_len (Fb.tellL m row ab); rw [Fb.tellL, Fb.tellTo_len, HRL.out] at this; unfold Fb.tellL; rw [HRL.out]; omega
                have hp2b : p2.size ≤ 1000 := by rw [hp2]; have := Fb.packL_len (Fb.tellL (Fb.bestTo row ab m) row ab); rw [Fb.tellL, Fb.tellTo_len, HRL.out] at this; unfold Fb.tellL; rw [HRL.out]; omega
                obtain ⟨b2, HB2E⟩ : ∃ b2 : ByteArray, Hid (b2 = if p1.size < p2.size then tb else bb) := ⟨_, (rfl : _ = _)⟩
                have HB2 : Hid (bestIs row ab (m + 1) b2) := by
                  unfold Hid bestIs
                  intro _
                  rw [HB2E.out, best_step]
                  by_cases hc : p1.size < p2.size
                  · rw [if_pos hc, if_pos ⟨by omega, hm0⟩, HTL.out, HNB.out]
                  · rw [if_neg hc, if_neg (fun h => hc (by omega)), HBB.out hm0]
                have hv1 : 1 ≤ tb.size := by omega
                have hv2 : 1 ≤ bb.size := by omega
                have hv3 : (1 : Int) ≤ (tb.size : Int) := by omega
                have hv4 : (1 : Int) ≤ (bb.size : Int) := by omega
                have hv5 : ¬ (tb.size : Int) < 1 := by omega
                have hv6 : ¬ (bb.size : Int) < 1 := by omega
                clear hts hbl
                go_wp2_with fail
                go_region_held3 (fun w' => Hid (Three w' w.heap.size (.int .i64 (W : Int)) (.int .i64 (H : Int)) (.slice a n cap)) ∧ Hid (Gd w (.slice a n cap) (pixOf bs) w'))
                  (first | exact ⟨HXb, HGb⟩ | exact ⟨HXa, HGa⟩ | exact ⟨H3D, HGD⟩ | fail)
                  (first
                    | (go_at_call 63; have HGa1 := HGa.1; refine (packed_s _ _ hs2 _ HE2 p2 HP2).mono ?_; rintro e wx ⟨rfl, hbx⟩; have HXb := HXa.on hbx; have HGb := HGa.on hbx)
                    | (go_at_call 63; refine (packed_s _ _ hs1 _ HE1 p1 HP1).mono ?_; rintro e wx ⟨rfl, hbx⟩; have HXa := H3D.on hbx; have HGa := HGD.on hbx)
                    | fail)
                all_goals clear HXa HGa H3D HGD t0 t1 t2 f0 f1 f2 tl H3I HGI
                all_goals
                  (by_cases hc : p1.size < p2.size
                   · have hb2 : b2 = tb := by rw [HB2E.out, if_pos hc]
                     subst hb2
                     go_wp2_with fail
                     go_roundw
                     case rel => exact ⟨m + 1, b2, by omega, by go_num, rfl, HB2, HXb, HGb⟩
                     case measure => simp [intOf]; omega
                   · have hb2 : b2 = bb := by rw [HB2E.out, if_neg hc]
                     subst hb2
                     go_wp2_with fail
                     go_roundw
                     case rel => exact ⟨m + 1, b2, by omega, by go_num, rfl, HB2, HXb, HGb⟩
                     case measure => simp [intOf]; omega)
        · have hme : m = 4 := by omega
          subst hme
          have HSL : Hid (bb.data.toList = Fb.shortL row ab) := HBB.out (by omega)
          have hbs : bb.size = 2 * W + 1 := by
            have h2 : bb.size = bb.data.toList.length := by simp
            rw [h2, HSL.out, Fb.shortL_len, HRL.out]; omega
          have HO2 : Hid ((o ++ bb).data.toList = rowsG bs (2 * W) (k + 1)) := by
            unfold Hid; rw [ByteArray.data_append, Array.toList_append, HO.out, HSL.out, ← HROW.out, ← HAB.out]; rfl
          have hos2 : (o ++ bb).size ≤ (k + 1) * 17 := by rw [ByteArray.size_append, hbs]; omega
          go_wp2_with fail
          go_roundw
          case rel => exact ⟨k + 1, o ++ bb, by omega, by go_num, rfl, HO2, H3S, HGS, hos2⟩
          case measure => simp [intOf]; omega
    · have hkH : k = H := by omega
      have HRS : Hid (o.data.toList = rowsG bs (2 * W) H) := by unfold Hid; rw [← hkH]; exact HO.out
      obtain ⟨p, HP⟩ := bytes_of (Fb.packL (rowsG bs (2 * W) H))
      have hqs : o.size ≤ 136 := by omega
      have hps : p.size ≤ 272 := by
        rw [size_of HP]; have := Fb.packL_len (rowsG bs (2 * W) H)
        rw [← HRS.out] at this ⊢
        have h2 : o.data.toList.length = o.size := by simp
        omega
      have HPK : Hid (∀ X, Calls Tryd.prog 63 #[.string o] X fun e w' => e = .returned (.string p) ∧ Below X.heap.size X w') := fun X => packed_s o X (by omega) _ HRS p HP
      have hw1 : IntKind.u8.wrap (W : Int) = (W : Int) := by rw [IntKind.wrap_u8]; omega
      have hw2 : IntKind.u8.wrap (H : Int) = (H : Int) := by rw [IntKind.wrap_u8]; omega
      obtain ⟨xw, HXW⟩ : ∃ x, Hid (UInt8.ofNat W = x) := ⟨_, (rfl : _ = _)⟩
      obtain ⟨xh, HXH⟩ : ∃ x, Hid (UInt8.ofNat H = x) := ⟨_, (rfl : _ = _)⟩
      have HXI : Hid ((xw.toNat : Int) = (W : Int)) := by unfold Hid; rw [← HXW.out, Fb.ofNat_toNat _ (by omega)]
      have HYI : Hid ((xh.toNat : Int) = (H : Int)) := by unfold Hid; rw [← HXH.out, Fb.ofNat_toNat _ (by omega)]
      have hcv : ∀ (X : World) (B : Nat), X.cell? ⟨B, 0, none⟩ = some (.int .u8 (W : Int)) → X.cell? ⟨B, 1, none⟩ = some (.int .u8 (H : Int)) → (convert 51 9 (.slice (some ⟨B, 0, none⟩) 2 2)).run Tryd.prog X = .ok (.string ⟨#[xw, xh]⟩) X := fun X B => run_pairG X B (W : Int) (H : Int) xw xh HXI HYI
      have H3r := H3R.out
      have HTA := H3r.drew
      have HTB := (H3r.alloc (.cells #[.int .u8 (W : Int), .int .u8 (H : Int)] 5)).drew
      have HDU := duo_start wr (.int .u8 (W : Int)) (.int .u8 (H : Int)) 5
      have HFIN : Hid (str (UInt8.ofNat W :: UInt8.ofNat H :: Fb.packL (rowsG bs (2 * W) H)) = .string (⟨#[xw, xh]⟩ ++ p)) := by
        unfold Hid
        rw [HXW.out, HXH.out, HP.out, ← str_self]
        rw [ByteArray.data_append]; simp
      have hsz2 : (⟨#[xw, xh]⟩ : ByteArray).size = 2 := rfl
      have hbwr : Below w.heap.size w wr := HGR.out.2
      have hbA : Below w.heap.size w wr.drew := hbwr.drew
      have hsA : w.heap.size ≤ wr.drew.heap.size := hbwr.size
      have hbB : Below w.heap.size w (wr.alloc (.cells #[.int .u8 (W : Int), .int .u8 (H : Int)] 5)).drew := (hbwr.alloc hbwr.size _).drew
      have hsB2 : w.heap.size ≤ (wr.alloc (.cells #[.int .u8 (W : Int), .int .u8 (H : Int)] 5)).drew.heap.size := hbB.size
      clear hkH
      go_upto_region 21 with fail
      go_cut [2, 3] from 5 (fun s2 s3 wc => s2 = .string (⟨#[xw, xh]⟩ ++ p) ∧ s3 = .int .i64 0 ∧ Below w.heap.size w wc)
      case first =>
        go_region_with (go_at_call 63; refine (HPK.out _).mono ?_; rintro e w4 ⟨rfl, hb4⟩; (first | (have H34 := HTA.on hb4; have hbf := hbA.trans (hb4.mono hsA)) | (have H34 := HTB.on hb4; have hbf := hbB.trans (hb4.mono hsB2); have HD4 := HDU.on hb4; obtain ⟨e0, e1, _⟩ := HD4)); obtain ⟨q0, q1, q2, _, _, _, _⟩ := H34)
        all_goals (go_wp2_with fail; go_meet)
        all_goals first | exact ⟨rfl, rfl, hbf⟩ | exact ⟨rfl, rfl, hbf.alloc hbf.size _⟩
      case rest =>
        obtain ⟨rfl, rfl, hbc⟩ := hcut
        go_wp2_with fail
        go_ret2
        exact ⟨by rw [HFIN.out]; rfl, hbc⟩
end Go.Proofs.YtceabiodelfdoaaDoor
/- The reference's PictureBytes of whatever picture. -/
namespace Go.Proofs.YtceabiodelfdoaaDoor
open Go.RowKit

set_option maxHeartbeats 4000000 in
set_option maxRecDepth 100000 in
theorem refBytes_err (W H : Int) (v : Value) (ps : List (Int × Int)) (w : World) (hps : ps.length ≤ 1000000000) (HR : Hid (RdP w v ps)) (c : Nat) (hc : c ≠ 0) (hcb : c ≤ 100) (HC : Hid (checkL W H ps = c)) :
    Calls Tryd.prog 36 #[.agg #[.int .i64 W, .int .i64 H, v]] w fun e w' => e = .returned (.tuple #[.string ⟨#[]⟩, .int .i64 (c : Int)]) ∧ Below w.heap.size w w' := by
  obtain ⟨a, cap, hv, hlc, hcap, hh⟩ := HR.out
  obtain ⟨n, HNN⟩ : ∃ n, Hid (ps.length = n) := ⟨_, (rfl : _ = _)⟩
  clear hh
  rw [HNN.out] at hv hlc
  subst hv
  have hb0 : Below w.heap.size w (w.alloc (.cells #[.int .i64 W, .int .i64 H, .slice a n cap] 43)) := (Below.refl _ _).alloc (Nat.le_refl _) _
  have HR0 : Hid (RdP (w.alloc (.cells #[.int .i64 W, .int .i64 H, .slice a n cap] 43)) (.slice a n cap) ps) := HR.out.on hb0
  have hcp : (0 : Int) < (c : Int) := by omega
  go_enter Tryd.func36, Tryd.ntmps36
  go_wp2_with fail
  refine (fault_any W H (.slice a n cap) ps _ hps HR0 c HC).mono ?_
  rintro e w1 ⟨rfl, hb1⟩
  have hbw1 : Below w.heap.size w w1 := hb0.trans (hb1.mono hb0.size)
  clear hb0 hb1 HR0
  go_wp2_with fail
  exact bodyPost_ret (v := .tuple #[.string ⟨#[]⟩, .int .i64 (c : Int)]) (by simp [results, Tryd.results36, go_sem]) rfl ⟨rfl, hbw1⟩

set_option maxRecDepth 100000 in
theorem flatP_append (a b : List (Int × Int)) : flatP (a ++ b) = flatP a ++ flatP b := by
  induction a with
  | nil => rfl
  | cons p a ih => obtain ⟨n, d⟩ := p; simp [flatP, ih]
set_option maxRecDepth 100000 in
theorem flatP_drop : ∀ (k : Nat) (ps : List (Int × Int)), flatP (ps.drop k) = (flatP ps).drop (2 * k)
  | 0, _ => by simp
  | k + 1, [] => by simp [flatP]
  | k + 1, (v, a) :: r => by
    rw [List.drop_succ_cons, flatP_drop k r, flatP, show 2 * (k + 1) = 2 * k + 1 + 1 by omega, List.drop_succ_cons, List.drop_succ_cons]
set_option maxRecDepth 100000 in
theorem flatP_take : ∀ (k : Nat) (ps : List (Int × Int)), flatP (ps.take k) = (flatP ps).take (2 * k)
  | 0, _ => by simp [flatP]
  | k + 1, [] => by simp [flatP]
  | k + 1, (v, a) :: r => by
    rw [List.take_succ_cons, flatP, flatP_take k r, flatP, show 2 * (k + 1) = 2 * k + 1 + 1 by omega, List.take_succ_cons, List.take_succ_cons]

set_option maxRecDepth 100000 in
theorem rowOf_flat (ps : List (Int × Int)) (W k : Nat) : rowOf ps W k = rowG (flatP ps) (2 * W) k := by
  unfold rowOf rowG
  rw [flatP_take, flatP_drop, Nat.mul_left_comm]
set_option maxRecDepth 100000 in
theorem aboveOf_flat (ps : List (Int × Int)) (W k : Nat) : aboveOf ps W k = abG (flatP ps) (2 * W) k := by
  unfold aboveOf abG
  by_cases h : k = 0
  · rw [if_pos h, if_pos h]
  · rw [if_neg h, if_neg h, rowOf_flat]
set_option maxRecDepth 100000 in
theorem rowsTo_flat (ps : List (Int × Int)) (W : Nat) : ∀ k, rowsTo ps W k = rowsG (flatP ps) (2 * W) k
  | 0 => rfl
  | k + 1 => by rw [rowsTo, rowsG, rowsTo_flat ps W k, rowOf_flat, aboveOf_flat]

set_option maxRecDepth 100000 in
/-- PictureBytes of a picture that may be: what Bytes tells -/
theorem refBytes_at (W H : Nat) (v : Value) (ps : List (Int × Int)) (w : World) (HR : Hid (RdP w v ps)) (HC : Hid (checkL (W : Int) (H : Int) ps = 0)) (t : ByteArray) (HT : Hid (picBytes W H ps = t.data.toList)) :
    Calls Tryd.prog 36 #[.agg #[.int .i64 (W : Int), .int .i64 (H : Int), v]] w fun e w' => e = .returned (.tuple #[.string t, .int .i64 0]) ∧ Below w.heap.size w w' := by
  obtain ⟨hW1, hW8, hH1, hH8, hlen, hall⟩ := check_ok HC.out
  have hl : ps.length = W * H := by
    have h : ((W * H : Nat) : Int) = (W : Int) * (H : Int) := by simp
    omega
  have hpf := pixOf_flatP ps hall
  obtain ⟨a, cap, hv, hlc, hcap, hh⟩ := HR.out
  have hl64 : ps.length ≤ 64 := by rw [hl]; have := Nat.mul_le_mul (show W ≤ 8 by omega) (show H ≤ 8 by omega); omega
  subst hv
  have h := refBytes_ok W H a ps.length cap (flatP ps) w (by rw [hpf]; exact HR) (by rw [hpf]; exact HC) (by unfold Hid; rw [flatP_len, hl, Nat.mul_left_comm H 2 W, Nat.mul_comm H W]) (by omega) (by omega) (by omega) (by omega) hl64
  rw [← rowsTo_flat, show UInt8.ofNat W :: UInt8.ofNat H :: Fb.packL (rowsTo ps W H) = picBytes W H ps from rfl, HT.out, str_self] at h
  exact h
end Go.Proofs.YtceabiodelfdoaaDoor
