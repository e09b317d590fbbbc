/- Walk: the reference's fault of an op, kinds 13 to 16. -/
import Derived.Test.YtjmkfcgnadpbaaaDoorRefPJ
namespace Go.Proofs.YtjmkfcgnadpbaaaDoor
open Go.RowKit
set_option linter.unusedSimpArgs false

set_option maxHeartbeats 8000000 in
set_option maxRecDepth 100000 in
theorem opf_13 (id qa qb qc qd pw ph : Int) (u : Value) (ps : List (Int × Int)) (w : World) (hps : ps.length ≤ 1000000000) (HR : Hid (RdP w u ps)) :
    Calls Tryd.prog 24 #[opV ⟨13, id, qa, qb, qc, qd, pw, ph, ps⟩ u] w fun e w' => OpfP ⟨13, id, qa, qb, qc, qd, pw, ph, ps⟩ w e w' := by
  obtain ⟨ua, cu, hvu, _, _, _⟩ := HR.out
  obtain ⟨np, HNP⟩ : ∃ n, Hid (ps.length = n) := ⟨_, (rfl : _ = _)⟩
  rw [HNP.out] at hvu hps
  subst hvu
  unfold OpfP opV
  go_enter Tryd.func24, Tryd.ntmps24
  go_wp2_with fail
  refine (parts_13 _).mono ?_
  rintro e w1 ⟨rfl, rfl⟩
  go_wp2_with fail
  refine wp_loop_rounds 5 ?_
  by_cases hqa : qa = 0
  case neg =>
    rw [rounds_succ]
    go_wp2_with fail
    go_ret
    refine ⟨by rw [show rfC _ = 3 by (simp [rfC, rowR, numR, HNP.out, hqa]; try ((repeat' (first | intro _ | split)) <;> first | rfl | omega))]; rfl, ?_⟩
    (repeat (first | refine below_drewN ?_ _ | refine Below.alloc ?_ (by simp; try omega) _ | refine Below.setCell ?_ (by simp; try omega) _)); exact Below.refl _ _
  subst hqa
  rw [rounds_succ]
  go_wp2_with fail
  by_cases hqb : qb = 0
  case neg =>
    rw [rounds_succ]
    go_wp2_with fail
    go_ret
    refine ⟨by rw [show rfC _ = 3 by (simp [rfC, rowR, numR, HNP.out, hqb]; try ((repeat' (first | intro _ | split)) <;> first | rfl | omega))]; rfl, ?_⟩
    (repeat (first | refine below_drewN ?_ _ | refine Below.alloc ?_ (by simp; try omega) _ | refine Below.setCell ?_ (by simp; try omega) _)); exact Below.refl _ _
  subst hqb
  rw [rounds_succ]
  go_wp2_with fail
  by_cases hqc : qc = 0
  case neg =>
    rw [rounds_succ]
    go_wp2_with fail
    go_ret
    refine ⟨by rw [show rfC _ = 3 by (simp [rfC, rowR, numR, HNP.out, hqc]; try ((repeat' (first | intro _ | split)) <;> first | rfl | omega))]; rfl, ?_⟩
    (repeat (first | refine below_drewN ?_ _ | refine Below.alloc ?_ (by simp; try omega) _ | refine Below.setCell ?_ (by simp; try omega) _)); exact Below.refl _ _
  subst hqc
  rw [rounds_succ]
  go_wp2_with fail
  by_cases hqd : qd = 0
  case neg =>
    rw [rounds_succ]
    go_wp2_with fail
    go_ret
    refine ⟨by rw [show rfC _ = 3 by (simp [rfC, rowR, numR, HNP.out, hqd]; try ((repeat' (first | intro _ | split)) <;> first | rfl | omega))]; rfl, ?_⟩
    (repeat (first | refine below_drewN ?_ _ | refine Below.alloc ?_ (by simp; try omega) _ | refine Below.setCell ?_ (by simp; try omega) _)); exact Below.refl _ _
  subst hqd
  rw [rounds_succ]
  go_wp2_with fail
  by_cases hid : id = 0
  case neg =>
    rw [rounds_succ]
    go_wp2_with fail
    go_ret
    refine ⟨by rw [show rfC _ = 3 by (simp [rfC, rowR, numR, HNP.out, hid]; try ((repeat' (first | intro _ | split)) <;> first | rfl | omega))]; rfl, ?_⟩
    (repeat (first | refine below_drewN ?_ _ | refine Below.alloc ?_ (by simp; try omega) _ | refine Below.setCell ?_ (by simp; try omega) _)); exact Below.refl _ _
  subst hid
  by_cases hpw : pw = 0
  case neg =>
    rw [rounds_succ]
    go_wp2_with fail
    go_ret
    refine ⟨by rw [show rfC _ = 3 by (simp [rfC, rowR, numR, HNP.out, hpw]; try ((repeat' (first | intro _ | split)) <;> first | rfl | omega))]; rfl, ?_⟩
    (repeat (first | refine below_drewN ?_ _ | refine Below.alloc ?_ (by simp; try omega) _ | refine Below.setCell ?_ (by simp; try omega) _)); exact Below.refl _ _
  subst hpw
  by_cases hph : ph = 0
  case neg =>
    rw [rounds_succ]
    go_wp2_with fail
    go_ret
    refine ⟨by rw [show rfC _ = 3 by (simp [rfC, rowR, numR, HNP.out, hph]; try ((repeat' (first | intro _ | split)) <;> first | rfl | omega))]; rfl, ?_⟩
    (repeat (first | refine below_drewN ?_ _ | refine Below.alloc ?_ (by simp; try omega) _ | refine Below.setCell ?_ (by simp; try omega) _)); exact Below.refl _ _
  subst hph
  by_cases hnp : np = 0
  case neg =>
    have hnp2 : 0 < np := by omega
    have hnp3 : (0 : Int) < (np : Int) := by omega
    rw [rounds_succ]
    go_wp2_with fail
    go_ret
    refine ⟨by rw [show rfC _ = 3 by (simp [rfC, rowR, numR, HNP.out, hnp2]; try ((repeat' (first | intro _ | split)) <;> first | rfl | omega))]; rfl, ?_⟩
    (repeat (first | refine below_drewN ?_ _ | refine Below.alloc ?_ (by simp; try omega) _ | refine Below.setCell ?_ (by simp; try omega) _)); exact Below.refl _ _
  subst hnp
  rw [rounds_succ]
  go_wp2_with fail
  refine wp_loop_rounds 1 ?_
  rw [rounds_succ]
  go_wp2_with fail
  go_ret
  refine ⟨by rw [show rfC _ = 0 by (simp [rfC, rowR, numR, HNP.out]; try ((repeat' (first | intro _ | split)) <;> first | rfl | omega))]; rfl, ?_⟩
  (repeat (first | refine below_drewN ?_ _ | refine Below.alloc ?_ (by simp; try omega) _ | refine Below.setCell ?_ (by simp; try omega) _)); exact Below.refl _ _
set_option maxHeartbeats 8000000 in
set_option maxRecDepth 100000 in
theorem opf_14 (id qa qb qc qd pw ph : Int) (u : Value) (ps : List (Int × Int)) (w : World) (hps : ps.length ≤ 1000000000) (HR : Hid (RdP w u ps)) :
    Calls Tryd.prog 24 #[opV ⟨14, id, qa, qb, qc, qd, pw, ph, ps⟩ u] w fun e w' => OpfP ⟨14, id, qa, qb, qc, qd, pw, ph, ps⟩ w e w' := by
  obtain ⟨ua, cu, hvu, _, _, _⟩ := HR.out
  obtain ⟨np, HNP⟩ : ∃ n, Hid (ps.length = n) := ⟨_, (rfl : _ = _)⟩
  rw [HNP.out] at hvu hps
  subst hvu
  unfold OpfP opV
  go_enter Tryd.func24, Tryd.ntmps24
  go_wp2_with fail
  refine (parts_14 _).mono ?_
  rintro e w1 ⟨rfl, rfl⟩
  go_wp2_with fail
  refine wp_loop_rounds 5 ?_
  by_cases hqa : qa = 0
  case neg =>
    rw [rounds_succ]
    go_wp2_with fail
    go_ret
    refine ⟨by rw [show rfC _ = 3 by (simp [rfC, rowR, numR, HNP.out, hqa]; try ((repeat' (first | intro _ | split)) <;> first | rfl | omega))]; rfl, ?_⟩
    (repeat (first | refine below_drewN ?_ _ | refine Below.alloc ?_ (by simp; try omega) _ | refine Below.setCell ?_ (by simp; try omega) _)); exact Below.refl _ _
  subst hqa
  rw [rounds_succ]
  go_wp2_with fail
  by_cases hqb : qb = 0
  case neg =>
    rw [rounds_succ]
    go_wp2_with fail
    go_ret
    refine ⟨by rw [show rfC _ = 3 by (simp [rfC, rowR, numR, HNP.out, hqb]; try ((repeat' (first | intro _ | split)) <;> first | rfl | omega))]; rfl, ?_⟩
    (repeat (first | refine below_drewN ?_ _ | refine Below.alloc ?_ (by simp; try omega) _ | refine Below.setCell ?_ (by simp; try omega) _)); exact Below.refl _ _
  subst hqb
  rw [rounds_succ]
  go_wp2_with fail
  by_cases hqc : qc = 0
  case neg =>
    rw [rounds_succ]
    go_wp2_with fail
    go_ret
    refine ⟨by rw [show rfC _ = 3 by (simp [rfC, rowR, numR, HNP.out, hqc]; try ((repeat' (first | intro _ | split)) <;> first | rfl | omega))]; rfl, ?_⟩
    (repeat (first | refine below_drewN ?_ _ | refine Below.alloc ?_ (by simp; try omega) _ | refine Below.setCell ?_ (by simp; try omega) _)); exact Below.refl _ _
  subst hqc
  rw [rounds_succ]
  go_wp2_with fail
  by_cases hqd : qd = 0
  case neg =>
    rw [rounds_succ]
    go_wp2_with fail
    go_ret
    refine ⟨by rw [show rfC _ = 3 by (simp [rfC, rowR, numR, HNP.out, hqd]; try ((repeat' (first | intro _ | split)) <;> first | rfl | omega))]; rfl, ?_⟩
    (repeat (first | refine below_drewN ?_ _ | refine Below.alloc ?_ (by simp; try omega) _ | refine Below.setCell ?_ (by simp; try omega) _)); exact Below.refl _ _
  subst hqd
  rw [rounds_succ]
  go_wp2_with fail
  by_cases hid : id = 0
  case neg =>
    rw [rounds_succ]
    go_wp2_with fail
    go_ret
    refine ⟨by rw [show rfC _ = 3 by (simp [rfC, rowR, numR, HNP.out, hid]; try ((repeat' (first | intro _ | split)) <;> first | rfl | omega))]; rfl, ?_⟩
    (repeat (first | refine below_drewN ?_ _ | refine Below.alloc ?_ (by simp; try omega) _ | refine Below.setCell ?_ (by simp; try omega) _)); exact Below.refl _ _
  subst hid
  by_cases hpw : pw = 0
  case neg =>
    rw [rounds_succ]
    go_wp2_with fail
    go_ret
    refine ⟨by rw [show rfC _ = 3 by (simp [rfC, rowR, numR, HNP.out, hpw]; try ((repeat' (first | intro _ | split)) <;> first | rfl | omega))]; rfl, ?_⟩
    (repeat (first | refine below_drewN ?_ _ | refine Below.alloc ?_ (by simp; try omega) _ | refine Below.setCell ?_ (by simp; try omega) _)); exact Below.refl _ _
  subst hpw
  by_cases hph : ph = 0
  case neg =>
    rw [rounds_succ]
    go_wp2_with fail
    go_ret
    refine ⟨by rw [show rfC _ = 3 by (simp [rfC, rowR, numR, HNP.out, hph]; try ((repeat' (first | intro _ | split)) <;> first | rfl | omega))]; rfl, ?_⟩
    (repeat (first | refine below_drewN ?_ _ | refine Below.alloc ?_ (by simp; try omega) _ | refine Below.setCell ?_ (by simp; try omega) _)); exact Below.refl _ _
  subst hph
  by_cases hnp : np = 0
  case neg =>
    have hnp2 : 0 < np := by omega
    have hnp3 : (0 : Int) < (np : Int) := by omega
    rw [rounds_succ]
    go_wp2_with fail
    go_ret
    refine ⟨by rw [show rfC _ = 3 by (simp [rfC, rowR, numR, HNP.out, hnp2]; try ((repeat' (first | intro _ | split)) <;> first | rfl | omega))]; rfl, ?_⟩
    (repeat (first | refine below_drewN ?_ _ | refine Below.alloc ?_ (by simp; try omega) _ | refine Below.setCell ?_ (by simp; try omega) _)); exact Below.refl _ _
  subst hnp
  rw [rounds_succ]
  go_wp2_with fail
  refine wp_loop_rounds 1 ?_
  rw [rounds_succ]
  go_wp2_with fail
  go_ret
  refine ⟨by rw [show rfC _ = 0 by (simp [rfC, rowR, numR, HNP.out]; try ((repeat' (first | intro _ | split)) <;> first | rfl | omega))]; rfl, ?_⟩
  (repeat (first | refine below_drewN ?_ _ | refine Below.alloc ?_ (by simp; try omega) _ | refine Below.setCell ?_ (by simp; try omega) _)); exact Below.refl _ _
set_option maxHeartbeats 8000000 in
set_option maxRecDepth 100000 in
theorem opf_15 (id qa qb qc qd pw ph : Int) (u : Value) (ps : List (Int × Int)) (w : World) (hps : ps.length ≤ 1000000000) (HR : Hid (RdP w u ps)) :
    Calls Tryd.prog 24 #[opV ⟨15, id, qa, qb, qc, qd, pw, ph, ps⟩ u] w fun e w' => OpfP ⟨15, id, qa, qb, qc, qd, pw, ph, ps⟩ w e w' := by
  obtain ⟨ua, cu, hvu, _, _, _⟩ := HR.out
  obtain ⟨np, HNP⟩ : ∃ n, Hid (ps.length = n) := ⟨_, (rfl : _ = _)⟩
  rw [HNP.out] at hvu hps
  subst hvu
  unfold OpfP opV
  go_enter Tryd.func24, Tryd.ntmps24
  go_wp2_with fail
  refine (parts_15 _).mono ?_
  rintro e w1 ⟨rfl, rfl⟩
  go_wp2_with fail
  refine wp_loop_rounds 5 ?_
  by_cases hqa : qa = 0
  case neg =>
    rw [rounds_succ]
    go_wp2_with fail
    go_ret
    refine ⟨by rw [show rfC _ = 3 by (simp [rfC, rowR, numR, HNP.out, hqa]; try ((repeat' (first | intro _ | split)) <;> first | rfl | omega))]; rfl, ?_⟩
    (repeat (first | refine below_drewN ?_ _ | refine Below.alloc ?_ (by simp; try omega) _ | refine Below.setCell ?_ (by simp; try omega) _)); exact Below.refl _ _
  subst hqa
  rw [rounds_succ]
  go_wp2_with fail
  by_cases hqb : qb = 0
  case neg =>
    rw [rounds_succ]
    go_wp2_with fail
    go_ret
    refine ⟨by rw [show rfC _ = 3 by (simp [rfC, rowR, numR, HNP.out, hqb]; try ((repeat' (first | intro _ | split)) <;> first | rfl | omega))]; rfl, ?_⟩
    (repeat (first | refine below_drewN ?_ _ | refine Below.alloc ?_ (by simp; try omega) _ | refine Below.setCell ?_ (by simp; try omega) _)); exact Below.refl _ _
  subst hqb
  rw [rounds_succ]
  go_wp2_with fail
  by_cases hqc : qc = 0
  case neg =>
    rw [rounds_succ]
    go_wp2_with fail
    go_ret
    refine ⟨by rw [show rfC _ = 3 by (simp [rfC, rowR, numR, HNP.out, hqc]; try ((repeat' (first | intro _ | split)) <;> first | rfl | omega))]; rfl, ?_⟩
    (repeat (first | refine below_drewN ?_ _ | refine Below.alloc ?_ (by simp; try omega) _ | refine Below.setCell ?_ (by simp; try omega) _)); exact Below.refl _ _
  subst hqc
  rw [rounds_succ]
  go_wp2_with fail
  by_cases hqd : qd = 0
  case neg =>
    rw [rounds_succ]
    go_wp2_with fail
    go_ret
    refine ⟨by rw [show rfC _ = 3 by (simp [rfC, rowR, numR, HNP.out, hqd]; try ((repeat' (first | intro _ | split)) <;> first | rfl | omega))]; rfl, ?_⟩
    (repeat (first | refine below_drewN ?_ _ | refine Below.alloc ?_ (by simp; try omega) _ | refine Below.setCell ?_ (by simp; try omega) _)); exact Below.refl _ _
  subst hqd
  rw [rounds_succ]
  go_wp2_with fail
  by_cases hid : id = 0
  case neg =>
    rw [rounds_succ]
    go_wp2_with fail
    go_ret
    refine ⟨by rw [show rfC _ = 3 by (simp [rfC, rowR, numR, HNP.out, hid]; try ((repeat' (first | intro _ | split)) <;> first | rfl | omega))]; rfl, ?_⟩
    (repeat (first | refine below_drewN ?_ _ | refine Below.alloc ?_ (by simp; try omega) _ | refine Below.setCell ?_ (by simp; try omega) _)); exact Below.refl _ _
  subst hid
  by_cases hpw : pw = 0
  case neg =>
    rw [rounds_succ]
    go_wp2_with fail
    go_ret
    refine ⟨by rw [show rfC _ = 3 by (simp [rfC, rowR, numR, HNP.out, hpw]; try ((repeat' (first | intro _ | split)) <;> first | rfl | omega))]; rfl, ?_⟩
    (repeat (first | refine below_drewN ?_ _ | refine Below.alloc ?_ (by simp; try omega) _ | refine Below.setCell ?_ (by simp; try omega) _)); exact Below.refl _ _
  subst hpw
  by_cases hph : ph = 0
  case neg =>
    rw [rounds_succ]
    go_wp2_with fail
    go_ret
    refine ⟨by rw [show rfC _ = 3 by (simp [rfC, rowR, numR, HNP.out, hph]; try ((repeat' (first | intro _ | split)) <;> first | rfl | omega))]; rfl, ?_⟩
    (repeat (first | refine below_drewN ?_ _ | refine Below.alloc ?_ (by simp; try omega) _ | refine Below.setCell ?_ (by simp; try omega) _)); exact Below.refl _ _
  subst hph
  by_cases hnp : np = 0
  case neg =>
    have hnp2 : 0 < np := by omega
    have hnp3 : (0 : Int) < (np : Int) := by omega
    rw [rounds_succ]
    go_wp2_with fail
    go_ret
    refine ⟨by rw [show rfC _ = 3 by (simp [rfC, rowR, numR, HNP.out, hnp2]; try ((repeat' (first | intro _ | split)) <;> first | rfl | omega))]; rfl, ?_⟩
    (repeat (first | refine below_drewN ?_ _ | refine Below.alloc ?_ (by simp; try omega) _ | refine Below.setCell ?_ (by simp; try omega) _)); exact Below.refl _ _
  subst hnp
  rw [rounds_succ]
  go_wp2_with fail
  refine wp_loop_rounds 1 ?_
  rw [rounds_succ]
  go_wp2_with fail
  go_ret
  refine ⟨by rw [show rfC _ = 0 by (simp [rfC, rowR, numR, HNP.out]; try ((repeat' (first | intro _ | split)) <;> first | rfl | omega))]; rfl, ?_⟩
  (repeat (first | refine below_drewN ?_ _ | refine Below.alloc ?_ (by simp; try omega) _ | refine Below.setCell ?_ (by simp; try omega) _)); exact Below.refl _ _
set_option maxHeartbeats 8000000 in
set_option maxRecDepth 100000 in
theorem opf_16 (id qa qb qc qd pw ph : Int) (u : Value) (ps : List (Int × Int)) (w : World) (hps : ps.length ≤ 1000000000) (HR : Hid (RdP w u ps)) :
    Calls Tryd.prog 24 #[opV ⟨16, id, qa, qb, qc, qd, pw, ph, ps⟩ u] w fun e w' => OpfP ⟨16, id, qa, qb, qc, qd, pw, ph, ps⟩ w e w' := by
  obtain ⟨ua, cu, hvu, _, _, _⟩ := HR.out
  obtain ⟨np, HNP⟩ : ∃ n, Hid (ps.length = n) := ⟨_, (rfl : _ = _)⟩
  rw [HNP.out] at hvu hps
  subst hvu
  unfold OpfP opV
  go_enter Tryd.func24, Tryd.ntmps24
  go_wp2_with fail
  refine (parts_16 _).mono ?_
  rintro e w1 ⟨rfl, rfl⟩
  go_wp2_with fail
  refine wp_loop_rounds 5 ?_
  by_cases hqa : qa = 0
  case neg =>
    rw [rounds_succ]
    go_wp2_with fail
    go_ret
    refine ⟨by rw [show rfC _ = 3 by (simp [rfC, rowR, numR, HNP.out, hqa]; try ((repeat' (first | intro _ | split)) <;> first | rfl | omega))]; rfl, ?_⟩
    (repeat (first | refine below_drewN ?_ _ | refine Below.alloc ?_ (by simp; try omega) _ | refine Below.setCell ?_ (by simp; try omega) _)); exact Below.refl _ _
  subst hqa
  rw [rounds_succ]
  go_wp2_with fail
  by_cases hqb : qb = 0
  case neg =>
    rw [rounds_succ]
    go_wp2_with fail
    go_ret
    refine ⟨by rw [show rfC _ = 3 by (simp [rfC, rowR, numR, HNP.out, hqb]; try ((repeat' (first | intro _ | split)) <;> first | rfl | omega))]; rfl, ?_⟩
    (repeat (first | refine below_drewN ?_ _ | refine Below.alloc ?_ (by simp; try omega) _ | refine Below.setCell ?_ (by simp; try omega) _)); exact Below.refl _ _
  subst hqb
  rw [rounds_succ]
  go_wp2_with fail
  by_cases hqc : qc = 0
  case neg =>
    rw [rounds_succ]
    go_wp2_with fail
    go_ret
    refine ⟨by rw [show rfC _ = 3 by (simp [rfC, rowR, numR, HNP.out, hqc]; try ((repeat' (first | intro _ | split)) <;> first | rfl | omega))]; rfl, ?_⟩
    (repeat (first | refine below_drewN ?_ _ | refine Below.alloc ?_ (by simp; try omega) _ | refine Below.setCell ?_ (by simp; try omega) _)); exact Below.refl _ _
  subst hqc
  rw [rounds_succ]
  go_wp2_with fail
  by_cases hqd : qd = 0
  case neg =>
    rw [rounds_succ]
    go_wp2_with fail
    go_ret
    refine ⟨by rw [show rfC _ = 3 by (simp [rfC, rowR, numR, HNP.out, hqd]; try ((repeat' (first | intro _ | split)) <;> first | rfl | omega))]; rfl, ?_⟩
    (repeat (first | refine below_drewN ?_ _ | refine Below.alloc ?_ (by simp; try omega) _ | refine Below.setCell ?_ (by simp; try omega) _)); exact Below.refl _ _
  subst hqd
  rw [rounds_succ]
  go_wp2_with fail
  by_cases hid : id = 0
  case neg =>
    rw [rounds_succ]
    go_wp2_with fail
    go_ret
    refine ⟨by rw [show rfC _ = 3 by (simp [rfC, rowR, numR, HNP.out, hid]; try ((repeat' (first | intro _ | split)) <;> first | rfl | omega))]; rfl, ?_⟩
    (repeat (first | refine below_drewN ?_ _ | refine Below.alloc ?_ (by simp; try omega) _ | refine Below.setCell ?_ (by simp; try omega) _)); exact Below.refl _ _
  subst hid
  by_cases hpw : pw = 0
  case neg =>
    rw [rounds_succ]
    go_wp2_with fail
    go_ret
    refine ⟨by rw [show rfC _ = 3 by (simp [rfC, rowR, numR, HNP.out, hpw]; try ((repeat' (first | intro _ | split)) <;> first | rfl | omega))]; rfl, ?_⟩
    (repeat (first | refine below_drewN ?_ _ | refine Below.alloc ?_ (by simp; try omega) _ | refine Below.setCell ?_ (by simp; try omega) _)); exact Below.refl _ _
  subst hpw
  by_cases hph : ph = 0
  case neg =>
    rw [rounds_succ]
    go_wp2_with fail
    go_ret
    refine ⟨by rw [show rfC _ = 3 by (simp [rfC, rowR, numR, HNP.out, hph]; try ((repeat' (first | intro _ | split)) <;> first | rfl | omega))]; rfl, ?_⟩
    (repeat (first | refine below_drewN ?_ _ | refine Below.alloc ?_ (by simp; try omega) _ | refine Below.setCell ?_ (by simp; try omega) _)); exact Below.refl _ _
  subst hph
  by_cases hnp : np = 0
  case neg =>
    have hnp2 : 0 < np := by omega
    have hnp3 : (0 : Int) < (np : Int) := by omega
    rw [rounds_succ]
    go_wp2_with fail
    go_ret
    refine ⟨by rw [show rfC _ = 3 by (simp [rfC, rowR, numR, HNP.out, hnp2]; try ((repeat' (first | intro _ | split)) <;> first | rfl | omega))]; rfl, ?_⟩
    (repeat (first | refine below_drewN ?_ _ | refine Below.alloc ?_ (by simp; try omega) _ | refine Below.setCell ?_ (by simp; try omega) _)); exact Below.refl _ _
  subst hnp
  rw [rounds_succ]
  go_wp2_with fail
  refine wp_loop_rounds 1 ?_
  rw [rounds_succ]
  go_wp2_with fail
  go_ret
  refine ⟨by rw [show rfC _ = 0 by (simp [rfC, rowR, numR, HNP.out]; try ((repeat' (first | intro _ | split)) <;> first | rfl | omega))]; rfl, ?_⟩
  (repeat (first | refine below_drewN ?_ _ | refine Below.alloc ?_ (by simp; try omega) _ | refine Below.setCell ?_ (by simp; try omega) _)); exact Below.refl _ _
end Go.Proofs.YtjmkfcgnadpbaaaDoor
