/- Walk of the law BlendSays. -/
import Derived.Test.YtnjnelfmfijgjabLaidW
import Derived.Test.YtnjnelfmfijgjabChgdW
import Derived.Test.YtnjnelfmfijgjabPlainW
namespace Go.Proofs.Ytnjnelfmfijgjab
open Go.RowKit

def pixB (v a : Int) : Bool := decide (0 ≤ v) && decide (v ≤ 255) && decide (0 ≤ a) && decide (a ≤ 255)
set_option maxHeartbeats 2000000 in
set_option maxRecDepth 100000 in
theorem pixel_any (v a : Int) (w : World) (b : Bool) (HB : Hid (pixB v a = b)) : Calls Try.prog 26 #[pixV v a] w fun e w' => e = .returned (.bool b) ∧ Below w.heap.size w w' := by
  unfold pixV
  have hb0 : Below w.heap.size w (w.alloc (.cells #[.int .i64 v, .int .i64 a] 45)) := (Below.refl _ _).alloc (Nat.le_refl _) _
  by_cases h1 : 0 ≤ v
  case neg =>
    obtain rfl : false = b := by rw [← HB.out]; unfold pixB; simp [h1]
    go_enter Try.func26, Try.ntmps26
    go_wp2_with fail
    go_ret
    exact ⟨rfl, hb0⟩
  by_cases h2 : v ≤ 255
  case neg =>
    obtain rfl : false = b := by rw [← HB.out]; unfold pixB; simp [h2]
    go_enter Try.func26, Try.ntmps26
    go_wp2_with fail
    go_ret
    exact ⟨rfl, hb0⟩
  by_cases h3 : 0 ≤ a
  case neg =>
    obtain rfl : false = b := by rw [← HB.out]; unfold pixB; simp [h3]
    go_enter Try.func26, Try.ntmps26
    go_wp2_with fail
    go_ret
    exact ⟨rfl, hb0⟩
  by_cases h4 : a ≤ 255
  case neg =>
    obtain rfl : false = b := by rw [← HB.out]; unfold pixB; simp [h4]
    go_enter Try.func26, Try.ntmps26
    go_wp2_with fail
    go_ret
    exact ⟨rfl, hb0⟩
  obtain rfl : true = b := by rw [← HB.out]; unfold pixB; simp [h1, h2, h3, h4]
  go_enter Try.func26, Try.ntmps26
  go_wp2_with fail
  go_ret
  exact ⟨rfl, hb0⟩

theorem eql_pix (X : World) (a b : Int) : (binOp .eql 45 (.agg #[.int .i64 a, .int .i64 b]) (.agg #[.int .i64 a, .int .i64 b])).run Try.prog X = .ok (.bool true) X := by
  have h : (Op.equalIn 10000 45 (.agg #[.int .i64 a, .int .i64 b]) (.agg #[.int .i64 a, .int .i64 b])).run Try.prog X = .ok true X := by
    have u3 := Try.underlying3
    rw [run_equalIn_agg X 9999 45 _ _ (by kernel_rfl) (by kernel_rfl)]
    simp only [Program.fieldsOf, Try.underlying45]
    go_simp
  rw [run_eql_struct, h]
  rfl

/-- what holds on the road -/
structure Gbs (w : World) (av aa bv ba pw ph : Int) (vp : Value) (qw qh : Int) (vq : Value) (id ox oy ow oh : Int) (vo : Value) (cx cy cw ch : Int) (sh : Bool) (ps qs os : List (Int × Int)) (w' : World) : Prop where
  ta : Two w' w.heap.size (.int .i64 av) (.int .i64 aa)
  tb : Two w' (w.heap.size + 1) (.int .i64 bv) (.int .i64 ba)
  tp : Three w' (w.heap.size + 1 + 1) (.int .i64 pw) (.int .i64 ph) vp
  tq : Three w' (w.heap.size + 1 + 1 + 1) (.int .i64 qw) (.int .i64 qh) vq
  eo : Eleven w' (w.heap.size + 1 + 1 + 1 + 1) (.int .i64 id) (.int .i64 ox) (.int .i64 oy) (.int .i64 ow) (.int .i64 oh) vo (.int .i64 cx) (.int .i64 cy) (.int .i64 cw) (.int .i64 ch) (.bool sh)
  rp : RdP w' vp ps
  rq : RdP w' vq qs
  ro : RdP w' vo os
  bel : Below w.heap.size w w'
section
variable {w : World} {av aa bv ba pw ph : Int} {vp : Value} {qw qh : Int} {vq : Value} {id ox oy ow oh : Int} {vo : Value} {cx cy cw ch : Int} {sh : Bool} {ps qs os : List (Int × Int)} {w1 w2 : World}
theorem Gbs.on (h : Gbs w av aa bv ba pw ph vp qw qh vq id ox oy ow oh vo cx cy cw ch sh ps qs os w1) (hb : Below w1.heap.size w1 w2) : Gbs w av aa bv ba pw ph vp qw qh vq id ox oy ow oh vo cx cy cw ch sh ps qs os w2 :=
  ⟨h.ta.on hb, h.tb.on hb, h.tp.on hb, h.tq.on hb, h.eo.on hb, h.rp.on hb, h.rq.on hb, h.ro.on hb, h.bel.trans (hb.mono h.bel.size)⟩
theorem Gbs.drew (h : Gbs w av aa bv ba pw ph vp qw qh vq id ox oy ow oh vo cx cy cw ch sh ps qs os w1) : Gbs w av aa bv ba pw ph vp qw qh vq id ox oy ow oh vo cx cy cw ch sh ps qs os w1.drew :=
  ⟨h.ta.drew, h.tb.drew, h.tp.drew, h.tq.drew, h.eo.drew, h.rp, h.rq, h.ro, h.bel.drew⟩
end

set_option maxHeartbeats 40000000 in
set_option maxRecDepth 100000 in
theorem blendSays_any (av aa bv ba pw ph : Int) (vp : Value) (ps : List (Int × Int)) (qw qh : Int) (vq : Value) (qs : List (Int × Int)) (id ox oy ow oh : Int) (vo : Value) (os : List (Int × Int)) (cx cy cw ch : Int) (sh : Bool) (x y : Int) (w : World)
    (RP : Hid (RdP w vp ps)) (RQ : Hid (RdP w vq qs)) (RO : Hid (RdP w vo os)) (x0 : -9223372036854775808 ≤ x) (x1 : x ≤ 9223372036854775807) (y0 : -9223372036854775808 ≤ y) (y1 : y ≤ 9223372036854775807) :
    Calls Try.prog 7 #[pixV av aa, pixV bv ba, picV pw ph vp, picV qw qh vq, objV id ox oy ow oh vo cx cy cw ch sh, .int .i64 x, .int .i64 y] w fun e w' => e = .returned (.bool true) ∧ Below w.heap.size w w' := by
  obtain ⟨ap, cp, hvp, hlp, hcp, hd1⟩ := RP.out
  obtain ⟨aq, cq, hvq, hlq, hcq, hd2⟩ := RQ.out
  obtain ⟨ao, co, hvo, hlo, hco, hd3⟩ := RO.out
  clear hd1 hd2 hd3
  obtain ⟨np, HNP⟩ : ∃ n, Hid (ps.length = n) := ⟨_, (rfl : _ = _)⟩
  obtain ⟨nq, HNQ⟩ : ∃ n, Hid (qs.length = n) := ⟨_, (rfl : _ = _)⟩
  obtain ⟨no, HNO⟩ : ∃ n, Hid (os.length = n) := ⟨_, (rfl : _ = _)⟩
  rw [HNP.out] at hvp hlp
  rw [HNQ.out] at hvq hlq
  rw [HNO.out] at hvo hlo
  subst hvp hvq hvo
  unfold picV objV pixV
  obtain ⟨W0, HW0⟩ : ∃ W, Hid (((((w.alloc (.cells #[.int .i64 av, .int .i64 aa] 45)).alloc (.cells #[.int .i64 bv, .int .i64 ba] 45)).alloc (.cells #[.int .i64 pw, .int .i64 ph, .slice ap np cp] 42)).alloc (.cells #[.int .i64 qw, .int .i64 qh, .slice aq nq cq] 42)).alloc (.cells #[.int .i64 id, .int .i64 ox, .int .i64 oy, .int .i64 ow, .int .i64 oh, .slice ao no co, .int .i64 cx, .int .i64 cy, .int .i64 cw, .int .i64 ch, .bool sh] 60) = W) := ⟨_, (rfl : _ = _)⟩
  have hb0 : Below w.heap.size w W0 := by rw [← HW0.out]; exact (((((Below.refl _ _).alloc (Nat.le_refl _) _).alloc (by simp) _).alloc (by simp; omega) _).alloc (by simp; omega) _).alloc (by simp; omega) _
  have HG : Hid (Gbs w av aa bv ba pw ph (.slice ap np cp) qw qh (.slice aq nq cq) id ox oy ow oh (.slice ao no co) cx cy cw ch sh ps qs os W0) := by
    refine ⟨?_, ?_, ?_, ?_, ?_, RP.out.on hb0, RQ.out.on hb0, RO.out.on hb0, hb0⟩
    · rw [← HW0.out]; exact ((((two_start w (.int .i64 av) (.int .i64 aa) 45 w.heap.size rfl).alloc _).alloc _).alloc _).alloc _
    · rw [← HW0.out]; exact (((two_start _ (.int .i64 bv) (.int .i64 ba) 45 (w.heap.size + 1) (by simp)).alloc _).alloc _).alloc _
    · rw [← HW0.out]; exact ((three_begin _ (.int .i64 pw) (.int .i64 ph) (.slice ap np cp) 42 (w.heap.size + 1 + 1) (by simp)).alloc _).alloc _
    · rw [← HW0.out]; exact (three_begin _ (.int .i64 qw) (.int .i64 qh) (.slice aq nq cq) 42 (w.heap.size + 1 + 1 + 1) (by simp)).alloc _
    · rw [← HW0.out]; exact eleven_start _ (.int .i64 id) (.int .i64 ox) (.int .i64 oy) (.int .i64 ow) (.int .i64 oh) (.slice ao no co) (.int .i64 cx) (.int .i64 cy) (.int .i64 cw) (.int .i64 ch) (.bool sh) 60 (w.heap.size + 1 + 1 + 1 + 1) (by simp)
  clear hb0
  go_enter Try.func7, Try.ntmps7
  go_wp2_with fail
  rw [HW0.out]
  refine (over_any 9 255 3 255 (by omega) (by omega) (by omega) (by omega) (by omega) (by omega) (by omega) (by omega) W0 9 255 (by unfold Hid; decide)).mono ?_
  unfold pixV
  rintro e w1 ⟨rfl, hb1⟩
  replace HG : Hid (Gbs w av aa bv ba pw ph (.slice ap np cp) qw qh (.slice aq nq cq) id ox oy ow oh (.slice ao no co) cx cy cw ch sh ps qs os w1) := HG.out.on hb1
  clear hb1 HW0
  obtain ⟨⟨a0, a1, _, _, _⟩, ⟨b0, b1, _, _, _⟩, ⟨p0, p1, p2, _, _, _, _⟩, ⟨q0, q1, q2, _, _, _, _⟩, ⟨k0, k1, k2, k3, k4, k5, k6, k7, k8, k9, k10, _, _, _, _, _, _, _, _, _, _, _, _⟩, _, _, _, _⟩ := HG.out
  have hne0 := fun X => eq_pix X 9 255
  go_wp2_with fail
  clear a0 a1 b0 b1 p0 p1 p2 q0 q1 q2 k0 k1 k2 k3 k4 k5 k6 k7 k8 k9 k10
  by_cases ha : pixB av aa = true
  case neg =>
    refine (pixel_any av aa _ false (by unfold Hid; simpa using ha)).mono ?_
    rintro e wz ⟨rfl, hbz⟩
    go_wp2_with fail
    go_ret
    exact ⟨rfl, (HG.out.on hbz).bel⟩
  refine (pixel_any av aa _ true ha).mono ?_
  rintro e w2 ⟨rfl, hb2⟩
  replace HG : Hid (Gbs w av aa bv ba pw ph (.slice ap np cp) qw qh (.slice aq nq cq) id ox oy ow oh (.slice ao no co) cx cy cw ch sh ps qs os w2) := HG.out.on hb2
  clear hb2
  obtain ⟨⟨a0, a1, _, _, _⟩, ⟨b0, b1, _, _, _⟩, ⟨p0, p1, p2, _, _, _, _⟩, ⟨q0, q1, q2, _, _, _, _⟩, ⟨k0, k1, k2, k3, k4, k5, k6, k7, k8, k9, k10, _, _, _, _, _, _, _, _, _, _, _, _⟩, _, _, _, _⟩ := HG.out
  go_wp2_with fail
  clear a0 a1 b0 b1 p0 p1 p2 q0 q1 q2 k0 k1 k2 k3 k4 k5 k6 k7 k8 k9 k10
  by_cases hb : pixB bv ba = true
  case neg =>
    refine (pixel_any bv ba _ false (by unfold Hid; simpa using hb)).mono ?_
    rintro e wz ⟨rfl, hbz⟩
    go_wp2_with fail
    go_ret
    exact ⟨rfl, (HG.out.on hbz).bel⟩
  refine (pixel_any bv ba _ true hb).mono ?_
  rintro e w3 ⟨rfl, hb3⟩
  replace HG : Hid (Gbs w av aa bv ba pw ph (.slice ap np cp) qw qh (.slice aq nq cq) id ox oy ow oh (.slice ao no co) cx cy cw ch sh ps qs os w3) := HG.out.on hb3
  clear hb3
  obtain ⟨⟨a0, a1, _, _, _⟩, ⟨b0, b1, _, _, _⟩, ⟨p0, p1, p2, _, _, _, _⟩, ⟨q0, q1, q2, _, _, _, _⟩, ⟨k0, k1, k2, k3, k4, k5, k6, k7, k8, k9, k10, _, _, _, _, _, _, _, _, _, _, _, _⟩, _, _, _, _⟩ := HG.out
  go_wp2_with fail
  clear a0 a1 b0 b1 p0 p1 p2 q0 q1 q2 k0 k1 k2 k3 k4 k5 k6 k7 k8 k9 k10
  by_cases hlp2 : np ≤ 80
  case neg =>
    refine (light_any pw ph ap np cp _ (by omega) false (by unfold Hid; simp [hlp2])).mono ?_
    rintro e wz ⟨rfl, hbz⟩
    go_wp2_with fail
    go_ret
    exact ⟨rfl, (HG.out.on hbz).bel⟩
  refine (light_any pw ph ap np cp _ (by omega) true (by unfold Hid; simp [hlp2])).mono ?_
  rintro e w4 ⟨rfl, hb4⟩
  replace HG : Hid (Gbs w av aa bv ba pw ph (.slice ap np cp) qw qh (.slice aq nq cq) id ox oy ow oh (.slice ao no co) cx cy cw ch sh ps qs os w4) := HG.out.on hb4
  clear hb4
  obtain ⟨⟨a0, a1, _, _, _⟩, ⟨b0, b1, _, _, _⟩, ⟨p0, p1, p2, _, _, _, _⟩, ⟨q0, q1, q2, _, _, _, _⟩, ⟨k0, k1, k2, k3, k4, k5, k6, k7, k8, k9, k10, _, _, _, _, _, _, _, _, _, _, _, _⟩, _, _, _, _⟩ := HG.out
  go_wp2_with fail
  clear a0 a1 b0 b1 p0 p1 p2 q0 q1 q2 k0 k1 k2 k3 k4 k5 k6 k7 k8 k9 k10
  by_cases hlq2 : nq ≤ 80
  case neg =>
    refine (light_any qw qh aq nq cq _ (by omega) false (by unfold Hid; simp [hlq2])).mono ?_
    rintro e wz ⟨rfl, hbz⟩
    go_wp2_with fail
    go_ret
    exact ⟨rfl, (HG.out.on hbz).bel⟩
  refine (light_any qw qh aq nq cq _ (by omega) true (by unfold Hid; simp [hlq2])).mono ?_
  rintro e w5 ⟨rfl, hb5⟩
  replace HG : Hid (Gbs w av aa bv ba pw ph (.slice ap np cp) qw qh (.slice aq nq cq) id ox oy ow oh (.slice ao no co) cx cy cw ch sh ps qs os w5) := HG.out.on hb5
  clear hb5
  obtain ⟨⟨a0, a1, _, _, _⟩, ⟨b0, b1, _, _, _⟩, ⟨p0, p1, p2, _, _, _, _⟩, ⟨q0, q1, q2, _, _, _, _⟩, ⟨k0, k1, k2, k3, k4, k5, k6, k7, k8, k9, k10, _, _, _, _, _, _, _, _, _, _, _, _⟩, _, _, _, _⟩ := HG.out
  go_wp2_with fail
  clear a0 a1 b0 b1 p0 p1 p2 q0 q1 q2 k0 k1 k2 k3 k4 k5 k6 k7 k8 k9 k10
  obtain ⟨cfp, HCfp⟩ : ∃ c, Hid (checkL pw ph ps = c) := ⟨_, (rfl : _ = _)⟩
  refine (fault_any pw ph _ ps _ (by rw [HNP.out]; omega) HG.out.rp cfp HCfp).mono ?_
  rintro e w6 ⟨rfl, hb6⟩
  replace HG : Hid (Gbs w av aa bv ba pw ph (.slice ap np cp) qw qh (.slice aq nq cq) id ox oy ow oh (.slice ao no co) cx cy cw ch sh ps qs os w6) := HG.out.on hb6
  clear hb6
  by_cases hcfp : cfp = 0
  case neg =>
    have hpos : (0 : Int) < (cfp : Int) := by omega
    go_wp2_with fail
    go_ret
    exact ⟨rfl, HG.out.bel⟩
  subst hcfp
  obtain ⟨⟨a0, a1, _, _, _⟩, ⟨b0, b1, _, _, _⟩, ⟨p0, p1, p2, _, _, _, _⟩, ⟨q0, q1, q2, _, _, _, _⟩, ⟨k0, k1, k2, k3, k4, k5, k6, k7, k8, k9, k10, _, _, _, _, _, _, _, _, _, _, _, _⟩, _, _, _, _⟩ := HG.out
  go_wp2_with fail
  clear a0 a1 b0 b1 p0 p1 p2 q0 q1 q2 k0 k1 k2 k3 k4 k5 k6 k7 k8 k9 k10
  obtain ⟨cfq, HCfq⟩ : ∃ c, Hid (checkL qw qh qs = c) := ⟨_, (rfl : _ = _)⟩
  refine (fault_any qw qh _ qs _ (by rw [HNQ.out]; omega) HG.out.rq cfq HCfq).mono ?_
  rintro e w7 ⟨rfl, hb7⟩
  replace HG : Hid (Gbs w av aa bv ba pw ph (.slice ap np cp) qw qh (.slice aq nq cq) id ox oy ow oh (.slice ao no co) cx cy cw ch sh ps qs os w7) := HG.out.on hb7
  clear hb7
  by_cases hcfq : cfq = 0
  case neg =>
    have hpos : (0 : Int) < (cfq : Int) := by omega
    go_wp2_with fail
    go_ret
    exact ⟨rfl, HG.out.bel⟩
  subst hcfq
  obtain ⟨⟨a0, a1, _, _, _⟩, ⟨b0, b1, _, _, _⟩, ⟨p0, p1, p2, _, _, _, _⟩, ⟨q0, q1, q2, _, _, _, _⟩, ⟨k0, k1, k2, k3, k4, k5, k6, k7, k8, k9, k10, _, _, _, _, _, _, _, _, _, _, _, _⟩, _, _, _, _⟩ := HG.out
  go_wp2_with fail
  clear a0 a1 b0 b1 p0 p1 p2 q0 q1 q2 k0 k1 k2 k3 k4 k5 k6 k7 k8 k9 k10
  by_cases hlo2 : no ≤ 80
  case neg =>
    refine (light_any ow oh ao no co _ (by omega) false (by unfold Hid; simp [hlo2])).mono ?_
    rintro e wz ⟨rfl, hbz⟩
    go_wp2_with fail
    go_ret
    exact ⟨rfl, (HG.out.on hbz).bel⟩
  refine (light_any ow oh ao no co _ (by omega) true (by unfold Hid; simp [hlo2])).mono ?_
  rintro e w8 ⟨rfl, hb8⟩
  replace HG : Hid (Gbs w av aa bv ba pw ph (.slice ap np cp) qw qh (.slice aq nq cq) id ox oy ow oh (.slice ao no co) cx cy cw ch sh ps qs os w8) := HG.out.on hb8
  clear hb8
  obtain ⟨⟨a0, a1, _, _, _⟩, ⟨b0, b1, _, _, _⟩, ⟨p0, p1, p2, _, _, _, _⟩, ⟨q0, q1, q2, _, _, _, _⟩, ⟨k0, k1, k2, k3, k4, k5, k6, k7, k8, k9, k10, _, _, _, _, _, _, _, _, _, _, _, _⟩, _, _, _, _⟩ := HG.out
  go_wp2_with fail
  clear a0 a1 b0 b1 p0 p1 p2 q0 q1 q2 k0 k1 k2 k3 k4 k5 k6 k7 k8 k9 k10
  obtain ⟨cob, HCO⟩ : ∃ n, Hid (objC id ox oy ow oh os cx cy cw ch = n) := ⟨_, (rfl : _ = _)⟩
  refine (ofault_any id ox oy ow oh _ os cx cy cw ch sh _ (by rw [HNO.out]; omega) HG.out.ro cob HCO).mono ?_
  rintro e w9 ⟨rfl, hb9⟩
  replace HG : Hid (Gbs w av aa bv ba pw ph (.slice ap np cp) qw qh (.slice aq nq cq) id ox oy ow oh (.slice ao no co) cx cy cw ch sh ps qs os w9) := HG.out.on hb9
  clear hb9
  by_cases hcob : cob = 0
  case neg =>
    have hpos : (0 : Int) < (cob : Int) := by omega
    go_wp2_with fail
    go_ret
    exact ⟨rfl, HG.out.bel⟩
  subst hcob
  by_cases hx1 : -20 ≤ x
  case neg =>
    go_wp2_with fail
    go_ret
    exact ⟨rfl, HG.out.bel⟩
  by_cases hx2 : x ≤ 20
  case neg =>
    go_wp2_with fail
    go_ret
    exact ⟨rfl, HG.out.bel⟩
  by_cases hy1 : -20 ≤ y
  case neg =>
    go_wp2_with fail
    go_ret
    exact ⟨rfl, HG.out.bel⟩
  by_cases hy2 : y ≤ 20
  case neg =>
    go_wp2_with fail
    go_ret
    exact ⟨rfl, HG.out.bel⟩
  obtain ⟨i0, i1, hox, hox2, hoy, hoy2, hca, hca2, hcb, hcb2, hcc, hcc2, hcd, hcd2, hqc⟩ := objC_zero _ _ _ _ _ _ _ _ _ _ HCO.out
  have HCX := hid_of hqc
  clear hqc HCO
  obtain ⟨PW, PH, e1, e2, pp1, pp2, pp3, pp4, pl, pok⟩ := check_zero _ _ _ HCfp.out
  obtain ⟨QW, QH, e3, e4, qq1, qq2, qq3, qq4, ql, qok⟩ := check_zero _ _ _ HCfq.out
  obtain ⟨OW, OH, e5, e6, oo1, oo2, oo3, oo4, ol, ook⟩ := check_zero _ _ _ HCX.out
  subst e1 e2 e3 e4 e5 e6
  clear pok qok ook pl ql ol
  have hpa : 0 ≤ av ∧ av ≤ 255 ∧ 0 ≤ aa ∧ aa ≤ 255 := by have h := ha; unfold pixB at h; simpa [and_assoc] using h
  have hpb : 0 ≤ bv ∧ bv ≤ 255 ∧ 0 ≤ ba ∧ ba ≤ 255 := by have h := hb; unfold pixB at h; simpa [and_assoc] using h
  obtain ⟨ha0, ha1, ha2, ha3⟩ := hpa
  obtain ⟨hb0, hb1, hb2, hb3⟩ := hpb
  obtain ⟨⟨a0, a1, _, _, _⟩, ⟨b0, b1, _, _, _⟩, ⟨p0, p1, p2, _, _, _, _⟩, ⟨q0, q1, q2, _, _, _, _⟩, ⟨k0, k1, k2, k3, k4, k5, k6, k7, k8, k9, k10, _, _, _, _, _, _, _, _, _, _, _, _⟩, _, _, _, _⟩ := HG.out
  go_wp2_with fail
  clear a0 a1 b0 b1 p0 p1 p2 q0 q1 q2 k0 k1 k2 k3 k4 k5 k6 k7 k8 k9 k10
  refine (plain_any PW QH av aa pp1 pp2 qq3 qq4 _).mono ?_
  unfold picV
  rintro e wq ⟨v1, rfl, R1, hbq⟩
  replace HG := hid_of (HG.out.on hbq)
  clear hbq
  have HR1 := hid_of R1
  obtain ⟨a1, c1, hv1, hl1, hc1, hdrop⟩ := R1
  clear hdrop
  obtain ⟨n1, HN1⟩ : ∃ n, Hid ((List.replicate (PW * QH) (av, aa)).length = n) := ⟨_, (rfl : _ = _)⟩
  rw [HN1.out] at hv1 hl1
  subst hv1
  have HN1E : Hid (PW * QH = n1) := by have h := HN1.out; rwa [List.length_replicate] at h
  have hNE : (PW : Int) * (QH : Int) = (n1 : Int) := by rw [← HN1E.out]; exact (Int.natCast_mul _ _).symm
  have hn1 : n1 ≤ 64 := by have h := HN1E.out; have : PW * QH ≤ 8 * 8 := Nat.mul_le_mul pp2 qq4; omega
  have hn0 : 1 ≤ n1 := by have h := HN1E.out; have : 1 * 1 ≤ PW * QH := Nat.mul_le_mul pp1 qq3; omega
  have hwn : IntKind.i64.wrap (n1 : Int) = (n1 : Int) := by rw [IntKind.wrap_i64]; omega
  have hbx : Below wq.heap.size wq (wq.alloc (.cells #[.int .i64 (PW : Int), .int .i64 (QH : Int), .slice a1 n1 c1] 42)) := (Below.refl _ _).alloc (Nat.le_refl _) _
  have HGx := hid_of (HG.out.on hbx)
  obtain ⟨⟨a0, a1, _, _, _⟩, ⟨b0, b1, _, _, _⟩, ⟨p0, p1, p2, _, _, _, _⟩, ⟨q0, q1, q2, _, _, _, _⟩, ⟨k0, k1, k2, k3, k4, k5, k6, k7, k8, k9, k10, _, _, _, _, _, _, _, _, _, _, _, _⟩, _, _, _, _⟩ := HGx.out
  go_wp2_with fail
  clear a0 a1 b0 b1 p0 p1 p2 q0 q1 q2 k0 k1 k2 k3 k4 k5 k6 k7 k8 k9 k10
  have HTP := hid_of (three_start wq (.int .i64 (PW : Int)) (.int .i64 (QH : Int)) (.slice a1 n1 c1) 42)
  have HRP := hid_of (HR1.out.on hbx)
  obtain ⟨Wp, HWp⟩ : ∃ W, Hid (wq.alloc (.cells #[.int .i64 (PW : Int), .int .i64 (QH : Int), .slice a1 n1 c1] 42) = W) := ⟨_, (rfl : _ = _)⟩
  obtain ⟨bp, HBP⟩ : ∃ b, Hid (wq.heap.size = b) := ⟨_, (rfl : _ = _)⟩
  rw [HWp.out] at HTP HRP HGx
  rw [HBP.out] at HTP
  rw [HWp.out, HBP.out]
  clear HWp HBP hbx HG HR1
  have hrne : List.replicate (PW * QH) (av, aa) ≠ [] := by
    intro e; have h := HN1.out; rw [e] at h; simp at h; omega
  obtain ⟨g1, o1, rfl, hg1, RC⟩ := rd_some HRP.out hrne
  have HRC := hid_of RC
  clear RC
  go_loopw [16] (fun vv wr => ∃ k : Nat, k ≤ n1 ∧ vv = .int .i64 (k : Int) ∧ Hid (Below Wp.heap.size Wp wr)) (fun vv _ => n1 - (intOf vv).toNat)
  case atStart => exact ⟨0, by omega, rfl, Below.refl _ _⟩
  case round =>
    obtain ⟨k, hk, rfl, HBk⟩ := hrel
    have HGk := hid_of (HGx.out.on HBk.out)
    obtain ⟨t0, t1, t2, _, _, _, _⟩ := HTP.out.on HBk.out
    by_cases hk2 : k < n1
    · obtain ⟨r0, r1⟩ := HRC.out _ HBk.out k (by rw [HN1.out]; exact hk2)
      have hgd : (List.replicate (PW * QH) (av, aa)).getD k (0, 0) = (av, aa) := by
        have h := HN1E.out
        rw [List.getD_eq_getElem?_getD, List.getElem?_replicate, if_pos (by omega)]; rfl
      rw [hgd] at r0 r1
      simp only at r0 r1
      obtain ⟨⟨a0, a1, _, _, _⟩, _, _, _, _, _, _, _, _⟩ := HGk.out
      have heq := fun X => eq_pix X av aa
      have hki : (k : Int) < (n1 : Int) := by omega
      go_wp2_with fail
      go_quiet (fail)
      go_wp2_with fail
      go_roundw
      case rel => exact ⟨k + 1, by omega, by go_num, below_drewN HBk.out _⟩
      case measure => simp [intOf]; omega
    · have hkE : k = n1 := by omega
      obtain ⟨⟨a0, a1, _, _, _⟩, ⟨b0, b1, _, _, _⟩, ⟨p0, p1, p2, _, _, _, _⟩, ⟨q0, q1, q2, _, _, _, _⟩, ⟨k0, k1, k2, k3, k4, k5, k6, k7, k8, k9, k10, _, _, _, _, _, _, _, _, _, _, _, _⟩, _, _, _, _⟩ := HGk.out
      go_wp2_with fail
      clear a0 a1 b0 b1 p0 p1 p2 q0 q1 q2 k0 k1 k2 k3 k4 k5 k6 k7 k8 k9 k10 t0 t1 t2
      obtain ⟨rr, HRR⟩ : ∃ r, Hid (Fb.overL av aa bv ba = r) := ⟨_, (rfl : _ = _)⟩
      obtain ⟨rv, ra⟩ := rr
      have heq := fun X => eql_pix X rv ra
      have HLL : Hid (ps.length ≤ 1000) := by unfold Hid; rw [HNP.out]; omega
      have KEEP : Hid (∀ W2, Gbs w av aa bv ba (PW : Int) (PH : Int) (.slice ap np cp) (QW : Int) (QH : Int) (.slice aq nq cq) id ox oy (OW : Int) (OH : Int) (.slice ao no co) cx cy cw ch sh ps qs os W2 → (W2.cell? ⟨w.heap.size, 0, none⟩ = some (.int .i64 av) ∧ W2.cell? ⟨w.heap.size, 1, none⟩ = some (.int .i64 aa) ∧ W2.cell? ⟨w.heap.size + 1, 0, none⟩ = some (.int .i64 bv) ∧ W2.cell? ⟨w.heap.size + 1, 1, none⟩ = some (.int .i64 ba) ∧ W2.cell? ⟨w.heap.size + 1 + 1, 0, none⟩ = some (.int .i64 (PW : Int)) ∧ W2.cell? ⟨w.heap.size + 1 + 1, 1, none⟩ = some (.int .i64 (PH : Int)) ∧ W2.cell? ⟨w.heap.size + 1 + 1, 2, none⟩ = some (.slice ap np cp) ∧ W2.cell? ⟨w.heap.size + 1 + 1 + 1, 0, none⟩ = some (.int .i64 (QW : Int)) ∧ W2.cell? ⟨w.heap.size + 1 + 1 + 1, 1, none⟩ = some (.int .i64 (QH : Int)) ∧ W2.cell? ⟨w.heap.size + 1 + 1 + 1, 2, none⟩ = some (.slice aq nq cq) ∧ W2.cell? ⟨w.heap.size + 1 + 1 + 1 + 1, 0, none⟩ = some (.int .i64 id) ∧ W2.cell? ⟨w.heap.size + 1 + 1 + 1 + 1, 1, none⟩ = some (.int .i64 ox) ∧ W2.cell? ⟨w.heap.size + 1 + 1 + 1 + 1, 2, none⟩ = some (.int .i64 oy) ∧ W2.cell? ⟨w.heap.size + 1 + 1 + 1 + 1, 3, none⟩ = some (.int .i64 (OW : Int)) ∧ W2.cell? ⟨w.heap.size + 1 + 1 + 1 + 1, 4, none⟩ = some (.int .i64 (OH : Int)) ∧ W2.cell? ⟨w.heap.size + 1 + 1 + 1 + 1, 5, none⟩ = some (.slice ao no co) ∧ W2.cell? ⟨w.heap.size + 1 + 1 + 1 + 1, 6, none⟩ = some (.int .i64 cx) ∧ W2.cell? ⟨w.heap.size + 1 + 1 + 1 + 1, 7, none⟩ = some (.int .i64 cy) ∧ W2.cell? ⟨w.heap.size + 1 + 1 + 1 + 1, 8, none⟩ = some (.int .i64 cw) ∧ W2.cell? ⟨w.heap.size + 1 + 1 + 1 + 1, 9, none⟩ = some (.int .i64 ch) ∧ W2.cell? ⟨w.heap.size + 1 + 1 + 1 + 1, 10, none⟩ = some (.bool sh))) := fun W2 h2 => by
        obtain ⟨⟨a0, a1, _, _, _⟩, ⟨b0, b1, _, _, _⟩, ⟨p0, p1, p2, _, _, _, _⟩, ⟨q0, q1, q2, _, _, _, _⟩, ⟨k0, k1, k2, k3, k4, k5, k6, k7, k8, k9, k10, _, _, _, _, _, _, _, _, _, _, _, _⟩, _, _, _, _⟩ := h2
        exact ⟨a0, a1, b0, b1, p0, p1, p2, q0, q1, q2, k0, k1, k2, k3, k4, k5, k6, k7, k8, k9, k10⟩
      have HGD := hid_of HGk.out.drew
      go_region_held3 (fun w' => w'.cell? ⟨w.heap.size, 0, none⟩ = some (.int .i64 av) ∧ w'.cell? ⟨w.heap.size, 1, none⟩ = some (.int .i64 aa) ∧ w'.cell? ⟨w.heap.size + 1, 0, none⟩ = some (.int .i64 bv) ∧ w'.cell? ⟨w.heap.size + 1, 1, none⟩ = some (.int .i64 ba) ∧ w'.cell? ⟨w.heap.size + 1 + 1, 0, none⟩ = some (.int .i64 (PW : Int)) ∧ w'.cell? ⟨w.heap.size + 1 + 1, 1, none⟩ = some (.int .i64 (PH : Int)) ∧ w'.cell? ⟨w.heap.size + 1 + 1, 2, none⟩ = some (.slice ap np cp) ∧ w'.cell? ⟨w.heap.size + 1 + 1 + 1, 0, none⟩ = some (.int .i64 (QW : Int)) ∧ w'.cell? ⟨w.heap.size + 1 + 1 + 1, 1, none⟩ = some (.int .i64 (QH : Int)) ∧ w'.cell? ⟨w.heap.size + 1 + 1 + 1, 2, none⟩ = some (.slice aq nq cq) ∧ w'.cell? ⟨w.heap.size + 1 + 1 + 1 + 1, 0, none⟩ = some (.int .i64 id) ∧ w'.cell? ⟨w.heap.size + 1 + 1 + 1 + 1, 1, none⟩ = some (.int .i64 ox) ∧ w'.cell? ⟨w.heap.size + 1 + 1 + 1 + 1, 2, none⟩ = some (.int .i64 oy) ∧ w'.cell? ⟨w.heap.size + 1 + 1 + 1 + 1, 3, none⟩ = some (.int .i64 (OW : Int)) ∧ w'.cell? ⟨w.heap.size + 1 + 1 + 1 + 1, 4, none⟩ = some (.int .i64 (OH : Int)) ∧ w'.cell? ⟨w.heap.size + 1 + 1 + 1 + 1, 5, none⟩ = some (.slice ao no co) ∧ w'.cell? ⟨w.heap.size + 1 + 1 + 1 + 1, 6, none⟩ = some (.int .i64 cx) ∧ w'.cell? ⟨w.heap.size + 1 + 1 + 1 + 1, 7, none⟩ = some (.int .i64 cy) ∧ w'.cell? ⟨w.heap.size + 1 + 1 + 1 + 1, 8, none⟩ = some (.int .i64 cw) ∧ w'.cell? ⟨w.heap.size + 1 + 1 + 1 + 1, 9, none⟩ = some (.int .i64 ch) ∧ w'.cell? ⟨w.heap.size + 1 + 1 + 1 + 1, 10, none⟩ = some (.bool sh))
        (first
          | exact KEEP.out _ H11.out
          | exact KEEP.out _ H10.out
          | exact KEEP.out _ H9.out
          | exact KEEP.out _ H8.out
          | exact KEEP.out _ H7.out
          | exact KEEP.out _ H6.out
          | exact KEEP.out _ H5.out
          | exact KEEP.out _ H4.out
          | exact KEEP.out _ H3.out
          | exact KEEP.out _ H2.out
          | exact KEEP.out _ H1.out
          | exact KEEP.out _ HGD.out
          | fail)
        (first
          | (go_at_call 18; refine (samePic_any (PW : Int) (PH : Int) v9 v10 (chL (fun _ q => q) PW ps QW QH qs x y 0 0 (PW : Int) (PH : Int)) _ (by rw [ch_len]; exact HLL.out) R9 R10).mono ?_; rintro e w11 ⟨rfl, hb11⟩; have H11 := hid_of (H10.out.on hb11))
          | (go_at_call 34; refine (changed_any PW PH QW QH _ _ ps qs x y false (fun _ q => q) rfl _ HCfp HCfq H9.out.rp H9.out.rq hx1 hx2 hy1 hy2).mono ?_; unfold picV; rintro e w10 ⟨v10, rfl, r10, hb10⟩; have H10 := hid_of (H9.out.on hb10); have R10 := hid_of r10; replace R9 := hid_of (R9.out.on hb10))
          | (go_at_call 35; refine (put_any PW PH QW QH _ _ ps qs x y _ HCfp HCfq H8.out.rp H8.out.rq hx1 hx2 hy1 hy2).mono ?_; unfold picV; rintro e w9 ⟨v9, rfl, o9, hb9⟩; have H9 := hid_of (H8.out.on hb9); have R9 := hid_of (rdP_own o9))
          | (go_at_call 18; refine (samePic_any (PW : Int) (PH : Int) v6 v7 (chL addP PW ps QW QH qs x y 0 0 (PW : Int) (PH : Int)) _ (by rw [ch_len]; exact HLL.out) R6 R7).mono ?_; rintro e w8 ⟨rfl, hb8⟩; have H8 := hid_of (H7.out.on hb8))
          | (go_at_call 34; refine (changed_any PW PH QW QH _ _ ps qs x y true addP rfl _ HCfp HCfq H6.out.rp H6.out.rq hx1 hx2 hy1 hy2).mono ?_; unfold picV; rintro e w7 ⟨v7, rfl, r7, hb7⟩; have H7 := hid_of (H6.out.on hb7); have R7 := hid_of r7; replace R6 := hid_of (R6.out.on hb7))
          | (go_at_call 33; refine (add_any PW PH QW QH _ _ ps qs x y _ HCfp HCfq H5.out.rp H5.out.rq hx1 hx2 hy1 hy2).mono ?_; unfold picV; rintro e w6 ⟨v6, rfl, o6, hb6⟩; have H6 := hid_of (H5.out.on hb6); have R6 := hid_of (rdP_own o6))
          | (go_at_call 18; refine (samePic_any (PW : Int) (PH : Int) v3 v4 (layL PW ps OW OH os ox oy cx cy cw ch sh) _ (by rw [lay_len]; exact HLL.out) R3 R4).mono ?_; rintro e w5 ⟨rfl, hb5⟩; have H5 := hid_of (H4.out.on hb5))
          | (go_at_call 32; refine (laid_any PW PH OW OH _ _ ps os id ox oy cx cy cw ch sh _ HCfp HCX H3.out.rp H3.out.ro hox hox2 hoy hoy2 hca hca2 hcb hcb2 hcc hcc2 hcd hcd2).mono ?_; unfold picV; rintro e w4 ⟨v4, rfl, r4, hb4⟩; have H4 := hid_of (H3.out.on hb4); have R4 := hid_of r4; replace R3 := hid_of (R3.out.on hb4))
          | (go_at_call 31; refine (lay_any PW PH OW OH _ _ ps os id ox oy cx cy cw ch sh _ HCfp HCX H2.out.rp H2.out.ro hox hox2 hoy hoy2 hca hca2 hcb hcb2 hcc hcc2 hcd hcd2).mono ?_; unfold picV; rintro e w3 ⟨v3, rfl, o3, hb3'⟩; have H3 := hid_of (H2.out.on hb3'); have R3 := hid_of (rdP_own o3))
          | (go_at_call 30; refine (refOver_any av aa bv ba ha0 ha1 ha2 ha3 hb0 hb1 hb2 hb3 _ rv ra HRR).mono ?_; unfold pixV; rintro e w2 ⟨rfl, hb2'⟩; have H2 := hid_of (H1.out.on hb2'))
          | (go_at_call 25; refine (over_any av aa bv ba ha0 ha1 ha2 ha3 hb0 hb1 hb2 hb3 _ rv ra HRR).mono ?_; unfold pixV; rintro e w1 ⟨rfl, hb1'⟩; have H1 := hid_of (HGD.out.on hb1'))
          | fail)
      go_wp2_with fail
      go_ret
      exact ⟨rfl, H11.out.bel⟩
end Go.Proofs.Ytnjnelfmfijgjab
