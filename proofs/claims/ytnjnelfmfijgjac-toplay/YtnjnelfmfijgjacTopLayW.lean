/- Walk of the law TopLay. -/
import Derived.Test.YtnjnelfmfijgjacLayT
import Derived.Test.YtnjnelfmfijgjacPlainW
import Derived.Test.YtnjnelfmfijgjacLayM
namespace Go.Proofs.Ytnjnelfmfijgjac
open Go.RowKit

set_option maxHeartbeats 40000000 in
set_option maxRecDepth 100000 in
theorem topLay_any (pw ph : Int) (vp : Value) (ps : List (Int × Int)) (id x y qw qh : Int) (vq : Value) (qs : List (Int × Int)) (a b c d : Int) (sh : Bool) (w : World) (RP : Hid (RdP w vp ps)) (RQ : Hid (RdP w vq qs)) :
    Calls Try.prog 5 #[picV pw ph vp, objV id x y qw qh vq a b c d sh] w fun e w' => e = .returned (.bool true) ∧ Below w.heap.size w w' := by
  obtain ⟨ap, cp, hvp, hlp, hcp, _⟩ := RP.out
  obtain ⟨aq, cq, hvq, hlq, hcq, _⟩ := RQ.out
  obtain ⟨np, HNP⟩ : ∃ n, Hid (ps.length = n) := ⟨_, (rfl : _ = _)⟩
  obtain ⟨nq, HNQ⟩ : ∃ n, Hid (qs.length = n) := ⟨_, (rfl : _ = _)⟩
  rw [HNP.out] at hvp hlp
  rw [HNQ.out] at hvq hlq
  subst hvp hvq
  unfold picV objV
  obtain ⟨W0, HW0⟩ : ∃ W, Hid ((w.alloc (.cells #[.int .i64 pw, .int .i64 ph, .slice ap np cp] 37)).alloc (.cells #[.int .i64 id, .int .i64 x, .int .i64 y, .int .i64 qw, .int .i64 qh, .slice aq nq cq, .int .i64 a, .int .i64 b, .int .i64 c, .int .i64 d, .bool sh] 39) = W) := ⟨_, (rfl : _ = _)⟩
  have hb0 : Below w.heap.size w W0 := by rw [← HW0.out]; exact ((Below.refl _ _).alloc (Nat.le_refl _) _).alloc (by simp) _
  have HG0 : Hid (Gla w pw ph (.slice ap np cp) id x y qw qh (.slice aq nq cq) a b c d sh ps qs W0) := by
    refine ⟨?_, ?_, RP.out.on hb0, RQ.out.on hb0, hb0⟩
    · rw [← HW0.out]; exact (three_start w (.int .i64 pw) (.int .i64 ph) (.slice ap np cp) 37).alloc _
    · rw [← HW0.out]; exact eleven_start _ (.int .i64 id) (.int .i64 x) (.int .i64 y) (.int .i64 qw) (.int .i64 qh) (.slice aq nq cq) (.int .i64 a) (.int .i64 b) (.int .i64 c) (.int .i64 d) (.bool sh) 39 (w.heap.size + 1) (by simp)
  clear hb0
  go_enter Try.func5, Try.ntmps5
  go_wp2_with fail
  rw [HW0.out]
  refine (plain_any 2 1 5 255 (by omega) (by omega) (by omega) (by omega) W0).mono ?_
  unfold picV
  rintro e w1 ⟨v1, rfl, R1, hb1⟩
  have HG1 : Hid (Gla w pw ph (.slice ap np cp) id x y qw qh (.slice aq nq cq) a b c d sh ps qs w1) := HG0.out.on hb1
  clear hb1 HG0 HW0 W0
  obtain ⟨a1, c1, hv1, _, _, hc1⟩ := R1
  simp at hv1
  subst hv1
  obtain ⟨g1, o1, rfl, hg1, hr1⟩ := hc1 (by simp)
  obtain ⟨r0, _⟩ := hr1 1 (by simp)
  simp at r0
  clear hr1
  have hbx : Below w1.heap.size w1 (w1.alloc (.cells #[.int .i64 2, .int .i64 1, .slice (some ⟨g1, o1, none⟩) 2 c1] 37)) := (Below.refl _ _).alloc (Nat.le_refl _) _
  have HG2 : Hid (Gla w pw ph (.slice ap np cp) id x y qw qh (.slice aq nq cq) a b c d sh ps qs (w1.alloc (.cells #[.int .i64 2, .int .i64 1, .slice (some ⟨g1, o1, none⟩) 2 c1] 37))) := HG1.out.on hbx
  clear hbx HG1
  obtain ⟨⟨p0, p1, p2, _, _, _, _⟩, _, _, _, _⟩ := HG2.out
  go_wp2_with fail
  obtain ⟨W1, HW1⟩ : ∃ W, Hid (w1.alloc (.cells #[.int .i64 2, .int .i64 1, .slice (some ⟨g1, o1, none⟩) 2 c1] 37) = W) := ⟨_, (rfl : _ = _)⟩
  rw [HW1.out] at HG2
  rw [HW1.out]
  clear p0 p1 p2 HW1 r0 hg1
  by_cases hl : np ≤ 80
  case neg =>
    refine (light_any pw ph ap np cp _ (by omega) false (by unfold Hid; simp [hl])).mono ?_
    rintro e w2 ⟨rfl, hb2⟩
    go_wp2_with fail
    go_ret
    exact ⟨rfl, (HG2.out.on hb2).bel⟩
  refine (light_any pw ph ap np cp _ (by omega) true (by unfold Hid; simp [hl])).mono ?_
  rintro e w2 ⟨rfl, hb2⟩
  have HG3 : Hid (Gla w pw ph (.slice ap np cp) id x y qw qh (.slice aq nq cq) a b c d sh ps qs w2) := HG2.out.on hb2
  clear HG2 hb2
  obtain ⟨⟨p0, p1, p2, _, _, _, _⟩, _, _, _, _⟩ := HG3.out
  go_wp2_with fail
  clear p0 p1 p2
  obtain ⟨cc, HCC⟩ : ∃ c, Hid (checkL pw ph ps = c) := ⟨_, (rfl : _ = _)⟩
  by_cases hcc : cc = 0
  case neg =>
    refine (check_any _ _ _ ps _ (by rw [HNP.out]; omega) HG3.out.rp cc HCC).mono ?_
    rintro e w3 ⟨rfl, hb3⟩
    have hev : errV cc = .iface 61 (.int .i64 (cc : Int)) := by unfold errV; rw [if_neg hcc]
    rw [hev]
    go_wp2_with fail
    go_ret
    exact ⟨rfl, (HG3.out.on hb3).bel⟩
  subst hcc
  refine (check_nil _ _ _ ps _ (by rw [HNP.out]; omega) HG3.out.rp HCC).mono ?_
  rintro e w3 ⟨rfl, hb3⟩
  have HG4 : Hid (Gla w pw ph (.slice ap np cp) id x y qw qh (.slice aq nq cq) a b c d sh ps qs w3) := HG3.out.on hb3
  clear HG3 hb3
  obtain ⟨_, ⟨k0, k1, k2, k3, k4, k5, k6, k7, k8, k9, k10, _, _, _, _, _, _, _, _, _, _, _, _⟩, _, _, _⟩ := HG4.out
  go_wp2_with fail
  clear k0 k1 k2 k3 k4 k5 k6 k7 k8 k9 k10
  by_cases hl2 : nq ≤ 80
  case neg =>
    refine (fine_any id x y qw qh (.slice aq nq cq) qs a b c d sh w3 HG4.out.rq false (by unfold Hid; rw [HNQ.out]; simp [hl2])).mono ?_
    rintro e w4 ⟨rfl, hb4⟩
    go_wp2_with fail
    go_ret
    exact ⟨rfl, (HG4.out.on hb4).bel⟩
  obtain ⟨oc, HOC⟩ : ∃ n, Hid (objC id x y qw qh qs a b c d = n) := ⟨_, (rfl : _ = _)⟩
  by_cases hoc : oc = 0
  case neg =>
    refine (fine_any id x y qw qh (.slice aq nq cq) qs a b c d sh w3 HG4.out.rq false (by unfold Hid; rw [HOC.out]; simp [hoc])).mono ?_
    rintro e w4 ⟨rfl, hb4⟩
    go_wp2_with fail
    go_ret
    exact ⟨rfl, (HG4.out.on hb4).bel⟩
  subst hoc
  refine (fine_any id x y qw qh (.slice aq nq cq) qs a b c d sh w3 HG4.out.rq true (by unfold Hid; rw [HOC.out, HNQ.out]; simp [hl2])).mono ?_
  rintro e w4 ⟨rfl, hb4⟩
  have HG5 : Hid (Gla w pw ph (.slice ap np cp) id x y qw qh (.slice aq nq cq) a b c d sh ps qs w4) := HG4.out.on hb4
  clear HG4 hb4
  obtain ⟨i0, i1, hx, hx2, hy, hy2, ha, ha2, hb, hb2, hc, hc2, hd, hd2, hqc⟩ := objC_zero _ _ _ _ _ _ _ _ _ _ HOC.out
  have HQC := hid_of hqc
  clear hqc HOC
  obtain ⟨PW, PH, e1, e2, pp1, pp2, pp3, pp4, pl, pok⟩ := check_zero _ _ _ HCC.out
  obtain ⟨QW, QH, e3, e4, qq1, qq2, qq3, qq4, ql, qok⟩ := check_zero _ _ _ HQC.out
  subst e1 e2 e3 e4
  have HPL := hid_of pl
  have HQL := hid_of ql
  have POK : Hid (∀ k, k < ps.length → pixOk (ps.getD k (0, 0))) := pok
  have QOK : Hid (∀ k, k < qs.length → pixOk (qs.getD k (0, 0))) := qok
  clear pl ql pok qok
  obtain ⟨⟨p0, p1, p2, _, _, _, _⟩, ⟨k0, k1, k2, k3, k4, k5, k6, k7, k8, k9, k10, _, _, _, _, _, _, _, _, _, _, _, _⟩, _, _, _⟩ := HG5.out
  go_wp2_with fail
  clear p0 p1 p2 k0 k1 k2 k3 k4 k5 k6 k7 k8 k9 k10
  refine (lay_any PW PH QW QH (.slice ap np cp) (.slice aq nq cq) ps qs id x y a b c d sh w4 HCC HQC HG5.out.rp HG5.out.rq hx hx2 hy hy2 ha ha2 hb hb2 hc hc2 hd hd2).mono ?_
  unfold picV
  rintro e w5 ⟨v5, rfl, ho5, hb5⟩
  have HG6 : Hid (Gla w (PW : Int) (PH : Int) (.slice ap np cp) id x y (QW : Int) (QH : Int) (.slice aq nq cq) a b c d sh ps qs w5) := HG5.out.on hb5
  have HR5 : Hid (RdP w5 v5 (layL PW ps QW QH qs x y a b c d sh)) := rdP_own ho5
  clear ho5 hb5 HG5
  obtain ⟨a5, c5, hv5, hl5, hc5, hdrop⟩ := HR5.out
  clear hdrop
  obtain ⟨n5, HN5⟩ : ∃ n, Hid ((layL PW ps QW QH qs x y a b c d sh).length = n) := ⟨_, (rfl : _ = _)⟩
  rw [HN5.out] at hv5 hl5
  subst hv5
  have HN5E : Hid (n5 = np) := by unfold Hid; rw [← HN5.out, lay_len, HNP.out]
  go_wp2_with fail
  have hbx : Below w5.heap.size w5 (w5.alloc (.cells #[.int .i64 (PW : Int), .int .i64 (PH : Int), .slice a5 n5 c5] 37)) := (Below.refl _ _).alloc (Nat.le_refl _) _
  have HT7 := hid_of (three_start w5 (.int .i64 (PW : Int)) (.int .i64 (PH : Int)) (.slice a5 n5 c5) 37)
  have HG7 := hid_of (HG6.out.on hbx)
  have HR7 := hid_of (HR5.out.on hbx)
  obtain ⟨W5, HW5⟩ : ∃ W, Hid (w5.alloc (.cells #[.int .i64 (PW : Int), .int .i64 (PH : Int), .slice a5 n5 c5] 37) = W) := ⟨_, (rfl : _ = _)⟩
  obtain ⟨bt, HBT⟩ : ∃ b, Hid (w5.heap.size = b) := ⟨_, (rfl : _ = _)⟩
  rw [HW5.out] at HT7 HG7 HR7
  rw [HBT.out] at HT7
  rw [HW5.out, HBT.out]
  clear hbx HG6 HR5 HW5 HBT
  refine (check_nil _ _ _ (layL PW ps QW QH qs x y a b c d sh) _ (by rw [HN5.out, HN5E.out]; omega) HR7 (lay_check PW PH ps QW QH qs x y a b c d sh HCC.out HQC.out)).mono ?_
  rintro e wt ⟨rfl, hb6⟩
  have HT8 := hid_of (HT7.out.on hb6)
  have HG8 := hid_of (HG7.out.on hb6)
  have HR8 := hid_of (HR7.out.on hb6)
  clear HT7 HG7 HR7 hb6
  have hpne : ps ≠ [] := by
    intro e; have h1 := HPL.out; rw [e] at h1
    have : 1 * 1 ≤ PW * PH := Nat.mul_le_mul pp1 pp3
    simp at h1; omega
  have hqne : qs ≠ [] := by
    intro e; have h1 := HQL.out; rw [e] at h1
    have : 1 * 1 ≤ QW * QH := Nat.mul_le_mul qq1 qq3
    simp at h1; omega
  have htne : layL PW ps QW QH qs x y a b c d sh ≠ [] := by
    intro e; have h1 := HN5.out; have h9 := HN5E.out; rw [e] at h1; simp at h1
    have h2 := HPL.out; rw [HNP.out] at h2
    have : 1 * 1 ≤ PW * PH := Nat.mul_le_mul pp1 pp3
    omega
  obtain ⟨gp, op, rfl, hgp, PC⟩ := rd_some HG8.out.rp hpne
  obtain ⟨gq_, oq, rfl, hgq, QC⟩ := rd_some HG8.out.rq hqne
  obtain ⟨gt, ot, rfl, hgt, TC⟩ := rd_some HR8.out htne
  have HPCE := hid_of PC
  have HQCE := hid_of QC
  have HTCE := hid_of TC
  clear PC QC TC
  have hn5 := HN5E.out
  subst hn5
  clear HN5E
  go_wp2_with fail
  go_loopw [7] (fun vv wr => ∃ V : Nat, V ≤ PH ∧ vv = .int .i64 (V : Int) ∧ Hid (Below wt.heap.size wt wr)) (fun vv _ => PH - (intOf vv).toNat)
  case atStart => exact ⟨0, by omega, rfl, Below.refl _ _⟩
  case round =>
    obtain ⟨V, hV, rfl, HBV⟩ := hrel
    have HGv : Hid (Gla w (PW : Int) (PH : Int) (.slice (some ⟨gp, op, none⟩) n5 cp) id x y (QW : Int) (QH : Int) (.slice (some ⟨gq_, oq, none⟩) nq cq) a b c d sh ps qs wr) := HG8.out.on HBV.out
    by_cases hV2 : V < PH
    · obtain ⟨⟨p0, p1, p2, _, _, _, _⟩, _, _, _, _⟩ := HGv.out
      go_wp2_with fail
      clear p0 p1 p2 HGv
      go_loopw [8] (fun uv wr => ∃ U : Nat, U ≤ PW ∧ uv = .int .i64 (U : Int) ∧ Hid (Below wt.heap.size wt wr)) (fun uv _ => PW - (intOf uv).toNat)
      case atStart => exact ⟨0, by omega, rfl, HBV⟩
      case round =>
        clear HBV
        obtain ⟨U, hU, rfl, HBV⟩ := hrel
        have HGv : Hid (Gla w (PW : Int) (PH : Int) (.slice (some ⟨gp, op, none⟩) n5 cp) id x y (QW : Int) (QH : Int) (.slice (some ⟨gq_, oq, none⟩) nq cq) a b c d sh ps qs wr) := HG8.out.on HBV.out
        by_cases hU2 : U < PW
        · obtain ⟨⟨p0, p1, p2, _, _, _, _⟩, ⟨k0, k1, k2, k3, k4, k5, k6, k7, k8, k9, k10, _, _, _, _, _, _, _, _, _, _, _, _⟩, _, _, _⟩ := HGv.out
          go_wp2_with fail
          clear p0 p1 p2 k0 k1 k2 k3 k4 k5 k6 k7 k8 k9 k10 HGv
          obtain ⟨M, HM⟩ : ∃ M, Hid (V * PW = M) := ⟨_, (rfl : _ = _)⟩
          obtain ⟨K, HK⟩ : ∃ K, Hid (M + U = K) := ⟨_, (rfl : _ = _)⟩
          have hM : (V : Int) * (PW : Int) = (M : Int) := by rw [← HM.out]; exact (Int.natCast_mul _ _).symm
          have hVP : (V + 1) * PW ≤ PH * PW := Nat.mul_le_mul_right _ (by omega)
          have hKn : K < n5 := by
            have h1 := HK.out; have h2 := HPL.out; have h3 := HM.out; have h4 := HNP.out
            rw [Nat.mul_comm] at h2; rw [Nat.add_mul] at hVP; omega
          have hMK : (M : Int) + (U : Int) = (K : Int) := by have := HK.out; omega
          have e1 : K / PW = V := by rw [← HK.out, ← HM.out, Nat.add_comm, Nat.add_mul_div_right _ _ (by omega), Nat.div_eq_of_lt (by omega), Nat.zero_add]
          have e2 : K % PW = U := by rw [← HK.out, ← HM.out, Nat.add_comm, Nat.add_mul_mod_self_right, Nat.mod_eq_of_lt (by omega)]
          have hi1 : (K : Int) < (n5 : Int) := by omega
          have hw1 : IntKind.i64.wrap (M : Int) = (M : Int) := by rw [IntKind.wrap_i64]; omega
          have hw2 : IntKind.i64.wrap (K : Int) = (K : Int) := by rw [IntKind.wrap_i64]; omega
          have HE1 := hid_of e1
          have HE2 := hid_of e2
          clear hVP e1 e2
          obtain ⟨h1, HH1⟩ : ∃ b', Hid (hasB a b c d (U : Int) (V : Int) = b') := ⟨_, (rfl : _ = _)⟩
          obtain ⟨h2, HH2⟩ : ∃ b', Hid (hasB x y (QW : Int) (QH : Int) (U : Int) (V : Int) = b') := ⟨_, (rfl : _ = _)⟩
          refine (has_any a b c d (U : Int) (V : Int) _ (by omega) (by omega) (by omega) (by omega) (by omega) (by omega) (by omega) (by omega) h1 HH1).mono ?_
          rintro e w7 ⟨rfl, hb7⟩
          have HBW : Hid (Below wt.heap.size wt w7) := HBV.out.trans (hb7.mono HBV.out.size)
          clear hb7
          cases h1 with
          | false =>
            obtain ⟨pq, HPP⟩ : ∃ p, Hid (ps.getD K (0, 0) = p) := ⟨_, (rfl : _ = _)⟩
            obtain ⟨tq, HTT⟩ : ∃ p, Hid ((layL PW ps QW QH qs x y a b c d sh).getD K (0, 0) = p) := ⟨_, (rfl : _ = _)⟩
            have HLG := hid_of (lay_getD PW ps QW QH qs x y a b c d sh K (by rw [HNP.out]; exact hKn))
            rw [HTT.out, HPP.out, HE1.out, HE2.out, HH1.out, HH2.out] at HLG
            obtain ⟨pv, pa⟩ := pq
            obtain ⟨tv, ta⟩ := tq
            have HB1 : Hid (Below wt.heap.size wt (w7.alloc (.cells #[.int .i64 pv, .int .i64 pa] 31))) := HBW.out.alloc HBW.out.size _
            have HB2 : Hid (Below wt.heap.size wt ((w7.alloc (.cells #[.int .i64 pv, .int .i64 pa] 31)).alloc (.cells #[.int .i64 tv, .int .i64 ta] 31))) := HB1.out.alloc HB1.out.size _
            have hs1 : (w7.alloc (.cells #[.int .i64 pv, .int .i64 pa] 31)).heap.size = w7.heap.size + 1 := by simp
            obtain ⟨x0, x1, _, _, _⟩ := (two_start w7 (.int .i64 pv) (.int .i64 pa) 31 w7.heap.size rfl).alloc (.cells #[.int .i64 tv, .int .i64 ta] 31)
            obtain ⟨y0, y1, _, _, _⟩ := two_start (w7.alloc (.cells #[.int .i64 pv, .int .i64 pa] 31)) (.int .i64 tv) (.int .i64 ta) 31 (w7.heap.size + 1) (by simp)
            obtain ⟨⟨p0, p1, p2, _, _, _, _⟩, _, _, _, _⟩ := HG8.out.on HBW.out
            obtain ⟨⟨q0, q1, q2, _, _, _, _⟩, _, _, _, _⟩ := HG8.out.on HB1.out
            obtain ⟨_, ⟨k0, k1, k2, k3, k4, k5, k6, k7, k8, k9, k10, _, _, _, _, _, _, _, _, _, _, _, _⟩, _, _, _⟩ := HG8.out.on HB2.out
            obtain ⟨t0, t1, t2, _, _, _, _⟩ := HT8.out.on HB1.out
            obtain ⟨tc0, tc1⟩ := HTCE.out _ HB1.out K (by rw [HN5.out]; exact hKn)
            obtain ⟨pc0, pc1⟩ := HPCE.out _ HBW.out K (by rw [HNP.out]; exact hKn)
            rw [HTT.out] at tc0 tc1
            rw [HPP.out] at pc0 pc1
            simp only at tc0 tc1 pc0 pc1
            clear HBV
            cases sh with
            | false =>
              obtain ⟨rfl, rfl⟩ : tv = pv ∧ ta = pa := by simpa using HLG.out
              have heq := fun X => eq_pix X tv ta
              go_wp2_with fail
              go_quiet (fail)
              go_wp2_with fail
              go_roundw
              case rel => exact ⟨U + 1, by omega, by go_num, below_drewN HB2.out _⟩
              case measure => simp [intOf]; omega
            | true =>
              obtain ⟨rfl, rfl⟩ : tv = pv ∧ ta = pa := by simpa using HLG.out
              have heq := fun X => eq_pix X tv ta
              go_wp2_with fail
              go_quiet (fail)
              go_wp2_with fail
              go_roundw
              case rel => exact ⟨U + 1, by omega, by go_num, below_drewN HB2.out _⟩
              case measure => simp [intOf]; omega
          | true =>
            obtain ⟨_, ⟨k0, k1, k2, k3, k4, k5, k6, k7, k8, k9, k10, _, _, _, _, _, _, _, _, _, _, _, _⟩, _, _, _⟩ := HG8.out.on HBW.out
            go_wp2_with fail
            clear k0 k1 k2 k3 k4 k5 k6 k7 k8 k9 k10
            refine (has_any x y (QW : Int) (QH : Int) (U : Int) (V : Int) _ (by omega) (by omega) (by omega) (by omega) (by omega) (by omega) (by omega) (by omega) h2 HH2).mono ?_
            rintro e w8 ⟨rfl, hb8⟩
            replace HBW : Hid (Below wt.heap.size wt w8) := HBW.out.trans (hb8.mono HBW.out.size)
            clear hb8
            cases h2 with
            | false =>
              obtain ⟨pq, HPP⟩ : ∃ p, Hid (ps.getD K (0, 0) = p) := ⟨_, (rfl : _ = _)⟩
              obtain ⟨tq, HTT⟩ : ∃ p, Hid ((layL PW ps QW QH qs x y a b c d sh).getD K (0, 0) = p) := ⟨_, (rfl : _ = _)⟩
              have HLG := hid_of (lay_getD PW ps QW QH qs x y a b c d sh K (by rw [HNP.out]; exact hKn))
              rw [HTT.out, HPP.out, HE1.out, HE2.out, HH1.out, HH2.out] at HLG
              obtain ⟨pv, pa⟩ := pq
              obtain ⟨tv, ta⟩ := tq
              have HB1 : Hid (Below wt.heap.size wt (w8.alloc (.cells #[.int .i64 pv, .int .i64 pa] 31))) := HBW.out.alloc HBW.out.size _
              have HB2 : Hid (Below wt.heap.size wt ((w8.alloc (.cells #[.int .i64 pv, .int .i64 pa] 31)).alloc (.cells #[.int .i64 tv, .int .i64 ta] 31))) := HB1.out.alloc HB1.out.size _
              have hs1 : (w8.alloc (.cells #[.int .i64 pv, .int .i64 pa] 31)).heap.size = w8.heap.size + 1 := by simp
              obtain ⟨x0, x1, _, _, _⟩ := (two_start w8 (.int .i64 pv) (.int .i64 pa) 31 w8.heap.size rfl).alloc (.cells #[.int .i64 tv, .int .i64 ta] 31)
              obtain ⟨y0, y1, _, _, _⟩ := two_start (w8.alloc (.cells #[.int .i64 pv, .int .i64 pa] 31)) (.int .i64 tv) (.int .i64 ta) 31 (w8.heap.size + 1) (by simp)
              obtain ⟨⟨p0, p1, p2, _, _, _, _⟩, _, _, _, _⟩ := HG8.out.on HBW.out
              obtain ⟨⟨q0, q1, q2, _, _, _, _⟩, _, _, _, _⟩ := HG8.out.on HB1.out
              obtain ⟨_, ⟨k0, k1, k2, k3, k4, k5, k6, k7, k8, k9, k10, _, _, _, _, _, _, _, _, _, _, _, _⟩, _, _, _⟩ := HG8.out.on HB2.out
              obtain ⟨t0, t1, t2, _, _, _, _⟩ := HT8.out.on HB1.out
              obtain ⟨tc0, tc1⟩ := HTCE.out _ HB1.out K (by rw [HN5.out]; exact hKn)
              obtain ⟨pc0, pc1⟩ := HPCE.out _ HBW.out K (by rw [HNP.out]; exact hKn)
              rw [HTT.out] at tc0 tc1
              rw [HPP.out] at pc0 pc1
              simp only at tc0 tc1 pc0 pc1
              clear HBV
              cases sh with
              | false =>
                obtain ⟨rfl, rfl⟩ : tv = pv ∧ ta = pa := by simpa using HLG.out
                have heq := fun X => eq_pix X tv ta
                go_wp2_with fail
                go_quiet (fail)
                go_wp2_with fail
                go_roundw
                case rel => exact ⟨U + 1, by omega, by go_num, below_drewN HB2.out _⟩
                case measure => simp [intOf]; omega
              | true =>
                obtain ⟨rfl, rfl⟩ : tv = pv ∧ ta = pa := by simpa using HLG.out
                have heq := fun X => eq_pix X tv ta
                go_wp2_with fail
                go_quiet (fail)
                go_wp2_with fail
                go_roundw
                case rel => exact ⟨U + 1, by omega, by go_num, below_drewN HB2.out _⟩
                case measure => simp [intOf]; omega
            | true =>
              obtain ⟨pq, HPP⟩ : ∃ p, Hid (ps.getD K (0, 0) = p) := ⟨_, (rfl : _ = _)⟩
              obtain ⟨tq, HTT⟩ : ∃ p, Hid ((layL PW ps QW QH qs x y a b c d sh).getD K (0, 0) = p) := ⟨_, (rfl : _ = _)⟩
              have HLG := hid_of (lay_getD PW ps QW QH qs x y a b c d sh K (by rw [HNP.out]; exact hKn))
              rw [HTT.out, HPP.out, HE1.out, HE2.out, HH1.out, HH2.out] at HLG
              obtain ⟨pv, pa⟩ := pq
              obtain ⟨tv, ta⟩ := tq
              have HB1 : Hid (Below wt.heap.size wt (w8.alloc (.cells #[.int .i64 pv, .int .i64 pa] 31))) := HBW.out.alloc HBW.out.size _
              have HB2 : Hid (Below wt.heap.size wt ((w8.alloc (.cells #[.int .i64 pv, .int .i64 pa] 31)).alloc (.cells #[.int .i64 tv, .int .i64 ta] 31))) := HB1.out.alloc HB1.out.size _
              have hs1 : (w8.alloc (.cells #[.int .i64 pv, .int .i64 pa] 31)).heap.size = w8.heap.size + 1 := by simp
              obtain ⟨x0, x1, _, _, _⟩ := (two_start w8 (.int .i64 pv) (.int .i64 pa) 31 w8.heap.size rfl).alloc (.cells #[.int .i64 tv, .int .i64 ta] 31)
              obtain ⟨y0, y1, _, _, _⟩ := two_start (w8.alloc (.cells #[.int .i64 pv, .int .i64 pa] 31)) (.int .i64 tv) (.int .i64 ta) 31 (w8.heap.size + 1) (by simp)
              obtain ⟨⟨p0, p1, p2, _, _, _, _⟩, _, _, _, _⟩ := HG8.out.on HBW.out
              obtain ⟨⟨q0, q1, q2, _, _, _, _⟩, _, _, _, _⟩ := HG8.out.on HB1.out
              obtain ⟨_, ⟨k0, k1, k2, k3, k4, k5, k6, k7, k8, k9, k10, _, _, _, _, _, _, _, _, _, _, _, _⟩, _, _, _⟩ := HG8.out.on HB2.out
              obtain ⟨t0, t1, t2, _, _, _, _⟩ := HT8.out.on HB1.out
              obtain ⟨tc0, tc1⟩ := HTCE.out _ HB1.out K (by rw [HN5.out]; exact hKn)
              obtain ⟨pc0, pc1⟩ := HPCE.out _ HBW.out K (by rw [HNP.out]; exact hKn)
              rw [HTT.out] at tc0 tc1
              rw [HPP.out] at pc0 pc1
              simp only at tc0 tc1 pc0 pc1
              clear HBV
              cases sh with
              | false =>
                obtain ⟨rfl, rfl⟩ : tv = pv ∧ ta = pa := by simpa using HLG.out
                have heq := fun X => eq_pix X tv ta
                go_wp2_with fail
                go_quiet (fail)
                go_wp2_with fail
                go_roundw
                case rel => exact ⟨U + 1, by omega, by go_num, below_drewN HB2.out _⟩
                case measure => simp [intOf]; omega
              | true =>
                obtain ⟨h0, h1, h2, h3⟩ := (hasB_iff _ _ _ _ _ _).1 HH2.out
                obtain ⟨Ry, HRy⟩ : ∃ n : Nat, Hid ((V : Int) - y = (n : Int)) := ⟨((V : Int) - y).toNat, by unfold Hid; omega⟩
                obtain ⟨Cx, HCx⟩ : ∃ n : Nat, Hid ((U : Int) - x = (n : Int)) := ⟨((U : Int) - x).toNat, by unfold Hid; omega⟩
                obtain ⟨M2, HM2⟩ : ∃ M, Hid (Ry * QW = M) := ⟨_, (rfl : _ = _)⟩
                have hRy := HRy.out
                have hM2 : (Ry : Int) * (QW : Int) = (M2 : Int) := by rw [← HM2.out]; exact (Int.natCast_mul _ _).symm
                have hRQ : (Ry + 1) * QW ≤ QH * QW := Nat.mul_le_mul_right _ (by omega)
                obtain ⟨J, HJ⟩ : ∃ J, Hid (M2 + Cx = J) := ⟨_, (rfl : _ = _)⟩
                have hJn : J < nq := by
                  have h1 := HM2.out; have h2 := HQL.out; have h3 := HCx.out; have h4 := HNQ.out; have h5 := HJ.out
                  rw [Nat.mul_comm] at h2; rw [Nat.add_mul] at hRQ; omega
                have hJ : (M2 : Int) + (U : Int) - x = (J : Int) := by have := HCx.out; have := HJ.out; omega
                clear hRQ
                obtain ⟨qc0, qc1⟩ := HQCE.out _ HB2.out J (by rw [HNQ.out]; exact hJn)
                have hlg := HLG.out
                simp only [Bool.and_true, if_true] at hlg
                unfold gq at hlg
                rw [HE1.out, HE2.out, hRy, hM2, hJ, Int.toNat_natCast, HPP.out] at hlg
                obtain ⟨qq, HQQ⟩ : ∃ p, Hid (qs.getD J (0, 0) = p) := ⟨_, (rfl : _ = _)⟩
                rw [HQQ.out] at hlg qc0 qc1
                have okp := getD_ok ps POK.out K
                have okq := getD_ok qs QOK.out J
                rw [HPP.out] at okp
                rw [HQQ.out] at okq
                obtain ⟨qv, qa⟩ := qq
                obtain ⟨_, _, _, _⟩ := okp
                obtain ⟨_, _, _, _⟩ := okq
                simp only at hlg qc0 qc1
                have h255 := (Fb.over_bounds qv qa pv pa (by assumption) (by assumption) (by assumption) (by assumption) (by assumption) (by assumption) (by assumption) (by assumption)).2.2.2.2.2.2.2.1
                have hi2 : (J : Int) < (nq : Int) := by omega
                have hw3 : IntKind.i64.wrap (Ry : Int) = (Ry : Int) := by rw [IntKind.wrap_i64]; omega
                have hw4 : IntKind.i64.wrap (M2 : Int) = (M2 : Int) := by rw [IntKind.wrap_i64]; omega
                have hw5 : IntKind.i64.wrap ((M2 : Int) + (U : Int)) = (M2 : Int) + (U : Int) := by rw [IntKind.wrap_i64]; omega
                have hw6 : IntKind.i64.wrap (J : Int) = (J : Int) := by rw [IntKind.wrap_i64]; omega
                by_cases hqa : qa = 255
                · subst hqa
                  have h := h255 rfl
                  rw [← hlg] at h
                  obtain ⟨rfl, rfl⟩ : tv = qv ∧ ta = 255 := by simpa using h
                  have heq := fun X => eq_pix X tv 255
                  clear hlg h h255
                  go_wp2_with fail
                  go_quiet (fail)
                  go_wp2_with fail
                  go_roundw
                  case rel => exact ⟨U + 1, by omega, by go_num, below_drewN HB2.out _⟩
                  case measure => simp [intOf]; omega
                · clear hlg h255
                  go_wp2_with fail
                  go_quiet (fail)
                  go_wp2_with fail
                  go_roundw
                  case rel => exact ⟨U + 1, by omega, by go_num, below_drewN HB2.out _⟩
                  case measure => simp [intOf]; omega
        · obtain ⟨⟨p0, p1, p2, _, _, _, _⟩, _, _, _, _⟩ := HGv.out
          go_wp2_with fail
          go_roundw
          case rel => exact ⟨V + 1, by omega, by go_num, HBV⟩
          case measure => simp [intOf]; omega
    · obtain ⟨⟨p0, p1, p2, _, _, _, _⟩, _, _, _, hbw⟩ := HGv.out
      go_wp2_with fail
      go_ret
      exact ⟨rfl, hbw⟩
end Go.Proofs.Ytnjnelfmfijgjac
