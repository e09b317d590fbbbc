/- Walks: flickerbookref.SamePicture, slices.Equal of pixels and reel.Same, of any two pictures. -/
import Derived.Test.YtadcmmkifcmknaaM6
namespace Go.Proofs.Ytadcmmkifcmknaa
open Go.RowKit

theorem neq_pix (X : World) (a b c d : Int) : (binOp .neq 33 (.agg #[.int .i64 a, .int .i64 b]) (.agg #[.int .i64 c, .int .i64 d])).run Try.prog X = .ok (.bool (!(decide (a = c) && decide (b = d)))) X := by
  have h : (Op.equalIn 10000 33 (.agg #[.int .i64 a, .int .i64 b]) (.agg #[.int .i64 c, .int .i64 d])).run Try.prog X = .ok (decide (a = c) && decide (b = d)) X := by
    have u3 := Try.underlying3
    rw [run_equalIn_agg X 9999 33 _ _ (by kernel_rfl) (by kernel_rfl)]
    simp only [Program.fieldsOf, Try.underlying33]
    by_cases h1 : a = c
    · by_cases h2 : b = d
      · subst h1 h2
        go_simp
      · subst h1
        have e2 : (b == d) = false := by simp [h2]
        go_simp
        try simp [h2]
    · have e1 : (a == c) = false := by simp [h1]
      go_simp
      try simp [h1]
  rw [run_neq_struct, h]
  rfl

theorem take_more {α : Type} {a b : List α} {d : α} {k : Nat} (ha : k < a.length) (hb : k < b.length) (h : a.take k = b.take k) (hd : a.getD k d = b.getD k d) : a.take (k + 1) = b.take (k + 1) := by
  rw [List.take_succ_eq_append_getElem ha, List.take_succ_eq_append_getElem hb, h]
  simp only [List.getD_eq_getElem?_getD, List.getElem?_eq_getElem ha, List.getElem?_eq_getElem hb, Option.getD_some] at hd
  rw [hd]

@[reducible] def sameC (W0 H0 : Int) (ps : List (Int × Int)) (W1 H1 : Int) (qs : List (Int × Int)) : Bool := decide (W0 = W1) && (decide (H0 = H1) && decide (ps = qs))

theorem same_no {W0 H0 W1 H1 : Int} {ps qs : List (Int × Int)} {b : Bool} (HB : Hid (sameC W0 H0 ps W1 H1 qs = b)) (h : ¬(W0 = W1 ∧ H0 = H1 ∧ ps = qs)) : b = false := by
  rw [← HB.out]
  simp only [sameC]
  by_cases h1 : W0 = W1
  · by_cases h2 : H0 = H1
    · simp only [Bool.and_eq_false_iff, decide_eq_false_iff_not]
      exact .inr (.inr fun h3 => h ⟨h1, h2, h3⟩)
    · simp [h2]
  · simp [h1]
theorem same_yes {W0 H0 W1 H1 : Int} {ps qs : List (Int × Int)} {b : Bool} (HB : Hid (sameC W0 H0 ps W1 H1 qs = b)) (h1 : W0 = W1) (h2 : H0 = H1) (h3 : ps = qs) : b = true := by
  rw [← HB.out]
  simp [sameC, h1, h2, h3]

set_option maxHeartbeats 2000000 in
set_option maxRecDepth 100000 in
theorem samePicG_any (W0 H0 W1 H1 : Int) (v0 v1 : Value) (ps qs : List (Int × Int)) (w : World) (hps : ps.length ≤ 1000) (_hqs : qs.length ≤ 1000) (R0 : Hid (RdP w v0 ps)) (R1 : Hid (RdP w v1 qs)) (b : Bool) (HB : Hid (sameC W0 H0 ps W1 H1 qs = b)) :
    Calls Try.prog 22 #[.agg #[.int .i64 W0, .int .i64 H0, v0], .agg #[.int .i64 W1, .int .i64 H1, v1]] w fun e w' => e = .returned (.bool b) ∧ Below w.heap.size w w' := by
  obtain ⟨a0, c0, hv0, hl0, hm0, hh0⟩ := R0.out
  obtain ⟨a1, c1, hv1, hl1, hm1, hh1⟩ := R1.out
  obtain ⟨n, HN⟩ : ∃ n, Hid (ps.length = n) := ⟨_, (rfl : _ = _)⟩
  obtain ⟨m, HM⟩ : ∃ m, Hid (qs.length = m) := ⟨_, (rfl : _ = _)⟩
  rw [HN.out] at hv0 hl0 hps
  rw [HM.out] at hv1 hl1
  clear hh0 hh1
  subst hv0 hv1
  have HT0 := (three_start w (.int .i64 W0) (.int .i64 H0) (.slice a0 n c0) 25).alloc (.cells #[.int .i64 W1, .int .i64 H1, .slice a1 m c1] 25)
  have HT1 := three_start (w.alloc (.cells #[.int .i64 W0, .int .i64 H0, .slice a0 n c0] 25)) (.int .i64 W1) (.int .i64 H1) (.slice a1 m c1) 25
  obtain ⟨x0, x1, x2, _, _, _, _⟩ := HT0
  obtain ⟨y0, y1, y2, _, _, _, _⟩ := HT1
  have es : (w.alloc (.cells #[.int .i64 W0, .int .i64 H0, .slice a0 n c0] 25)).heap.size = w.heap.size + 1 := by simp
  rw [es] at y0 y1 y2
  clear es
  obtain ⟨wz, HWZ⟩ : ∃ wz, Hid ((w.alloc (.cells #[.int .i64 W0, .int .i64 H0, .slice a0 n c0] 25)).alloc (.cells #[.int .i64 W1, .int .i64 H1, .slice a1 m c1] 25) = wz) := ⟨_, (rfl : _ = _)⟩
  have hbz : Below w.heap.size w wz := by rw [← HWZ.out]; exact ((Below.refl _ _).alloc (Nat.le_refl _) _).alloc (by simp) _
  by_cases hW : W0 = W1
  · by_cases hH : H0 = H1
    · have eW : (W0 != W1) = false := by simp [hW]
      have eH : (H0 != H1) = false := by simp [hH]
      have HWH : Hid (W0 = W1 ∧ H0 = H1) := ⟨hW, hH⟩
      clear hW hH
      by_cases hnm : n = m
      · have hnn : ((n : Int) != (m : Int)) = false := by simp [hnm]
        have HNM : Hid (n = m) := hnm
        clear hnm
        go_enter Try.func22, Try.ntmps22
        rw [HWZ.out] at x0 x1 x2 y0 y1 y2
        go_wp2_with fail
        rw [HWZ.out]
        go_loopw [5] (fun i wr => ∃ k q : Nat, k ≤ n ∧ i = .int .i64 k ∧ wr = wz.drewN q ∧ Hid (ps.take k = qs.take k)) (fun i _ => n - (intOf i).toNat)
        case atStart => exact ⟨0, 0, by omega, rfl, rfl, (rfl : _ = _)⟩
        case round =>
          obtain ⟨k, q, hk, rfl, rfl, HTK⟩ := hrel
          by_cases hlt : k < n
          · have hne : ps ≠ [] := by intro e; have h := HN.out; rw [e] at h; simp at h; omega
            have hne1 : qs ≠ [] := by intro e; have h := HM.out; rw [e] at h; simp at h; have := HNM.out; omega
            obtain ⟨_, _, hv0, _, _, hh0⟩ := R0.out
            obtain ⟨_, _, hv1, _, _, hh1⟩ := R1.out
            obtain ⟨g0, o0, ha0, hg0, hc0⟩ := hh0 hne
            obtain ⟨g1, o1, ha1, hg1, hc1⟩ := hh1 hne1
            simp only [Value.slice.injEq] at hv0 hv1
            have e0 : a0 = some ⟨g0, o0, none⟩ := hv0.1.trans ha0
            have e1 : a1 = some ⟨g1, o1, none⟩ := hv1.1.trans ha1
            subst e0 e1
            have hkm : k < m := by have := HNM.out; omega
            obtain ⟨p, HP⟩ : ∃ p, Hid (ps.getD k (0, 0) = p) := ⟨_, (rfl : _ = _)⟩
            obtain ⟨r, HQ⟩ : ∃ p, Hid (qs.getD k (0, 0) = p) := ⟨_, (rfl : _ = _)⟩
            have d0 := hc0 k (by rw [HN.out]; exact hlt)
            have d1 := hc1 k (by rw [HM.out]; exact hkm)
            rw [HP.out] at d0
            rw [HQ.out] at d1
            obtain ⟨pv, pa⟩ := p
            obtain ⟨rv, ra⟩ := r
            have f0 : wz.cell? ⟨g0, o0 + k * 2, none⟩ = some (.int .i64 pv) := by rw [hbz.cell (p := ⟨g0, o0 + k * 2, none⟩) hg0]; exact d0.1
            have f1 : wz.cell? ⟨g0, o0 + k * 2 + 1, none⟩ = some (.int .i64 pa) := by rw [hbz.cell (p := ⟨g0, o0 + k * 2 + 1, none⟩) hg0]; exact d0.2
            have f2 : wz.cell? ⟨g1, o1 + k * 2, none⟩ = some (.int .i64 rv) := by rw [hbz.cell (p := ⟨g1, o1 + k * 2, none⟩) hg1]; exact d1.1
            have f3 : wz.cell? ⟨g1, o1 + k * 2 + 1, none⟩ = some (.int .i64 ra) := by rw [hbz.cell (p := ⟨g1, o1 + k * 2 + 1, none⟩) hg1]; exact d1.2
            have heq := fun X => neq_pix X pv pa rv ra
            clear d0 d1 hc0 hc1 hh0 hh1 hv0 hv1 ha0 ha1
            by_cases hd : pv = rv ∧ pa = ra
            · have HT2 : Hid (ps.take (k + 1) = qs.take (k + 1)) := take_more (d := (0, 0)) (by rw [HN.out]; exact hlt) (by rw [HM.out]; exact hkm) HTK.out (by rw [HP.out, HQ.out, hd.1, hd.2])
              obtain ⟨hd1, hd2⟩ := hd
              subst hd1 hd2
              simp only [decide_true, Bool.and_true, Bool.not_true] at heq
              go_wp2_with fail
              go_quiet (fail)
              go_wp2_with fail
              go_roundw
              case rel => exact ⟨k + 1, q + nq, by omega, by go_num, rfl, HT2⟩
              case measure => simp [intOf]; omega
            · have hdb : (!(decide (pv = rv) && decide (pa = ra))) = true := by
                simp only [Bool.not_eq_true', Bool.and_eq_false_iff, decide_eq_false_iff_not]
                by_cases h1 : pv = rv
                · right
                  exact fun h2 => hd ⟨h1, h2⟩
                · exact .inl h1
              rw [hdb] at heq
              have : b = false := by
                refine same_no HB fun h => ?_
                have h1 := HP.out
                rw [h.2.2, HQ.out, Prod.mk.injEq] at h1
                exact hd ⟨h1.1.symm, h1.2.symm⟩
              subst this
              clear hd hdb
              go_wp2_with fail
              go_quiet (fail)
              go_wp2_with fail
              go_ret
              exact ⟨rfl, below_drewN (below_drewN hbz q) nq⟩
          · have : b = true := by
              refine same_yes HB HWH.out.1 HWH.out.2 ?_
              have h := HTK.out
              rwa [List.take_of_length_le (by rw [HN.out]; omega), List.take_of_length_le (by rw [HM.out]; have := HNM.out; omega)] at h
            subst this
            go_wp2_with fail
            go_ret
            exact ⟨rfl, below_drewN hbz q⟩
      · have hnn : ((n : Int) != (m : Int)) = true := by simp; omega
        have : b = false := by
          refine same_no HB fun h => ?_
          have h1 := HN.out
          rw [h.2.2, HM.out] at h1
          exact hnm h1.symm
        subst this
        clear hnm
        go_enter Try.func22, Try.ntmps22
        rw [HWZ.out] at x0 x1 x2 y0 y1 y2
        go_wp2_with fail
        go_ret
        exact ⟨rfl, by rw [HWZ.out]; exact hbz⟩
    · have eW : (W0 != W1) = false := by simp [hW]
      have eH : (H0 != H1) = true := by simp [hH]
      have hb := same_no HB (fun h => hH h.2.1)
      subst hb
      clear hW hH
      go_enter Try.func22, Try.ntmps22
      rw [HWZ.out] at x0 x1 x2 y0 y1 y2
      go_wp2_with fail
      go_ret
      exact ⟨rfl, by rw [HWZ.out]; exact hbz⟩
  · have eW : (W0 != W1) = true := by simp [hW]
    have hb := same_no HB (fun h => hW h.1)
    subst hb
    clear hW
    go_enter Try.func22, Try.ntmps22
    rw [HWZ.out] at x0 x1 x2 y0 y1 y2
    go_wp2_with fail
    go_ret
    exact ⟨rfl, by rw [HWZ.out]; exact hbz⟩
end Go.Proofs.Ytadcmmkifcmknaa
