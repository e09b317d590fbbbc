/- Walk of the law TopFrames. -/
import Derived.Test.YtbdgcomjhblnfaaDoorM10
import Derived.BigQuiet
namespace Go.Proofs.YtbdgcomjhblnfaaDoor
open Go.RowKit Go.Maps

theorem stepM_wait {qs : List Pq} {s s' : Ms} (hd : ¬ doneM qs s) (h : stepM qs s = .inl s') :
    ((qs.getD s.pc pq0).kind = 11 → s'.frs = s.frs ++ [tellF qs s (qs.getD s.pc pq0).a]) ∧ ((qs.getD s.pc pq0).kind ≠ 11 → s'.frs = s.frs) := by
  rw [stepM_not hd] at h
  cases hr : doM qs s (qs.getD s.pc pq0) with
  | inr c => rw [hr] at h; cases h
  | inl t =>
    rw [hr] at h
    obtain rfl := Sum.inl.inj h
    refine ⟨fun hk => ?_, fun hk => ?_⟩
    · rw [doM_tell _ _ _ hk] at hr
      unfold tellM at hr
      split at hr
      · cases hr
      · obtain rfl := Sum.inl.inj hr; rfl
    · rcases doM_frs hr with e | ⟨e, _⟩
      · exact e
      · exact absurd e hk

set_option maxHeartbeats 16000000 in
set_option maxRecDepth 100000 in
theorem topFrames_any (v : Value) (qs : List Pq) (w : World) (HS : Hid (Shapes w)) (h1 : 0 < w.heap.size) (HR : Hid (RdQ w v qs)) :
    Calls Tryd.prog 6 #[v] w fun e w' => e = .returned (.bool true) ∧ Below w.heap.size w w' := by
  obtain ⟨a, cap, hv, _, _⟩ := HR.out.shape
  obtain ⟨n, HN⟩ : ∃ n, Hid (qs.length = n) := ⟨_, (rfl : _ = _)⟩
  rw [HN.out] at hv
  subst hv
  go_enter Tryd.func6, Tryd.ntmps6
  go_wp2_with fail
  refine (works_any _ HS h1).mono ?_
  rintro e w1 ⟨rfl, hb1⟩
  have HS1 : Hid (Shapes w1) := HS.out.on h1 hb1
  have h11 := Nat.lt_of_lt_of_le h1 hb1.size
  have HR1 : Hid (RdQ w1 (.slice a n cap) qs) := HR.out.on hb1
  go_wp2_with fail
  refine (may_any _ qs _ HS1 h11 HR1).mono ?_
  rintro e w2 ⟨b0, rfl, hm, hb2⟩
  have hbb2 := hb1.trans (hb2.mono hb1.size)
  clear hb2 HS1 HR1 h11
  cases b0 with
  | false =>
    go_wp2_with fail
    go_ret
    exact ⟨rfl, hbb2⟩
  | true =>
    have HMY := hid_of2 (hm rfl)
    clear hm
    have HS2 : Hid (Shapes w2) := HS.out.on h1 hbb2
    have h12 := Nat.lt_of_lt_of_le h1 hbb2.size
    have HR2 : Hid (RdQ w2 (.slice a n cap) qs) := HR.out.on hbb2
    have HBK : Hid (Book qs) := book_of HMY.out.ok
    go_wp2_with fail
    refine (mnew_any _ qs _ HS2 h12 HR2 HMY.out.ps HMY.out.len).mono ?_
    rintro e w3 ⟨hb3, hh⟩
    rcases hh with ⟨hc, _⟩ | ⟨_, b, F, rfl, hM, hlF⟩
    · exact absurd HMY.out.ok hc
    have hbb3 := hbb2.trans (hb3.mono hbb2.size)
    have HM3 := hid_of2 hM
    have HLF := hid_of2 hlF
    have HB2 : Hid (w.heap.size ≤ w2.heap.size) := hbb2.size
    have HW0 : Hid (Way qs ms0) := way0 HBK.out
    clear hM hlF hb3 HS2 HR2 h12
    go_wp2_with fail
    go_loopw [6, 7, 8, 9] (fun nn i _ _ wr => ∃ (k : Nat) (st : Ms) (F' : List Nat) (N : Nat), k ≤ 400 ∧ i = .int .i64 k ∧ nn = .int .i64 N ∧ Hid (st.frs.length = N) ∧ N ≤ 40 ∧ Hid (Mac wr w2.heap.size b F' qs st) ∧ Hid (Way qs st) ∧ Hid (∀ f ∈ st.frs, FrG f) ∧ Hid (∀ g ∈ F', g < wr.heap.size) ∧ Below w.heap.size w wr) (fun _ i _ _ _ => 400 - (intOf i).toNat)
    case atStart => exact ⟨0, ms0, F, 0, by omega, rfl, rfl, rfl, by omega, HM3, HW0, (by intro f hf; simp [ms0] at hf), HLF, hbb3⟩
    case round =>
      clear HM3 HLF hbb3
      obtain ⟨k, st, F', N, hk, rfl, rfl, HNL, hN40, HMS, HWS, HFG, HLF, hbr⟩ := hrel
      have hN40i : (N : Int) ≤ 40 := by omega
      by_cases hlt : k < 400
      case neg =>
        have hki : ¬ (k : Int) < 400 := by omega
        go_wp2_with fail
        go_ret
        exact ⟨rfl, hbr⟩
      have hki : (k : Int) < 400 := by omega
      obtain ⟨t, HT⟩ : ∃ t, Hid (decide ((qs.getD st.pc pq0).kind = 16) = t) := ⟨_, (rfl : _ = _)⟩
      go_wp2_with fail
      refine (mdone_any _ b F' qs st _ HMS HWS.out.on t HT).mono ?_
      rintro e w4 ⟨rfl, hb4⟩
      have hbb4 := hbr.trans (hb4.mono hbr.size)
      have HM4 : Hid (Mac w4 w2.heap.size b F' qs st) := HMS.out.on hb4
      have HL4 : Hid (∀ g ∈ F', g < w4.heap.size) := fun g hg => Nat.lt_of_lt_of_le (HLF.out g hg) hb4.size
      clear hb4 HMS HLF hbr
      cases t with
      | true =>
        go_wp2_with fail
        go_ret
        exact ⟨rfl, hbb4⟩
      | false =>
        have HND : Hid (¬ doneM qs st) := of_decide_eq_false HT.out
        go_wp2_with fail
        refine (mat_any _ b F' qs st _ HM4).mono ?_
        rintro e w3 ⟨rfl, hb5⟩
        have hbb5 := hbb4.trans (hb5.mono hbb4.size)
        have HM5 : Hid (Mac w3 w2.heap.size b F' qs st) := HM4.out.on hb5
        have HL5 : Hid (∀ g ∈ F', g < w3.heap.size) := fun g hg => Nat.lt_of_lt_of_le (HL4.out g hg) hb5.size
        clear hb5 HM4 HL4 hbb4
        obtain ⟨pc, HPC⟩ : ∃ pc, Hid (st.pc = pc) := ⟨_, (rfl : _ = _)⟩
        have hpc := HWS.out.on
        rw [HPC.out, HN.out] at hpc
        rw [HPC.out]
        obtain ⟨q, HX⟩ : ∃ q, Hid (qs.getD pc pq0 = q) := ⟨_, (rfl : _ = _)⟩
        have HX' : Hid (qs.getD st.pc pq0 = q) := by rw [← HX.out, ← HPC.out]; exact rfl
        obtain ⟨g, o, ua, mu, uc, rfl, hg, OC, HU, HMU⟩ := (HR.out.on hbb5).at hpc HX
        obtain ⟨c0, c1, c2, c3, c4, c5, c6, c7, c8⟩ := OC
        obtain ⟨kd, qid, qa, qb, qc, qd, qw, qh, qp⟩ := q
        simp only at c0 c1 c2 c3 c4 c5 c6 c7 c8
        have hpi0 : (0 : Int) ≤ (pc : Int) := by omega
        have hpi1 : (pc : Int) < (n : Int) := by omega
        have hbx : Below w3.heap.size w3 (w3.alloc (.cells #[.int .i64 kd, .int .i64 qid, .int .i64 qa, .int .i64 qb, .int .i64 qc, .int .i64 qd, .int .i64 qw, .int .i64 qh, .slice ua mu uc] 37)) := (Below.refl _ _).alloc (Nat.le_refl _) _
        have hbbX := hbb5.trans (hbx.mono hbb5.size)
        have N0 := nine_start w3 (.int .i64 kd) (.int .i64 qid) (.int .i64 qa) (.int .i64 qb) (.int .i64 qc) (.int .i64 qd) (.int .i64 qw) (.int .i64 qh) (.slice ua mu uc) 37 w3.heap.size rfl
        have HMX : Hid (Mac (w3.alloc (.cells #[.int .i64 kd, .int .i64 qid, .int .i64 qa, .int .i64 qb, .int .i64 qc, .int .i64 qd, .int .i64 qw, .int .i64 qh, .slice ua mu uc] 37)) w2.heap.size b F' qs st) := HM5.out.on hbx
        have HLX : Hid (∀ g ∈ F', g < (w3.alloc (.cells #[.int .i64 kd, .int .i64 qid, .int .i64 qa, .int .i64 qb, .int .i64 qc, .int .i64 qd, .int .i64 qw, .int .i64 qh, .slice ua mu uc] 37)).heap.size) := fun g hg => Nat.lt_of_lt_of_le (HL5.out g hg) hbx.size
        have HN0 := hid_of2 N0
        have HNI : Hid (w3.heap.size ∉ F') := fun h => by have := HL5.out _ h; omega
        clear HU N0 hbx hbb5 HM5 HL5
        go_wp2_with fail
        refine (mstep_any _ b F' qs st _ HMX HBK HWS).mono ?_
        rintro e w6 ⟨F2, rfl, hm6, hf6⟩
        have hbb6 : Below w.heap.size w w6 := hbbX.trans (hf6.belowB (fun g hg => Nat.le_trans HB2.out (HMX.out.low g hg)) hbbX.size)
        have HL6 : Hid (∀ g ∈ F2, g < w6.heap.size) := hf6.lt HLX.out
        have y0 : w6.cell? ⟨w3.heap.size, 0, none⟩ = some (.int .i64 kd) := (hf6.cell HN0.out.lt HNI.out).trans HN0.out.c0
        have y2 : w6.cell? ⟨w3.heap.size, 2, none⟩ = some (.int .i64 qa) := (hf6.cell HN0.out.lt HNI.out).trans HN0.out.c2
        have ylt : w3.heap.size < w6.heap.size := Nat.lt_of_lt_of_le HN0.out.lt hf6.size
        obtain ⟨r, HRR⟩ : ∃ r, Hid (stepM qs st = r) := ⟨_, (rfl : _ = _)⟩
        rw [HRR.out] at hm6 ⊢
        have HM6 := hid_of2 hm6
        clear hm6 hf6 HN0 HNI HMX HLX hbbX c0 c1 c2 c3 c4 c5 c6 c7 c8
        cases r with
        | inr c =>
          have HC0 := hid_of2 (stepM_err HRR.out)
          unfold numM
          rw [errV_pos HC0.out]
          go_wp2_with fail
          go_ret
          exact ⟨rfl, hbb6⟩
        | inl s' =>
          have HM7 : Hid (Mac w6 w2.heap.size b F2 qs s') := HM6.out
          have HW7 : Hid (Way qs s') := stepM_way HBK.out HWS.out HRR.out
          have HG7 : Hid (∀ f ∈ s'.frs, FrG f) := stepM_frs HBK.out HWS.out HRR.out HFG.out
          have hwt := stepM_wait HND.out HRR.out
          rw [HX'.out] at hwt
          have HWT := hid_of2 hwt
          clear hwt HM6
          unfold numM
          rw [show errV 0 = Value.nilIface from rfl]
          by_cases k11 : kd = 11
          case neg =>
            have b11 : (kd == 11) = false := by simpa using k11
            have hfe := HWT.out.2 k11
            have HNL7 : Hid (s'.frs.length = N) := by rw [hfe]; exact HNL
            clear hfe k11
            go_wp2_with fail
            refine (mfrm_any _ b F2 qs s' _ HM7 (by rw [HNL7.out]; omega) HG7.out).mono ?_
            rintro e w7 ⟨v7, fv, rfl, ho7, hf7, hb7⟩
            have hbb7 := hbb6.trans (hb7.mono hbb6.size)
            have hl7 : fv.length = N := by rw [← HNL7.out, ← hf7]; simp
            obtain ⟨fa, fc, hv7⟩ := own_any ho7.1
            rw [hl7] at hv7
            subst hv7
            have z0 : w7.cell? ⟨w3.heap.size, 0, none⟩ = some (.int .i64 kd) := by rw [hb7.cell (p := ⟨w3.heap.size, 0, none⟩) ylt]; exact y0
            have HM8 : Hid (Mac w7 w2.heap.size b F2 qs s') := HM7.out.on hb7
            have HL8 : Hid (∀ g ∈ F2, g < w7.heap.size) := fun g hg => Nat.lt_of_lt_of_le (HL6.out g hg) hb7.size
            have hNN : ((N : Int) != (N : Int)) = false := by simp
            clear ho7 hf7 hl7 hb7 hbb6 HM7 HL6 y0 y2
            go_wp2_with fail
            simp only [List.append]
            go_quiet (fail)
            go_wp2_with fail
            have HM9 : Hid (Mac (w7.drewN nq) w2.heap.size b F2 qs s') := HM8.out.on (below_drewN (Below.refl _ _) nq)
            go_roundw
            case rel => exact ⟨k + 1, s', F2, N, by omega, by go_num, rfl, HNL7, hN40, HM9, HW7, HG7, HL8, below_drewN hbb7 nq⟩
            case measure => simp [intOf]; omega
          subst k11
          have hfe := HWT.out.1 rfl
          obtain ⟨N1, HN1⟩ : ∃ N1, Hid (N + 1 = N1) := ⟨_, (rfl : _ = _)⟩
          have HNL7 : Hid (s'.frs.length = N1) := by rw [hfe, List.length_append, HNL.out]; exact HN1
          have hN140 : N1 ≤ 40 := by have := HW7.out.frs; rw [HNL7.out] at this; exact this
          have hN1i : (N : Int) + 1 = (N1 : Int) := by have := HN1.out; omega
          have hq0 : 0 < n := by have := HBK.out.two; rw [HN.out] at this; omega
          have hlq : 0 < qs.length := by rw [HN.out]; exact hq0
          obtain ⟨⟨hda1, hda2⟩, hdb1, hdb2⟩ := op_head _ (HBK.out.ok 0 hlq) ((HBK.out.head 0 hlq).2 rfl)
          obtain ⟨W, hWe⟩ : ∃ W : Nat, (qs.getD 0 pq0).a = (W : Int) := ⟨_, (Int.toNat_of_nonneg (by omega)).symm⟩
          obtain ⟨H, hHe⟩ : ∃ H : Nat, (qs.getD 0 pq0).b = (H : Int) := ⟨_, (Int.toNat_of_nonneg (by omega)).symm⟩
          obtain ⟨L, HL⟩ : ∃ L, Hid (seenL W H (st.bv, st.ba) st.obs = L) := ⟨_, (rfl : _ = _)⟩
          have HTF : Hid (tellF qs st qa = ⟨(W : Int), (H : Int), L, qa⟩) := by
            unfold Hid tellF
            rw [hWe, hHe, Int.toNat_natCast, Int.toNat_natCast, HL.out]
          have hLm : (tellF qs st qa) ∈ s'.frs := by rw [hfe]; simp
          have hLc := (HG7.out _ hLm).pic
          rw [HTF.out] at hLc
          obtain ⟨W', H', hw1, hh1, _, _, _, _, hll, _⟩ := check_zero _ _ _ hLc
          simp only at hw1 hh1 hll
          have hWW : W' = W := by omega
          have hHH : H' = H := by omega
          subst hWW hHH
          obtain ⟨p, HP⟩ : ∃ p, Hid (W' * H' = p) := ⟨_, (rfl : _ = _)⟩
          rw [HP.out] at hll
          have hWHi : (W' : Int) * (H' : Int) = (p : Int) := by rw [← HP.out]; simp
          have hp64 : p ≤ 64 := by
            rw [← HP.out]
            have := Nat.mul_le_mul (show W' ≤ 8 by omega) (show H' ≤ 8 by omega)
            omega
          have HLL := hid_of2 hll
          have HWH := hid_of2 (And.intro hWe hHe)
          have HFE := hid_of2 hfe
          clear hda1 hda2 hdb1 hdb2 hWe hHe hLm hLc hw1 hh1 hll hfe
          go_wp2_with fail
          refine (mfrm_any _ b F2 qs s' _ HM7 (by rw [HNL7.out]; omega) HG7.out).mono ?_
          rintro e w7 ⟨v7, fv, rfl, ho7, hf7, hb7⟩
          have hbb7 := hbb6.trans (hb7.mono hbb6.size)
          have hl7 : fv.length = N1 := by rw [← HNL7.out, ← hf7]; simp
          obtain ⟨fa, fc, hv7⟩ := own_any ho7.1
          rw [hl7] at hv7
          subst hv7
          have hrd := ho7.rd
          rw [hf7] at hrd
          have HXN : Hid (s'.frs.getD N pf0 = ⟨(W' : Int), (H' : Int), L, qa⟩) := by
            unfold Hid
            rw [HFE.out, List.getD_eq_getElem?_getD, ← HNL.out]
            simp [HTF.out]
          obtain ⟨fg, fo, fu, fm, fuc, rfl, hfg, f0, f1, f2, f3, HFU, HFM⟩ := hrd.at (k := N) (by omega) HXN
          have hfm : fm = p := by rw [← HFM.out, HLL.out]
          subst hfm
          obtain ⟨q0, HQ0⟩ : ∃ q0, Hid (qs.getD 0 pq0 = q0) := ⟨_, (rfl : _ = _)⟩
          obtain ⟨g', o', ua', mu', uc', hgo, hg', OC', _, _⟩ := (HR.out.on hbb7).at hq0 HQ0
          simp only [Option.some.injEq, Addr.mk.injEq, and_true] at hgo
          obtain ⟨rfl, rfl⟩ := hgo
          have r2 := OC'.c2
          have r3 := OC'.c3
          rw [Nat.zero_mul, Nat.add_zero] at r2 r3
          have hWq : q0.a = (W' : Int) := by rw [← HQ0.out]; exact HWH.out.1
          have hHq : q0.b = (H' : Int) := by rw [← HQ0.out]; exact HWH.out.2
          rw [hWq] at r2
          rw [hHq] at r3
          simp only at f0 f1 f2 f3
          have z0 : w7.cell? ⟨w3.heap.size, 0, none⟩ = some (.int .i64 11) := by rw [hb7.cell (p := ⟨w3.heap.size, 0, none⟩) ylt]; exact y0
          have z2 : w7.cell? ⟨w3.heap.size, 2, none⟩ = some (.int .i64 qa) := by rw [hb7.cell (p := ⟨w3.heap.size, 2, none⟩) ylt]; exact y2
          have HM8 : Hid (Mac w7 w2.heap.size b F2 qs s') := HM7.out.on hb7
          have HL8 : Hid (∀ g ∈ F2, g < w7.heap.size) := fun g hg => Nat.lt_of_lt_of_le (HL6.out g hg) hb7.size
          have hNN : ((N1 : Int) != (N1 : Int)) = false := by simp
          have hqq : (qa != qa) = false := by simp
          have hW0 : ((W' : Int) != (W' : Int)) = false := by simp
          have hH0 : ((H' : Int) != (H' : Int)) = false := by simp
          have hpp : ((fm : Int) != (fm : Int)) = false := by simp
          have hN1w : IntKind.i64.wrap ((N1 : Int) - 1) = (N : Int) := by rw [wrap_s (by omega) (by omega)]; omega
          have hN1v : (N1 : Int) - 1 = (N : Int) := by omega
          have hNi0 : (0 : Int) ≤ (N : Int) := by omega
          have hNi1 : (N : Int) < (N1 : Int) := by omega
          have hn0 : (0 : Int) < (n : Int) := by omega
          clear ho7 hf7 hl7 hb7 hbb6 HM7 HL6 y0 y2 hrd HXN HFU HFM OC' hWq hHq HQ0 HFE HWH HLL HTF HL
          go_wp2_with fail
          simp only [List.append]
          go_quiet (fail)
          go_wp2_with fail
          have HM9 : Hid (Mac (w7.drewN nq) w2.heap.size b F2 qs s') := HM8.out.on (below_drewN (Below.refl _ _) nq)
          go_roundw
          case rel => exact ⟨k + 1, s', F2, N1, by omega, by go_num, rfl, HNL7, hN140, HM9, HW7, HG7, HL8, below_drewN hbb7 nq⟩
          case measure => simp [intOf]; omega
end Go.Proofs.YtbdgcomjhblnfaaDoor
