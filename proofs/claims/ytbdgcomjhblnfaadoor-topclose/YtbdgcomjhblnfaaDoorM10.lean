/- Some of the walks, in one text. -/
import Derived.Test.YtbdgcomjhblnfaaDoorM9
import Derived.Maps.AppendAt
/- Walk: machine.Play. -/
namespace Go.Proofs.YtbdgcomjhblnfaaDoor
open Go.RowKit Go.Maps

/-- what Play answers -/
def playR (qs : List Pq) (fuel : Int) : List Pf ⊕ Nat := if bkC qs ≠ 0 then .inr (bkC qs) else playM qs (min fuel 400).toNat ms0
/-- what lies in memory of it -/
def PlayP (B : Nat) (r : List Pf ⊕ Nat) (w : World) (e : Ending) (w' : World) : Prop :=
  Below w.heap.size w w' ∧ ((∃ v' fv, e = .returned (.tuple #[v', .nilIface]) ∧ OwnFr w' B v' fv ∧ r = .inl (fv.map Prod.fst)) ∨ (∃ c, c ≠ 0 ∧ r = .inr c ∧ e = .returned (.tuple #[.slice none 0 0, errV c])))
theorem errV_pos {c : Nat} (h : c ≠ 0) : errV c = .iface 61 (.int .i64 (c : Int)) := by unfold errV; rw [if_neg h]
theorem stepM_way {qs : List Pq} {s s' : Ms} (hb : Book qs) (hw : Way qs s) (h : stepM qs s = .inl s') : Way qs s' := by
  by_cases hd : doneM qs s
  · unfold stepM at h
    rw [if_pos hd] at h
    obtain rfl := Sum.inl.inj h
    exact hw
  · rw [stepM_not hd] at h
    cases hr : doM qs s (qs.getD s.pc pq0) with
    | inl t => rw [hr] at h; obtain rfl := Sum.inl.inj h; exact step_way hb hw hd hr
    | inr c => rw [hr] at h; cases h
theorem stepM_err {qs : List Pq} {s : Ms} {c : Nat} (h : stepM qs s = .inr c) : c ≠ 0 := by
  by_cases hd : doneM qs s
  · unfold stepM at h
    rw [if_pos hd] at h
    cases h
  · rw [stepM_not hd] at h
    cases hr : doM qs s (qs.getD s.pc pq0) with
    | inl t => rw [hr] at h; cases h
    | inr c' => rw [hr] at h; obtain rfl := Sum.inr.inj h; have := doM_err hr; omega

set_option maxHeartbeats 8000000 in
set_option maxRecDepth 100000 in
theorem mplay_any (v : Value) (qs : List Pq) (fuel : Int) (w : World) (HS : Hid (Shapes w)) (h1 : 0 < w.heap.size) (HR : Hid (RdQ w v qs)) (hps : ∀ j, j < qs.length → (qs.getD j pq0).ps.length ≤ 100) (hn : qs.length ≤ 1000) (hf1 : -9223372036854775808 ≤ fuel) :
    Calls Tryd.prog 15 #[v, .int .i64 fuel] w fun e w' => PlayP w.heap.size (playR qs fuel) w e w' := by
  obtain ⟨a, cap, hv, _, _⟩ := HR.out.shape
  obtain ⟨n, HN⟩ : ∃ n, Hid (qs.length = n) := ⟨_, (rfl : _ = _)⟩
  rw [HN.out] at hv
  subst hv
  have HPS : Hid (∀ j, j < qs.length → (qs.getD j pq0).ps.length ≤ 100) := hps
  clear hps
  go_enter Tryd.func15, Tryd.ntmps15
  go_wp2_with fail
  refine (mnew_any _ qs _ HS h1 HR HPS.out hn).mono ?_
  rintro e w1 ⟨hb1, hh⟩
  rcases hh with ⟨hc, rfl⟩ | ⟨hc, b, F, rfl, hM, _⟩
  · have HPR : Hid (playR qs fuel = .inr (bkC qs)) := by unfold Hid playR; rw [if_pos hc]
    have HC := hid_of2 hc
    clear hc
    rw [errV_pos HC.out]
    go_wp2_with fail
    go_ret2
    exact ⟨hb1, .inr ⟨bkC qs, HC.out, HPR.out, by rw [errV_pos HC.out]; rfl⟩⟩
  have HPR : Hid (playR qs fuel = playM qs (min fuel 400).toNat ms0) := by unfold Hid playR; rw [if_neg (by simpa using hc)]
  have HBK : Hid (Book qs) := book_of hc
  have HM := hid_of2 hM
  have HW0 : Hid (Way qs ms0) := way0 HBK.out
  clear hc hM
  have hlow := HM.out.low
  by_cases hle : fuel ≤ 400
  · rw [show min fuel 400 = fuel by omega] at HPR
    obtain ⟨N, HLN⟩ : ∃ N : Nat, Hid (fuel.toNat = N) := ⟨_, (rfl : _ = _)⟩
    rw [HLN.out] at HPR
    go_wp2_with fail
    go_loopw [8, 19] (fun _ i wr => ∃ (k : Nat) (st : Ms) (F' : List Nat), k ≤ N ∧ i = .int .i64 k ∧ Hid (Mac wr w.heap.size b F' qs st) ∧ Hid (Way qs st) ∧ Hid (playM qs (N - k) st = playR qs fuel) ∧ Below w.heap.size w wr) (fun _ i _ => N - (intOf i).toNat)
    case atStart => exact ⟨0, ms0, F, by omega, rfl, HM, HW0, by rw [HPR.out]; rfl, hb1⟩
    case round =>
      obtain ⟨k, st, F', hk, rfl, HMS, HWS, HP, hbr⟩ := hrel
      obtain ⟨t, HT⟩ : ∃ t, Hid (decide ((qs.getD st.pc pq0).kind = 16) = t) := ⟨_, (rfl : _ = _)⟩
      by_cases hlt : k < N
      · have hki : (k : Int) < fuel := by have := HLN.out; omega
        go_wp2_with fail
        refine (mdone_any _ b F' qs st _ HMS HWS.out.on t HT).mono ?_
        rintro e w2 ⟨rfl, hb2⟩
        have HM2 : Hid (Mac w2 w.heap.size b F' qs st) := HMS.out.on hb2
        have hbb2 := hbr.trans (hb2.mono hbr.size)
        cases t with
        | true =>
          have HPD : Hid (playR qs fuel = .inl st.frs) := by unfold Hid; rw [← HP.out]; exact play_done qs _ st (of_decide_eq_true HT.out)
          clear hb2
          go_wp2_with fail
          refine (mdone_any _ b F' qs st _ HM2 HWS.out.on true HT).mono ?_
          rintro e w3 ⟨rfl, hb3⟩
          have hbb3 := hbb2.trans (hb3.mono hbb2.size)
          obtain ⟨vo, bm, vr, vb, vk, vf, hm1, hm2, hm3⟩ := HM2.out.on hb3
          obtain ⟨NN, hB⟩ := mac_nine hm1
          have n8 := NN.c8
          obtain ⟨fv, hf1, hf2⟩ := hm2.frs
          obtain ⟨fa, fc, hvf⟩ := own_any hf1.1
          subst hvf
          have HF1 := hid_of2 hf1
          have HF2 := hid_of2 hf2
          clear hm1 hm2 hm3 NN hf1 hf2 hb3
          go_wp2_with fail
          go_ret2
          exact ⟨hbb3, .inl ⟨_, fv, rfl, HF1.out, by rw [HPD.out, HF2.out]⟩⟩
        | false =>
          clear hb2
          go_wp2_with fail
          refine (mstep_any _ b F' qs st _ HM2 HBK HWS).mono ?_
          rintro e w3 ⟨F2, rfl, hm3, hf3⟩
          have hbb3 : Below w.heap.size w w3 := hbb2.trans (hf3.belowB HM2.out.low hbb2.size)
          have hnd : ¬ doneM qs st := of_decide_eq_false HT.out
          have HND := hid_of2 hnd
          obtain ⟨r, HRR⟩ : ∃ r, Hid (stepM qs st = r) := ⟨_, (rfl : _ = _)⟩
          rw [HRR.out] at hm3 ⊢
          clear hnd hf3
          cases r with
          | inr c =>
            have HC0 := hid_of2 (stepM_err HRR.out)
            have HPD : Hid (playR qs fuel = .inr c) := by
              unfold Hid
              rw [← HP.out, show N - k = (N - k - 1) + 1 by omega, playM, if_neg HND.out, HRR.out]
            unfold numM
            rw [errV_pos HC0.out]
            go_wp2_with fail
            go_ret2
            exact ⟨hbb3, .inr ⟨c, HC0.out, HPD.out, by rw [errV_pos HC0.out]; rfl⟩⟩
          | inl s' =>
            have HP2 : Hid (playM qs (N - (k + 1)) s' = playR qs fuel) := by
              unfold Hid
              rw [← HP.out, show N - k = (N - (k + 1)) + 1 by omega, play_step qs _ st s' HND.out HRR.out]
            have HW2 : Hid (Way qs s') := stepM_way HBK.out HWS.out HRR.out
            have HM3 : Hid (Mac w3 w.heap.size b F2 qs s') := hm3
            clear hm3
            unfold numM
            rw [show errV 0 = Value.nilIface from rfl]
            go_wp2_with fail
            go_roundw
            case rel => exact ⟨k + 1, s', F2, by omega, by go_num, HM3, HW2, HP2, hbb3⟩
            case measure => simp [intOf]; omega
      · have hki : ¬ (k : Int) < fuel := by have := HLN.out; omega
        have hkN : N - k = 0 := by omega
        rw [hkN] at HP
        clear hkN
        go_wp2_with fail
        refine (mdone_any _ b F' qs st _ HMS HWS.out.on t HT).mono ?_
        rintro e w3 ⟨rfl, hb3⟩
        have hbb3 := hbr.trans (hb3.mono hbr.size)
        cases t with
        | true =>
          have HPD : Hid (playR qs fuel = .inl st.frs) := by unfold Hid; rw [← HP.out]; exact play_done qs _ st (of_decide_eq_true HT.out)
          obtain ⟨vo, bm, vr, vb, vk, vf, hm1, hm2, hm3⟩ := HMS.out.on hb3
          obtain ⟨NN, hB⟩ := mac_nine hm1
          have n8 := NN.c8
          obtain ⟨fv, hf1, hf2⟩ := hm2.frs
          obtain ⟨fa, fc, hvf⟩ := own_any hf1.1
          subst hvf
          have HF1 := hid_of2 hf1
          have HF2 := hid_of2 hf2
          clear hm1 hm2 hm3 NN hf1 hf2 hb3
          go_wp2_with fail
          go_ret2
          exact ⟨hbb3, .inl ⟨_, fv, rfl, HF1.out, by rw [HPD.out, HF2.out]⟩⟩
        | false =>
          have HPD : Hid (playR qs fuel = .inr 8) := by
            unfold Hid
            rw [← HP.out, playM, if_neg (show ¬ doneM qs st from of_decide_eq_false HT.out)]
          clear hb3
          go_wp2_with fail
          go_ret2
          exact ⟨hbb3, .inr ⟨8, by omega, HPD.out, rfl⟩⟩
  · rw [show min fuel 400 = 400 by omega] at HPR
    obtain ⟨N, HLN⟩ : ∃ N : Nat, Hid ((400 : Int).toNat = N) := ⟨_, (rfl : _ = _)⟩
    rw [HLN.out] at HPR
    go_wp2_with fail
    go_loopw [8, 19] (fun _ i wr => ∃ (k : Nat) (st : Ms) (F' : List Nat), k ≤ N ∧ i = .int .i64 k ∧ Hid (Mac wr w.heap.size b F' qs st) ∧ Hid (Way qs st) ∧ Hid (playM qs (N - k) st = playR qs fuel) ∧ Below w.heap.size w wr) (fun _ i _ => N - (intOf i).toNat)
    case atStart => exact ⟨0, ms0, F, by omega, rfl, HM, HW0, by rw [HPR.out]; rfl, hb1⟩
    case round =>
      obtain ⟨k, st, F', hk, rfl, HMS, HWS, HP, hbr⟩ := hrel
      obtain ⟨t, HT⟩ : ∃ t, Hid (decide ((qs.getD st.pc pq0).kind = 16) = t) := ⟨_, (rfl : _ = _)⟩
      by_cases hlt : k < N
      · have hki : (k : Int) < (400 : Int) := by have := HLN.out; omega
        go_wp2_with fail
        refine (mdone_any _ b F' qs st _ HMS HWS.out.on t HT).mono ?_
        rintro e w2 ⟨rfl, hb2⟩
        have HM2 : Hid (Mac w2 w.heap.size b F' qs st) := HMS.out.on hb2
        have hbb2 := hbr.trans (hb2.mono hbr.size)
        cases t with
        | true =>
          have HPD : Hid (playR qs fuel = .inl st.frs) := by unfold Hid; rw [← HP.out]; exact play_done qs _ st (of_decide_eq_true HT.out)
          clear hb2
          go_wp2_with fail
          refine (mdone_any _ b F' qs st _ HM2 HWS.out.on true HT).mono ?_
          rintro e w3 ⟨rfl, hb3⟩
          have hbb3 := hbb2.trans (hb3.mono hbb2.size)
          obtain ⟨vo, bm, vr, vb, vk, vf, hm1, hm2, hm3⟩ := HM2.out.on hb3
          obtain ⟨NN, hB⟩ := mac_nine hm1
          have n8 := NN.c8
          obtain ⟨fv, hf1, hf2⟩ := hm2.frs
          obtain ⟨fa, fc, hvf⟩ := own_any hf1.1
          subst hvf
          have HF1 := hid_of2 hf1
          have HF2 := hid_of2 hf2
          clear hm1 hm2 hm3 NN hf1 hf2 hb3
          go_wp2_with fail
          go_ret2
          exact ⟨hbb3, .inl ⟨_, fv, rfl, HF1.out, by rw [HPD.out, HF2.out]⟩⟩
        | false =>
          clear hb2
          go_wp2_with fail
          refine (mstep_any _ b F' qs st _ HM2 HBK HWS).mono ?_
          rintro e w3 ⟨F2, rfl, hm3, hf3⟩
          have hbb3 : Below w.heap.size w w3 := hbb2.trans (hf3.belowB HM2.out.low hbb2.size)
          have hnd : ¬ doneM qs st := of_decide_eq_false HT.out
          have HND := hid_of2 hnd
          obtain ⟨r, HRR⟩ : ∃ r, Hid (stepM qs st = r) := ⟨_, (rfl : _ = _)⟩
          rw [HRR.out] at hm3 ⊢
          clear hnd hf3
          cases r with
          | inr c =>
            have HC0 := hid_of2 (stepM_err HRR.out)
            have HPD : Hid (playR qs fuel = .inr c) := by
              unfold Hid
              rw [← HP.out, show N - k = (N - k - 1) + 1 by omega, playM, if_neg HND.out, HRR.out]
            unfold numM
            rw [errV_pos HC0.out]
            go_wp2_with fail
            go_ret2
            exact ⟨hbb3, .inr ⟨c, HC0.out, HPD.out, by rw [errV_pos HC0.out]; rfl⟩⟩
          | inl s' =>
            have HP2 : Hid (playM qs (N - (k + 1)) s' = playR qs fuel) := by
              unfold Hid
              rw [← HP.out, show N - k = (N - (k + 1)) + 1 by omega, play_step qs _ st s' HND.out HRR.out]
            have HW2 : Hid (Way qs s') := stepM_way HBK.out HWS.out HRR.out
            have HM3 : Hid (Mac w3 w.heap.size b F2 qs s') := hm3
            clear hm3
            unfold numM
            rw [show errV 0 = Value.nilIface from rfl]
            go_wp2_with fail
            go_roundw
            case rel => exact ⟨k + 1, s', F2, by omega, by go_num, HM3, HW2, HP2, hbb3⟩
            case measure => simp [intOf]; omega
      · have hki : ¬ (k : Int) < (400 : Int) := by have := HLN.out; omega
        have hkN : N - k = 0 := by omega
        rw [hkN] at HP
        clear hkN
        go_wp2_with fail
        refine (mdone_any _ b F' qs st _ HMS HWS.out.on t HT).mono ?_
        rintro e w3 ⟨rfl, hb3⟩
        have hbb3 := hbr.trans (hb3.mono hbr.size)
        cases t with
        | true =>
          have HPD : Hid (playR qs fuel = .inl st.frs) := by unfold Hid; rw [← HP.out]; exact play_done qs _ st (of_decide_eq_true HT.out)
          obtain ⟨vo, bm, vr, vb, vk, vf, hm1, hm2, hm3⟩ := HMS.out.on hb3
          obtain ⟨NN, hB⟩ := mac_nine hm1
          have n8 := NN.c8
          obtain ⟨fv, hf1, hf2⟩ := hm2.frs
          obtain ⟨fa, fc, hvf⟩ := own_any hf1.1
          subst hvf
          have HF1 := hid_of2 hf1
          have HF2 := hid_of2 hf2
          clear hm1 hm2 hm3 NN hf1 hf2 hb3
          go_wp2_with fail
          go_ret2
          exact ⟨hbb3, .inl ⟨_, fv, rfl, HF1.out, by rw [HPD.out, HF2.out]⟩⟩
        | false =>
          have HPD : Hid (playR qs fuel = .inr 8) := by
            unfold Hid
            rw [← HP.out, playM, if_neg (show ¬ doneM qs st from of_decide_eq_false HT.out)]
          clear hb3
          go_wp2_with fail
          go_ret2
          exact ⟨hbb3, .inr ⟨8, by omega, HPD.out, rfl⟩⟩
end Go.Proofs.YtbdgcomjhblnfaaDoor
/- Walks of the laws' own functions: LightOps, may, plain, works. -/
namespace Go.Proofs.YtbdgcomjhblnfaaDoor
open Go.RowKit Go.Maps

/-- ops that are few, and not too much -/
structure LightQs (qs : List Pq) : Prop where
  few : qs.length ≤ 70
  pix : ∀ j, j < qs.length → (qs.getD j pq0).ps.length ≤ 80

set_option maxHeartbeats 8000000 in
set_option maxRecDepth 100000 in
theorem lightOps_any (v : Value) (qs : List Pq) (w : World) (HR : Hid (RdQ w v qs)) :
    Calls Tryd.prog 28 #[v, .int .i64 70] w fun e w' => ∃ b, e = .returned (.bool b) ∧ (b = true → LightQs qs) ∧ Below w.heap.size w w' := by
  obtain ⟨a, cap, hv, hl, hcap⟩ := HR.out.shape
  obtain ⟨n, HN⟩ : ∃ n, Hid (qs.length = n) := ⟨_, (rfl : _ = _)⟩
  rw [HN.out] at hv hl
  subst hv
  by_cases h70 : 70 < n
  · have h70i : (70 : Int) < (n : Int) := by omega
    go_enter Tryd.func28, Tryd.ntmps28
    go_wp2_with fail
    go_ret
    exact ⟨false, rfl, (by intro h; cases h), Below.refl _ _⟩
  have h70i : ¬ (70 : Int) < (n : Int) := by omega
  have hbz : Below w.heap.size w w := Below.refl _ _
  go_enter Tryd.func28, Tryd.ntmps28
  go_wp2_with fail
  go_loopw [5] (fun i wr => ∃ k : Nat, k ≤ n ∧ i = .int .i64 k ∧ Hid (∀ j, j < k → (qs.getD j pq0).ps.length ≤ 80) ∧ Below w.heap.size w wr) (fun i _ => n - (intOf i).toNat)
  case atStart => exact ⟨0, by omega, rfl, (by intro j hj; omega), hbz⟩
  case round =>
    obtain ⟨k, hk, rfl, HP, hbr⟩ := hrel
    by_cases hlt : k < n
    · obtain ⟨q, HX⟩ : ∃ q, Hid (qs.getD k pq0 = q) := ⟨_, (rfl : _ = _)⟩
      obtain ⟨g, o, ua, mu, uc, rfl, hg, OC, HU, HMU⟩ := (HR.out.on hbr).at hlt HX
      obtain ⟨c0, c1, c2, c3, c4, c5, c6, c7, c8⟩ := OC
      have hki0 : (0 : Int) ≤ (k : Int) := by omega
      have hki1 : (k : Int) < (n : Int) := by omega
      have hmu : mu ≤ 9223372036854775807 := by obtain ⟨_, _, h, h2, h3, _⟩ := HU.out; simp only [Value.slice.injEq] at h; omega
      clear HU
      by_cases h80 : mu ≤ 80
      · have HP2 : Hid (∀ j, j < k + 1 → (qs.getD j pq0).ps.length ≤ 80) := by
          intro j hj
          rcases Nat.eq_or_lt_of_le (Nat.le_of_lt_succ hj) with rfl | hj
          · rw [HX.out, HMU.out]; exact h80
          · exact HP.out j hj
        have HB80 : Hid (decide (mu ≤ 80) = true) := by unfold Hid; simp [h80]
        go_wp2_with fail
        refine (light_any q.pw q.ph ua mu uc _ hmu true HB80).mono ?_
        rintro e w2 ⟨rfl, hb2⟩
        have hbb2 := hbr.trans (hb2.mono hbr.size)
        clear hb2
        go_wp2_with fail
        go_roundw
        case rel => exact ⟨k + 1, by omega, by go_num, HP2, hbb2⟩
        case measure => simp [intOf]; omega
      · have HB80 : Hid (decide (mu ≤ 80) = false) := by unfold Hid; simp [h80]
        go_wp2_with fail
        refine (light_any q.pw q.ph ua mu uc _ hmu false HB80).mono ?_
        rintro e w2 ⟨rfl, hb2⟩
        have hbb2 := hbr.trans (hb2.mono hbr.size)
        go_wp2_with fail
        go_ret
        exact ⟨false, rfl, (by intro h; cases h), hbb2⟩
    · obtain rfl : k = n := by omega
      have HL : Hid (LightQs qs) := ⟨by rw [HN.out]; omega, fun j hj => HP.out j (by rw [HN.out] at hj; exact hj)⟩
      go_wp2_with fail
      go_ret
      exact ⟨true, rfl, fun _ => HL.out, hbr⟩

/-- a book that the laws speak of -/
structure MayQ (qs : List Pq) : Prop where
  light : LightQs qs
  ok : bkC qs = 0
set_option maxHeartbeats 8000000 in
set_option maxRecDepth 100000 in
theorem may_any (v : Value) (qs : List Pq) (w : World) (HS : Hid (Shapes w)) (h1 : 0 < w.heap.size) (HR : Hid (RdQ w v qs)) :
    Calls Tryd.prog 14 #[v] w fun e w' => ∃ b, e = .returned (.bool b) ∧ (b = true → MayQ qs) ∧ Below w.heap.size w w' := by
  obtain ⟨a, cap, hv, _, _⟩ := HR.out.shape
  obtain ⟨n, HN⟩ : ∃ n, Hid (qs.length = n) := ⟨_, (rfl : _ = _)⟩
  rw [HN.out] at hv
  subst hv
  obtain ⟨c, HC⟩ : ∃ c, Hid (bkC qs = c) := ⟨_, (rfl : _ = _)⟩
  go_enter Tryd.func14, Tryd.ntmps14
  go_wp2_with fail
  refine (lightOps_any _ qs _ HR).mono ?_
  rintro e w1 ⟨b, rfl, hl, hb1⟩
  cases b with
  | false =>
    go_wp2_with fail
    go_ret
    exact ⟨false, rfl, (by intro h; cases h), hb1⟩
  | true =>
    have HL := hid_of2 (hl rfl)
    have HS1 : Hid (Shapes w1) := HS.out.on h1 hb1
    have h11 := Nat.lt_of_lt_of_le h1 hb1.size
    have HR1 : Hid (RdQ w1 (.slice a n cap) qs) := HR.out.on hb1
    clear hl
    go_wp2_with fail
    refine (bookCheck_any _ qs _ HS1 h11 HR1 (fun j hj => by have := HL.out.pix j hj; omega) (by have := HL.out.few; omega) c HC).mono ?_
    rintro e w2 ⟨rfl, hb2⟩
    have hbb2 := hb1.trans (hb2.mono hb1.size)
    cases c with
    | succ c =>
      rw [show errV (c + 1) = .iface 61 (.int .i64 ((c + 1 : Nat) : Int)) from rfl]
      go_wp2_with fail
      go_ret
      exact ⟨false, rfl, (by intro h; cases h), hbb2⟩
    | zero =>
      rw [show errV 0 = Value.nilIface from rfl]
      go_wp2_with fail
      go_ret
      exact ⟨true, rfl, fun _ => ⟨HL.out, HC.out⟩, hbb2⟩
theorem MayQ.ps {qs : List Pq} (h : MayQ qs) : ∀ j, j < qs.length → (qs.getD j pq0).ps.length ≤ 100 := fun j hj => by have := h.light.pix j hj; omega
theorem MayQ.len {qs : List Pq} (h : MayQ qs) : qs.length ≤ 1000 := by have := h.light.few; omega

set_option maxHeartbeats 8000000 in
set_option maxRecDepth 100000 in
theorem plain_any (v : Value) (qs : List Pq) (w : World) (HR : Hid (RdQ w v qs)) (hn : qs.length ≤ 1000) :
    Calls Tryd.prog 18 #[v] w fun e w' => ∃ b, e = .returned (.bool b) ∧ (b = true → ∀ q ∈ qs, PlainQ q ∧ q.kind ≠ 1) ∧ Below w.heap.size w w' := by
  obtain ⟨a, cap, hv, hl, hcap⟩ := HR.out.shape
  obtain ⟨n, HN⟩ : ∃ n, Hid (qs.length = n) := ⟨_, (rfl : _ = _)⟩
  rw [HN.out] at hv hl hn
  subst hv
  have hbz : Below w.heap.size w w := Below.refl _ _
  go_enter Tryd.func18, Tryd.ntmps18
  go_wp2_with fail
  go_loopw [3, 4] (fun i _ wr => ∃ k : Nat, k ≤ n ∧ i = .int .i64 k ∧ Hid (∀ j, j < k → PlainQ (qs.getD j pq0) ∧ (qs.getD j pq0).kind ≠ 1) ∧ Below w.heap.size w wr) (fun i _ _ => n - (intOf i).toNat)
  case atStart => exact ⟨0, by omega, rfl, (by intro j hj; omega), hbz⟩
  case round =>
    obtain ⟨k, hk, rfl, HP, hbr⟩ := hrel
    by_cases hlt : k < n
    · obtain ⟨q, HX⟩ : ∃ q, Hid (qs.getD k pq0 = q) := ⟨_, (rfl : _ = _)⟩
      obtain ⟨g, o, ua, mu, uc, rfl, hg, OC, HU, HMU⟩ := (HR.out.on hbr).at hlt HX
      have c0 := OC.c0
      have hki0 : (0 : Int) ≤ (k : Int) := by omega
      have hki1 : (k : Int) < (n : Int) := by omega
      clear HU OC
      by_cases hq : q.kind = 12 ∨ q.kind = 13 ∨ q.kind = 1 ∨ q.kind = 16
      · obtain ⟨kd, HKD⟩ : ∃ kd, Hid (q.kind = kd) := ⟨_, (rfl : _ = _)⟩
        rw [HKD.out] at c0 hq
        rcases hq with rfl | rfl | rfl | rfl
        · go_wp2_with fail
          go_ret
          exact ⟨false, rfl, (by intro h; cases h), hbr⟩
        · go_wp2_with fail
          go_ret
          exact ⟨false, rfl, (by intro h; cases h), hbr⟩
        · go_wp2_with fail
          go_ret
          exact ⟨false, rfl, (by intro h; cases h), hbr⟩
        · go_wp2_with fail
          go_ret
          exact ⟨false, rfl, (by intro h; cases h), hbr⟩
      · have b12 : (q.kind == 12) = false := by rw [beq_eq_false_iff_ne]; omega
        have b13 : (q.kind == 13) = false := by rw [beq_eq_false_iff_ne]; omega
        have b1 : (q.kind == 1) = false := by rw [beq_eq_false_iff_ne]; omega
        have b16 : (q.kind == 16) = false := by rw [beq_eq_false_iff_ne]; omega
        have HP2 : Hid (∀ j, j < k + 1 → PlainQ (qs.getD j pq0) ∧ (qs.getD j pq0).kind ≠ 1) := by
          intro j hj
          rcases Nat.eq_or_lt_of_le (Nat.le_of_lt_succ hj) with rfl | hj
          · rw [HX.out]; exact ⟨⟨by omega, by omega, by omega⟩, by omega⟩
          · exact HP.out j hj
        clear hq
        go_wp2_with fail
        go_roundw
        case rel => exact ⟨k + 1, by omega, by go_num, HP2, hbr⟩
        case measure => simp [intOf]; omega
    · obtain rfl : k = n := by omega
      have HL : Hid (∀ q ∈ qs, PlainQ q ∧ q.kind ≠ 1) := by
        intro q hq
        obtain ⟨j, hj, e⟩ := List.mem_iff_getElem.1 hq
        have := HP.out j (by rw [← HN.out]; exact hj)
        rw [getD_pq hj, e] at this
        exact this
      go_wp2_with fail
      go_ret
      exact ⟨true, rfl, fun _ => HL.out, hbr⟩
end Go.Proofs.YtbdgcomjhblnfaaDoor
/- What is told: what is taken away or hidden, moved and back, waits, backs, loops in loops. -/
namespace Go.Proofs.YtbdgcomjhblnfaaDoor
open Go.RowKit

@[reducible] def mvQ (i x y : Int) : Pq := ⟨3, i, x, y, 0, 0, 0, 0, []⟩
@[reducible] def shQ (i a : Int) : Pq := ⟨5, i, a, 0, 0, 0, 0, 0, []⟩
@[reducible] def drQ (i : Int) : Pq := ⟨7, i, 0, 0, 0, 0, 0, 0, []⟩
@[reducible] def bkQ (v a : Int) : Pq := ⟨10, 0, v, a, 0, 0, 0, 0, []⟩
@[reducible] def wtQ (a : Int) : Pq := ⟨11, 0, a, 0, 0, 0, 0, 0, []⟩
@[reducible] def lpQ (a : Int) : Pq := ⟨12, 0, a, 0, 0, 0, 0, 0, []⟩
@[reducible] def nxQ : Pq := ⟨13, 0, 0, 0, 0, 0, 0, 0, []⟩
@[reducible] def svQ : Pq := ⟨14, 0, 0, 0, 0, 0, 0, 0, []⟩
@[reducible] def skQ : Pq := ⟨15, 0, 0, 0, 0, 0, 0, 0, []⟩
@[reducible] def enQ : Pq := ⟨16, 0, 0, 0, 0, 0, 0, 0, []⟩
@[reducible] def hdQ (a b : Int) : Pq := ⟨1, 0, a, b, 0, 0, 0, 0, []⟩

theorem act_fine (H : Pq) (d d' : Dt) (q : Pq) (h : opC q = 0) (h1 : FineO d.obs) (h2 : FineO d.kept) (hd : actD H d q = .inl d') : FineO d'.obs ∧ FineO d'.kept := by
  unfold actD at hd
  split at hd
  · obtain rfl := Sum.inl.inj hd; exact ⟨h1, h2⟩
  split at hd
  · obtain rfl := Sum.inl.inj hd; exact ⟨h1, h2⟩
  split at hd
  · split at hd
    · cases hd
    · obtain rfl := Sum.inl.inj hd; exact ⟨h1, h2⟩
  split at hd
  · obtain rfl := Sum.inl.inj hd; exact ⟨h1, h1⟩
  split at hd
  · obtain rfl := Sum.inl.inj hd; exact ⟨h2, h2⟩
  split at hd
  · rename_i rs hr
    obtain rfl := Sum.inl.inj hd
    exact ⟨do_fine h1 h hr, h2⟩
  · cases hd
theorem run_fine (H : Pq) : ∀ (r : List Pq) (d d' : Dt), (∀ q ∈ r, opC q = 0) → FineO d.obs → FineO d.kept → runD H r d = .inl d' → FineO d'.obs ∧ FineO d'.kept := by
  intro r
  induction r with
  | nil => intro d d' _ h1 h2 h; obtain rfl := Sum.inl.inj h; exact ⟨h1, h2⟩
  | cons q r ih =>
    intro d d' hq h1 h2 h
    simp only [runD] at h
    cases ha : actD H d q with
    | inr c => rw [ha] at h; cases h
    | inl d1 =>
      rw [ha] at h
      obtain ⟨a1, a2⟩ := act_fine H d d1 q (hq q (by simp)) h1 h2 ha
      exact ih d1 d' (fun z hz => hq z (by simp [hz])) a1 a2 h
theorem dt0_fine : FineO dt0.obs ∧ FineO dt0.kept := ⟨fine_nil, fine_nil⟩
theorem act_wait (H : Pq) (d : Dt) (a : Int) : actD H d (wtQ a) = if 40 ≤ d.frs.length then .inr 7 else .inl { d with frs := d.frs ++ [tellD H d a] } := by
  unfold actD
  rw [if_neg (by simp), if_neg (by simp), if_pos rfl]
theorem act_obj (H : Pq) (d : Dt) (q : Pq) (h : q.kind = 3 ∨ q.kind = 5 ∨ q.kind = 7) : actD H d q = match doO d.obs q with | .inl rs => .inl { d with obs := rs } | .inr c => .inr c := by
  unfold actD
  rw [if_neg (by omega), if_neg (by omega), if_neg (by omega), if_neg (by omega), if_neg (by omega)]
  first | done | (cases doO d.obs q <;> rfl)

/-- two waits with nothing between tell the same -/
theorem told_still (H : Pq) (r : List Pq) (a b : Int) (d0 d : Dt) (h : runD H (r ++ [wtQ a, wtQ b]) d0 = .inl d) :
    ∃ fs f g, d.frs = fs ++ [f, g] ∧ f.d = a ∧ g.d = b ∧ g.W = f.W ∧ g.H = f.H ∧ g.ps = f.ps := by
  rw [runD_app] at h
  cases hr : runD H r d0 with
  | inr c => rw [hr] at h; cases h
  | inl d1 =>
    rw [hr] at h
    simp only [runD, act_wait] at h
    by_cases h1 : 40 ≤ d1.frs.length
    · simp only [if_pos h1] at h; cases h
    · simp only [if_neg h1] at h
      split at h
      · rename_i x hx
        split at hx
        · cases hx
        · obtain rfl := Sum.inl.inj hx
          obtain rfl := Sum.inl.inj h
          exact ⟨d1.frs, tellD H d1 a, tellD H d1 b, by simp [tellD], rfl, rfl, rfl, rfl, rfl⟩
      · cases h

theorem do_drop (os : List Po) (i : Int) : doO os (drQ i) = match os.find? (fun o => decide (o.id = i)) with | none => .inr 5 | some _ => .inl (dropO os i) := by
  unfold doO
  rw [if_neg (by simp)]
  simp only
  cases os.find? (fun o => decide (o.id = i)) with
  | none => rfl
  | some o => simp
theorem do_show (os : List Po) (i a : Int) : doO os (shQ i a) = match os.find? (fun o => decide (o.id = i)) with | none => .inr 5 | some o => .inl (setO os { o with sh := decide (a = 1) }) := by
  unfold doO
  rw [if_neg (by simp)]
  simp only
  cases os.find? (fun o => decide (o.id = i)) with
  | none => rfl
  | some o => simp [actO]
theorem do_move (os : List Po) (i x y : Int) : doO os (mvQ i x y) = match os.find? (fun o => decide (o.id = i)) with | none => .inr 5 | some o => .inl (setO os { o with x := x, y := y }) := by
  unfold doO
  rw [if_neg (by simp)]
  simp only
  cases os.find? (fun o => decide (o.id = i)) with
  | none => rfl
  | some o => simp [actO]
theorem find_ix {os : List Po} {i : Int} {o : Po} (h : os.find? (fun o => decide (o.id = i)) = some o) : ∃ j, j < os.length ∧ os.getD j po0 = o ∧ o.id = i := by
  have hm := List.mem_of_find?_eq_some h
  obtain ⟨j, hj, e⟩ := List.mem_iff_getElem.1 hm
  exact ⟨j, hj, by rw [List.getD_eq_getElem?_getD, List.getElem?_eq_getElem hj]; exact e, by simpa using List.find?_some h⟩
theorem setO_at {os : List Po} (hs : SortO os) {j : Nat} (hj : j < os.length) (x : Po) (hx : (os.getD j po0).id = x.id) : setO os x = os.set j x :=
  setO_put x os j hj (fun k hk => by have := hs k j hk hj; omega) hx
theorem seen_away (W H : Nat) (b : Int × Int) {os : List Po} (hs : SortO os) {i : Int} {o : Po} (h : os.find? (fun o => decide (o.id = i)) = some o) :
    seenL W H b (setO os { o with sh := false }) = seenL W H b (dropO os i) := by
  obtain ⟨j, hj, e, hi⟩ := find_ix h
  rw [setO_at hs hj _ (by rw [e])]
  have := set_hide os hs j hj i (by rw [e]; exact hi)
  rw [e] at this
  unfold seenL dropO
  rw [show ({ o with sh := false } : Po) = o.hide from rfl, this]
  exact seen_hide W i os _
/-- what is taken away is as what is hidden -/
theorem told_away (H : Pq) (r : List Pq) (i : Int) (hr : ∀ q ∈ r, opC q = 0) :
    (match runD H (r ++ [drQ i, wtQ 0]) dt0 with | .inl d => .inl d.frs | .inr c => .inr c : List Pf ⊕ Nat) = (match runD H (r ++ [shQ i 0, wtQ 0]) dt0 with | .inl d => .inl d.frs | .inr c => .inr c) := by
  rw [runD_app, runD_app]
  cases h : runD H r dt0 with
  | inr c => rfl
  | inl d =>
    obtain ⟨hf, _⟩ := run_fine H r dt0 d hr dt0_fine.1 dt0_fine.2 h
    simp only [runD]
    rw [act_obj H d (drQ i) (by simp), act_obj H d (shQ i 0) (by simp), do_drop, do_show]
    cases ho : d.obs.find? (fun o => decide (o.id = i)) with
    | none => rfl
    | some o =>
      simp only [act_wait]
      by_cases h40 : 40 ≤ d.frs.length
      · simp only [if_pos h40]
      · simp only [if_neg h40]
        rw [show (decide ((0 : Int) = 1)) = false from rfl]
        unfold tellD
        simp only
        rw [seen_away _ _ _ hf.sort ho]

theorem find_setO {os : List Po} (hs : SortO os) {i : Int} {o : Po} (h : os.find? (fun o => decide (o.id = i)) = some o) (x : Po) (hx : x.id = i) : (setO os x).find? (fun o => decide (o.id = i)) = some x := by
  obtain ⟨j, hj, e, hi⟩ := find_ix h
  rw [setO_at hs hj x (by rw [e]; omega)]
  have hl : j < (os.set j x).length := by simpa using hj
  have hg : (os.set j x).getD j po0 = x := by simp [List.getD_eq_getElem?_getD, hj]
  have hs2 : SortO (os.set j x) := by
    rw [← setO_at hs hj x (by rw [e]; omega)]; exact setO_sort x os hs
  have := find_at (os.set j x) i hs2 j hl (by rw [hg]; exact hx)
  rw [hg] at this
  exact this
theorem setO_twice {os : List Po} (hs : SortO os) {i : Int} {o : Po} (h : os.find? (fun o => decide (o.id = i)) = some o) (x y : Po) (hx : x.id = i) (hy : y.id = i) : setO (setO os x) y = setO os y := by
  obtain ⟨j, hj, e, hi⟩ := find_ix h
  rw [setO_at hs hj y (by rw [e]; omega)]
  have h2 := setO_at hs hj x (by rw [e]; omega)
  have hs2 := setO_sort x os hs
  rw [h2] at hs2 ⊢
  rw [setO_at hs2 (j := j) (by simpa using hj) y (by simp [List.getD_eq_getElem?_getD, hj]; omega)]
  simp
/-- the ops of one object that is there -/
theorem act_set (H : Pq) (d : Dt) {os : List Po} (hs : SortO os) {i : Int} {o x : Po} (h : os.find? (fun o => decide (o.id = i)) = some o) (hx : x.id = i) (hd : d.obs = setO os x) (mx my : Int) :
    actD H d (mvQ i mx my) = .inl { d with obs := setO os { x with x := mx, y := my } } := by
  rw [act_obj H d _ (by simp), do_move, hd, find_setO hs h x hx]
  simp only
  rw [setO_twice hs h x _ hx (by simpa using hx)]
theorem act_sho (H : Pq) (d : Dt) {os : List Po} (hs : SortO os) {i : Int} {o x : Po} (h : os.find? (fun o => decide (o.id = i)) = some o) (hx : x.id = i) (hd : d.obs = setO os x) (a : Int) :
    actD H d (shQ i a) = .inl { d with obs := setO os { x with sh := decide (a = 1) } } := by
  rw [act_obj H d _ (by simp), do_show, hd, find_setO hs h x hx]
  simp only
  rw [setO_twice hs h x _ hx (by simpa using hx)]
theorem setO_self {os : List Po} (hs : SortO os) {i : Int} {o : Po} (h : os.find? (fun o => decide (o.id = i)) = some o) : setO os o = os := by
  obtain ⟨j, hj, e, hi⟩ := find_ix h
  rw [setO_at hs hj o (by rw [e]), ← e]
  apply List.ext_getElem
  · simp
  · intro k h1 h2
    rw [List.getElem_set]
    split
    · rename_i hk; subst hk
      rw [List.getD_eq_getElem?_getD, List.getElem?_eq_getElem h2]; rfl
    · rfl
theorem app3 {α : Type} (a : List α) (x y z : α) : a ++ [x] ++ [y] ++ [z] = a ++ [x, y, z] := by simp
def moveQs (i x y : Int) : List Pq := [mvQ i 0 0, shQ i 1, wtQ 0, mvQ i x y, wtQ 0, shQ i 0, mvQ i 0 0, shQ i 1, wtQ 0]
/-- what is moved and back is seen as before -/
theorem told_move (H : Pq) (r : List Pq) (i x y : Int) (hr : ∀ q ∈ r, opC q = 0) (d : Dt) (h : runD H (r ++ moveQs i x y) dt0 = .inl d) :
    ∃ fs f g k, d.frs = fs ++ [f, g, k] ∧ k.W = f.W ∧ k.H = f.H ∧ k.ps = f.ps := by
  rw [runD_app] at h
  cases hr1 : runD H r dt0 with
  | inr c => rw [hr1] at h; cases h
  | inl d0 =>
    obtain ⟨hf, _⟩ := run_fine H r dt0 d0 hr dt0_fine.1 dt0_fine.2 hr1
    rw [hr1] at h
    simp only [moveQs, runD] at h
    cases ho : d0.obs.find? (fun o => decide (o.id = i)) with
    | none =>
      rw [act_obj H d0 _ (by simp), do_move, ho] at h
      cases h
    | some o =>
      obtain ⟨_, _, _, hi⟩ := find_ix ho
      have hs := hf.sort
      rw [act_set H d0 hs ho hi (setO_self hs ho).symm] at h
      simp only at h
      rw [act_sho H _ hs ho (x := { o with x := 0, y := 0 }) hi rfl] at h
      simp only [act_wait] at h
      by_cases h1 : 40 ≤ d0.frs.length
      · simp only [if_pos h1] at h; cases h
      simp only [if_neg h1] at h
      rw [act_set H _ hs ho (x := { o with x := 0, y := 0, sh := decide ((1 : Int) = 1) }) hi rfl] at h
      simp only at h
      split at h
      · rename_i e1 he1
        split at he1
        · cases he1
        obtain rfl := Sum.inl.inj he1
        rw [act_sho H _ hs ho (x := { o with x := x, y := y, sh := decide ((1 : Int) = 1) }) hi rfl] at h
        simp only at h
        rw [act_set H _ hs ho (x := { o with x := x, y := y, sh := decide ((0 : Int) = 1) }) hi rfl] at h
        simp only at h
        rw [act_sho H _ hs ho (x := { o with x := 0, y := 0, sh := decide ((0 : Int) = 1) }) hi rfl] at h
        simp only at h
        split at h
        · rename_i e2 he2
          split at he2
          · cases he2
          obtain rfl := Sum.inl.inj he2
          obtain rfl := Sum.inl.inj h
          exact ⟨d0.frs, _, _, _, app3 _ _ _ _, rfl, rfl, rfl⟩
        · cases h
      · cases h

def lastB (l : List (Int × Int)) (d : Int × Int) : Int × Int := l.foldl (fun _ p => p) d
theorem told_backs (H : Pq) : ∀ (l : List (Int × Int)) (d : Dt), runD H (l.map fun p => bkQ p.1 p.2) d = .inl { d with bv := (lastB l (d.bv, d.ba)).1, ba := (lastB l (d.bv, d.ba)).2 } := by
  intro l
  induction l with
  | nil => intro d; rfl
  | cons p l ih =>
    intro d
    simp only [List.map_cons, runD]
    have : actD H d (bkQ p.1 p.2) = .inl { d with bv := p.1, ba := p.2 } := by
      unfold actD
      rw [if_neg (by simp), if_pos rfl]
    rw [this]
    exact ih _
theorem told_back (l : List (Int × Int)) (W H : Int) : runD (hdQ W H) (hdQ W H :: (l.map (fun p => bkQ p.1 p.2) ++ [wtQ 1])) dt0 = .inl { dt0 with bv := (lastB l (0, 0)).1, ba := (lastB l (0, 0)).2, frs := [⟨W, H, List.replicate (W.toNat * H.toNat) (lastB l (0, 0)), 1⟩] } := by
  have h0 : actD (hdQ W H) dt0 (hdQ W H) = .inl dt0 := by unfold actD; rw [if_pos rfl]
  simp only [runD, h0]
  rw [runD_app, told_backs]
  simp only [runD, act_wait]
  rw [if_neg (by simp [dt0])]
  simp [dt0, tellD, seenL]

theorem it_wait (H : Pq) (w : Int) : ∀ (t : Nat) (d : Dt), d.frs.length + t ≤ 40 → ∃ d', itB (runD H [wtQ w]) t d = .inl d' ∧ d'.frs.length = d.frs.length + t := by
  intro t
  induction t with
  | zero => intro d _; exact ⟨d, rfl, rfl⟩
  | succ t ih =>
    intro d h
    simp only [itB, runD, act_wait]
    rw [if_neg (by omega)]
    obtain ⟨d', h1, h2⟩ := ih { d with frs := d.frs ++ [tellD H d w] } (by simp only [List.length_append, List.length_singleton]; omega)
    exact ⟨d', h1, by rw [h2]; simp only [List.length_append, List.length_singleton]; omega⟩
theorem it_nest (H : Pq) (w : Int) (b : Nat) : ∀ (t : Nat) (d : Dt), d.frs.length + t * b ≤ 40 → ∃ d', itB (itB (runD H [wtQ w]) b) t d = .inl d' ∧ d'.frs.length = d.frs.length + t * b := by
  intro t
  induction t with
  | zero => intro d _; exact ⟨d, rfl, by omega⟩
  | succ t ih =>
    intro d h
    rw [Nat.succ_mul] at h
    obtain ⟨d1, h1, h2⟩ := it_wait H w b d (by omega)
    simp only [itB, h1]
    obtain ⟨d', h3, h4⟩ := ih d1 (by omega)
    exact ⟨d', h3, by rw [h4, h2, Nat.succ_mul]; omega⟩
/-- a loop in a loop -/
theorem told_nest (a b : Nat) (w : Int) (ha : a ≤ 9) (h40 : a * b ≤ 40) : ∃ fs, playM [hdQ 1 1, lpQ a, lpQ b, wtQ w, nxQ, nxQ, enQ] 400 ms0 = .inl fs ∧ fs.length = a * b := by
  obtain ⟨qs, hqs⟩ : ∃ qs, [hdQ 1 1, lpQ a, lpQ b, wtQ w, nxQ, nxQ, enQ] = qs := ⟨_, rfl⟩
  rw [hqs]
  have l1 := leads_run qs [hdQ 1 1] [lpQ a, lpQ b, wtQ w, nxQ, nxQ, enQ] 0 (by rw [← hqs]; rfl) (by intro q hq; simp at hq; subst hq; exact ⟨by simp, by simp, by simp⟩)
  have l2 := leads_run qs [wtQ w] [nxQ, nxQ, enQ] 3 (by rw [← hqs]; rfl) (by intro q hq; simp at hq; subst hq; exact ⟨by simp, by simp, by simp⟩)
  have c2 : Clo qs 2 4 := clo_plain qs [wtQ w] [nxQ, enQ] (lpQ b) nxQ 2 (by rw [← hqs]; rfl) rfl rfl (by intro q hq; simp at hq; subst hq; exact ⟨by simp, by simp, by simp⟩)
  have l3 := leads_loop (p := 2) l2 (L := lpQ b) (N := nxQ) (by rw [← hqs]; rfl) rfl (by rw [← hqs]; rfl) rfl b rfl c2
  have c1 : Clo qs 1 5 := by
    refine ⟨by omega, by rw [← hqs]; simp, by rw [← hqs]; rfl, by rw [← hqs]; rfl, by rw [← hqs]; simp [dep, opn], fun k h1 h2 => ?_⟩
    have : k = 2 ∨ k = 3 ∨ k = 4 ∨ k = 5 := by omega
    rw [← hqs]
    rcases this with rfl | rfl | rfl | rfl <;> simp [dep, opn]
  have l4 := leads_loop (p := 1) l3 (L := lpQ a) (N := nxQ) (by rw [← hqs]; rfl) rfl (by rw [← hqs]; rfl) rfl a rfl c1
  have l5 := l1.then (show Leads qs (0 + [hdQ 1 1].length) _ _ _ from l4)
  have hfu : [hdQ 1 1].length + (a * (b * ([wtQ w].length + 1) + 1 + 1) + 1) ≤ 400 := by
    simp only [List.length_singleton]
    have e : a * (b * (1 + 1) + 1 + 1) = 2 * (a * b) + 2 * a := by
      rw [show b * (1 + 1) + 1 + 1 = 2 * b + 2 by omega, Nat.mul_add, Nat.mul_left_comm]
      omega
    omega
  have := leads_play l5 (E := enQ) (by rw [← hqs]; rfl) rfl 400 hfu
  rw [this]
  obtain ⟨d', h1, h2⟩ := it_nest (qs.getD 0 pq0) w b a dt0 (by simp [dt0]; exact h40)
  have h0 : runD (qs.getD 0 pq0) [hdQ 1 1] dt0 = .inl dt0 := by
    simp only [runD]
    have : actD (qs.getD 0 pq0) dt0 (hdQ 1 1) = .inl dt0 := by unfold actD; rw [if_pos rfl]
    rw [this]
  rw [h0]
  dsimp only
  rw [h1]
  exact ⟨d'.frs, rfl, by rw [h2]; simp [dt0]⟩
end Go.Proofs.YtbdgcomjhblnfaaDoor
/- Walk of the laws' closed fact: works. -/
namespace Go.Proofs.YtbdgcomjhblnfaaDoor
open Go.RowKit Go.Maps

theorem own_news {w : World} {T : TypeId} {B : Nat} (cs : List Value) (s n : Nat) (hB : B ≤ w.heap.size) (hl : cs.length = n * s) (hn : n ≤ 1000) : (w.alloc (.cells cs.toArray T)).ownsRow B T s (.slice (some ⟨w.heap.size, 0, none⟩) n n) n cs :=
  ⟨hl, .inr ⟨w.heap.size, n, cs.toArray, rfl, hB, heap_alloc_new w _, Nat.le_refl _, by unfold maxLen; omega, by simp [hl], by rw [← hl]; simp⟩⟩
/-- ops of no picture, just made -/
def litQ (l : List Pq) : List (Pq × Value) := l.map fun q => (q, .slice none 0 0)
theorem litQ_fst (l : List Pq) : (litQ l).map Prod.fst = l := by
  induction l with
  | nil => rfl
  | cons q r ih => simp only [litQ, List.map_cons] at ih ⊢; rw [ih]
theorem own_lits {w : World} {B : Nat} (l : List Pq) (hB : B ≤ w.heap.size) (hp : ∀ q ∈ l, q.ps = []) (hn : l.length ≤ 1000) : OwnQ (w.alloc (.cells (qrCells (litQ l)).toArray 37)) B (.slice (some ⟨w.heap.size, 0, none⟩) l.length l.length) (litQ l) := by
  have hl : (litQ l).length = l.length := by simp [litQ]
  refine ⟨?_, fun q hq => ?_⟩
  · rw [hl]; exact own_news _ 9 _ hB (by rw [qrCells_length, hl]) hn
  · obtain ⟨x, hx, rfl⟩ := List.mem_map.1 hq
    simp only [hp x hx]
    exact World.ownsRow_nil _ _ _ _
theorem rd_lits {w : World} (l : List Pq) (hp : ∀ q ∈ l, q.ps = []) (hn : l.length ≤ 1000) : RdQ (w.alloc (.cells (qrCells (litQ l)).toArray 37)) (.slice (some ⟨w.heap.size, 0, none⟩) l.length l.length) l := by
  have := (own_lits l (Nat.le_refl w.heap.size) hp hn).rd
  rw [litQ_fst] at this
  exact this
@[reducible] def wkQ : List Pq := [hdQ 1 1, bkQ 7 255, wtQ 3, enQ]
theorem works_play : playR wkQ 9 = .inl [⟨1, 1, [(7, 255)], 3⟩] := by rfl

set_option maxHeartbeats 8000000 in
set_option maxRecDepth 100000 in
theorem works_any (w : World) (HS : Hid (Shapes w)) (h1 : 0 < w.heap.size) :
    Calls Tryd.prog 13 #[] w fun e w' => e = .returned (.bool true) ∧ Below w.heap.size w w' := by
  have hb0 : Below w.heap.size w (w.alloc (.cells (qrCells (litQ wkQ)).toArray 37)) := (Below.refl _ _).alloc (Nat.le_refl _) _
  have HR0 : Hid (RdQ (w.alloc (.cells (qrCells (litQ wkQ)).toArray 37)) (.slice (some ⟨w.heap.size, 0, none⟩) 4 4) wkQ) := rd_lits wkQ (by intro q hq; simp at hq; rcases hq with rfl | rfl | rfl | rfl <;> rfl) (by simp)
  have HS0 : Hid (Shapes (w.alloc (.cells (qrCells (litQ wkQ)).toArray 37))) := HS.out.on h1 hb0
  have h10 := Nat.lt_of_lt_of_le h1 hb0.size
  have HPL := mplay_any _ wkQ 9 _ HS0 h10 HR0 (by intro j hj; match j, hj with | 0, _ => simp | 1, _ => simp | 2, _ => simp | 3, _ => simp | j + 4, hj => exact absurd hj (by have e : wkQ.length = 4 := rfl; omega)) (by simp) (by omega)
  rw [works_play] at HPL
  have HPH := hid_of2 HPL
  clear HPL
  go_enter Tryd.func13, Tryd.ntmps13
  go_wp2_with fail
  refine HPH.out.mono ?_
  rintro e w1 ⟨hb1, hh⟩
  have hbb1 := hb0.trans (hb1.mono hb0.size)
  rcases hh with ⟨v1, fv, rfl, ho, hr⟩ | ⟨c, _, hr, _⟩
  case inr => cases hr
  have hfv := (Sum.inl.inj hr).symm
  have hl : fv.length = 1 := by have := congrArg List.length hfv; simpa using this
  obtain ⟨va, vc, hv⟩ := own_any ho.1
  rw [hl] at hv
  subst hv
  have HRF := ho.rd
  rw [hfv] at HRF
  obtain ⟨g, o, ua, m, uc, rfl, hg, c0, c1, c2, c3, HU, HM⟩ := HRF.at (k := 0) (by omega) (f := ⟨1, 1, [(7, 255)], 3⟩) (rfl : _ = _)
  obtain ⟨ua', uc', hu, _, _, hcell⟩ := HU.out
  simp only [Value.slice.injEq, List.length_singleton] at hu
  obtain ⟨rfl, rfl, rfl⟩ := hu
  obtain ⟨pg, po, rfl, hpg, hp⟩ := hcell (by simp)
  have p0 := (hp 0 (by simp)).1
  simp only [Nat.zero_mul, Nat.add_zero, List.getD_cons_zero] at c0 c1 c2 c3 p0
  clear hp hcell HU HM ho hfv hr HRF
  go_wp2_with fail
  go_ret
  exact ⟨rfl, hbb1⟩
end Go.Proofs.YtbdgcomjhblnfaaDoor
/- What is played may be. -/
namespace Go.Proofs.YtbdgcomjhblnfaaDoor
open Go.RowKit Go.Maps

/-- a frame that may be -/
structure FrG (f : Pf) : Prop where
  pic : checkL f.W f.H f.ps = 0
  low : 0 ≤ f.d
  high : f.d ≤ 99
theorem op_wait (q : Pq) (h : opC q = 0) (hk : q.kind = 11) : 0 ≤ q.a ∧ q.a ≤ 99 := by
  obtain ⟨_, _, h3, _⟩ := op_shape q h ⟨11, [87, 65, 73, 84], false, 1, 0, 99, false⟩ (by rw [hk]; rfl)
  simp [inB, nums4] at h3
  omega
theorem tellF_good {qs : List Pq} {s : Ms} (hb : Book qs) (hw : Way qs s) (d : Int) (h1 : 0 ≤ d) (h2 : d ≤ 99) : FrG (tellF qs s d) := by
  have h0 : 0 < qs.length := by have := hb.two; omega
  obtain ⟨ha, hb'⟩ := op_head _ (hb.ok 0 h0) ((hb.head 0 h0).2 rfl)
  obtain ⟨W, hWe⟩ : ∃ W : Nat, (qs.getD 0 pq0).a = (W : Int) := ⟨_, (Int.toNat_of_nonneg (by omega)).symm⟩
  obtain ⟨H, hHe⟩ : ∃ H : Nat, (qs.getD 0 pq0).b = (H : Int) := ⟨_, (Int.toNat_of_nonneg (by omega)).symm⟩
  refine ⟨?_, h1, h2⟩
  unfold tellF
  simp only
  rw [hWe, hHe, Int.toNat_natCast, Int.toNat_natCast]
  exact seen_check W H s.bv s.ba (by omega) (by omega) (by omega) (by omega) hw.bv.1 hw.bv.2 hw.ba.1 hw.ba.2 s.obs hw.obs.ok
theorem doM_frs {qs : List Pq} {s s' : Ms} {q : Pq} (h : doM qs s q = .inl s') : s'.frs = s.frs ∨ (q.kind = 11 ∧ s'.frs = s.frs ++ [tellF qs s q.a]) := by
  unfold doM at h
  split at h
  · obtain rfl := Sum.inl.inj h; exact .inl rfl
  split at h
  · obtain rfl := Sum.inl.inj h; exact .inl rfl
  split at h
  · rename_i hk
    split at h
    · cases h
    · obtain rfl := Sum.inl.inj h; exact .inr ⟨hk, rfl⟩
  split at h
  · split at h
    · obtain rfl := Sum.inl.inj h; exact .inl rfl
    · obtain rfl := Sum.inl.inj h; exact .inl rfl
  split at h
  · split at h
    · obtain rfl := Sum.inl.inj h; exact .inl rfl
    · obtain rfl := Sum.inl.inj h; exact .inl rfl
  split at h
  · obtain rfl := Sum.inl.inj h; exact .inl rfl
  split at h
  · obtain rfl := Sum.inl.inj h; exact .inl rfl
  split at h
  · obtain rfl := Sum.inl.inj h; exact .inl rfl
  · cases h
theorem stepM_frs {qs : List Pq} {s s' : Ms} (hb : Book qs) (hw : Way qs s) (h : stepM qs s = .inl s') (hf : ∀ f ∈ s.frs, FrG f) : ∀ f ∈ s'.frs, FrG f := by
  by_cases hd : doneM qs s
  · unfold stepM at h
    rw [if_pos hd] at h
    obtain rfl := Sum.inl.inj h
    exact hf
  · rw [stepM_not hd] at h
    cases hr : doM qs s (qs.getD s.pc pq0) with
    | inr c => rw [hr] at h; cases h
    | inl t =>
      rw [hr] at h
      obtain rfl := Sum.inl.inj h
      intro f hm
      simp only at hm
      rcases doM_frs hr with e | ⟨hk, e⟩
      · rw [e] at hm; exact hf f hm
      · rw [e] at hm
        rcases List.mem_append.1 hm with hm | hm
        · exact hf f hm
        · simp at hm
          subst hm
          obtain ⟨a1, a2⟩ := op_wait _ (hb.ok _ hw.on) hk
          exact tellF_good hb hw _ a1 a2
theorem playM_frs {qs : List Pq} (hb : Book qs) : ∀ (f : Nat) (s : Ms) (fs : List Pf), Way qs s → (∀ f ∈ s.frs, FrG f) → playM qs f s = .inl fs → fs.length ≤ 40 ∧ ∀ f ∈ fs, FrG f := by
  intro f
  induction f with
  | zero =>
    intro s fs hw hf h
    unfold playM at h
    split at h
    · obtain rfl := Sum.inl.inj h; exact ⟨hw.frs, hf⟩
    · cases h
  | succ f ih =>
    intro s fs hw hf h
    unfold playM at h
    split at h
    · obtain rfl := Sum.inl.inj h; exact ⟨hw.frs, hf⟩
    · cases hr : stepM qs s with
      | inl s' => rw [hr] at h; exact ih s' fs (stepM_way hb hw hr) (stepM_frs hb hw hr hf) h
      | inr c => rw [hr] at h; cases h
theorem playR_frs {qs : List Pq} {fuel : Int} {fs : List Pf} (h : playR qs fuel = .inl fs) : fs.length ≤ 40 ∧ ∀ f ∈ fs, FrG f := by
  unfold playR at h
  split at h
  · cases h
  · rename_i hc
    have hb : Book qs := book_of (by omega)
    exact playM_frs hb _ ms0 fs (way0 hb) (by simp [ms0]) h
theorem playR_err {qs : List Pq} {fuel : Int} {c : Nat} (h : playR qs fuel = .inr c) (hc : bkC qs = 0) : playM qs (min fuel 400).toNat ms0 = .inr c := by
  unfold playR at h
  rw [if_neg (by omega)] at h
  exact h
theorem playR_ok {qs : List Pq} {fuel : Int} (hc : bkC qs = 0) : playR qs fuel = playM qs (min fuel 400).toNat ms0 := by
  unfold playR
  rw [if_neg (by omega)]
theorem frs_px {fs : List Pf} (h : ∀ f ∈ fs, FrG f) : ∀ f ∈ fs, f.ps.length ≤ 1000 := fun f hf => by have := check_len _ _ _ (h f hf).pic; omega
/-- more fuel -/
theorem playR_more {qs : List Pq} {fuel more : Int} (hc : bkC qs = 0) (hm : 0 ≤ more) (h : playR qs fuel ≠ .inr 8) : playR qs (fuel + more) = playR qs fuel := by
  rw [playR_ok hc, playR_ok hc] at *
  have e : (min (fuel + more) 400).toNat = (min fuel 400).toNat + ((min (fuel + more) 400).toNat - (min fuel 400).toNat) := by omega
  rw [e]
  exact play_more qs _ _ ms0 h
/-- what Play answers, in one form: frames (none, where there is an error), and an error's number -/
def PlayO (r : List Pf ⊕ Nat) (c : Nat) (fs : List Pf) : Prop := (c = 0 ∧ r = .inl fs) ∨ (c ≠ 0 ∧ r = .inr c ∧ fs = [])
theorem rdF_nil (w : World) : RdF w (.slice none 0 0) [] := ⟨none, 0, rfl, by simp, by omega, fun h => absurd rfl h⟩
theorem play_out {B : Nat} {r : List Pf ⊕ Nat} {w : World} {e : Ending} {w' : World} (h : PlayP B r w e w') :
    Below w.heap.size w w' ∧ ∃ a n k c fs, e = .returned (.tuple #[.slice a n k, errV c]) ∧ RdF w' (.slice a n k) fs ∧ PlayO r c fs := by
  obtain ⟨hb, hh⟩ := h
  refine ⟨hb, ?_⟩
  rcases hh with ⟨v', fv, he, ho, hr⟩ | ⟨c, hc, hr, he⟩
  · obtain ⟨a, k, hv⟩ := own_any ho.1
    subst hv
    exact ⟨a, fv.length, k, 0, fv.map Prod.fst, he, ho.rd, .inl ⟨rfl, hr⟩⟩
  · exact ⟨none, 0, 0, c, [], he, rdF_nil _, .inr ⟨hc, hr, rfl⟩⟩
theorem PlayO.same {r : List Pf ⊕ Nat} {c c' : Nat} {fs fs' : List Pf} (h : PlayO r c fs) (h' : PlayO r c' fs') : c' = c ∧ fs' = fs := by
  rcases h with ⟨h1, h2⟩ | ⟨h1, h2, h3⟩ <;> rcases h' with ⟨g1, g2⟩ | ⟨g1, g2, g3⟩
  · rw [h2] at g2; exact ⟨by omega, (Sum.inl.inj g2).symm⟩
  · rw [h2] at g2; cases g2
  · rw [h2] at g2; cases g2
  · rw [h2] at g2; exact ⟨(Sum.inr.inj g2).symm, by rw [g3, h3]⟩
theorem PlayO.good {qs : List Pq} {fuel : Int} {c : Nat} {fs : List Pf} (h : PlayO (playR qs fuel) c fs) : fs.length ≤ 40 ∧ ∀ f ∈ fs, FrG f := by
  rcases h with ⟨_, h⟩ | ⟨_, _, h⟩
  · exact playR_frs h
  · subst h; exact ⟨by simp, by simp⟩
end Go.Proofs.YtbdgcomjhblnfaaDoor
/- Lists of ops that a law puts together: rows of its own, whose pixels lie where they came from. -/
namespace Go.Proofs.YtbdgcomjhblnfaaDoor
open Go.RowKit Go.Maps Go.Joins Go.Deep

/-- a row of ops of one's own; the pixels lie in the world W0 -/
def ShQ (W0 w : World) (v : Value) (qs : List Pq) : Prop :=
  ∃ qv : List (Pq × Value), w.ownsRow W0.heap.size 37 9 v qv.length (qrCells qv) ∧ (∀ q ∈ qv, RdP W0 q.2 q.1.ps) ∧ qv.map Prod.fst = qs
theorem ShQ.len {W0 w : World} {v : Value} {qs : List Pq} (h : ShQ W0 w v qs) : ∃ a c, v = .slice a qs.length c ∧ qs.length ≤ c := by
  obtain ⟨qv, h1, _, h3⟩ := h
  obtain ⟨a, c, hv⟩ := own_any h1
  have hl : qs.length = qv.length := by rw [← h3]; simp
  subst hv
  exact ⟨a, c, by rw [hl], by rw [hl]; exact own_cap h1⟩
theorem ShQ.on {W0 w w' : World} {v : Value} {qs : List Pq} (h : ShQ W0 w v qs) (hb : Below w.heap.size w w') : ShQ W0 w' v qs := by
  obtain ⟨qv, h1, h2, h3⟩ := h
  exact ⟨qv, own_on2 h1 hb, h2, h3⟩
theorem ShQ.kept {W0 w w' : World} {v : Value} {qs : List Pq} {row : Option Nat} (h : ShQ W0 w v qs) (hg : w.grownBy w' row) (hne : v.ownBlock = none ∨ v.ownBlock ≠ row) : ShQ W0 w' v qs := by
  obtain ⟨qv, h1, h2, h3⟩ := h
  exact ⟨qv, h1.kept hg hne, h2, h3⟩
theorem ShQ.rd {W0 w : World} {v : Value} {qs : List Pq} (h : ShQ W0 w v qs) (hb : Below W0.heap.size W0 w) : RdQ w v qs := by
  obtain ⟨qv, h1, h2, h3⟩ := h
  subst h3
  rcases h1.2 with ⟨rfl, h0⟩ | ⟨g, cap, cur, rfl, hbg, hg, hn, hm, hs, ht⟩
  · have : qv = [] := List.length_eq_zero_iff.1 h0
    subst this
    exact ⟨none, 0, rfl, by simp, by omega, fun h => absurd rfl h⟩
  · unfold maxLen at hm
    refine ⟨some ⟨g, 0, none⟩, cap, by simp, by simpa using hn, by omega, fun hne => ⟨g, 0, rfl, lt_of_some hg, fun j hj => ?_⟩⟩
    rw [List.length_map] at hj
    have e : (qv.map Prod.fst).getD j pq0 = (qv.getD j qq0).1 := by
      simp [List.getD_eq_getElem?_getD, List.getElem?_eq_getElem hj]
    have hmem : qv.getD j qq0 ∈ qv := by
      rw [List.getD_eq_getElem?_getD, List.getElem?_eq_getElem hj]
      simp
    rw [e]
    have hc : ∀ x, x < 9 → w.cell? ⟨g, 0 + j * 9 + x, none⟩ = (qCells (qv.getD j qq0).1 (qv.getD j qq0).2)[x]? := fun x hx => by
      rw [Nat.zero_add, h1.cellAt (j * 9 + x) (by omega)]
      exact qrCells_at qv j x hj hx
    exact ⟨(qv.getD j qq0).2, ⟨hc 0 (by omega), hc 1 (by omega), hc 2 (by omega), hc 3 (by omega), hc 4 (by omega), hc 5 (by omega), hc 6 (by omega), hc 7 (by omega), hc 8 (by omega)⟩, (h2 _ hmem).on hb⟩
theorem sh_nil (W0 w : World) : ShQ W0 w (.slice none 0 0) [] := ⟨[], World.ownsRow_nil _ _ _ _, by simp, rfl⟩
theorem sh_lit {W0 w : World} (hb : Below W0.heap.size W0 w) (l : List Pq) (hp : ∀ q ∈ l, q.ps = []) (hn : l.length ≤ 1000) :
    ShQ W0 (w.alloc (.cells (qrCells (litQ l)).toArray 37)) (.slice (some ⟨w.heap.size, 0, none⟩) l.length l.length) l := by
  have hl : (litQ l).length = l.length := by simp [litQ]
  refine ⟨litQ l, ?_, fun q hq => ?_, litQ_fst l⟩
  · rw [hl]; exact own_news _ 9 _ hb.size (by rw [qrCells_length, hl]) hn
  · obtain ⟨x, hx, rfl⟩ := List.mem_map.1 hq
    simp only [hp x hx]
    exact rdP_nil _
theorem qr_one {W0 : World} : ∀ (rv : List (Pq × Value)), (∀ r ∈ rv, RdP W0 r.2 r.1.ps) → ∀ u ∈ qrCells rv, u.oneCell' = true := by
  intro rv
  induction rv with
  | nil => intro _ u hu; simp [qrCells] at hu
  | cons r rv ih =>
    intro h u hu
    obtain ⟨x, y⟩ := r
    simp only [qrCells, List.mem_append] at hu
    rcases hu with hu | hu
    · obtain ⟨a, c, hy, _⟩ := h (x, y) (by simp)
      simp only at hy
      subst hy
      exact q_one x _ rfl u hu
    · exact ih (fun r hr => h r (by simp [hr])) u hu
/-- what an append leaves -/
structure AppR (W0 w : World) (v v' : Value) (w' : World) (qs : List Pq) : Prop where
  row : ShQ W0 w' v' qs
  bel : Below W0.heap.size W0 w'
  grown : w.grownBy w' v.ownBlock
  blk : ∀ g, v'.ownBlock = some g → v.ownBlock = some g ∨ w.heap.size ≤ g
theorem sh_app {W0 w : World} {v : Value} {qs : List Pq} (h : ShQ W0 w v qs) (hb : Below W0.heap.size W0 w) (rv : List (Pq × Value)) (hr : ∀ r ∈ rv, RdP W0 r.2 r.1.ps) (a : Addr) (m c : Nat) (hm : rv.length = m)
    (hcell : ∀ j u, (qrCells rv)[j]? = some u → w.cell? (a.add j) = some u) (hlim : qs.length + m ≤ 1000) :
    ∃ v' w', (Builtin.append_ #[22, 22] 22 #[v, .slice (some a) m c]).run Tryd.prog w = .ok v' w' ∧ AppR W0 w v v' w' (qs ++ rv.map Prod.fst) := by
  obtain ⟨i0, hi, hz0, hz1, hz2⟩ := info_parts Tryd.infoOp
  obtain ⟨qv, h1, h2, h3⟩ := h
  have hl : qs.length = qv.length := by rw [← h3]; simp
  obtain ⟨v', w', hrun, r1, r2, _, r4⟩ := run_append_own_at (P := Tryd.prog) w W0.heap.size 22 22 37 i0 (.agg #[.int .i64 0, .int .i64 0, .int .i64 0, .int .i64 0, .int .i64 0, .int .i64 0, .int .i64 0, .int .i64 0, .slice none 0 0]) 9 88 Tryd.underlying22 hi hz0 hz1 hz2 rfl (by decide) v qv.length (qrCells qv) h1 a m c (qrCells rv) (by rw [qrCells_length, hm]) hcell (qr_one rv hr) (by unfold maxLen; omega) (by omega) hb.size
  refine ⟨v', w', hrun, ⟨⟨qv ++ rv, ?_, fun q hq => ?_, by rw [List.map_append, h3]⟩, hb.grown r2 hb.size (fun z hz => (h1.lt z hz).1), r2, fun g hg => ?_⟩⟩
  · rw [List.length_append, hm, qrCells_app]; exact r1
  · rcases List.mem_append.1 hq with hq | hq
    · exact h2 q hq
    · exact hr q hq
  · rcases r4 with r4 | r4
    · exact .inl (by rw [← r4]; exact hg)
    · rw [r4] at hg; simp at hg; exact .inr (by omega)
/-- an append of ops just told -/
theorem sh_app_lit {W0 w : World} {v : Value} {qs : List Pq} (h : ShQ W0 w v qs) (hb : Below W0.heap.size W0 w) (l : List Pq) (hp : ∀ q ∈ l, q.ps = []) (hlim : qs.length + l.length ≤ 1000) :
    ∃ v' w', (Builtin.append_ #[22, 22] 22 #[v, .slice (some ⟨w.heap.size, 0, none⟩) l.length l.length]).run Tryd.prog (w.alloc (.cells (qrCells (litQ l)).toArray 37)) = .ok v' w' ∧ AppR W0 (w.alloc (.cells (qrCells (litQ l)).toArray 37)) v v' w' (qs ++ l) := by
  have hx : Below w.heap.size w (w.alloc (.cells (qrCells (litQ l)).toArray 37)) := (Below.refl _ _).alloc (Nat.le_refl _) _
  have := sh_app (h.on hx) (hb.trans (hx.mono hb.size)) (litQ l) (by
    intro q hq
    obtain ⟨x, hx, rfl⟩ := List.mem_map.1 hq
    simp only [hp x hx]
    exact rdP_nil _) ⟨w.heap.size, 0, none⟩ l.length l.length (by simp [litQ]) (fun j u hj => new_cells w _ _ j u hj) hlim
  rw [litQ_fst] at this
  exact this
theorem run_app_none (w : World) (c : Nat) {i : TypeInfo} (hi : Tryd.prog.info? 37 = some i) {B : Nat} {v : Value} {n : Nat} {xs : List Value} (hown : w.ownsRow B 37 9 v n xs) :
    (Builtin.append_ #[22, 22] 22 #[v, .slice none 0 c]).run Tryd.prog w = .ok v w := by
  rcases hown.2 with ⟨rfl, rfl⟩ | ⟨g, cap, cur, rfl, _, _, hnc, _⟩
  · simp [Builtin.append_, run_underlying Tryd.underlying22, sizeOf, typeInfo, hi, Builtin.lenOf, Builtin.firstCells]
  · simp [Builtin.append_, run_underlying Tryd.underlying22, sizeOf, typeInfo, hi, Builtin.lenOf, Builtin.firstCells, hnc, storeCells]
/-- an append of ops that were handed in -/
theorem sh_app_rd {W0 w : World} {v : Value} {qs : List Pq} (h : ShQ W0 w v qs) (hb : Below W0.heap.size W0 w) {x : Value} {rs : List Pq} (HX : RdQ W0 x rs) (hlim : qs.length + rs.length ≤ 1000) :
    ∃ v' w', (Builtin.append_ #[22, 22] 22 #[v, x]).run Tryd.prog w = .ok v' w' ∧ AppR W0 w v v' w' (qs ++ rs) := by
  obtain ⟨i0, hi, _, _, _⟩ := info_parts Tryd.infoOp
  obtain ⟨a, c, hx, hl, hc, hh⟩ := HX
  subst hx
  cases a with
  | none =>
    have hrs : rs = [] := by
      apply Classical.byContradiction
      intro hne
      obtain ⟨g, off, ha, _⟩ := hh hne
      cases ha
    subst hrs
    obtain ⟨qv, h1, h2, h3⟩ := h
    have hrun := run_app_none w c hi h1
    exact ⟨v, w, hrun, ⟨by rw [List.append_nil]; exact ⟨qv, h1, h2, h3⟩, hb, ⟨rfl, rfl, rfl, Nat.le_refl _, fun _ _ _ => rfl⟩, fun g hg => .inl hg⟩⟩
  | some z =>
    by_cases hne : rs = []
    · subst hne
      have := sh_app h hb [] (by simp) z 0 c rfl (by intro j u hj; simp [qrCells] at hj) (by simpa using hlim)
      simpa using this
    · obtain ⟨g, off, ha, hg, hcell⟩ := hh hne
      obtain ⟨us, hus⟩ := choose_lt (α := Value) (p := fun j u => Qc W0 g (off + j * 9) (rs.getD j pq0) u ∧ RdP W0 u (rs.getD j pq0).ps) hcell
      simp only [Option.some.injEq] at ha
      subst ha
      have hgo : ∀ j, j < rs.length → (((List.range rs.length).map fun j => (rs.getD j pq0, us j)).getD j qq0) = (rs.getD j pq0, us j) := by
        intro j hj
        rw [List.getD_eq_getElem?_getD, List.getElem?_map, List.getElem?_range hj]
        rfl
      have hlen : ((List.range rs.length).map fun j => (rs.getD j pq0, us j)).length = rs.length := by simp
      have := sh_app h hb ((List.range rs.length).map fun j => (rs.getD j pq0, us j)) (by
        intro r hr
        obtain ⟨j, hj, rfl⟩ := List.mem_map.1 hr
        exact (hus j (List.mem_range.1 hj)).2) ⟨g, off, none⟩ rs.length c hlen (by
        intro i u hi
        have hil : i < rs.length * 9 := by
          have := (List.getElem?_eq_some_iff.1 hi).1
          rw [qrCells_length, hlen] at this
          exact this
        have hd : i / 9 * 9 + i % 9 = i := by omega
        have hq : i / 9 < rs.length := by omega
        rw [← hd, qrCells_at _ (i / 9) (i % 9) (by rw [hlen]; exact hq) (by omega), hgo _ hq] at hi
        have hQ := (hus (i / 9) hq).1.on hg hb
        rw [add_pl, ← hd, ← Nat.add_assoc]
        have hm : i % 9 < 9 := Nat.mod_lt _ (by omega)
        obtain ⟨x0, x1, x2, x3, x4, x5, x6, x7, x8⟩ := hQ
        have h9 : i % 9 = 0 ∨ i % 9 = 1 ∨ i % 9 = 2 ∨ i % 9 = 3 ∨ i % 9 = 4 ∨ i % 9 = 5 ∨ i % 9 = 6 ∨ i % 9 = 7 ∨ i % 9 = 8 := by omega
        rcases h9 with e | e | e | e | e | e | e | e | e <;> rw [e] at hi ⊢ <;> simp only [qCells, List.getElem?_cons_zero, List.getElem?_cons_succ, Option.some.injEq] at hi <;> subst hi <;> assumption) hlim
      have e : ((List.range rs.length).map fun j => (rs.getD j pq0, us j)).map Prod.fst = rs := by
        rw [List.map_map]
        apply List.ext_getElem
        · simp
        · intro j h1 h2
          simp only [List.getElem_map, List.getElem_range, Function.comp]
          exact getD_pq h2
      rw [e] at this
      exact this
/-- an append of another row of one's own -/
theorem sh_app_sh {W0 w : World} {v x : Value} {qs rs : List Pq} (h : ShQ W0 w v qs) (hb : Below W0.heap.size W0 w) (hx : ShQ W0 w x rs) (hlim : qs.length + rs.length ≤ 1000) :
    ∃ v' w', (Builtin.append_ #[22, 22] 22 #[v, x]).run Tryd.prog w = .ok v' w' ∧ AppR W0 w v v' w' (qs ++ rs) := by
  obtain ⟨i0, hi, _, _, _⟩ := info_parts Tryd.infoOp
  obtain ⟨rv, h1, h2, h3⟩ := hx
  have hl : rs.length = rv.length := by rw [← h3]; simp
  rcases h1.2 with ⟨rfl, h0⟩ | ⟨g, cap, cur, rfl, _⟩
  · have : rv = [] := List.length_eq_zero_iff.1 h0
    subst this
    obtain rfl : rs = [] := by rw [← h3]; rfl
    obtain ⟨qv, g1, g2, g3⟩ := h
    have hrun := run_app_none w 0 hi g1
    exact ⟨v, w, hrun, ⟨by rw [List.append_nil]; exact ⟨qv, g1, g2, g3⟩, hb, ⟨rfl, rfl, rfl, Nat.le_refl _, fun _ _ _ => rfl⟩, fun g hg => .inl hg⟩⟩
  · have := sh_app h hb rv h2 ⟨g, 0, none⟩ rv.length cap rfl (h1.cells rfl) (by omega)
    rw [h3] at this
    exact this
/-- two rows lie apart -/
def Sep (u v : Value) : Prop := u.ownBlock = none ∨ u.ownBlock ≠ v.ownBlock
theorem sep_nil (u : Value) : Sep u (.slice none 0 0) := by
  unfold Sep
  cases h : u.ownBlock with
  | none => exact .inl rfl
  | some g => exact .inr (by simp [Value.ownBlock])
theorem Sep.symm {u v : Value} (h : Sep u v) : Sep v u := by
  unfold Sep at *
  rcases h with h | h
  · rw [h]
    cases hv : v.ownBlock with
    | none => exact .inl rfl
    | some g => exact .inr (by simp)
  · exact .inr (fun e => h e.symm)
theorem AppR.sep {W0 w : World} {v v' : Value} {w' : World} {qs : List Pq} (A : AppR W0 w v v' w' qs) {u : Value} {us : List Pq} (hu : ShQ W0 w u us) (hs : Sep u v) : ShQ W0 w' u us ∧ Sep u v' := by
  refine ⟨hu.kept A.grown hs, ?_⟩
  obtain ⟨qv, h1, _, _⟩ := hu
  unfold Sep at *
  cases hb : u.ownBlock with
  | none => exact .inl rfl
  | some g =>
    refine .inr (fun e => ?_)
    have hlt := (h1.lt g hb).2
    rcases A.blk g e.symm with h | h
    · rcases hs with hs | hs
      · rw [hs] at hb; cases hb
      · exact hs (by rw [hb, h])
    · omega
theorem alloc_bel (w : World) (o : Obj) : Below w.heap.size w (w.alloc o) := (Below.refl _ _).alloc (Nat.le_refl _) _
end Go.Proofs.YtbdgcomjhblnfaaDoor
/- Walks: reel.Length, reel.At and the document's. -/
namespace Go.Proofs.YtbdgcomjhblnfaaDoor
open Go.RowKit

def lenF : List Pf → Int
  | [] => 0
  | f :: r => f.d + lenF r

structure GoodF (fs : List Pf) : Prop where
  low : ∀ f ∈ fs, 0 ≤ f.d
  up : lenF fs ≤ 1000000
  many : fs.length ≤ 1000
  pix : ∀ f ∈ fs, f.ps.length ≤ 80

theorem lenF_app : ∀ a b : List Pf, lenF (a ++ b) = lenF a + lenF b
  | [], b => by simp [lenF]
  | f :: r, b => by simp only [List.cons_append, lenF, lenF_app r b]; omega
theorem lenF_nonneg : ∀ a : List Pf, (∀ f ∈ a, 0 ≤ f.d) → 0 ≤ lenF a
  | [], _ => by simp [lenF]
  | f :: r, h => by
    have h1 := h f (by simp)
    have h2 := lenF_nonneg r (fun g hg => h g (by simp [hg]))
    simp only [lenF]
    omega
theorem getD_mem {fs : List Pf} {k : Nat} (h : k < fs.length) : fs.getD k pf0 ∈ fs := by
  rw [List.getD_eq_getElem?_getD, List.getElem?_eq_getElem h]
  simp
theorem take_next {fs : List Pf} {k : Nat} (h : k < fs.length) : fs.take (k + 1) = fs.take k ++ [fs.getD k pf0] := by
  rw [List.take_succ_eq_append_getElem h, List.getD_eq_getElem?_getD, List.getElem?_eq_getElem h]
  simp
theorem lenF_take {fs : List Pf} (hg : GoodF fs) (k : Nat) : 0 ≤ lenF (fs.take k) ∧ lenF (fs.take k) ≤ 1000000 := by
  have h1 := lenF_nonneg (fs.take k) (fun f hf => hg.low f (List.mem_of_mem_take hf))
  have h2 := lenF_nonneg (fs.drop k) (fun f hf => hg.low f (List.mem_of_mem_drop hf))
  have h3 := lenF_app (fs.take k) (fs.drop k)
  rw [List.take_append_drop] at h3
  have := hg.up
  omega

def atF : List Pf → Int → Nat → Int
  | [], _, _ => -1
  | f :: r, m, i => if m < f.d then (i : Int) else atF r (m - f.d) (i + 1)
def atC (fs : List Pf) (m : Int) : Int := if m < 0 then -1 else atF fs m 0

theorem drop_fr (l : List Pf) (k : Nat) (h : k < l.length) : l.drop k = l.getD k pf0 :: l.drop (k + 1) := by
  rw [List.drop_eq_getElem_cons h, List.getD_eq_getElem?_getD, List.getElem?_eq_getElem h]
  rfl

end Go.Proofs.YtbdgcomjhblnfaaDoor
/- Walks: flickerbookref.SamePicture, slices.Equal of pixels and reel.Same, of any two pictures. -/
namespace Go.Proofs.YtbdgcomjhblnfaaDoor
open Go.RowKit

theorem neq_pix (X : World) (a b c d : Int) : (binOp .neq 57 (.agg #[.int .i64 a, .int .i64 b]) (.agg #[.int .i64 c, .int .i64 d])).run Tryd.prog X = .ok (.bool (!(decide (a = c) && decide (b = d)))) X := by
  have h : (Op.equalIn 10000 57 (.agg #[.int .i64 a, .int .i64 b]) (.agg #[.int .i64 c, .int .i64 d])).run Tryd.prog X = .ok (decide (a = c) && decide (b = d)) X := by
    have u3 := Tryd.underlying3
    rw [run_equalIn_agg X 9999 57 _ _ (by kernel_rfl) (by kernel_rfl)]
    simp only [Program.fieldsOf, Tryd.underlying57]
    by_cases h1 : a = c
    · by_cases h2 : b = d
      · subst h1 h2
        go_simp
      · subst h1
        have e2 : (b == d) = false := by simp [h2]
        go_simp
        try simp [h2]
    · have e1 : (a == c) = false := by simp [h1]
      go_simp
      try simp [h1]
  rw [run_neq_struct, h]
  rfl

theorem take_more {α : Type} {a b : List α} {d : α} {k : Nat} (ha : k < a.length) (hb : k < b.length) (h : a.take k = b.take k) (hd : a.getD k d = b.getD k d) : a.take (k + 1) = b.take (k + 1) := by
  rw [List.take_succ_eq_append_getElem ha, List.take_succ_eq_append_getElem hb, h]
  simp only [List.getD_eq_getElem?_getD, List.getElem?_eq_getElem ha, List.getElem?_eq_getElem hb, Option.getD_some] at hd
  rw [hd]

@[reducible] def sameC (W0 H0 : Int) (ps : List (Int × Int)) (W1 H1 : Int) (qs : List (Int × Int)) : Bool := decide (W0 = W1) && (decide (H0 = H1) && decide (ps = qs))

theorem same_no {W0 H0 W1 H1 : Int} {ps qs : List (Int × Int)} {b : Bool} (HB : Hid (sameC W0 H0 ps W1 H1 qs = b)) (h : ¬(W0 = W1 ∧ H0 = H1 ∧ ps = qs)) : b = false := by
  rw [← HB.out]
  simp only [sameC]
  by_cases h1 : W0 = W1
  · by_cases h2 : H0 = H1
    · simp only [Bool.and_eq_false_iff, decide_eq_false_iff_not]
      exact .inr (.inr fun h3 => h ⟨h1, h2, h3⟩)
    · simp [h2]
  · simp [h1]
theorem same_yes {W0 H0 W1 H1 : Int} {ps qs : List (Int × Int)} {b : Bool} (HB : Hid (sameC W0 H0 ps W1 H1 qs = b)) (h1 : W0 = W1) (h2 : H0 = H1) (h3 : ps = qs) : b = true := by
  rw [← HB.out]
  simp [sameC, h1, h2, h3]

set_option maxHeartbeats 2000000 in
set_option maxRecDepth 100000 in
theorem samePicG_any (W0 H0 W1 H1 : Int) (v0 v1 : Value) (ps qs : List (Int × Int)) (w : World) (hps : ps.length ≤ 1000) (_hqs : qs.length ≤ 1000) (R0 : Hid (RdP w v0 ps)) (R1 : Hid (RdP w v1 qs)) (b : Bool) (HB : Hid (sameC W0 H0 ps W1 H1 qs = b)) :
    Calls Tryd.prog 26 #[.agg #[.int .i64 W0, .int .i64 H0, v0], .agg #[.int .i64 W1, .int .i64 H1, v1]] w fun e w' => e = .returned (.bool b) ∧ Below w.heap.size w w' := by
  obtain ⟨a0, c0, hv0, hl0, hm0, hh0⟩ := R0.out
  obtain ⟨a1, c1, hv1, hl1, hm1, hh1⟩ := R1.out
  obtain ⟨n, HN⟩ : ∃ n, Hid (ps.length = n) := ⟨_, (rfl : _ = _)⟩
  obtain ⟨m, HM⟩ : ∃ m, Hid (qs.length = m) := ⟨_, (rfl : _ = _)⟩
  rw [HN.out] at hv0 hl0 hps
  rw [HM.out] at hv1 hl1
  clear hh0 hh1
  subst hv0 hv1
  have HT0 := (three_start w (.int .i64 W0) (.int .i64 H0) (.slice a0 n c0) 35).alloc (.cells #[.int .i64 W1, .int .i64 H1, .slice a1 m c1] 35)
  have HT1 := three_start (w.alloc (.cells #[.int .i64 W0, .int .i64 H0, .slice a0 n c0] 35)) (.int .i64 W1) (.int .i64 H1) (.slice a1 m c1) 35
  obtain ⟨x0, x1, x2, _, _, _, _⟩ := HT0
  obtain ⟨y0, y1, y2, _, _, _, _⟩ := HT1
  have es : (w.alloc (.cells #[.int .i64 W0, .int .i64 H0, .slice a0 n c0] 35)).heap.size = w.heap.size + 1 := by simp
  rw [es] at y0 y1 y2
  clear es
  obtain ⟨wz, HWZ⟩ : ∃ wz, Hid ((w.alloc (.cells #[.int .i64 W0, .int .i64 H0, .slice a0 n c0] 35)).alloc (.cells #[.int .i64 W1, .int .i64 H1, .slice a1 m c1] 35) = wz) := ⟨_, (rfl : _ = _)⟩
  have hbz : Below w.heap.size w wz := by rw [← HWZ.out]; exact ((Below.refl _ _).alloc (Nat.le_refl _) _).alloc (by simp) _
  by_cases hW : W0 = W1
  · by_cases hH : H0 = H1
    · have eW : (W0 != W1) = false := by simp [hW]
      have eH : (H0 != H1) = false := by simp [hH]
      have HWH : Hid (W0 = W1 ∧ H0 = H1) := ⟨hW, hH⟩
      clear hW hH
      by_cases hnm : n = m
      · have hnn : ((n : Int) != (m : Int)) = false := by simp [hnm]
        have HNM : Hid (n = m) := hnm
        clear hnm
        go_enter Tryd.func26, Tryd.ntmps26
        rw [HWZ.out] at x0 x1 x2 y0 y1 y2
        go_wp2_with fail
        rw [HWZ.out]
        go_loopw [5] (fun i wr => ∃ k q : Nat, k ≤ n ∧ i = .int .i64 k ∧ wr = wz.drewN q ∧ Hid (ps.take k = qs.take k)) (fun i _ => n - (intOf i).toNat)
        case atStart => exact ⟨0, 0, by omega, rfl, rfl, (rfl : _ = _)⟩
        case round =>
          obtain ⟨k, q, hk, rfl, rfl, HTK⟩ := hrel
          by_cases hlt : k < n
          · have hne : ps ≠ [] := by intro e; have h := HN.out; rw [e] at h; simp at h; omega
            have hne1 : qs ≠ [] := by intro e; have h := HM.out; rw [e] at h; simp at h; have := HNM.out; omega
            obtain ⟨_, _, hv0, _, _, hh0⟩ := R0.out
            obtain ⟨_, _, hv1, _, _, hh1⟩ := R1.out
            obtain ⟨g0, o0, ha0, hg0, hc0⟩ := hh0 hne
            obtain ⟨g1, o1, ha1, hg1, hc1⟩ := hh1 hne1
            simp only [Value.slice.injEq] at hv0 hv1
            have e0 : a0 = some ⟨g0, o0, none⟩ := hv0.1.trans ha0
            have e1 : a1 = some ⟨g1, o1, none⟩ := hv1.1.trans ha1
            subst e0 e1
            have hkm : k < m := by have := HNM.out; omega
            obtain ⟨p, HP⟩ : ∃ p, Hid (ps.getD k (0, 0) = p) := ⟨_, (rfl : _ = _)⟩
            obtain ⟨r, HQ⟩ : ∃ p, Hid (qs.getD k (0, 0) = p) := ⟨_, (rfl : _ = _)⟩
            have d0 := hc0 k (by rw [HN.out]; exact hlt)
            have d1 := hc1 k (by rw [HM.out]; exact hkm)
            rw [HP.out] at d0
            rw [HQ.out] at d1
            obtain ⟨pv, pa⟩ := p
            obtain ⟨rv, ra⟩ := r
            have f0 : wz.cell? ⟨g0, o0 + k * 2, none⟩ = some (.int .i64 pv) := by rw [hbz.cell (p := ⟨g0, o0 + k * 2, none⟩) hg0]; exact d0.1
            have f1 : wz.cell? ⟨g0, o0 + k * 2 + 1, none⟩ = some (.int .i64 pa) := by rw [hbz.cell (p := ⟨g0, o0 + k * 2 + 1, none⟩) hg0]; exact d0.2
            have f2 : wz.cell? ⟨g1, o1 + k * 2, none⟩ = some (.int .i64 rv) := by rw [hbz.cell (p := ⟨g1, o1 + k * 2, none⟩) hg1]; exact d1.1
            have f3 : wz.cell? ⟨g1, o1 + k * 2 + 1, none⟩ = some (.int .i64 ra) := by rw [hbz.cell (p := ⟨g1, o1 + k * 2 + 1, none⟩) hg1]; exact d1.2
            have heq := fun X => neq_pix X pv pa rv ra
            clear d0 d1 hc0 hc1 hh0 hh1 hv0 hv1 ha0 ha1
            by_cases hd : pv = rv ∧ pa = ra
            · have HT2 : Hid (ps.take (k + 1) = qs.take (k + 1)) := take_more (d := (0, 0)) (by rw [HN.out]; exact hlt) (by rw [HM.out]; exact hkm) HTK.out (by rw [HP.out, HQ.out, hd.1, hd.2])
              obtain ⟨hd1, hd2⟩ := hd
              subst hd1 hd2
              simp only [decide_true, Bool.and_true, Bool.not_true] at heq
              go_wp2_with fail
              go_quiet (fail)
              go_wp2_with fail
              go_roundw
              case rel => exact ⟨k + 1, q + nq, by omega, by go_num, rfl, HT2⟩
              case measure => simp [intOf]; omega
            · have hdb : (!(decide (pv = rv) && decide (pa = ra))) = true := by
                simp only [Bool.not_eq_true', Bool.and_eq_false_iff, decide_eq_false_iff_not]
                by_cases h1 : pv = rv
                · right
                  exact fun h2 => hd ⟨h1, h2⟩
                · exact .inl h1
              rw [hdb] at heq
              have : b = false := by
                refine same_no HB fun h => ?_
                have h1 := HP.out
                rw [h.2.2, HQ.out, Prod.mk.injEq] at h1
                exact hd ⟨h1.1.symm, h1.2.symm⟩
              subst this
              clear hd hdb
              go_wp2_with fail
              go_quiet (fail)
              go_wp2_with fail
              go_ret
              exact ⟨rfl, below_drewN (below_drewN hbz q) nq⟩
          · have : b = true := by
              refine same_yes HB HWH.out.1 HWH.out.2 ?_
              have h := HTK.out
              rwa [List.take_of_length_le (by rw [HN.out]; omega), List.take_of_length_le (by rw [HM.out]; have := HNM.out; omega)] at h
            subst this
            go_wp2_with fail
            go_ret
            exact ⟨rfl, below_drewN hbz q⟩
      · have hnn : ((n : Int) != (m : Int)) = true := by simp; omega
        have : b = false := by
          refine same_no HB fun h => ?_
          have h1 := HN.out
          rw [h.2.2, HM.out] at h1
          exact hnm h1.symm
        subst this
        clear hnm
        go_enter Tryd.func26, Tryd.ntmps26
        rw [HWZ.out] at x0 x1 x2 y0 y1 y2
        go_wp2_with fail
        go_ret
        exact ⟨rfl, by rw [HWZ.out]; exact hbz⟩
    · have eW : (W0 != W1) = false := by simp [hW]
      have eH : (H0 != H1) = true := by simp [hH]
      have hb := same_no HB (fun h => hH h.2.1)
      subst hb
      clear hW hH
      go_enter Tryd.func26, Tryd.ntmps26
      rw [HWZ.out] at x0 x1 x2 y0 y1 y2
      go_wp2_with fail
      go_ret
      exact ⟨rfl, by rw [HWZ.out]; exact hbz⟩
  · have eW : (W0 != W1) = true := by simp [hW]
    have hb := same_no HB (fun h => hW h.1)
    subst hb
    clear hW
    go_enter Tryd.func26, Tryd.ntmps26
    rw [HWZ.out] at x0 x1 x2 y0 y1 y2
    go_wp2_with fail
    go_ret
    exact ⟨rfl, by rw [HWZ.out]; exact hbz⟩
end Go.Proofs.YtbdgcomjhblnfaaDoor
/- Walks: LightFrames, SameFrames. -/
namespace Go.Proofs.YtbdgcomjhblnfaaDoor
open Go.RowKit

def okFr (f : Pf) : Bool := decide (0 ≤ f.d) && (decide (f.d ≤ 99) && decide (f.ps.length ≤ 80))
def lightC (fs : List Pf) : Bool := decide (fs.length ≤ 50) && fs.all okFr

set_option maxHeartbeats 2000000 in
set_option maxRecDepth 100000 in
theorem sameFs_any (v0 v1 : Value) (fs : List Pf) (w : World) (hfs : fs.length ≤ 1000) (hpx : ∀ f ∈ fs, f.ps.length ≤ 1000) (R0 : Hid (RdF w v0 fs)) (R1 : Hid (RdF w v1 fs)) :
    Calls Tryd.prog 17 #[v0, v1] w fun e w' => e = .returned (.bool true) ∧ Below w.heap.size w w' := by
  obtain ⟨a0, cap0, hv0, hl0, hm0⟩ := R0.out.shape
  obtain ⟨a1, cap1, hv1, hl1, hm1⟩ := R1.out.shape
  obtain ⟨n, HN⟩ : ∃ n, Hid (fs.length = n) := ⟨_, (rfl : _ = _)⟩
  rw [HN.out] at hv0 hl0 hv1 hl1 hfs
  subst hv0 hv1
  have hbz : Below w.heap.size w w := Below.refl _ _
  have hnn : ((n : Int) != (n : Int)) = false := by simp
  go_enter Tryd.func17, Tryd.ntmps17
  go_wp2_with fail
  go_loopw [5] (fun i wr => ∃ k : Nat, k ≤ n ∧ i = .int .i64 k ∧ Below w.heap.size w wr) (fun i _ => n - (intOf i).toNat)
  case atStart => exact ⟨0, by omega, rfl, hbz⟩
  case round =>
    obtain ⟨k, hk, rfl, hbr⟩ := hrel
    by_cases hlt : k < n
    · have hlt' : k < fs.length := by rw [HN.out]; exact hlt
      obtain ⟨f, HF⟩ : ∃ f, Hid (fs.getD k pf0 = f) := ⟨_, (rfl : _ = _)⟩
      have hlp : f.ps.length ≤ 1000 := by rw [← HF.out]; exact hpx _ (getD_mem hlt')
      obtain ⟨g, o, ua, m, uc, rfl, hg, c0, c1, c2, c3, HU, HM⟩ := (R0.out.on hbr).at hlt HF
      obtain ⟨g1, o1, ua1, m1, uc1, rfl, hg1, d0, d1, d2, d3, HU1, HM1⟩ := (R1.out.on hbr).at hlt HF
      obtain ⟨fW, fH, fp, fd⟩ := f
      simp only at c0 c1 c2 c3 d0 d1 d2 d3 HU HU1 hlp
      have HUd : Hid (RdP wr.drew (.slice ua m uc) fp) := HU
      have HUd1 : Hid (RdP wr.drew (.slice ua1 m1 uc1) fp) := HU1
      have hdd : (fd != fd) = false := by simp
      have KEEP : Hid (∀ w', Below wr.drew.heap.size wr.drew w' → (w'.cell? ⟨g, o + k * 4, none⟩ = some (.int .i64 fW) ∧ w'.cell? ⟨g, o + k * 4 + 1, none⟩ = some (.int .i64 fH) ∧ w'.cell? ⟨g, o + k * 4 + 2, none⟩ = some (.slice ua m uc) ∧ w'.cell? ⟨g1, o1 + k * 4, none⟩ = some (.int .i64 fW) ∧ w'.cell? ⟨g1, o1 + k * 4 + 1, none⟩ = some (.int .i64 fH) ∧ w'.cell? ⟨g1, o1 + k * 4 + 2, none⟩ = some (.slice ua1 m1 uc1))) := by
        intro w' h
        refine ⟨?_, ?_, ?_, ?_, ?_, ?_⟩
        · rw [h.cell (p := ⟨g, o + k * 4, none⟩) hg]; exact c0
        · rw [h.cell (p := ⟨g, o + k * 4 + 1, none⟩) hg]; exact c1
        · rw [h.cell (p := ⟨g, o + k * 4 + 2, none⟩) hg]; exact c2
        · rw [h.cell (p := ⟨g1, o1 + k * 4, none⟩) hg1]; exact d0
        · rw [h.cell (p := ⟨g1, o1 + k * 4 + 1, none⟩) hg1]; exact d1
        · rw [h.cell (p := ⟨g1, o1 + k * 4 + 2, none⟩) hg1]; exact d2
      clear hlt' HU HU1
      go_wp2_with fail
      go_region_held3 (fun w' => w'.cell? ⟨g, o + k * 4, none⟩ = some (.int .i64 fW) ∧ w'.cell? ⟨g, o + k * 4 + 1, none⟩ = some (.int .i64 fH) ∧ w'.cell? ⟨g, o + k * 4 + 2, none⟩ = some (.slice ua m uc) ∧ w'.cell? ⟨g1, o1 + k * 4, none⟩ = some (.int .i64 fW) ∧ w'.cell? ⟨g1, o1 + k * 4 + 1, none⟩ = some (.int .i64 fH) ∧ w'.cell? ⟨g1, o1 + k * 4 + 2, none⟩ = some (.slice ua1 m1 uc1))
        (first | exact KEEP.out _ hbx | exact ⟨c0, c1, c2, d0, d1, d2⟩ | fail)
        (first | (go_at_call 26; refine (samePicG_any fW fH fW fH _ _ fp fp _ hlp hlp HUd HUd1 true (by unfold Hid; simp [sameC])).mono ?_; rintro e wx ⟨rfl, hbx⟩) | fail)
      have e3 : wx.cell? ⟨g, o + k * 4 + 3, none⟩ = some (.int .i64 fd) := by rw [hbx.cell (p := ⟨g, o + k * 4 + 3, none⟩) hg]; exact c3
      have e4 : wx.cell? ⟨g1, o1 + k * 4 + 3, none⟩ = some (.int .i64 fd) := by rw [hbx.cell (p := ⟨g1, o1 + k * 4 + 3, none⟩) hg1]; exact d3
      have hbx2 : Below w.heap.size w wx := hbr.drew.trans (hbx.mono hbr.size)
      clear c0 c1 c2 c3 d0 d1 d2 d3 KEEP HUd HUd1 hbx
      go_wp2_with fail
      go_quiet (fail)
      go_wp2_with fail
      go_roundw
      case rel => exact ⟨k + 1, by omega, by go_num, below_drewN hbx2 nq⟩
      case measure => simp [intOf]; omega
    · go_wp2_with fail
      go_ret
      exact ⟨rfl, hbr⟩
end Go.Proofs.YtbdgcomjhblnfaaDoor
/- Walk of the law's number. -/
namespace Go.Proofs.YtbdgcomjhblnfaaDoor
open Go.RowKit

theorem number_zero (w : World) : Calls Tryd.prog 16 #[.nilIface] w fun e w' => e = .returned (.int .i64 0) ∧ w = w' := by
  go_enter Tryd.func16, Tryd.ntmps16
  go_wp2
  go_ret
  exact ⟨rfl, rfl⟩

theorem assert_errno (W : World) (n : Int) : (Instr.typeAssert (.iface 61 (.int .i64 n)) 27 61 true).run Tryd.prog W = .ok (.tuple #[.int .i64 n, .bool true]) W := by kernel_rfl

theorem number_some (n : Int) (w : World) : Calls Tryd.prog 16 #[.iface 61 (.int .i64 n)] w fun e w' => e = .returned (.int .i64 n) ∧ w = w' := by
  have ha := fun W => assert_errno W n
  go_enter Tryd.func16, Tryd.ntmps16
  go_wp2
  go_ret
  exact ⟨rfl, rfl⟩

end Go.Proofs.YtbdgcomjhblnfaaDoor
/- Walks of a machine: Objects, Frames. -/
namespace Go.Proofs.YtbdgcomjhblnfaaDoor
open Go.RowKit Go.Maps

set_option maxHeartbeats 8000000 in
set_option maxRecDepth 100000 in
theorem mobj_any (B b : Nat) (F : List Nat) (qs : List Pq) (st : Ms) (w : World) (HM : Hid (Mac w B b F qs st)) (HF : Hid (FineO st.obs)) :
    Calls Tryd.prog 21 #[.pointer (some ⟨b, 0, none⟩)] w fun e w' => ∃ v' ov, e = .returned v' ∧ OwnOb w' w.heap.size v' ov ∧ ov.map Prod.fst = st.obs ∧ Below w.heap.size w w' := by
  obtain ⟨vo, bm, vr, vb, vk, vf, hm1, hm2, hm3⟩ := HM.out
  obtain ⟨N, hB⟩ := mac_nine hm1
  obtain ⟨ov, hov1, hov2⟩ := hm2.obs
  obtain ⟨oa, oc, hvb⟩ := own_any hov1.1
  subst hvb
  have HR : Hid (RdO w (.slice oa ov.length oc) st.obs) := by unfold Hid; rw [← hov2]; exact hov1.rd
  have hg := HF.out.good
  have h6 := hg.few
  have HPX : Hid (∀ j, j < st.obs.length → (st.obs.getD j po0).ps.length ≤ 100) := fun j hj => by have := hg.pix j hj; omega
  obtain ⟨n0, n1, n2, n3, n4, n5, n6, n7, n8, nf0, nf1, nf2, nf3, nf4, nf5, nf6, nf7, nf8, nlt⟩ := N
  clear hm1 hm2 hm3 hov1 hov2 HM hg
  go_enter Tryd.func21, Tryd.ntmps21
  go_wp2_with fail
  refine (ownO_any _ st.obs _ (by omega) HPX.out HR).mono ?_
  rintro e w1 ⟨g, qv, rfl, ho, hq, hb1⟩
  go_wp2_with fail
  go_ret
  exact ⟨_, qv, rfl, ho, hq, hb1⟩

set_option maxHeartbeats 8000000 in
set_option maxRecDepth 100000 in
theorem mfrm_any (B b : Nat) (F : List Nat) (qs : List Pq) (st : Ms) (w : World) (HM : Hid (Mac w B b F qs st)) (h40 : st.frs.length ≤ 40) (hps : ∀ f ∈ st.frs, FrG f) :
    Calls Tryd.prog 25 #[.pointer (some ⟨b, 0, none⟩)] w fun e w' => ∃ v' fv, e = .returned v' ∧ OwnFr w' w.heap.size v' fv ∧ fv.map Prod.fst = st.frs ∧ Below w.heap.size w w' := by
  obtain ⟨i0, hi, hz0, hz1, hz2⟩ := info_parts Tryd.infoFr
  obtain ⟨vo, bm, vr, vb, vk, vf, hm1, hm2, hm3⟩ := HM.out
  obtain ⟨N, hB⟩ := mac_nine hm1
  obtain ⟨fv, hf1, hf2⟩ := hm2.frs
  have hfl : fv.length = st.frs.length := by rw [← hf2]; simp
  obtain ⟨fa, fc, hvf⟩ := own_any hf1.1
  obtain ⟨fs, HFS⟩ : ∃ fs, Hid (st.frs = fs) := ⟨_, (rfl : _ = _)⟩
  have HR : Hid (RdF w vf fs) := by unfold Hid; rw [← HFS.out, ← hf2]; exact hf1.rd
  rw [HFS.out] at hps h40 hfl ⊢
  obtain ⟨n, HN⟩ : ∃ n, Hid (fs.length = n) := ⟨_, (rfl : _ = _)⟩
  rw [hfl, HN.out] at hvf
  subst hvf
  rw [HN.out] at h40
  have HPS : Hid (∀ f ∈ fs, FrG f) := hps
  obtain ⟨n0, n1, n2, n3, n4, n5, n6, n7, n8, nf0, nf1, nf2, nf3, nf4, nf5, nf6, nf7, nf8, nlt⟩ := N
  clear hm1 hm2 hm3 hf1 hf2 HM hps hfl
  go_enter Tryd.func25, Tryd.ntmps25
  go_wp2_with (at_make; refine wpList_make_own _ rfl _ _ 25 rfl w.heap.size 50 i0 (.agg #[.int .i64 0, .int .i64 0, .slice none 0 0, .int .i64 0]) 4 Tryd.underlying25 hi hz0 hz1 _ _ _ n rfl rfl ?a1 ?b1 ?b2 ?b3 ?_)
  case a1 => first | rfl | omega
  case b1 => rw [hz2]; omega
  case b2 => unfold maxLen; omega
  case b3 => exact Nat.le_refl _
  intro W0 hown0 hgrow0
  have hb0 : Below w.heap.size w W0 := (Below.refl _ _).grown hgrow0 (Nat.le_refl _) (by intro k hk; cases hk)
  have HO0 : Hid (OwnFr W0 w.heap.size (.slice (some ⟨w.heap.size, 0, none⟩) 0 n) []) := ⟨hown0, by simp⟩
  have n8' : W0.cell? ⟨b, 8, none⟩ = some (.slice fa n fc) := by rw [hb0.cell (p := ⟨b, 8, none⟩) nlt]; exact n8
  clear hown0 hgrow0
  go_wp2_with fail
  go_loopw [3, 17] (fun o i wr => ∃ (k : Nat) (qv : List (Pf × Value)) (oa : Option Addr) (oc : Nat), k ≤ n ∧ i = .int .i64 k ∧ o = .slice oa k oc ∧ Hid (qv.length = k) ∧ Hid (OwnFr wr w.heap.size (.slice oa k oc) qv) ∧ Hid (qv.map Prod.fst = fs.take k) ∧ Below w.heap.size w wr) (fun _ i _ => n - (intOf i).toNat)
  case atStart => exact ⟨0, [], _, _, by omega, rfl, rfl, rfl, HO0, (rfl : _ = _), hb0⟩
  case round =>
    obtain ⟨k, qv, oa, oc, hk, rfl, rfl, HLQ, HO, HQ, hbr⟩ := hrel
    by_cases hlt : k < n
    · have hlt' : k < fs.length := by rw [HN.out]; exact hlt
      obtain ⟨f, HX⟩ : ∃ o, Hid (fs.getD k pf0 = o) := ⟨_, (rfl : _ = _)⟩
      have hmemf : fs.getD k pf0 ∈ fs := by rw [List.getD_eq_getElem?_getD, List.getElem?_eq_getElem hlt']; simp
      have hpl : f.ps.length ≤ 100 := by rw [← HX.out]; have := check_len _ _ _ (HPS.out _ hmemf).pic; omega
      have HQ2 : Hid (∀ u, (qv ++ [(f, u)]).map Prod.fst = fs.take (k + 1)) := by
        intro u
        rw [List.map_append, HQ.out, List.take_succ_eq_append_getElem hlt', ← HX.out, List.getD_eq_getElem?_getD, List.getElem?_eq_getElem hlt']
        rfl
      obtain ⟨g, p, ua, mu, uc, rfl, hg, c0, c1, c2, c3, HU, HMU⟩ := (HR.out.on hbr).at hlt HX
      obtain ⟨fW, fH, fp, fd⟩ := f
      simp only at c0 c1 c2 c3 HU HMU hpl
      clear hlt' HX hmemf
      have hki0 : (0 : Int) ≤ (k : Int) := by omega
      have hki1 : (k : Int) < (n : Int) := by omega
      have hbx : Below wr.heap.size wr (wr.alloc (.cells #[.int .i64 fW, .int .i64 fH, .slice ua mu uc, .int .i64 fd] 50)) := (Below.refl _ _).alloc (Nat.le_refl _) _
      have q0 : (wr.alloc (.cells #[.int .i64 fW, .int .i64 fH, .slice ua mu uc, .int .i64 fd] 50)).cell? ⟨wr.heap.size, 0, none⟩ = some (.int .i64 fW) := by simp
      have q1 : (wr.alloc (.cells #[.int .i64 fW, .int .i64 fH, .slice ua mu uc, .int .i64 fd] 50)).cell? ⟨wr.heap.size, 1, none⟩ = some (.int .i64 fH) := by simp
      have q2 : (wr.alloc (.cells #[.int .i64 fW, .int .i64 fH, .slice ua mu uc, .int .i64 fd] 50)).cell? ⟨wr.heap.size, 2, none⟩ = some (.slice ua mu uc) := by simp
      have q3 : (wr.alloc (.cells #[.int .i64 fW, .int .i64 fH, .slice ua mu uc, .int .i64 fd] 50)).cell? ⟨wr.heap.size, 3, none⟩ = some (.int .i64 fd) := by simp
      have qf0 : (wr.alloc (.cells #[.int .i64 fW, .int .i64 fH, .slice ua mu uc, .int .i64 fd] 50)).frozen? ⟨wr.heap.size, 0, none⟩ = false := by simp
      have qf1 : (wr.alloc (.cells #[.int .i64 fW, .int .i64 fH, .slice ua mu uc, .int .i64 fd] 50)).frozen? ⟨wr.heap.size, 1, none⟩ = false := by simp
      have qf2 : (wr.alloc (.cells #[.int .i64 fW, .int .i64 fH, .slice ua mu uc, .int .i64 fd] 50)).frozen? ⟨wr.heap.size, 2, none⟩ = false := by simp
      have qlt : wr.heap.size < (wr.alloc (.cells #[.int .i64 fW, .int .i64 fH, .slice ua mu uc, .int .i64 fd] 50)).heap.size := by simp
      have HUX : Hid (RdP (wr.alloc (.cells #[.int .i64 fW, .int .i64 fH, .slice ua mu uc, .int .i64 fd] 50)) (.slice ua mu uc) fp) := HU.out.on hbx
      have hbX := hbr.trans (hbx.mono hbr.size)
      clear HU
      have HQF := hid_of2 (And.intro q0 (And.intro q1 (And.intro q2 (And.intro q3 (And.intro qf0 (And.intro qf1 qf2))))))
      clear q0 q1 q2 q3 qf0 qf1 qf2
      go_wp2_with fail
      refine (pown_any fW fH _ fp _ hpl HUX).mono ?_
      rintro e w1 ⟨u', rfl, hu, hb1⟩
      rw [HMU.out] at hu
      obtain ⟨va, vc, hu'⟩ := own_any hu
      subst hu'
      have hb3 : Below wr.heap.size wr (((w1.setCell ⟨wr.heap.size, 0, none⟩ (.int .i64 fW)).setCell ⟨wr.heap.size, 1, none⟩ (.int .i64 fH)).setCell ⟨wr.heap.size, 2, none⟩ (.slice va mu vc)) := (((hbx.trans (hb1.mono hbx.size)).setCell (Nat.le_refl _) _).setCell (Nat.le_refl _) _).setCell (Nat.le_refl _) _
      have hbb3 := hbr.trans (hb3.mono hbr.size)
      have hu3 : (((w1.setCell ⟨wr.heap.size, 0, none⟩ (.int .i64 fW)).setCell ⟨wr.heap.size, 1, none⟩ (.int .i64 fH)).setCell ⟨wr.heap.size, 2, none⟩ (.slice va mu vc)).ownsRow ((wr.alloc (.cells #[.int .i64 fW, .int .i64 fH, .slice ua mu uc, .int .i64 fd] 50)).heap.size + 2) 57 2 (.slice va mu vc) mu (pixCells fp) := ownsRow_setCell_below (ownsRow_setCell_below (ownsRow_setCell_below hu (a := ⟨wr.heap.size, 0, none⟩) (by simp; omega) _) (a := ⟨wr.heap.size, 1, none⟩) (by simp; omega) _) (a := ⟨wr.heap.size, 2, none⟩) (by simp; omega) _
      have HU3 : Hid ((((w1.setCell ⟨wr.heap.size, 0, none⟩ (.int .i64 fW)).setCell ⟨wr.heap.size, 1, none⟩ (.int .i64 fH)).setCell ⟨wr.heap.size, 2, none⟩ (.slice va mu vc)).ownsRow w.heap.size 57 2 (.slice va mu vc) mu (pixCells fp)) := own_mono hu3 (by have := hbX.size; omega)
      have HO3 : Hid (OwnFr (((w1.setCell ⟨wr.heap.size, 0, none⟩ (.int .i64 fW)).setCell ⟨wr.heap.size, 1, none⟩ (.int .i64 fH)).setCell ⟨wr.heap.size, 2, none⟩ (.slice va mu vc)) w.heap.size (.slice oa k oc) qv) := HO.out.on hb3
      have hb4 : Below (((w1.setCell ⟨wr.heap.size, 0, none⟩ (.int .i64 fW)).setCell ⟨wr.heap.size, 1, none⟩ (.int .i64 fH)).setCell ⟨wr.heap.size, 2, none⟩ (.slice va mu vc)).heap.size (((w1.setCell ⟨wr.heap.size, 0, none⟩ (.int .i64 fW)).setCell ⟨wr.heap.size, 1, none⟩ (.int .i64 fH)).setCell ⟨wr.heap.size, 2, none⟩ (.slice va mu vc)) ((((w1.setCell ⟨wr.heap.size, 0, none⟩ (.int .i64 fW)).setCell ⟨wr.heap.size, 1, none⟩ (.int .i64 fH)).setCell ⟨wr.heap.size, 2, none⟩ (.slice va mu vc)).alloc (.cells #[.int .i64 fW, .int .i64 fH, .slice va mu vc, .int .i64 fd] 50)) := (Below.refl _ _).alloc (Nat.le_refl _) _
      have HU4 : Hid (((((w1.setCell ⟨wr.heap.size, 0, none⟩ (.int .i64 fW)).setCell ⟨wr.heap.size, 1, none⟩ (.int .i64 fH)).setCell ⟨wr.heap.size, 2, none⟩ (.slice va mu vc)).alloc (.cells #[.int .i64 fW, .int .i64 fH, .slice va mu vc, .int .i64 fd] 50)).ownsRow w.heap.size 57 2 (.slice va mu vc) mu (pixCells fp)) := own_on2 HU3.out hb4
      have HO4 : Hid (OwnFr ((((w1.setCell ⟨wr.heap.size, 0, none⟩ (.int .i64 fW)).setCell ⟨wr.heap.size, 1, none⟩ (.int .i64 fH)).setCell ⟨wr.heap.size, 2, none⟩ (.slice va mu vc)).alloc (.cells #[.int .i64 fW, .int .i64 fH, .slice va mu vc, .int .i64 fd] 50)) w.heap.size (.slice oa k oc) qv) := HO3.out.on hb4
      have HO5 := HO4.out.1
      rw [HLQ.out] at HO5
      have HO6 := hid_of2 HO5
      have hbb4 := hbb3.trans (hb4.mono hbb3.size)
      have hws : w.heap.size ≤ ((((w1.setCell ⟨wr.heap.size, 0, none⟩ (.int .i64 fW)).setCell ⟨wr.heap.size, 1, none⟩ (.int .i64 fH)).setCell ⟨wr.heap.size, 2, none⟩ (.slice va mu vc)).alloc (.cells #[.int .i64 fW, .int .i64 fH, .slice va mu vc, .int .i64 fd] 50)).heap.size := hbb4.size
      have hW3 : (((w1.setCell ⟨wr.heap.size, 0, none⟩ (.int .i64 fW)).setCell ⟨wr.heap.size, 1, none⟩ (.int .i64 fH)).setCell ⟨wr.heap.size, 2, none⟩ (.slice va mu vc)).heap.size = w1.heap.size := by simp
      have HWS := hid_of2 hW3
      obtain ⟨q0, q1, q2, q3, qf0, qf1, qf2⟩ := HQF.out
      have m0 := (hb1.cell (p := ⟨wr.heap.size, 0, none⟩) qlt).trans q0
      have m1 := (hb1.cell (p := ⟨wr.heap.size, 1, none⟩) qlt).trans q1
      have m2 := (hb1.cell (p := ⟨wr.heap.size, 2, none⟩) qlt).trans q2
      have m3 := (hb1.cell (p := ⟨wr.heap.size, 3, none⟩) qlt).trans q3
      have mf0 := (hb1.frozen (p := ⟨wr.heap.size, 0, none⟩) qlt).trans qf0
      have mf1 := (hb1.frozen (p := ⟨wr.heap.size, 1, none⟩) qlt).trans qf1
      have mf2 := (hb1.frozen (p := ⟨wr.heap.size, 2, none⟩) qlt).trans qf2
      have mlt : wr.heap.size < w1.heap.size := Nat.lt_of_lt_of_le qlt hb1.size
      clear hb1 HUX hbX hu hu3 HU3 HO3 hb4 HO5 hW3 hbx hb3 hbb3 q0 q1 q2 q3 qf0 qf1 qf2 qlt HQF
      go_wp2_with (at_builtin; refine wpList_append_own _ rfl _ _ 25 rfl w.heap.size 50 i0 (.agg #[.int .i64 0, .int .i64 0, .slice none 0 0, .int .i64 0]) 4 48 Tryd.underlying25 hi hz0 hz1 hz2 rfl (by decide) _ k _ rfl HO6.out ⟨w1.heap.size, 0, none⟩ 1 1 [.int .i64 fW, .int .i64 fH, .slice va mu vc, .int .i64 fd] rfl rfl ?c1 ?c2 ?c3 ?c4 ?c5 ?_)
      case c1 => intro j u hj; rw [← HWS.out]; exact new_cells (((w1.setCell ⟨wr.heap.size, 0, none⟩ (.int .i64 fW)).setCell ⟨wr.heap.size, 1, none⟩ (.int .i64 fH)).setCell ⟨wr.heap.size, 2, none⟩ (.slice va mu vc)) _ _ j u hj
      case c2 => intro u hu; simp at hu; rcases hu with rfl | rfl | rfl | rfl <;> rfl
      case c3 => unfold maxLen; omega
      case c4 => omega
      case c5 => exact hws
      intro v' w5 ho5 hg5 _
      obtain ⟨a', c', hv'⟩ := own_any ho5
      subst hv'
      have HO7 : Hid (OwnFr w5 w.heap.size (.slice a' (k + 1) c') (qv ++ [(⟨fW, fH, fp, fd⟩, .slice va mu vc)])) := HO4.out.app (f := ⟨fW, fH, fp, fd⟩) (by simp only; rw [HMU.out]; exact HU4.out) (by rw [HLQ.out]; exact ho5) hg5
      have hb5 : Below w.heap.size w w5 := hbb4.grown hg5 hbb4.size (fun z hz => (HO6.out.lt z hz).1)
      have HL7 : Hid ((qv ++ [((⟨fW, fH, fp, fd⟩ : Pf), Value.slice va mu vc)]).length = k + 1) := by unfold Hid; rw [List.length_append, HLQ.out]; rfl
      clear ho5 hg5 HO4 HO6 HU4 hbb4 hws HWS m0 m1 m2 m3 mf0 mf1 mf2 mlt c0 c1 c2 c3
      go_wp2_with fail
      go_roundw
      case rel => exact ⟨k + 1, _, _, _, by omega, by go_num, rfl, HL7, HO7, HQ2.out _, hb5⟩
      case measure => simp [intOf]; omega
    · obtain rfl : k = n := by omega
      go_wp2_with fail
      go_ret
      refine ⟨_, qv, rfl, HO.out, ?_, hbr⟩
      rw [HQ.out, List.take_of_length_le (by rw [HN.out]; exact Nat.le_refl _)]
end Go.Proofs.YtbdgcomjhblnfaaDoor
