/- Walk: script.Parse. -- s1 -/
import Derived.Test.YtfhfedcamcpceaaDoorScHJ
namespace Go.Proofs.YtfhfedcamcpceaaDoor
open Go.RowKit
open Go.Lib hiding intOf

/-- behind the first text: the slice that the model makes -/
theorem RdS.cut1 {w : World} {g o n cap : Nat} {l : List (List UInt8)} (h : RdS w (.slice (some ⟨g, o, none⟩) (n + 1) cap) l) : ∃ o1, Hid ((if cap = 1 then some (⟨g, o, none⟩ : Addr) else some ⟨g, o + 1, none⟩) = some ⟨g, o1, none⟩) ∧ Hid (RdS w (.slice (some ⟨g, o1, none⟩) n (cap - 1)) (l.drop 1)) ∧ n + 1 ≤ cap := by
  obtain ⟨h1, h2⟩ := h.tail
  have h3 : n + 1 ≤ cap := by
    obtain ⟨a', cap', hv, hl, _⟩ := h
    simp only [Value.slice.injEq] at hv
    obtain ⟨_, e, rfl⟩ := hv
    omega
  by_cases hc : cap = 1
  · refine ⟨o, by unfold Hid; rw [if_pos hc], ?_, h3⟩
    obtain ⟨a', cap', hv, hl, hcc, hh⟩ := h1
    refine ⟨some ⟨g, o, none⟩, cap', ?_, hl, hcc, fun hne => ?_⟩
    · simp only [Value.slice.injEq] at hv
      rw [← hv.2.1, ← hv.2.2]
    · simp only [Value.slice.injEq] at hv
      have : 0 < (l.drop 1).length := List.length_pos_iff.2 hne
      omega
  · exact ⟨o + 1, by unfold Hid; rw [if_neg hc], h1, h3⟩
def ParsP (r : Pq × Nat) (w : World) (e : Ending) (w' : World) : Prop := ∃ u, e = .returned (.tuple #[opV r.1 u, errV r.2]) ∧ w'.ownsRow w.heap.size 88 2 u r.1.ps.length (pixCells r.1.ps) ∧ Below w.heap.size w w'
theorem pars_no {r : Pq × Nat} {c : Nat} {w w' : World} (h : Hid (r = (q00, c))) (hc : c ≠ 0) (hb : Below w.heap.size w w') : ParsP r w (.returned (.tuple #[.agg #[.int .i64 0, .int .i64 0, .int .i64 0, .int .i64 0, .int .i64 0, .int .i64 0, .int .i64 0, .int .i64 0, .slice none 0 0], .iface 69 (.int .i64 (c : Int))])) w' := by
  rw [h.out]
  refine ⟨.slice none 0 0, ?_, World.ownsRow_nil _ _ _ _, hb⟩
  unfold errV
  rw [if_neg hc]
  rfl
theorem opN_px (s : Shp) (ns : List Int) : (Sc.opN s ns).ps.length ≤ ns.length := by
  have key : ∀ (m : Nat) (l : List Int), l.length ≤ m → (Sc.pairN l).length ≤ l.length := by
    intro m
    induction m with
    | zero => intro l h; have : l = [] := List.eq_nil_of_length_eq_zero (by omega); subst this; simp [Sc.pairN]
    | succ m ih =>
      intro l h
      match l, h with
      | [], _ => simp [Sc.pairN]
      | [_], _ => simp [Sc.pairN]
      | v :: a :: r, h =>
        have := ih r (by simp only [List.length_cons] at h; omega)
        simp only [Sc.pairN, List.length_cons]
        omega
  unfold Sc.opN
  simp only
  split
  · have h1 := key _ ((Sc.restN s ns).drop (s.nums + 2)) (Nat.le_refl _)
    have h2 : ((Sc.restN s ns).drop (s.nums + 2)).length ≤ ns.length := by
      rw [List.length_drop]
      unfold Sc.restN
      split
      · rw [List.length_drop]; omega
      · omega
    omega
  · simp
set_option maxHeartbeats 16000000 in
set_option maxRecDepth 100000 in
theorem parseS_any (s : ByteArray) (w : World) (HS : Hid (Shapes w)) (h1 : 3 < w.heap.size) (HE : Hid (LibE w)) (HW : Hid (WordsP w)) (hs : s.size ≤ 100000) (r : Pq × Nat) (HR : Hid (Sc.opIn s.data.toList = r)) :
    Calls Tryd.prog 21 #[.string s] w fun e w' => ParsP r w e w' := by
  obtain ⟨X0, HX0⟩ : ∃ X0, Hid (w.alloc (.cells #[.int .i64 0, .int .i64 0, .int .i64 0, .int .i64 0, .int .i64 0, .int .i64 0, .int .i64 0, .int .i64 0, .slice none 0 0] 26) = X0) := ⟨_, (rfl : _ = _)⟩
  have hbx : Below w.heap.size w X0 := by rw [← HX0.out]; exact (Below.refl _ _).alloc (Nat.le_refl _) _
  have NX : Hid (Nine X0 w.heap.size (.int .i64 0) (.int .i64 0) (.int .i64 0) (.int .i64 0) (.int .i64 0) (.int .i64 0) (.int .i64 0) (.int .i64 0) (.slice none 0 0)) := by rw [← HX0.out]; exact nine_start _ _ _ _ _ _ _ _ _ _ _ _ rfl
  obtain ⟨ws, HWS⟩ : ∃ ws, Hid (Sc.splitL s.data.toList = ws) := ⟨_, (rfl : _ = _)⟩
  have HSP := hid_of3 (split_lib s X0 (HE.out.on hbx) (by omega))
  rw [HWS.out] at HSP
  have hne : ws ≠ [] := by rw [← HWS.out]; exact Sc.splitL_ne _
  have hwl : ws.length ≤ 100001 := by have := Sc.splitL_len s.data.toList; rw [HWS.out] at this; simp at this; omega
  have HWM : Hid (∀ x ∈ ws, x.length ≤ 100000) := by
    intro x hx
    have := Sc.splitL_mem s.data.toList x (by rw [HWS.out]; exact hx)
    simp at this
    omega
  obtain ⟨m, HM⟩ : ∃ m, Hid (ws.length = m + 1) := ⟨ws.length - 1, by have := List.length_pos_iff.2 hne; unfold Hid; omega⟩
  have hm : m ≤ 100000 := by have := HM.out; omega
  obtain ⟨k0, HK0⟩ := text_of (ws.getD 0 [])
  obtain ⟨kd, HKD⟩ : ∃ k, Hid (Sc.kwOf k0.data.toList = k) := ⟨_, (rfl : _ = _)⟩
  have hkd : kd ≤ 16 := by rw [← HKD.out]; exact Sc.kwTo_le _ 16
  have HR1 : Hid (r = Sc.opW ws) := by unfold Hid; rw [← HR.out]; unfold Sc.opIn; rw [HWS.out]
  have HKW : Hid (Sc.kwOf (ws.getD 0 []) = kd) := by unfold Hid; rw [HK0.out.2]; exact HKD.out
  clear hwl
  go_enter Tryd.func21, Tryd.ntmps21
  go_wp2_with fail
  rw [HX0.out]
  clear HX0
  refine HSP.out.mono ?_
  rintro e w1 ⟨v, rfl, ho1, hb1⟩
  clear HSP
  rw [HM.out] at ho1
  obtain ⟨g, cap, hv⟩ : ∃ g c, v = .slice (some ⟨g, 0, none⟩) (m + 1) c := by
    rcases ho1.2 with ⟨_, h0⟩ | ⟨g, c, cur, hv, _⟩
    · omega
    · exact ⟨g, c, hv⟩
  subst hv
  rw [← HM.out] at ho1
  have hrs := rdS_own ho1
  rw [HM.out] at hrs
  have HRS := hid_of3 hrs
  obtain ⟨g', o', he, -, cx⟩ := hrs.at (k := 0) (by omega) (x := ws.getD 0 []) rfl
  simp only [Option.some.injEq, Addr.mk.injEq, and_true] at he
  obtain ⟨rfl, rfl⟩ := he
  rw [HK0.out.1, Nat.add_zero] at cx
  have hbw1 : Below w.heap.size w w1 := hbx.trans (hb1.mono hbx.size)
  have N1 := hid_of3 (NX.out.on hb1)
  have HKO := hid_of3 (kindOf_any k0 w1 (HW.out.on hbw1) kd HKD)
  have hm1 : 0 < m + 1 := by omega
  have hm1i : (0 : Int) < (m : Int) + 1 := by omega
  clear hrs ho1 hb1 NX
  by_cases hk0 : kd = 0
  · subst hk0
    have hr : Hid (r = (q00, 4)) := by
      unfold Hid; rw [HR1.out]; unfold Sc.opW; rw [HKW.out]
      cases Sc.readN (ws.drop 1) with
      | none => rfl
      | some ns => simp
    rw [show decide ((0 : Nat) ≠ 0) = false from rfl] at HKO
    obtain ⟨r0, r1, r2, r3, r4, r5, r6, r7, r8, rf0, rf1, rf2, rf3, rf4, rf5, rf6, rf7, rf8, rlt⟩ := N1.out
    go_wp2_with fail
    refine HKO.out.mono ?_
    rintro e w2 ⟨rfl, rfl⟩
    go_wp2_with fail
    refine bodyPost_ret (v := .tuple #[.agg #[.int .i64 0, .int .i64 0, .int .i64 0, .int .i64 0, .int .i64 0, .int .i64 0, .int .i64 0, .int .i64 0, .slice none 0 0], .iface 69 (.int .i64 4)]) (by simp [results, Tryd.results21, go_sem, r0, r1, r2, r3, r4, r5, r6, r7, r8]) rfl (pars_no hr (by decide) ?_)
    exact set9_below hbw1 (Nat.le_refl _) _ _ _ _ _ _ _ _ _
  rw [show decide (kd ≠ 0) = true by simp [hk0]] at HKO
  have hk1 : 1 ≤ kd := by omega
  obtain ⟨hka, hkb⟩ := Sc.kind_shp kd hk1 hkd
  obtain ⟨sh, HSH⟩ : ∃ sh, Hid (shps.getD (kd - 1) shp0 = sh) := ⟨_, (rfl : _ = _)⟩
  rw [HSH.out] at hka
  have HKA := hid_of3 hka
  obtain ⟨o1, HO1, HRT, hcm⟩ := HRS.out.cut1
  obtain ⟨rn, HRN⟩ : ∃ rn, Hid (Sc.readN (ws.drop 1) = rn) := ⟨_, (rfl : _ = _)⟩
  have HRD := hid_of3 (readT_any _ (ws.drop 1) w1 (HE.out.on hbw1) HRT (by rw [List.length_drop, HM.out]; omega) (fun x hx => by have := HWM.out x (List.mem_of_mem_drop hx); omega) rn HRN)
  have hm2 : 1 ≤ m + 1 := by omega
  have hm2i : (1 : Int) ≤ (m : Int) + 1 := by omega
  clear hka hkb hk0
  have hA1 : w.heap.size < w1.heap.size := N1.out.lt
  by_cases hc1 : cap = 1
  all_goals
    first | rw [if_pos hc1] at HO1 | rw [if_neg hc1] at HO1
    have ho := HO1.out
    simp only [Option.some.injEq, Addr.mk.injEq, true_and, and_true] at ho
    subst ho
    (try subst hc1)
    (try (have hm0 : m = 0 := by omega); subst hm0)
    go_wp2_with fail
    refine HKO.out.mono ?_
    rintro e w2 ⟨rfl, rfl⟩
    go_wp2_with fail
    (try simp only [Nat.zero_add])
    refine HRD.out.mono ?_
    rintro e w2 ⟨hb2, hcase⟩
    have hbw2 := hbw1.trans (hb2.mono hbw1.size)
    have N2 := hid_of3 (N1.out.on hb2)
    clear cx
    rcases hcase with ⟨hn, rfl⟩ | ⟨ns, g2, cap2, hn, rfl, ho2⟩
    · have hr : Hid (r = (q00, 4)) := by
        unfold Hid; rw [HR1.out]; unfold Sc.opW; rw [HRN.out, hn]
      obtain ⟨r0, r1, r2, r3, r4, r5, r6, r7, r8, rf0, rf1, rf2, rf3, rf4, rf5, rf6, rf7, rf8, rlt⟩ := N2.out
      go_wp2_with fail
      refine bodyPost_ret (v := .tuple #[.agg #[.int .i64 0, .int .i64 0, .int .i64 0, .int .i64 0, .int .i64 0, .int .i64 0, .int .i64 0, .int .i64 0, .slice none 0 0], .iface 69 (.int .i64 4)]) (by simp [results, Tryd.results21, go_sem, r0, r1, r2, r3, r4, r5, r6, r7, r8]) rfl (pars_no hr (by decide) ?_)
      exact set9_below hbw2 (Nat.le_refl _) _ _ _ _ _ _ _ _ _
    have HN1 : Hid (Sc.readN (ws.drop 1) = some ns) := by unfold Hid; rw [HRN.out, hn]
    have hnl : ns.length ≤ 100000 := by
      have := (Sc.readN_len _ ns HN1.out).1
      rw [List.length_drop, HM.out] at this
      omega
    have hg2 : g2 < w2.heap.size := (ho2.lt g2 rfl).2
    have HNI := hid_of3 (rdI_own ho2 rfl)
    obtain ⟨nl, HNL⟩ : ∃ k, Hid (ns.length = k) := ⟨_, (rfl : _ = _)⟩
    rw [HNL.out] at HNI hnl
    obtain ⟨rb, HRB⟩ : ∃ b, Hid (bres sh ns = b) := ⟨_, (rfl : _ = _)⟩
    have HBD := hid_of3 (buildS_any kd sh g2 0 nl cap2 ns w2 (HS.out.on h1 hbw2) (Nat.lt_of_lt_of_le h1 hbw2.size) HKA hg2 HNI HNL (by omega) rb HRB)
    rw [HNL.out]
    clear ho2 HRS HRT HKO HRD
    have N2' := N2
    go_upto_region 8 with fail
    go_upto_region 9 with fail
    refine HBD.out.mono ?_
    rintro e w3 ⟨u, rfl, ho3, hb3⟩
    clear HBD HNI
    obtain ⟨q, ok⟩ := rb
    have HU3 := hid_of3 (rdP_own ho3)
    have HO3 := hid_of3 (own_mono ho3 (show w.heap.size + 1 ≤ w2.heap.size from N2.out.lt))
    obtain ⟨ap, cp, hv, hl0, hcp, _⟩ := rdP_own ho3
    obtain ⟨np, HNP⟩ : ∃ n, Hid (q.ps.length = n) := ⟨_, (rfl : _ = _)⟩
    rw [show ((q, ok) : Pq × Bool).1 = q from rfl, HNP.out] at hv hl0
    subst hv
    rw [show ((q, ok) : Pq × Bool).1 = q from rfl] at HU3 HO3
    clear ho3
    have hbw3 := hbw2.trans (hb3.mono hbw2.size)
    unfold opV
    obtain ⟨X4, HX4⟩ : ∃ X, Hid (w3.alloc (.cells #[.int .i64 q.kind, .int .i64 q.id, .int .i64 q.a, .int .i64 q.b, .int .i64 q.c, .int .i64 q.d, .int .i64 q.pw, .int .i64 q.ph, .slice ap np cp] 26) = X) := ⟨_, (rfl : _ = _)⟩
    have hb4 : Below w3.heap.size w3 X4 := by rw [← HX4.out]; exact (Below.refl _ _).alloc (Nat.le_refl _) _
    have hbw4 := hbw3.trans (hb4.mono hbw3.size)
    have HN4 : Hid (Nine X4 w3.heap.size (.int .i64 q.kind) (.int .i64 q.id) (.int .i64 q.a) (.int .i64 q.b) (.int .i64 q.c) (.int .i64 q.d) (.int .i64 q.pw) (.int .i64 q.ph) (.slice ap np cp)) := by rw [← HX4.out]; exact nine_start _ _ _ _ _ _ _ _ _ _ _ _ rfl
    have HA4 : Hid (Nine X4 w.heap.size (.int .i64 0) (.int .i64 0) (.int .i64 0) (.int .i64 0) (.int .i64 0) (.int .i64 0) (.int .i64 0) (.int .i64 0) (.slice none 0 0)) := ((N2'.out.on hb3).on hb4)
    have HU4 := hid_of3 (HU3.out.on hb4)
    have HO4 : Hid (X4.ownsRow (w.heap.size + 1) 88 2 (.slice ap np cp) q.ps.length (pixCells q.ps)) := own_on2 HO3.out hb4
    have HS4 : Hid (Shapes X4) := HS.out.on h1 hbw4
    have h14 := Nat.lt_of_lt_of_le h1 hbw4.size
    cases ok with
    | false =>
      have hr : Hid (r = (q00, 4)) := by
        unfold Hid; rw [HR1.out]; unfold Sc.opW; rw [HN1.out]
        simp only
        rw [HKW.out, if_neg (by omega), HSH.out]
        have := HRB.out
        unfold bres at this
        by_cases hf : Sc.fitN sh ns = true
        · rw [if_pos hf] at this; simp at this
        · rw [if_neg hf]
      go_upto_region 9 with fail
      rw [HX4.out]
      clear HX4
      obtain ⟨r0, r1, r2, r3, r4, r5, r6, r7, r8, rf0, rf1, rf2, rf3, rf4, rf5, rf6, rf7, rf8, rlt⟩ := HA4.out
      go_wp2_with fail
      refine bodyPost_ret (v := .tuple #[.agg #[.int .i64 0, .int .i64 0, .int .i64 0, .int .i64 0, .int .i64 0, .int .i64 0, .int .i64 0, .int .i64 0, .slice none 0 0], .iface 69 (.int .i64 4)]) (by simp [results, Tryd.results21, go_sem, r0, r1, r2, r3, r4, r5, r6, r7, r8]) rfl (pars_no hr (by decide) ?_)
      exact set9_below hbw4 (Nat.le_refl _) _ _ _ _ _ _ _ _ _
    | true =>
      have hq : Hid (r = finQ q ∧ q.ps.length ≤ ns.length) := by
        have := HRB.out
        unfold bres at this
        by_cases hf : Sc.fitN sh ns = true
        · rw [if_pos hf] at this
          simp only [Prod.mk.injEq, and_true] at this
          refine ⟨?_, by rw [← this]; exact opN_px _ _⟩
          rw [HR1.out]; unfold Sc.opW; rw [HN1.out]
          simp only
          rw [HKW.out, if_neg (by omega), HSH.out, if_pos hf, this]
        · rw [if_neg hf] at this; simp at this
      have hpl : q.ps.length ≤ 1000000000 := by have := hq.out.2; have := HNL.out; omega
      obtain ⟨c, HC⟩ : ∃ c, Hid (opC q = c) := ⟨_, (rfl : _ = _)⟩
      have hck := opCheck_any q (.slice ap np cp) X4 HS4 h14 HU4 hpl c HC
      unfold opV at hck
      have HCK := hid_of3 hck
      clear hck
      go_upto_region 9 with fail
      rw [HX4.out]
      clear HX4
      obtain ⟨k0, k1, k2, k3, k4, k5, k6, k7, k8, kf0, kf1, kf2, kf3, kf4, kf5, kf6, kf7, kf8, klt⟩ := HN4.out
      go_wp2_with fail
      refine HCK.out.mono ?_
      clear k0 k1 k2 k3 k4 k5 k6 k7 k8 kf0 kf1 kf2 kf3 kf4 kf5 kf6 kf7 kf8 klt
      rintro e w5 ⟨rfl, hb5⟩
      have hbw5 := hbw4.trans (hb5.mono hbw4.size)
      have HN5 := hid_of3 (HN4.out.on hb5)
      have HA5 := hid_of3 (HA4.out.on hb5)
      have HO5 := hid_of3 (own_on2 HO4.out hb5)
      clear HCK HN4 HA4 HO4
      obtain ⟨r0, r1, r2, r3, r4, r5, r6, r7, r8, rf0, rf1, rf2, rf3, rf4, rf5, rf6, rf7, rf8, rlt⟩ := HA5.out
      by_cases hcc : c = 0
      case neg =>
        have he : errV c = .iface 69 (.int .i64 (c : Int)) := by unfold errV; rw [if_neg hcc]
        rw [he]
        have hr : Hid (r = (q00, c)) := by unfold Hid; rw [hq.out.1]; unfold finQ; rw [HC.out, if_neg hcc]
        go_wp2_with fail
        refine bodyPost_ret (v := .tuple #[.agg #[.int .i64 0, .int .i64 0, .int .i64 0, .int .i64 0, .int .i64 0, .int .i64 0, .int .i64 0, .int .i64 0, .slice none 0 0], .iface 69 (.int .i64 (c : Int))]) (by simp [results, Tryd.results21, go_sem, r0, r1, r2, r3, r4, r5, r6, r7, r8]) rfl (pars_no hr hcc ?_)
        exact set9_below hbw5 (Nat.le_refl _) _ _ _ _ _ _ _ _ _
      subst hcc
      rw [show errV 0 = Value.nilIface from rfl]
      have hr : Hid (r = (q, 0)) := by unfold Hid; rw [hq.out.1]; unfold finQ; rw [HC.out, if_pos rfl]
      obtain ⟨k0, k1, k2, k3, k4, k5, k6, k7, k8, kf0, kf1, kf2, kf3, kf4, kf5, kf6, kf7, kf8, klt⟩ := HN5.out
      go_wp2_with fail
      refine bodyPost_ret (v := .tuple #[.agg #[.int .i64 q.kind, .int .i64 q.id, .int .i64 q.a, .int .i64 q.b, .int .i64 q.c, .int .i64 q.d, .int .i64 q.pw, .int .i64 q.ph, .slice ap np cp], .nilIface]) (by simp [results, Tryd.results21, go_sem, r0, r1, r2, r3, r4, r5, r6, r7, r8]) rfl ?_
      refine ⟨.slice ap np cp, by rw [hr.out]; rfl, ?_, set9_below hbw5 (Nat.le_refl _) _ _ _ _ _ _ _ _ _⟩
      rw [hr.out]
      exact own_mono (set9_own HO5.out (Nat.lt_succ_self _) _ _ _ _ _ _ _ _ _) (Nat.le_succ _)
end Go.Proofs.YtfhfedcamcpceaaDoor
