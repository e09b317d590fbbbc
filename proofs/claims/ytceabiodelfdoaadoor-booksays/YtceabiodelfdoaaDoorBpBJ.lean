/- Walk: book.Parse. -- s1 -/
import Derived.Test.YtceabiodelfdoaaDoorM11
import Derived.Test.YtceabiodelfdoaaDoorBcFJ
namespace Go.Proofs.YtceabiodelfdoaaDoor
open Go.RowKit

def PBoP (r : List Pq × Nat) (w : World) (e : Ending) (w' : World) : Prop := ∃ v, e = .returned (.tuple #[v, errV r.2]) ∧ RdQ w' v r.1 ∧ Below w.heap.size w w'
theorem pbo_err {r : List Pq × Nat} {c : Nat} {w w' : World} (h : Hid (r = ([], c))) (hb : Below w.heap.size w w') (ev : Value) (he : errV c = ev) : PBoP r w (.returned (.tuple #[.slice none 0 0, ev])) w' := by
  rw [h.out, ← he]; exact ⟨_, rfl, rdQ_nil2 _, hb⟩
theorem err_v {c : Nat} (h : c ≠ 0) : errV c = .iface 61 (.int .i64 (c : Int)) := by unfold errV; rw [if_neg h]
theorem allOf_ok : ∀ (m : Nat) (l : List UInt8) (k : Nat), l.length ≤ m → k ≤ 120 → (Fb.allOf 120 l k).2 = 0 → (Fb.allOf 120 l k).1.length + k ≤ 120 ∧ ∀ p ∈ (Fb.allOf 120 l k).1, p.1.length = 4 ∧ p.2.length ≤ l.length := by
  intro m
  induction m with
  | zero =>
    intro l k hl hk h
    have : l = [] := List.eq_nil_of_length_eq_zero (by omega)
    subst this
    rw [Fb.allOf_nil]
    exact ⟨by simpa using hk, by simp⟩
  | succ m ih =>
    intro l k hl hk h
    by_cases hn : l = []
    · subst hn; rw [Fb.allOf_nil]; exact ⟨by simpa using hk, by simp⟩
    by_cases hm : (120 : Int) ≤ (k : Int)
    · rw [Fb.allOf_many 120 l k hn hm] at h; simp at h
    by_cases he : (Fb.measureL l).2 = 0
    case neg => rw [Fb.allOf_err 120 l k hn hm he] at h; exact absurd h he
    obtain ⟨h8, hle⟩ := Fb.measure_pos he
    rw [Fb.allOf_step 120 l k hn hm he] at h ⊢
    unfold Fb.comb at h ⊢
    by_cases hz : (Fb.allOf 120 (l.drop (Fb.measureL l).1) (k + 1)).2 = 0
    case neg => rw [if_pos hz] at h; exact absurd h hz
    rw [if_neg (fun h => h hz)]
    obtain ⟨h1, h2⟩ := ih (l.drop (Fb.measureL l).1) (k + 1) (by rw [List.length_drop]; omega) (by omega) hz
    refine ⟨by simp only [List.length_append, List.length_singleton]; omega, ?_⟩
    intro p hp
    rcases List.mem_append.1 hp with hp | hp
    · have hp := List.mem_singleton.1 hp
      subst hp
      simp only [List.length_take, List.length_drop]
      omega
    · have := h2 p hp
      rw [List.length_drop] at this
      omega
set_option maxHeartbeats 16000000 in
set_option maxRecDepth 100000 in
theorem bookParse_any (s : ByteArray) (w : World) (HS : Hid (Shapes w)) (h1 : 1 < w.heap.size) (hs : s.size ≤ 1000000) :
    Calls Tryd.prog 9 #[.string s] w fun e w' => PBoP (bookOf s.data.toList) w e w' := by
  obtain ⟨r, HRR⟩ : ∃ r, Hid (bookOf s.data.toList = r) := ⟨_, (rfl : _ = _)⟩
  rw [HRR.out]
  have HL : Hid (s.data.toList.length = s.size) := by unfold Hid; simp
  by_cases h4 : 4000 < s.size
  · have h4i : (4000 : Int) < (s.size : Int) := by omega
    have HR : Hid (r = ([], 2)) := by unfold Hid; rw [← HRR.out]; unfold bookOf; rw [if_pos (by rw [HL.out]; exact h4)]
    go_enter Tryd.func9, Tryd.ntmps9
    go_wp2_with fail
    refine bodyPost_ret (v := .tuple #[.slice none 0 0, .iface 61 (.int .i64 2)]) (by simp [results, Tryd.results9, go_sem]) rfl (pbo_err HR (Below.refl _ _) _ rfl)
  have h4i : ¬ (4000 : Int) < (s.size : Int) := by omega
  obtain ⟨z, HZ⟩ : ∃ z, Hid (Fb.allOf 120 s.data.toList 0 = z) := ⟨_, (rfl : _ = _)⟩
  obtain ⟨cs, c1⟩ := z
  have HR0 : Hid (r = if c1 ≠ 0 then ([], c1) else if (parB cs []).2 ≠ 0 then ([], (parB cs []).2) else if bkC (parB cs []).1 ≠ 0 then ([], bkC (parB cs []).1) else ((parB cs []).1, 0)) := by
    unfold Hid; rw [← HRR.out]; unfold bookOf; rw [if_neg (by rw [HL.out]; exact h4), HZ.out]
  have hall := all_any s 120 w hs (by decide) (by decide) cs c1 HZ
  by_cases hc1 : c1 = 0
  case neg =>
    rw [err_v hc1] at hall
    have HR : Hid (r = ([], c1)) := by unfold Hid; rw [HR0.out, if_pos hc1]
    have HA := hid_of3 hall
    clear hall
    go_enter Tryd.func9, Tryd.ntmps9
    go_wp2_with fail
    refine HA.out.mono ?_
    rintro e w1 ⟨v, rfl, ho, hb1⟩
    clear HA
    go_wp2_with fail
    refine bodyPost_ret (v := .tuple #[.slice none 0 0, .iface 61 (.int .i64 (c1 : Int))]) (by simp [results, Tryd.results9, go_sem]) rfl (pbo_err HR hb1 _ (err_v hc1))
  subst hc1
  rw [show errV 0 = Value.nilIface from rfl] at hall
  have hok := allOf_ok _ s.data.toList 0 (Nat.le_refl _) (by omega) (by rw [HZ.out])
  rw [HZ.out] at hok
  simp only [HL.out] at hok
  obtain ⟨R, HRL⟩ : ∃ R, Hid (cs.length = R) := ⟨_, (rfl : _ = _)⟩
  have hR : R ≤ 120 := by have := hok.1; have := HRL.out; omega
  have HP : Hid (∀ p ∈ cs, p.1.length = 4 ∧ p.2.length ≤ 4000) := fun p hp => by have := hok.2 p hp; omega
  have HR1 : Hid (r = if (parB cs []).2 ≠ 0 then ([], (parB cs []).2) else if bkC (parB cs []).1 ≠ 0 then ([], bkC (parB cs []).1) else ((parB cs []).1, 0)) := by
    unfold Hid; rw [HR0.out, if_neg (by simp)]
  have HA := hid_of3 hall
  clear hall hok
  go_enter Tryd.func9, Tryd.ntmps9
  go_wp2_with fail
  refine HA.out.mono ?_
  rintro e w1 ⟨v, rfl, ho, hb1⟩
  clear HA
  have HO := hid_of3 ho
  obtain ⟨ca, cc, hv⟩ := own_any ho
  rw [HRL.out] at hv
  subst hv
  clear ho
  have hb1s := hb1.size
  go_wp2_with fail
  go_loopw [6, 26] (fun lv i w2 => ∃ (k : Nat) (qv : List (Pq × Value)), k ≤ R ∧ i = .int .i64 k ∧ Hid (OwnQ w2 w1.heap.size lv qv) ∧ qv.length ≤ k ∧ Hid (parB (cs.drop k) (qv.map Prod.fst) = parB cs []) ∧ Hid (∀ p ∈ qv, p.1.ps.length ≤ 64) ∧ Below w1.heap.size w1 w2) (fun _ i _ => R - (intOf i).toNat)
  case atStart => exact ⟨0, [], by omega, rfl, ⟨World.ownsRow_nil _ _ _ _, by simp⟩, by simp, rfl, by unfold Hid; simp, Below.refl _ _⟩
  case round =>
    obtain ⟨w2, rfl⟩ : ∃ x, x = wr := ⟨_, rfl⟩
    obtain ⟨k, qv, hk, rfl, HQ, hql, HPB, HPL, hb2⟩ := hrel
    obtain ⟨la, lc, hlv⟩ := own_any HQ.out.1
    obtain ⟨qn, HQN⟩ : ∃ n, Hid (qv.length = n) := ⟨_, (rfl : _ = _)⟩
    rw [HQN.out] at hlv
    subst hlv
    have hb2s := hb2.size
    have h12 : 1 < w2.heap.size := by omega
    have hbw2 : Below w.heap.size w w2 := hb1.trans (hb2.mono hb1.size)
    have HS2 : Hid (Shapes w2) := HS.out.on h1 hbw2
    by_cases hlt : k < R
    case neg =>
      have hki : ¬ (k : Int) < (R : Int) := by omega
      obtain rfl : R = k := by omega
      have HE : Hid (parB cs [] = (qv.map Prod.fst, 0)) := by
        unfold Hid
        rw [← HPB.out, List.drop_of_length_le (by rw [HRL.out]; exact Nat.le_refl _)]
        rfl
      obtain ⟨cb, HCB⟩ : ∃ c, Hid (bkC (qv.map Prod.fst) = c) := ⟨_, (rfl : _ = _)⟩
      have HR : Hid (r = if cb ≠ 0 then ([], cb) else (qv.map Prod.fst, 0)) := by
        unfold Hid
        rw [HR1.out, HE.out, if_neg (by simp), HCB.out]
      have HRQ : Hid (RdQ w2 (.slice la qn lc) (qv.map Prod.fst)) := HQ.out.rd
      have hlq : (qv.map Prod.fst).length ≤ 1000 := by rw [List.length_map]; omega
      have hpq : ∀ j, j < (qv.map Prod.fst).length → ((qv.map Prod.fst).getD j pq0).ps.length ≤ 1000 := fun j hj => by
        have hm : (qv.map Prod.fst).getD j pq0 ∈ qv.map Prod.fst := by
          rw [List.getD_eq_getElem?_getD, List.getElem?_eq_getElem hj]
          exact List.getElem_mem hj
        obtain ⟨p, hp, he⟩ := List.mem_map.1 hm
        have := HPL.out p hp
        rw [← he]
        omega
      have hbf := bookCheck_any _ _ w2 HS2 h12 HRQ hpq hlq cb HCB
      clear hlq hpq
      by_cases hcb : cb = 0
      · subst hcb
        rw [if_neg (by simp)] at HR
        rw [show errV 0 = Value.nilIface from rfl] at hbf
        have HBF := hid_of3 hbf
        clear hbf
        go_wp2_with fail
        refine HBF.out.mono ?_
        rintro e w3 ⟨rfl, hb3⟩
        clear HBF
        go_wp2_with fail
        refine bodyPost_ret (v := .tuple #[.slice la qn lc, .nilIface]) (by simp [results, Tryd.results9, go_sem]) rfl ?_
        rw [HR.out]
        exact ⟨_, rfl, (HQ.out.on hb3).rd, hbw2.trans (hb3.mono hbw2.size)⟩
      rw [if_pos hcb] at HR
      rw [err_v hcb] at hbf
      have HBF := hid_of3 hbf
      clear hbf
      go_wp2_with fail
      refine HBF.out.mono ?_
      rintro e w3 ⟨rfl, hb3⟩
      clear HBF
      go_wp2_with fail
      refine bodyPost_ret (v := .tuple #[.slice none 0 0, .iface 61 (.int .i64 (cb : Int))]) (by simp [results, Tryd.results9, go_sem]) rfl (pbo_err HR (hbw2.trans (hb3.mono hbw2.size)) _ (err_v hcb))
    have hki : (k : Int) < (R : Int) := by omega
    have hki0 : (0 : Int) ≤ (k : Int) := by omega
    have HO2 := HO.out
    rw [HRL.out] at HO2
    obtain ⟨g, cg, hga⟩ := own_some HO2 (by omega)
    simp only [Value.slice.injEq] at hga
    obtain ⟨rfl, -, rfl⟩ := hga
    have hkl : k < cs.length := by rw [HRL.out]; exact hlt
    obtain ⟨p, HPX⟩ : ∃ p, Hid (cs[k]'hkl = p) := ⟨_, (rfl : _ = _)⟩
    obtain ⟨pn, pd⟩ := p
    have hpm := HP.out (pn, pd) (by rw [← HPX.out]; exact List.getElem_mem hkl)
    simp only at hpm
    obtain ⟨nb, HNB⟩ := bytes_of pn
    obtain ⟨db, HDB⟩ := bytes_of pd
    have hns : nb.size = 4 := by rw [size_of HNB]; exact hpm.1
    have hds : db.size ≤ 4000 := by rw [size_of HDB]; exact hpm.2
    have hca := cells_at cs pn pd k (by rw [List.getElem?_eq_getElem hkl, HPX.out])
    have en : w1.cell? ⟨g, k * 2, none⟩ = some (.string nb) := by
      rw [HO2.cellAt (k * 2) (by omega), hca.1, HNB.out, str_self]
    have ed : w1.cell? ⟨g, k * 2 + 1, none⟩ = some (.string db) := by
      rw [HO2.cellAt (k * 2 + 1) (by omega), hca.2, HDB.out, str_self]
    have hgn : g < w1.heap.size := World.block_lt_of_cell? w1 ⟨g, k * 2, none⟩ en
    have en2 : w2.cell? ⟨g, k * 2, none⟩ = some (.string nb) := (hb2.cell (p := ⟨g, k * 2, none⟩) hgn).trans en
    have ed2 : w2.cell? ⟨g, k * 2 + 1, none⟩ = some (.string db) := (hb2.cell (p := ⟨g, k * 2 + 1, none⟩) hgn).trans ed
    have HDR : Hid (cs.drop k = (pn, pd) :: cs.drop (k + 1)) := by unfold Hid; rw [List.drop_eq_getElem_cons hkl, HPX.out]
    obtain ⟨b, HB⟩ : ∃ b, Hid (decide ((nb.data.toList.getD 0 0).toNat = 88) = b) := ⟨_, (rfl : _ = _)⟩
    have HPS : Hid (passB pn = b) := by unfold Hid passB; rw [HNB.out]; exact HB.out
    clear hca HO2
    obtain ⟨X0, HX0⟩ : ∃ X, Hid (w2.alloc (.cells #[.string nb, .string db] 66) = X) := ⟨_, (rfl : _ = _)⟩
    have hbx : Below w2.heap.size w2 X0 := by rw [← HX0.out]; exact (Below.refl _ _).alloc (Nat.le_refl _) _
    have T0 := hid_of3 (show Two X0 w2.heap.size (.string nb) (.string db) by rw [← HX0.out]; exact two_startB w2 _ _ 66 w2.heap.size rfl)
    have HHX := hid_of3 (hasX_any nb X0 (by omega) (by omega) b HB)
    go_wp2_with fail
    rw [HX0.out]
    refine HHX.out.mono ?_
    rintro e w3 ⟨rfl, hb3⟩
    clear HHX
    have T3 := T0.out.on hb3
    have q0 := T3.c0
    have q1 := T3.c1
    have hbx3 : Below w2.heap.size w2 w3 := hbx.trans (hb3.mono hbx.size)
    cases hb : b with
    | true =>
      subst hb
      have HPB2 : Hid (parB (cs.drop (k + 1)) (qv.map Prod.fst) = parB cs []) := by
        unfold Hid
        rw [← HPB.out, HDR.out]
        conv => rhs; unfold parB
        rw [if_pos HPS.out]
      go_wp2_with fail
      go_roundw
      case rel => exact ⟨k + 1, qv, by omega, by go_num, HQ.out.on hbx3, by omega, HPB2, HPL, hb2.trans (hbx3.mono hb2.size)⟩
      case measure => simp [intOf]; omega
    | false =>
      subst hb
      obtain ⟨z, HPQ⟩ : ∃ z, Hid (parQ nb db = z) := ⟨_, (rfl : _ = _)⟩
      obtain ⟨q, c⟩ := z
      have HPQ2 : Hid (parQ ⟨pn.toArray⟩ ⟨pd.toArray⟩ = (q, c)) := by
        unfold Hid
        rw [← HPQ.out]
        congr 1
        · rw [HNB.out]
        · rw [HDB.out]
      have HQL : Hid (q.ps.length ≤ 64) := by have h := parQ_len2 nb db; rw [HPQ.out] at h; exact h
      have hpo := parseOp_own nb db w3 (HS2.out.on h12 hbx3) (Nat.lt_of_lt_of_le h12 hbx3.size) (by omega)
      rw [HPQ.out] at hpo
      unfold PaOP at hpo
      have HPO := hid_of3 hpo
      clear hpo
      go_wp2_with fail
      refine HPO.out.mono ?_
      rintro e w4 ⟨u, rfl, hu, hb4⟩
      clear HPO
      obtain ⟨ua, uc, hue⟩ := own_any hu
      obtain ⟨um, HUM⟩ : ∃ n, Hid (q.ps.length = n) := ⟨_, (rfl : _ = _)⟩
      rw [HUM.out] at hue
      subst hue
      simp only [opV]
      have HU4 := hid_of3 hu
      clear hu
      have hb24 : Below w2.heap.size w2 w4 := hbx3.trans (hb4.mono hbx3.size)
      have hbw4 : Below w.heap.size w w4 := hbw2.trans (hb24.mono hbw2.size)
      by_cases hc : c = 0
      · subst hc
        rw [show errV 0 = Value.nilIface from rfl]
        have hxa : Below w4.heap.size w4 (w4.alloc (.cells #[.int .i64 q.kind, .int .i64 q.id, .int .i64 q.a, .int .i64 q.b, .int .i64 q.c, .int .i64 q.d, .int .i64 q.pw, .int .i64 q.ph, .slice ua um uc] 45)) := (Below.refl _ _).alloc (Nat.le_refl _) _
        have hxb : Below (w4.alloc (.cells #[.int .i64 q.kind, .int .i64 q.id, .int .i64 q.a, .int .i64 q.b, .int .i64 q.c, .int .i64 q.d, .int .i64 q.pw, .int .i64 q.ph, .slice ua um uc] 45)).heap.size (w4.alloc (.cells #[.int .i64 q.kind, .int .i64 q.id, .int .i64 q.a, .int .i64 q.b, .int .i64 q.c, .int .i64 q.d, .int .i64 q.pw, .int .i64 q.ph, .slice ua um uc] 45)) ((w4.alloc (.cells #[.int .i64 q.kind, .int .i64 q.id, .int .i64 q.a, .int .i64 q.b, .int .i64 q.c, .int .i64 q.d, .int .i64 q.pw, .int .i64 q.ph, .slice ua um uc] 45)).alloc (.cells #[.int .i64 q.kind, .int .i64 q.id, .int .i64 q.a, .int .i64 q.b, .int .i64 q.c, .int .i64 q.d, .int .i64 q.pw, .int .i64 q.ph, .slice ua um uc] 45)) := (Below.refl _ _).alloc (Nat.le_refl _) _
        have hcell : ∀ (Y : World) (j : Nat) (z : Value), (qCells q (.slice ua um uc))[j]? = some z → (Y.alloc (.cells #[.int .i64 q.kind, .int .i64 q.id, .int .i64 q.a, .int .i64 q.b, .int .i64 q.c, .int .i64 q.d, .int .i64 q.pw, .int .i64 q.ph, .slice ua um uc] 45)).cell? ⟨Y.heap.size, j, none⟩ = some z := fun Y j z hj => by
          show (Y.alloc (.cells (qCells q (.slice ua um uc)).toArray 45)).cell? _ = _
          simpa using hj
        have hb24s := hb24.size
        have hbx3s := hbx3.size
        obtain ⟨v5, w5, hr5, ho5, hb5⟩ := op_app ((w4.alloc (.cells #[.int .i64 q.kind, .int .i64 q.id, .int .i64 q.a, .int .i64 q.b, .int .i64 q.c, .int .i64 q.d, .int .i64 q.pw, .int .i64 q.ph, .slice ua um uc] 45)).alloc (.cells #[.int .i64 q.kind, .int .i64 q.id, .int .i64 q.a, .int .i64 q.b, .int .i64 q.c, .int .i64 q.d, .int .i64 q.pw, .int .i64 q.ph, .slice ua um uc] 45)) w1.heap.size (.slice la qn lc) qv (((HQ.out.on hb24).on hxa).on hxb) (by omega) (by simp; omega) q (.slice ua um uc) (own_on2 (own_on2 (own_mono HU4.out (by omega)) hxa) hxb) (w4.alloc (.cells #[.int .i64 q.kind, .int .i64 q.id, .int .i64 q.a, .int .i64 q.b, .int .i64 q.c, .int .i64 q.d, .int .i64 q.pw, .int .i64 q.ph, .slice ua um uc] 45)).heap.size (hcell _)
        rw [show (w4.alloc (.cells #[.int .i64 q.kind, .int .i64 q.id, .int .i64 q.a, .int .i64 q.b, .int .i64 q.c, .int .i64 q.d, .int .i64 q.pw, .int .i64 q.ph, .slice ua um uc] 45)).heap.size = w4.heap.size + 1 by simp] at hr5
        have HR5 := hid_of3 hr5
        have HO5 := hid_of3 ho5
        obtain ⟨a5, c5, hv5⟩ := own_any ho5.1
        obtain ⟨n5, HN5⟩ : ∃ n, Hid ((qv ++ [(q, Value.slice ua um uc)]).length = n) := ⟨_, (rfl : _ = _)⟩
        rw [HN5.out] at hv5
        subst hv5
        have hb14 : Below w1.heap.size w1 w4 := hb2.trans (hb24.mono hb2.size)
        have hbw5 : Below w1.heap.size w1 w5 := ((hb14.alloc hb14.size _).alloc (by simp; have := hb14.size; omega) _).trans hb5
        have HPB2 : Hid (parB (cs.drop (k + 1)) ((qv ++ [(q, Value.slice ua um uc)]).map Prod.fst) = parB cs []) := by
          unfold Hid
          rw [← HPB.out, HDR.out, List.map_append]
          conv => rhs; unfold parB
          rw [if_neg (by rw [HPS.out]; simp), HPQ2.out, if_pos rfl]
          rfl
        have HPL5 : Hid (∀ p ∈ qv ++ [(q, Value.slice ua um uc)], p.1.ps.length ≤ 64) := by
          intro p hp
          rcases List.mem_append.1 hp with hp | hp
          · exact HPL.out p hp
          · simp at hp; subst hp; exact HQL.out
        clear hr5 ho5 hb5 hxa hxb hcell
        go_wp2_with (at_builtin; refine Lib.wpList_append_run _ rfl _ _ _ _ rfl _ _ rfl rfl _ _ HR5.out ?_)
        go_roundw
        case rel => exact ⟨k + 1, qv ++ [(q, .slice ua um uc)], by omega, by go_num, HO5, by simp; omega, HPB2, HPL5, hbw5⟩
        case measure => simp [intOf]; omega
      rw [err_v hc]
      have HE : Hid (parB cs [] = ([], c)) := by unfold Hid; rw [← HPB.out, HDR.out]; unfold parB; rw [if_neg (by rw [HPS.out]; simp), HPQ2.out, if_neg hc]
      have HR : Hid (r = ([], c)) := by unfold Hid; rw [HR1.out, HE.out, if_pos hc]
      go_wp2_with fail
      refine bodyPost_ret (v := .tuple #[.slice none 0 0, .iface 61 (.int .i64 (c : Int))]) (by simp [results, Tryd.results9, go_sem]) rfl (pbo_err HR ?_ _ (err_v hc))
      exact hbw4.alloc hbw4.size _
end Go.Proofs.YtceabiodelfdoaaDoor
