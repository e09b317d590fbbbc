/- Walk: the reference's BookOf. -- s1 -/
import Derived.Test.YtceabiodelfdoaaDoorM11
import Derived.Test.YtceabiodelfdoaaDoorOfAJ
namespace Go.Proofs.YtceabiodelfdoaaDoor
open Go.RowKit

/-- what is read of a book's bytes -/
def RBoP (r : List Pq × Nat) (w : World) (e : Ending) (w' : World) : Prop := ∃ v, e = .returned (.tuple #[v, .int .i64 (r.2 : Nat)]) ∧ RdQ w' v r.1 ∧ Below w.heap.size w w'
theorem rdQ_nil2 (w : World) : RdQ w (.slice none 0 0) [] := ⟨none, 0, rfl, by simp, by omega, fun h => absurd rfl h⟩
theorem rbo_err {r : List Pq × Nat} {c : Nat} {w w' : World} (h : Hid (r = ([], c))) (hb : Below w.heap.size w w') : RBoP r w (.returned (.tuple #[.slice none 0 0, .int .i64 (c : Int)])) w' := by
  rw [h.out]; exact ⟨_, rfl, rdQ_nil2 _, hb⟩
theorem own_some {w : World} {B : Nat} {v : Value} {n : Nat} {xs : List Value} {e : TypeId} {size : Nat} (h : w.ownsRow B e size v n xs) (hn : 0 < n) : ∃ g cap, v = .slice (some ⟨g, 0, none⟩) n cap := by
  rcases h.2 with ⟨h1, h0⟩ | ⟨g, cap, cur, h1, _⟩
  · omega
  · exact ⟨g, cap, h1⟩
theorem first_err2 {l : List UInt8} {m c : Nat} (h : Fb.measureL l = (m, c)) (hc : c ≠ 0) : Fb.firstL l = ([], [], [], c) := by
  unfold Fb.firstL; rw [h]; rw [if_neg hc]
theorem comb_err (rs : List (List UInt8 × List UInt8)) (c : Nat) (hc : c ≠ 0) : Fb.comb rs ([], c) = ([], c) := by unfold Fb.comb; rw [if_pos hc]
theorem comb_done (rs : List (List UInt8 × List UInt8)) : Fb.comb rs ([], 0) = (rs, 0) := by unfold Fb.comb; rw [if_neg (by simp)]; simp
theorem finQ_len2 (q : Pq) (h : q.ps.length ≤ 64) : (finQ q).1.ps.length ≤ 64 := by
  unfold finQ
  split
  · exact h
  · simp [q00]
theorem parQ_len2 (nm dt : ByteArray) : (parQ nm dt).1.ps.length ≤ 64 := by
  unfold parQ
  split
  · simp [q00]
  · split
    · simp [q00]
    · split
      · split
        · exact finQ_len2 _ (parse_lenP _ _ _ _ _ rfl)
        · simp [q00]
      · exact finQ_len2 _ (by simp [readQ])
set_option maxHeartbeats 16000000 in
set_option maxRecDepth 100000 in
theorem bookOfR_any (s : ByteArray) (w : World) (HM : Hid (RefNames w)) (hs : s.size ≤ 9223372036854775807) :
    Calls Tryd.prog 10 #[.string s] w fun e w' => RBoP (bookOf s.data.toList) w e w' := by
  obtain ⟨r, HRR⟩ : ∃ r, Hid (bookOf s.data.toList = r) := ⟨_, (rfl : _ = _)⟩
  rw [HRR.out]
  have HL : Hid (s.data.toList.length = s.size) := by unfold Hid; simp
  by_cases h4 : 4000 < s.size
  · have h4i : (4000 : Int) < (s.size : Int) := by omega
    have HR : Hid (r = ([], 2)) := by unfold Hid; rw [← HRR.out]; unfold bookOf; rw [if_pos (by rw [HL.out]; exact h4)]
    go_enter Tryd.func10, Tryd.ntmps10
    go_wp2_with fail
    refine bodyPost_ret (v := .tuple #[.slice none 0 0, .int .i64 2]) (by simp [results, Tryd.results10, go_sem]) rfl (rbo_err HR (Below.refl _ _))
  have h4i : ¬ (4000 : Int) < (s.size : Int) := by omega
  obtain ⟨z, HZ⟩ : ∃ z, Hid (Fb.allOf 120 s.data.toList 0 = z) := ⟨_, (rfl : _ = _)⟩
  obtain ⟨cs, c1⟩ := z
  have HR0 : Hid (r = if c1 ≠ 0 then ([], c1) else if (parB cs []).2 ≠ 0 then ([], (parB cs []).2) else if bkC (parB cs []).1 ≠ 0 then ([], bkC (parB cs []).1) else ((parB cs []).1, 0)) := by
    unfold Hid; rw [← HRR.out]; unfold bookOf; rw [if_neg (by rw [HL.out]; exact h4), HZ.out]
  go_enter Tryd.func10, Tryd.ntmps10
  go_wp2_with fail
  go_loopw [0, 4, 5, 6, 7, 8, 9] (fun x nv dv _ _ _ _ wr => ∃ (t : ByteArray) (rs : List (List UInt8 × List UInt8)), x = .string t ∧ t.size + 8 * rs.length ≤ 4000 ∧ rs.length ≤ 120 ∧
    Hid (wr.ownsRow w.heap.size 9 1 nv (rs.map Prod.fst).length (txts (rs.map Prod.fst))) ∧ Hid (wr.ownsRow w.heap.size 9 1 dv (rs.map Prod.snd).length (txts (rs.map Prod.snd))) ∧
    Hid (∀ g, nv.ownBlock = some g → dv.ownBlock ≠ some g) ∧ Hid (∀ p ∈ rs, p.1.length = 4 ∧ p.2.length ≤ 4000) ∧ Below w.heap.size w wr ∧ Hid ((cs, c1) = Fb.comb rs (Fb.allOf 120 t.data.toList rs.length))) (fun x _ _ _ _ _ _ _ => (match x with | .string t => t.size | _ => 0))
  case atStart => exact ⟨s, [], rfl, by simp; omega, by simp, World.ownsRow_nil _ _ _ _, World.ownsRow_nil _ _ _ _, fun g hg => by simp [Value.ownBlock] at hg, by unfold Hid; simp, Below.refl _ _, by unfold Hid; rw [← HZ.out]; exact (Fb.comb_nil _ _ _).symm⟩
  case round =>
    obtain ⟨t, rs, rfl, hsz, hrl, HN, HD, HNE, HP, hbr, HK⟩ := hrel
    obtain ⟨na, nc, hnv⟩ := own_any HN.out
    obtain ⟨da, dc, hdv⟩ := own_any HD.out
    obtain ⟨R, HRL⟩ : ∃ R, Hid (rs.length = R) := ⟨_, (rfl : _ = _)⟩
    have hn1 : (rs.map Prod.fst).length = R := by rw [List.length_map]; exact HRL.out
    have hn2 : (rs.map Prod.snd).length = R := by rw [List.length_map]; exact HRL.out
    rw [hn1] at hnv
    rw [hn2] at hdv
    subst hnv hdv
    rw [HRL.out] at hrl hsz
    clear hn1 hn2
    have HLT : Hid (t.data.toList.length = t.size) := by unfold Hid; simp
    by_cases hpos : t.size = 0
    · have hte : (!t.toList.isEmpty) = false := by
        rw [ByteArray.toList_eq, List.eq_nil_of_length_eq_zero (HLT.out.trans hpos)]; rfl
      have HKD : Hid ((cs, c1) = (rs, 0)) := by
        unfold Hid
        rw [HK.out, List.eq_nil_of_length_eq_zero (HLT.out.trans hpos), Fb.allOf_nil, comb_done]
      clear HK
      have HCS : Hid (cs = rs) := congrArg Prod.fst HKD.out
      have HC0 : Hid (c1 = 0) := congrArg Prod.snd HKD.out
      have HR1 : Hid (r = if (parB rs []).2 ≠ 0 then ([], (parB rs []).2) else if bkC (parB rs []).1 ≠ 0 then ([], bkC (parB rs []).1) else ((parB rs []).1, 0)) := by
        unfold Hid; rw [HR0.out, HC0.out, HCS.out, if_neg (by simp)]
      clear HKD HNE
      obtain ⟨wO, rfl⟩ : ∃ x, x = wr := ⟨_, rfl⟩
      go_wp2_with fail
      go_loopw [10, 11, 12, 13] (fun lv i _ _ w2 => ∃ (k : Nat) (qv : List (Pq × Value)), k ≤ R ∧ i = .int .i64 k ∧ Hid (OwnQ w2 wO.heap.size lv qv) ∧ qv.length ≤ k ∧ Hid (parB (rs.drop k) (qv.map Prod.fst) = parB rs []) ∧ Hid (∀ p ∈ qv, p.1.ps.length ≤ 64) ∧ Below wO.heap.size wO w2) (fun _ i _ _ _ => R - (intOf i).toNat)
      case atStart => exact ⟨0, [], by omega, rfl, ⟨World.ownsRow_nil _ _ _ _, by simp⟩, by simp, rfl, by unfold Hid; simp, Below.refl _ _⟩
      case round =>
        obtain ⟨w2, rfl⟩ : ∃ x, x = wr := ⟨_, rfl⟩
        obtain ⟨k, qv, hk, rfl, HQ, hql, HPB, HPL, hb2⟩ := hrel
        obtain ⟨la, lc, hlv⟩ := own_any HQ.out.1
        obtain ⟨qn, HQN⟩ : ∃ n, Hid (qv.length = n) := ⟨_, (rfl : _ = _)⟩
        rw [HQN.out] at hlv
        subst hlv
        by_cases hlt : k < R
        case neg =>
          have hki : ¬ (k : Int) < (R : Int) := by omega
          obtain rfl : R = k := by omega
          have HE : Hid (parB rs [] = (qv.map Prod.fst, 0)) := by
            unfold Hid
            rw [← HPB.out, List.drop_of_length_le (by rw [HRL.out]; exact Nat.le_refl _)]
            rfl
          obtain ⟨cb, HCB⟩ : ∃ c, Hid (bkC (qv.map Prod.fst) = c) := ⟨_, (rfl : _ = _)⟩
          have HR : Hid (r = if cb ≠ 0 then ([], cb) else (qv.map Prod.fst, 0)) := by
            unfold Hid
            rw [HR1.out, HE.out, if_neg (by simp), HCB.out]
          have HRQ : Hid (RdQ w2 (.slice la qn lc) (qv.map Prod.fst)) := HQ.out.rd
          have hlq : (qv.map Prod.fst).length ≤ 1000 := by rw [List.length_map]; omega
          have hpq : ∀ j, j < (qv.map Prod.fst).length → ((qv.map Prod.fst).getD j pq0).ps.length ≤ 1000 := fun j hj => by
            have hm : (qv.map Prod.fst).getD j pq0 ∈ qv.map Prod.fst := by
              rw [List.getD_eq_getElem?_getD, List.getElem?_eq_getElem hj]
              exact List.getElem_mem hj
            obtain ⟨p, hp, he⟩ := List.mem_map.1 hm
            have := HPL.out p hp
            rw [← he]
            omega
          have HBF := hid_of3 (bookFault_any _ _ w2 HRQ hpq hlq cb HCB)
          clear hlq hpq
          go_wp2_with fail
          refine HBF.out.mono ?_
          rintro e w3 ⟨rfl, hb3⟩
          clear HBF
          have hbz := hbr.trans ((hb2.trans (hb3.mono hb2.size)).mono hbr.size)
          by_cases hcb : cb = 0
          · subst hcb
            have hcp : ¬ (0 : Int) < ((0 : Nat) : Int) := by omega
            rw [if_neg (by simp)] at HR
            go_wp2_with fail
            refine bodyPost_ret (v := .tuple #[.slice la qn lc, .int .i64 0]) (by simp [results, Tryd.results10, go_sem]) rfl ?_
            rw [HR.out]
            exact ⟨_, rfl, (HQ.out.on hb3).rd, hbz⟩
          have hcp : (0 : Int) < (cb : Int) := by omega
          rw [if_pos hcb] at HR
          go_wp2_with fail
          refine bodyPost_ret (v := .tuple #[.slice none 0 0, .int .i64 (cb : Int)]) (by simp [results, Tryd.results10, go_sem]) rfl (rbo_err HR hbz)
        have hki : (k : Int) < (R : Int) := by omega
        have hki0 : (0 : Int) ≤ (k : Int) := by omega
        obtain ⟨gn, cn, hna⟩ := own_some HN.out (by rw [List.length_map, HRL.out]; omega)
        obtain ⟨gd, cd, hda⟩ := own_some HD.out (by rw [List.length_map, HRL.out]; omega)
        simp only [Value.slice.injEq] at hna hda
        obtain ⟨rfl, -, rfl⟩ := hna
        obtain ⟨rfl, -, rfl⟩ := hda
        have hkl : k < rs.length := by rw [HRL.out]; exact hlt
        obtain ⟨p, HPX⟩ : ∃ p, Hid (rs[k]'hkl = p) := ⟨_, (rfl : _ = _)⟩
        obtain ⟨pn, pd⟩ := p
        have hpm := HP.out (pn, pd) (by rw [← HPX.out]; exact List.getElem_mem hkl)
        simp only at hpm
        obtain ⟨nb, HNB⟩ := bytes_of pn
        obtain ⟨db, HDB⟩ := bytes_of pd
        have hns : nb.size = 4 := by rw [size_of HNB]; exact hpm.1
        have hds : db.size ≤ 4000 := by rw [size_of HDB]; exact hpm.2
        have HN2 := HN.out
        have HD2 := HD.out
        rw [List.length_map, HRL.out] at HN2 HD2
        have en : wO.cell? ⟨gn, k, none⟩ = some (.string nb) := by
          rw [HN2.cellAt k (by omega)]
          unfold txts
          rw [List.getElem?_map, List.getElem?_map, List.getElem?_eq_getElem hkl, HPX.out]
          simp only [Option.map_some]
          rw [HNB.out, str_self]
        have ed : wO.cell? ⟨gd, k, none⟩ = some (.string db) := by
          rw [HD2.cellAt k (by omega)]
          unfold txts
          rw [List.getElem?_map, List.getElem?_map, List.getElem?_eq_getElem hkl, HPX.out]
          simp only [Option.map_some]
          rw [HDB.out, str_self]
        have hgn : gn < wO.heap.size := World.block_lt_of_cell? wO ⟨gn, k, none⟩ en
        have hgd : gd < wO.heap.size := World.block_lt_of_cell? wO ⟨gd, k, none⟩ ed
        have en2 : w2.cell? ⟨gn, k, none⟩ = some (.string nb) := (hb2.cell (p := ⟨gn, k, none⟩) hgn).trans en
        have ed2 : w2.cell? ⟨gd, k, none⟩ = some (.string db) := (hb2.cell (p := ⟨gd, k, none⟩) hgd).trans ed
        have HDR : Hid (rs.drop k = (pn, pd) :: rs.drop (k + 1)) := by unfold Hid; rw [List.drop_eq_getElem_cons hkl, HPX.out]
        obtain ⟨x0, HX0⟩ : ∃ c, Hid (nb.data.toList.getD 0 0 = c) := ⟨_, (rfl : _ = _)⟩
        obtain ⟨m0, HM0⟩ : ∃ m, Hid (x0.toNat = m) := ⟨_, (rfl : _ = _)⟩
        have hx0 := nat_at nb 0 x0 HX0 m0 HM0
        have h0s : 0 < nb.size := by omega
        have h0si : (0 : Int) < (nb.size : Int) := by omega
        have HPS0 : Hid (passB pn = decide (m0 = 88)) := by unfold Hid passB; rw [HNB.out, HX0.out, HM0.out]
        by_cases h88 : m0 = 88
        · have h88i : ((m0 : Int) == 88) = true := by simp; omega
          have HPB2 : Hid (parB (rs.drop (k + 1)) (qv.map Prod.fst) = parB rs []) := by
            unfold Hid
            rw [← HPB.out, HDR.out]
            conv => rhs; unfold parB
            rw [if_pos (by rw [HPS0.out]; simpa using h88)]
          go_wp2_with fail
          go_roundw
          case rel => exact ⟨k + 1, qv, by omega, by go_num, HQ, by omega, HPB2, HPL, hb2⟩
          case measure => simp [intOf]; omega
        have h88i : ((m0 : Int) == 88) = false := by simp; omega
        have HPS : Hid (passB pn = false) := by unfold Hid; rw [HPS0.out]; simpa using h88
        obtain ⟨z, HPQ⟩ : ∃ z, Hid (parQ nb db = z) := ⟨_, (rfl : _ = _)⟩
        obtain ⟨q, c⟩ := z
        have HPQ2 : Hid (parQ ⟨pn.toArray⟩ ⟨pd.toArray⟩ = (q, c)) := by
          unfold Hid
          rw [← HPQ.out]
          congr 1
          · rw [HNB.out]
          · rw [HDB.out]
        have HQL : Hid (q.ps.length ≤ 64) := by have h := parQ_len2 nb db; rw [HPQ.out] at h; exact h
        go_wp2_with fail
        clear hx0 h0s h0si
        refine wp_region_held_drew (S := (fun w' => w'.cell? ⟨gn, k, none⟩ = some (.string nb) ∧ w'.cell? ⟨gd, k, none⟩ = some (.string db))) (by kernel_rfl) ?_ (fun hHeld => ?_)
        · exact ⟨en2, ed2⟩
        refine wpAnyH_take (i := 0) (oi := ({ dst := some 55, op := Op.move (Operand.tmp 4), type := 70, pos := "parts.go:710", after := #[], guard := none } : Oper)) (v := ?_) rfl (by kernel_rfl) (by kernel_rfl) (by kernel_rfl) (fun _ _ _ h => h) (Or.inl ⟨by rfl, ?_⟩) (by assumption) ?_
        rotate_left
        · (intro w hSw; (try dsimp only at hSw); go_simp; try with_reducible rfl)
        try simp only [Act.put, List.setIfInBounds_toArray, List.set_cons_zero, List.set_cons_succ]
        refine wpAnyH_take (i := 1) (oi := ({ dst := some 56, op := Op.move (Operand.tmp 11), type := 3, pos := "parts.go:710", after := #[], guard := none } : Oper)) (v := ?_) rfl (by kernel_rfl) (by kernel_rfl) (by kernel_rfl) (fun _ _ _ h => h) (Or.inl ⟨by rfl, ?_⟩) (by assumption) ?_
        rotate_left
        · (intro w hSw; (try dsimp only at hSw); go_simp; try with_reducible rfl)
        try simp only [Act.put, List.setIfInBounds_toArray, List.set_cons_zero, List.set_cons_succ]
        refine wpAnyH_take (i := 2) (oi := ({ dst := some 57, op := Op.indexAddr 70 (Operand.tmp 55) (Operand.tmp 56), type := 0, pos := "parts.go:710", after := #[{ on := 0, ground := Ground.data }, { on := 1, ground := Ground.data }], guard := none } : Oper)) (v := ?_) rfl (by kernel_rfl) (by kernel_rfl) (by kernel_rfl) (fun _ _ _ h => h) (Or.inl ⟨by rfl, ?_⟩) (by assumption) ?_
        rotate_left
        · (intro w hSw; (try dsimp only at hSw); go_simp; try with_reducible rfl)
        try simp only [Act.put, List.setIfInBounds_toArray, List.set_cons_zero, List.set_cons_succ]
        refine wpAnyH_take (i := 3) (oi := ({ dst := some 58, op := Op.load 9 (Operand.tmp 57), type := 9, pos := "parts.go:710", after := #[{ on := 2, ground := Ground.data }], guard := none } : Oper)) (v := ?_) rfl (by kernel_rfl) (by kernel_rfl) (by kernel_rfl) (fun _ _ _ h => h) (Or.inl ⟨by rfl, ?_⟩) (by assumption) ?_
        rotate_left
        · (intro w hSw; (try dsimp only at hSw); go_simp; try with_reducible rfl)
        try simp only [Act.put, List.setIfInBounds_toArray, List.set_cons_zero, List.set_cons_succ]
        refine wpAnyH_take (i := 4) (oi := ({ dst := some 59, op := Op.move (Operand.tmp 5), type := 70, pos := "parts.go:710", after := #[], guard := none } : Oper)) (v := ?_) rfl (by kernel_rfl) (by kernel_rfl) (by kernel_rfl) (fun _ _ _ h => h) (Or.inl ⟨by rfl, ?_⟩) (by assumption) ?_
        rotate_left
        · (intro w hSw; (try dsimp only at hSw); go_simp; try with_reducible rfl)
        try simp only [Act.put, List.setIfInBounds_toArray, List.set_cons_zero, List.set_cons_succ]
        refine wpAnyH_take (i := 5) (oi := ({ dst := some 60, op := Op.move (Operand.tmp 11), type := 3, pos := "parts.go:710", after := #[], guard := none } : Oper)) (v := ?_) rfl (by kernel_rfl) (by kernel_rfl) (by kernel_rfl) (fun _ _ _ h => h) (Or.inl ⟨by rfl, ?_⟩) (by assumption) ?_
        rotate_left
        · (intro w hSw; (try dsimp only at hSw); go_simp; try with_reducible rfl)
        try simp only [Act.put, List.setIfInBounds_toArray, List.set_cons_zero, List.set_cons_succ]
        refine wpAnyH_take (i := 6) (oi := ({ dst := some 61, op := Op.indexAddr 70 (Operand.tmp 59) (Operand.tmp 60), type := 0, pos := "parts.go:710", after := #[{ on := 4, ground := Ground.data }, { on := 5, ground := Ground.data }], guard := none } : Oper)) (v := ?_) rfl (by kernel_rfl) (by kernel_rfl) (by kernel_rfl) (fun _ _ _ h => h) (Or.inl ⟨by rfl, ?_⟩) (by assumption) ?_
        rotate_left
        · (intro w hSw; (try dsimp only at hSw); go_simp; try with_reducible rfl)
        try simp only [Act.put, List.setIfInBounds_toArray, List.set_cons_zero, List.set_cons_succ]
        refine wpAnyH_take (i := 7) (oi := ({ dst := some 62, op := Op.load 9 (Operand.tmp 61), type := 9, pos := "parts.go:710", after := #[{ on := 6, ground := Ground.data }], guard := none } : Oper)) (v := ?_) rfl (by kernel_rfl) (by kernel_rfl) (by kernel_rfl) (fun _ _ _ h => h) (Or.inl ⟨by rfl, ?_⟩) (by assumption) ?_
        rotate_left
        · (intro w hSw; (try dsimp only at hSw); go_simp; try with_reducible rfl)
        try simp only [Act.put, List.setIfInBounds_toArray, List.set_cons_zero, List.set_cons_succ]
        refine wpAnyH_ready (rs := [8, 12]) (by kernel_rfl) (by simp) ?_
        refine AllReadyH.cons (o := ({ dst := some 63, op := Op.call { callee := Callee.value (Operand.func 27), args := #[Operand.tmp 58, Operand.tmp 62], argTypes := #[9, 9] }, type := 73, pos := "parts.go:710", after := #[{ on := 3, ground := Ground.data }, { on := 7, ground := Ground.data }], guard := none } : Oper)) rfl (fun K_ hK => ?_) (AllReadyH.cons (o := ({ dst := some 12, op := Op.alloc 45, type := 0, pos := "parts.go:710", after := #[], guard := none } : Oper)) rfl (fun K_ hK => ?_) AllReadyH.nil)
        · go_simp
          refine (refOpOf_own nb db (w2.drew) (HM.out.on (hbr.trans ((hb2.drew).mono hbr.size))) (by omega)).mono ?_
          rw [HPQ.out]
          rintro e w3 ⟨u, rfl, hu, hb3⟩
          have hbZ : Below wO.heap.size wO (w2.drew) := hb2.drew
          have hbb3 := hbZ.trans (hb3.mono hbZ.size)
          have hqd := HQ.out
          obtain ⟨ua, uc, hue⟩ := own_any hu
          obtain ⟨um, HUM⟩ : ∃ n, Hid (q.ps.length = n) := ⟨_, (rfl : _ = _)⟩
          simp only at hue
          rw [HUM.out] at hue
          subst hue
          simp only [opV]
          have HU3 := hid_of3 hu
          have hk3 : Hid (w3.cell? ⟨gn, k, none⟩ = some (.string nb) ∧ w3.cell? ⟨gd, k, none⟩ = some (.string db)) := ⟨(hbb3.cell (p := ⟨gn, k, none⟩) hgn).trans en, (hbb3.cell (p := ⟨gd, k, none⟩) hgd).trans ed⟩
          refine hK.out _ _ ?_ (fun hHeld => ?_)
          · exact hk3.out
          clear hK K_
          try simp only [Act.put, List.setIfInBounds_toArray, List.set_cons_zero, List.set_cons_succ]
          refine wpAnyH_take (i := 9) (oi := ({ dst := some 54, op := Op.move (Operand.tmp 63), type := 73, pos := "parts.go:710", after := #[{ on := 8, ground := Ground.data }], guard := none } : Oper)) (v := ?_) rfl (by kernel_rfl) (by kernel_rfl) (by kernel_rfl) (fun _ _ _ h => h) (Or.inl ⟨by rfl, ?_⟩) (by assumption) ?_
          rotate_left
          · (intro w hSw; (try dsimp only at hSw); go_simp; try with_reducible rfl)
          try simp only [Act.put, List.setIfInBounds_toArray, List.set_cons_zero, List.set_cons_succ]
          refine wpAnyH_take (i := 10) (oi := ({ dst := some 64, op := Op.extract (Operand.tmp 54) 0, type := 45, pos := "parts.go:710", after := #[{ on := 9, ground := Ground.data }], guard := none } : Oper)) (v := ?_) rfl (by kernel_rfl) (by kernel_rfl) (by kernel_rfl) (fun _ _ _ h => h) (Or.inl ⟨by rfl, ?_⟩) (by assumption) ?_
          rotate_left
          · (intro w hSw; (try dsimp only at hSw); go_simp; try with_reducible rfl)
          try simp only [Act.put, List.setIfInBounds_toArray, List.set_cons_zero, List.set_cons_succ]
          refine wpAnyH_take (i := 11) (oi := ({ dst := some 65, op := Op.extract (Operand.tmp 54) 1, type := 3, pos := "parts.go:710", after := #[{ on := 9, ground := Ground.data }, { on := 13, ground := Ground.gcOnly Departure.lateStores }], guard := none } : Oper)) (v := ?_) rfl (by kernel_rfl) (by kernel_rfl) (by kernel_rfl) (fun _ _ _ h => h) (Or.inl ⟨by rfl, ?_⟩) (by assumption) ?_
          rotate_left
          · (intro w hSw; (try dsimp only at hSw); go_simp; try with_reducible rfl)
          try simp only [Act.put, List.setIfInBounds_toArray, List.set_cons_zero, List.set_cons_succ]
          refine wpAnyH_ready (rs := [12]) (by kernel_rfl) (by simp) ?_
          refine AllReadyH.cons (o := ({ dst := some 12, op := Op.alloc 45, type := 0, pos := "parts.go:710", after := #[], guard := none } : Oper)) rfl (fun K_ hK => ?_) AllReadyH.nil
          go_simp
          refine hK.out _ _ ?_ (fun hHeld => ?_)
          · exact ⟨(hbb3.cell (p := ⟨gn, k, none⟩) hgn).trans en |> fun h => (cell_old w3 (.cells #[.int .i64 0, .int .i64 0, .int .i64 0, .int .i64 0, .int .i64 0, .int .i64 0, .int .i64 0, .int .i64 0, .slice none 0 0] 45) gn k (Nat.lt_of_lt_of_le hgn hbb3.size)).trans h, (cell_old w3 (.cells #[.int .i64 0, .int .i64 0, .int .i64 0, .int .i64 0, .int .i64 0, .int .i64 0, .int .i64 0, .int .i64 0, .slice none 0 0] 45) gd k (Nat.lt_of_lt_of_le hgd hbb3.size)).trans ((hbb3.cell (p := ⟨gd, k, none⟩) hgd).trans ed)⟩
          clear hK K_
          try simp only [Act.put, List.setIfInBounds_toArray, List.set_cons_zero, List.set_cons_succ]
          refine wpAnyH_ready (rs := [13]) (by kernel_rfl) (by simp) ?_
          refine AllReadyH.cons (o := ({ dst := none, op := Op.store 45 (Operand.tmp 12) (Operand.tmp 64), type := 0, pos := "parts.go:710", after := #[{ on := 12, ground := Ground.data }, { on := 10, ground := Ground.data }, { on := 8, ground := Ground.chain }, { on := 0, ground := Ground.phase }, { on := 1, ground := Ground.phase }, { on := 2, ground := Ground.phase }, { on := 3, ground := Ground.phase }, { on := 4, ground := Ground.phase }, { on := 5, ground := Ground.phase }, { on := 6, ground := Ground.phase }, { on := 7, ground := Ground.phase }, { on := 8, ground := Ground.phase }, { on := 9, ground := Ground.phase }, { on := 10, ground := Ground.phase }, { on := 11, ground := Ground.textOnly Departure.lateStores }, { on := 12, ground := Ground.phase }], guard := none } : Oper)) rfl (fun K_ hK => ?_) AllReadyH.nil
          go_simp
          refine hK.out _ _ ?_ (fun hHeld => ?_)
          · exact ⟨(cell_old w3 (.cells #[.int .i64 q.kind, .int .i64 q.id, .int .i64 q.a, .int .i64 q.b, .int .i64 q.c, .int .i64 q.d, .int .i64 q.pw, .int .i64 q.ph, .slice ua um uc] 45) gn k (Nat.lt_of_lt_of_le hgn hbb3.size)).trans ((hbb3.cell (p := ⟨gn, k, none⟩) hgn).trans en), (cell_old w3 (.cells #[.int .i64 q.kind, .int .i64 q.id, .int .i64 q.a, .int .i64 q.b, .int .i64 q.c, .int .i64 q.d, .int .i64 q.pw, .int .i64 q.ph, .slice ua um uc] 45) gd k (Nat.lt_of_lt_of_le hgd hbb3.size)).trans ((hbb3.cell (p := ⟨gd, k, none⟩) hgd).trans ed)⟩
          clear hK K_
          try simp only [Act.put, List.setIfInBounds_toArray, List.set_cons_zero, List.set_cons_succ]
          refine wpAnyH_take (i := 14) (oi := ({ dst := some 13, op := Op.assign (Operand.tmp 65), type := 3, pos := "parts.go:710", after := #[{ on := 11, ground := Ground.data }, { on := 13, ground := Ground.chain }, { on := 0, ground := Ground.phase }, { on := 1, ground := Ground.phase }, { on := 2, ground := Ground.phase }, { on := 3, ground := Ground.phase }, { on := 4, ground := Ground.phase }, { on := 5, ground := Ground.phase }, { on := 6, ground := Ground.phase }, { on := 7, ground := Ground.phase }, { on := 8, ground := Ground.phase }, { on := 9, ground := Ground.phase }, { on := 10, ground := Ground.phase }, { on := 11, ground := Ground.phase }, { on := 12, ground := Ground.phase }, { on := 13, ground := Ground.phase }], guard := none } : Oper)) (v := ?_) rfl (by kernel_rfl) (by kernel_rfl) (by kernel_rfl) (fun _ _ _ h => h) (Or.inl ⟨by rfl, ?_⟩) (by assumption) ?_
          rotate_left
          · (intro w hSw; (try dsimp only at hSw); go_simp; try with_reducible rfl)
          try simp only [Act.put, List.setIfInBounds_toArray, List.set_cons_zero, List.set_cons_succ]
          refine wpAnyH_done (by kernel_rfl) ?_ _
          have hxa : Below w3.heap.size w3 (w3.alloc (.cells #[.int .i64 q.kind, .int .i64 q.id, .int .i64 q.a, .int .i64 q.b, .int .i64 q.c, .int .i64 q.d, .int .i64 q.pw, .int .i64 q.ph, .slice ua um uc] 45)) := (Below.refl _ _).alloc (Nat.le_refl _) _
          have hny := nine_start w3 (.int .i64 q.kind) (.int .i64 q.id) (.int .i64 q.a) (.int .i64 q.b) (.int .i64 q.c) (.int .i64 q.d) (.int .i64 q.pw) (.int .i64 q.ph) (.slice ua um uc) 45 w3.heap.size rfl
          have hqy := ((HQ.out.on (Below.refl _ _).drew).on hb3).on hxa
          have huy := own_on2 (own_mono HU3.out (show wO.heap.size ≤ _ from hb2.size)) hxa
          have hby : Below wO.heap.size wO (w3.alloc (.cells #[.int .i64 q.kind, .int .i64 q.id, .int .i64 q.a, .int .i64 q.b, .int .i64 q.c, .int .i64 q.d, .int .i64 q.pw, .int .i64 q.ph, .slice ua um uc] 45)) := hbb3.alloc hbb3.size _
          obtain ⟨Y, HY⟩ : ∃ Y, Hid (w3.alloc (.cells #[.int .i64 q.kind, .int .i64 q.id, .int .i64 q.a, .int .i64 q.b, .int .i64 q.c, .int .i64 q.d, .int .i64 q.pw, .int .i64 q.ph, .slice ua um uc] 45) = Y) := ⟨_, (rfl : _ = _)⟩
          obtain ⟨ob, HOB⟩ : ∃ b, Hid (w3.heap.size = b) := ⟨_, (rfl : _ = _)⟩
          rw [HY.out] at hny hqy huy hby ⊢
          rw [HOB.out] at hny ⊢
          clear HY HOB hu hb3 hHeld hk3
          obtain ⟨o0, o1, o2, o3, o4, o5, o6, o7, o8, -, -, -, -, -, -, -, -, -, -⟩ := hny
          by_cases hc : c = 0
          case neg =>
            have hcp : (0 : Int) < (c : Int) := by omega
            have HE : Hid (parB rs [] = ([], c)) := by unfold Hid; rw [← HPB.out, HDR.out]; unfold parB; rw [if_neg (by rw [HPS.out]; simp), HPQ2.out, if_neg hc]
            have HR : Hid (r = ([], c)) := by unfold Hid; rw [HR1.out, HE.out, if_pos hc]
            go_wp2_with fail
            refine bodyPost_ret (v := .tuple #[.slice none 0 0, .int .i64 (c : Int)]) (by simp [results, Tryd.results10, go_sem]) rfl (rbo_err HR (hbr.trans (hby.mono hbr.size)))
          subst hc
          have hcp : ¬ (0 : Int) < ((0 : Nat) : Int) := by omega
          have hya : Below Y.heap.size Y (Y.alloc (.cells #[.int .i64 q.kind, .int .i64 q.id, .int .i64 q.a, .int .i64 q.b, .int .i64 q.c, .int .i64 q.d, .int .i64 q.pw, .int .i64 q.ph, .slice ua um uc] 45)) := (Below.refl _ _).alloc (Nat.le_refl _) _
          have hwys := hby.size
          obtain ⟨v5, w5, hr5, ho5, hb5⟩ := op_app (Y.alloc (.cells #[.int .i64 q.kind, .int .i64 q.id, .int .i64 q.a, .int .i64 q.b, .int .i64 q.c, .int .i64 q.d, .int .i64 q.pw, .int .i64 q.ph, .slice ua um uc] 45)) wO.heap.size (.slice la qn lc) qv (hqy.on hya) (by omega) (by have := hya.size; omega) q (.slice ua um uc) (own_on2 huy hya) Y.heap.size (fun j z hj => by
            show (Y.alloc (.cells (qCells q (.slice ua um uc)).toArray 45)).cell? _ = _
            simpa using hj)
          have HR5 := hid_of3 hr5
          have HO5 := hid_of3 ho5
          obtain ⟨a5, c5, hv5⟩ := own_any ho5.1
          obtain ⟨n5, HN5⟩ : ∃ n, Hid ((qv ++ [(q, Value.slice ua um uc)]).length = n) := ⟨_, (rfl : _ = _)⟩
          rw [HN5.out] at hv5
          subst hv5
          have hbw5 : Below wO.heap.size wO w5 := (hby.alloc hwys _).trans hb5
          have HPB2 : Hid (parB (rs.drop (k + 1)) ((qv ++ [(q, Value.slice ua um uc)]).map Prod.fst) = parB rs []) := by
            unfold Hid
            rw [← HPB.out, HDR.out, List.map_append]
            conv => rhs; unfold parB
            rw [if_neg (by rw [HPS.out]; simp), HPQ2.out, if_pos rfl]
            rfl
          have HPL5 : Hid (∀ p ∈ qv ++ [(q, Value.slice ua um uc)], p.1.ps.length ≤ 64) := by
            intro p hp
            rcases List.mem_append.1 hp with hp | hp
            · exact HPL.out p hp
            · simp at hp; subst hp; exact HQL.out
          clear hr5 ho5 hb5 hya hqy huy
          go_wp2_with (at_builtin; refine Lib.wpList_append_run _ rfl _ _ _ _ rfl _ _ rfl rfl _ _ HR5.out ?_)
          go_roundw
          case rel => exact ⟨k + 1, qv ++ [(q, .slice ua um uc)], by omega, by go_num, HO5, by simp; omega, HPB2, HPL5, hbw5⟩
          case measure => simp [intOf]; omega
        · go_simp
          refine hK.out _ _ ?_ (fun hHeld => ?_)
          · exact ⟨((((hb2.drew).alloc hb2.size (.cells #[.int .i64 0, .int .i64 0, .int .i64 0, .int .i64 0, .int .i64 0, .int .i64 0, .int .i64 0, .int .i64 0, .slice none 0 0] 45)).cell (p := ⟨gn, k, none⟩) hgn)).trans en, ((((hb2.drew).alloc hb2.size (.cells #[.int .i64 0, .int .i64 0, .int .i64 0, .int .i64 0, .int .i64 0, .int .i64 0, .int .i64 0, .int .i64 0, .slice none 0 0] 45)).cell (p := ⟨gd, k, none⟩) hgd)).trans ed⟩
          clear hK K_
          try simp only [Act.put, List.setIfInBounds_toArray, List.set_cons_zero, List.set_cons_succ]
          refine wpAnyH_ready (rs := [8]) (by kernel_rfl) (by simp) ?_
          refine AllReadyH.cons (o := ({ dst := some 63, op := Op.call { callee := Callee.value (Operand.func 27), args := #[Operand.tmp 58, Operand.tmp 62], argTypes := #[9, 9] }, type := 73, pos := "parts.go:710", after := #[{ on := 3, ground := Ground.data }, { on := 7, ground := Ground.data }], guard := none } : Oper)) rfl (fun K_ hK => ?_) AllReadyH.nil
          go_simp
          refine (refOpOf_own nb db (w2.drew.alloc (.cells #[.int .i64 0, .int .i64 0, .int .i64 0, .int .i64 0, .int .i64 0, .int .i64 0, .int .i64 0, .int .i64 0, .slice none 0 0] 45)) (HM.out.on (hbr.trans (((hb2.drew).alloc hb2.size (.cells #[.int .i64 0, .int .i64 0, .int .i64 0, .int .i64 0, .int .i64 0, .int .i64 0, .int .i64 0, .int .i64 0, .slice none 0 0] 45)).mono hbr.size))) (by omega)).mono ?_
          rw [HPQ.out]
          rintro e w3 ⟨u, rfl, hu, hb3⟩
          have hbZ : Below wO.heap.size wO (w2.drew.alloc (.cells #[.int .i64 0, .int .i64 0, .int .i64 0, .int .i64 0, .int .i64 0, .int .i64 0, .int .i64 0, .int .i64 0, .slice none 0 0] 45)) := (hb2.drew).alloc hb2.size (.cells #[.int .i64 0, .int .i64 0, .int .i64 0, .int .i64 0, .int .i64 0, .int .i64 0, .int .i64 0, .int .i64 0, .slice none 0 0] 45)
          have hbb3 := hbZ.trans (hb3.mono hbZ.size)
          have hqd := HQ.out
          obtain ⟨ua, uc, hue⟩ := own_any hu
          obtain ⟨um, HUM⟩ : ∃ n, Hid (q.ps.length = n) := ⟨_, (rfl : _ = _)⟩
          simp only at hue
          rw [HUM.out] at hue
          subst hue
          simp only [opV]
          have HU3 := hid_of3 hu
          have hk3 : Hid (w3.cell? ⟨gn, k, none⟩ = some (.string nb) ∧ w3.cell? ⟨gd, k, none⟩ = some (.string db)) := ⟨(hbb3.cell (p := ⟨gn, k, none⟩) hgn).trans en, (hbb3.cell (p := ⟨gd, k, none⟩) hgd).trans ed⟩
          refine hK.out _ _ ?_ (fun hHeld => ?_)
          · exact hk3.out
          clear hK K_
          try simp only [Act.put, List.setIfInBounds_toArray, List.set_cons_zero, List.set_cons_succ]
          refine wpAnyH_take (i := 9) (oi := ({ dst := some 54, op := Op.move (Operand.tmp 63), type := 73, pos := "parts.go:710", after := #[{ on := 8, ground := Ground.data }], guard := none } : Oper)) (v := ?_) rfl (by kernel_rfl) (by kernel_rfl) (by kernel_rfl) (fun _ _ _ h => h) (Or.inl ⟨by rfl, ?_⟩) (by assumption) ?_
          rotate_left
          · (intro w hSw; (try dsimp only at hSw); go_simp; try with_reducible rfl)
          try simp only [Act.put, List.setIfInBounds_toArray, List.set_cons_zero, List.set_cons_succ]
          refine wpAnyH_take (i := 10) (oi := ({ dst := some 64, op := Op.extract (Operand.tmp 54) 0, type := 45, pos := "parts.go:710", after := #[{ on := 9, ground := Ground.data }], guard := none } : Oper)) (v := ?_) rfl (by kernel_rfl) (by kernel_rfl) (by kernel_rfl) (fun _ _ _ h => h) (Or.inl ⟨by rfl, ?_⟩) (by assumption) ?_
          rotate_left
          · (intro w hSw; (try dsimp only at hSw); go_simp; try with_reducible rfl)
          try simp only [Act.put, List.setIfInBounds_toArray, List.set_cons_zero, List.set_cons_succ]
          refine wpAnyH_take (i := 11) (oi := ({ dst := some 65, op := Op.extract (Operand.tmp 54) 1, type := 3, pos := "parts.go:710", after := #[{ on := 9, ground := Ground.data }, { on := 13, ground := Ground.gcOnly Departure.lateStores }], guard := none } : Oper)) (v := ?_) rfl (by kernel_rfl) (by kernel_rfl) (by kernel_rfl) (fun _ _ _ h => h) (Or.inl ⟨by rfl, ?_⟩) (by assumption) ?_
          rotate_left
          · (intro w hSw; (try dsimp only at hSw); go_simp; try with_reducible rfl)
          try simp only [Act.put, List.setIfInBounds_toArray, List.set_cons_zero, List.set_cons_succ]
          have hz9 := hid_of3 ((nine_start w2.drew (.int .i64 0) (.int .i64 0) (.int .i64 0) (.int .i64 0) (.int .i64 0) (.int .i64 0) (.int .i64 0) (.int .i64 0) (.slice none 0 0) 45 w2.heap.size rfl).on hb3)
          obtain ⟨z0, z1, z2, z3, z4, z5, z6, z7, z8, zf0, zf1, zf2, zf3, zf4, zf5, zf6, zf7, zf8, zlt⟩ := hz9.out
          refine wpAnyH_ready (rs := [13]) (by kernel_rfl) (by simp) ?_
          refine AllReadyH.cons (o := ({ dst := none, op := Op.store 45 (Operand.tmp 12) (Operand.tmp 64), type := 0, pos := "parts.go:710", after := #[{ on := 12, ground := Ground.data }, { on := 10, ground := Ground.data }, { on := 8, ground := Ground.chain }, { on := 0, ground := Ground.phase }, { on := 1, ground := Ground.phase }, { on := 2, ground := Ground.phase }, { on := 3, ground := Ground.phase }, { on := 4, ground := Ground.phase }, { on := 5, ground := Ground.phase }, { on := 6, ground := Ground.phase }, { on := 7, ground := Ground.phase }, { on := 8, ground := Ground.phase }, { on := 9, ground := Ground.phase }, { on := 10, ground := Ground.phase }, { on := 11, ground := Ground.textOnly Departure.lateStores }, { on := 12, ground := Ground.phase }], guard := none } : Oper)) rfl (fun K_ hK => ?_) AllReadyH.nil
          go_simp
          refine hK.out _ _ ?_ (fun hHeld => ?_)
          · exact ⟨by rw [World.cell?_setCell_far _ _ _ _ (by show w2.heap.size ≠ gn; have := hb2.size; omega)]; rw [World.cell?_setCell_far _ _ _ _ (by show w2.heap.size ≠ gn; have := hb2.size; omega)]; rw [World.cell?_setCell_far _ _ _ _ (by show w2.heap.size ≠ gn; have := hb2.size; omega)]; rw [World.cell?_setCell_far _ _ _ _ (by show w2.heap.size ≠ gn; have := hb2.size; omega)]; rw [World.cell?_setCell_far _ _ _ _ (by show w2.heap.size ≠ gn; have := hb2.size; omega)]; rw [World.cell?_setCell_far _ _ _ _ (by show w2.heap.size ≠ gn; have := hb2.size; omega)]; rw [World.cell?_setCell_far _ _ _ _ (by show w2.heap.size ≠ gn; have := hb2.size; omega)]; rw [World.cell?_setCell_far _ _ _ _ (by show w2.heap.size ≠ gn; have := hb2.size; omega)]; rw [World.cell?_setCell_far _ _ _ _ (by show w2.heap.size ≠ gn; have := hb2.size; omega)]; exact hk3.out.1, by rw [World.cell?_setCell_far _ _ _ _ (by show w2.heap.size ≠ gd; have := hb2.size; omega)]; rw [World.cell?_setCell_far _ _ _ _ (by show w2.heap.size ≠ gd; have := hb2.size; omega)]; rw [World.cell?_setCell_far _ _ _ _ (by show w2.heap.size ≠ gd; have := hb2.size; omega)]; rw [World.cell?_setCell_far _ _ _ _ (by show w2.heap.size ≠ gd; have := hb2.size; omega)]; rw [World.cell?_setCell_far _ _ _ _ (by show w2.heap.size ≠ gd; have := hb2.size; omega)]; rw [World.cell?_setCell_far _ _ _ _ (by show w2.heap.size ≠ gd; have := hb2.size; omega)]; rw [World.cell?_setCell_far _ _ _ _ (by show w2.heap.size ≠ gd; have := hb2.size; omega)]; rw [World.cell?_setCell_far _ _ _ _ (by show w2.heap.size ≠ gd; have := hb2.size; omega)]; rw [World.cell?_setCell_far _ _ _ _ (by show w2.heap.size ≠ gd; have := hb2.size; omega)]; exact hk3.out.2⟩
          clear hK K_
          try simp only [Act.put, List.setIfInBounds_toArray, List.set_cons_zero, List.set_cons_succ]
          refine wpAnyH_take (i := 14) (oi := ({ dst := some 13, op := Op.assign (Operand.tmp 65), type := 3, pos := "parts.go:710", after := #[{ on := 11, ground := Ground.data }, { on := 13, ground := Ground.chain }, { on := 0, ground := Ground.phase }, { on := 1, ground := Ground.phase }, { on := 2, ground := Ground.phase }, { on := 3, ground := Ground.phase }, { on := 4, ground := Ground.phase }, { on := 5, ground := Ground.phase }, { on := 6, ground := Ground.phase }, { on := 7, ground := Ground.phase }, { on := 8, ground := Ground.phase }, { on := 9, ground := Ground.phase }, { on := 10, ground := Ground.phase }, { on := 11, ground := Ground.phase }, { on := 12, ground := Ground.phase }, { on := 13, ground := Ground.phase }], guard := none } : Oper)) (v := ?_) rfl (by kernel_rfl) (by kernel_rfl) (by kernel_rfl) (fun _ _ _ h => h) (Or.inl ⟨by rfl, ?_⟩) (by assumption) ?_
          rotate_left
          · (intro w hSw; (try dsimp only at hSw); go_simp; try with_reducible rfl)
          try simp only [Act.put, List.setIfInBounds_toArray, List.set_cons_zero, List.set_cons_succ]
          refine wpAnyH_done (by kernel_rfl) ?_ _
          clear z0 z1 z2 z3 z4 z5 z6 z7 z8 zf0 zf1 zf2 zf3 zf4 zf5 zf6 zf7 zf8 zlt
          have hb39 : Below w2.heap.size w2 w3 := ((Below.refl w2.heap.size w2).drew.alloc (Nat.le_refl _) (.cells #[.int .i64 0, .int .i64 0, .int .i64 0, .int .i64 0, .int .i64 0, .int .i64 0, .int .i64 0, .int .i64 0, .slice none 0 0] 45)).trans (hb3.mono (show w2.heap.size ≤ _ by simp))
          have hbB9 : Below w2.heap.size w2 (((((((((w3.setCell ⟨w2.heap.size, 0, none⟩ (.int .i64 q.kind)).setCell ⟨w2.heap.size, 1, none⟩ (.int .i64 q.id)).setCell ⟨w2.heap.size, 2, none⟩ (.int .i64 q.a)).setCell ⟨w2.heap.size, 3, none⟩ (.int .i64 q.b)).setCell ⟨w2.heap.size, 4, none⟩ (.int .i64 q.c)).setCell ⟨w2.heap.size, 5, none⟩ (.int .i64 q.d)).setCell ⟨w2.heap.size, 6, none⟩ (.int .i64 q.pw)).setCell ⟨w2.heap.size, 7, none⟩ (.int .i64 q.ph)).setCell ⟨w2.heap.size, 8, none⟩ (.slice ua um uc)) := (((((((((hb39).setCell (show w2.heap.size ≤ w2.heap.size from Nat.le_refl _) _).setCell (show w2.heap.size ≤ w2.heap.size from Nat.le_refl _) _).setCell (show w2.heap.size ≤ w2.heap.size from Nat.le_refl _) _).setCell (show w2.heap.size ≤ w2.heap.size from Nat.le_refl _) _).setCell (show w2.heap.size ≤ w2.heap.size from Nat.le_refl _) _).setCell (show w2.heap.size ≤ w2.heap.size from Nat.le_refl _) _).setCell (show w2.heap.size ≤ w2.heap.size from Nat.le_refl _) _).setCell (show w2.heap.size ≤ w2.heap.size from Nat.le_refl _) _).setCell (show w2.heap.size ≤ w2.heap.size from Nat.le_refl _) _
          have huB9 : World.ownsRow (((((((((w3.setCell ⟨w2.heap.size, 0, none⟩ (.int .i64 q.kind)).setCell ⟨w2.heap.size, 1, none⟩ (.int .i64 q.id)).setCell ⟨w2.heap.size, 2, none⟩ (.int .i64 q.a)).setCell ⟨w2.heap.size, 3, none⟩ (.int .i64 q.b)).setCell ⟨w2.heap.size, 4, none⟩ (.int .i64 q.c)).setCell ⟨w2.heap.size, 5, none⟩ (.int .i64 q.d)).setCell ⟨w2.heap.size, 6, none⟩ (.int .i64 q.pw)).setCell ⟨w2.heap.size, 7, none⟩ (.int .i64 q.ph)).setCell ⟨w2.heap.size, 8, none⟩ (.slice ua um uc)) (w2.heap.size + 1) 110 2 (.slice ua um uc) q.ps.length (pixCells q.ps) := ownsRow_setCell_below (ownsRow_setCell_below (ownsRow_setCell_below (ownsRow_setCell_below (ownsRow_setCell_below (ownsRow_setCell_below (ownsRow_setCell_below (ownsRow_setCell_below (ownsRow_setCell_below (own_mono HU3.out (show w2.heap.size + 1 ≤ _ by simp)) (a := ⟨w2.heap.size, 0, none⟩) (show w2.heap.size < w2.heap.size + 1 by omega) _) (a := ⟨w2.heap.size, 1, none⟩) (show w2.heap.size < w2.heap.size + 1 by omega) _) (a := ⟨w2.heap.size, 2, none⟩) (show w2.heap.size < w2.heap.size + 1 by omega) _) (a := ⟨w2.heap.size, 3, none⟩) (show w2.heap.size < w2.heap.size + 1 by omega) _) (a := ⟨w2.heap.size, 4, none⟩) (show w2.heap.size < w2.heap.size + 1 by omega) _) (a := ⟨w2.heap.size, 5, none⟩) (show w2.heap.size < w2.heap.size + 1 by omega) _) (a := ⟨w2.heap.size, 6, none⟩) (show w2.heap.size < w2.heap.size + 1 by omega) _) (a := ⟨w2.heap.size, 7, none⟩) (show w2.heap.size < w2.heap.size + 1 by omega) _) (a := ⟨w2.heap.size, 8, none⟩) (show w2.heap.size < w2.heap.size + 1 by omega) _
          have hny : Nine (((((((((w3.setCell ⟨w2.heap.size, 0, none⟩ (.int .i64 q.kind)).setCell ⟨w2.heap.size, 1, none⟩ (.int .i64 q.id)).setCell ⟨w2.heap.size, 2, none⟩ (.int .i64 q.a)).setCell ⟨w2.heap.size, 3, none⟩ (.int .i64 q.b)).setCell ⟨w2.heap.size, 4, none⟩ (.int .i64 q.c)).setCell ⟨w2.heap.size, 5, none⟩ (.int .i64 q.d)).setCell ⟨w2.heap.size, 6, none⟩ (.int .i64 q.pw)).setCell ⟨w2.heap.size, 7, none⟩ (.int .i64 q.ph)).setCell ⟨w2.heap.size, 8, none⟩ (.slice ua um uc)) w2.heap.size (.int .i64 q.kind) (.int .i64 q.id) (.int .i64 q.a) (.int .i64 q.b) (.int .i64 q.c) (.int .i64 q.d) (.int .i64 q.pw) (.int .i64 q.ph) (.slice ua um uc) := nine_all hz9.out _ _ _ _ _ _ _ _ _
          have hb9 : Below w2.heap.size w2 (((((((((w3.setCell ⟨w2.heap.size, 0, none⟩ (.int .i64 q.kind)).setCell ⟨w2.heap.size, 1, none⟩ (.int .i64 q.id)).setCell ⟨w2.heap.size, 2, none⟩ (.int .i64 q.a)).setCell ⟨w2.heap.size, 3, none⟩ (.int .i64 q.b)).setCell ⟨w2.heap.size, 4, none⟩ (.int .i64 q.c)).setCell ⟨w2.heap.size, 5, none⟩ (.int .i64 q.d)).setCell ⟨w2.heap.size, 6, none⟩ (.int .i64 q.pw)).setCell ⟨w2.heap.size, 7, none⟩ (.int .i64 q.ph)).setCell ⟨w2.heap.size, 8, none⟩ (.slice ua um uc)) := hbB9
          have hqy := HQ.out.on hb9
          have huy : World.ownsRow (((((((((w3.setCell ⟨w2.heap.size, 0, none⟩ (.int .i64 q.kind)).setCell ⟨w2.heap.size, 1, none⟩ (.int .i64 q.id)).setCell ⟨w2.heap.size, 2, none⟩ (.int .i64 q.a)).setCell ⟨w2.heap.size, 3, none⟩ (.int .i64 q.b)).setCell ⟨w2.heap.size, 4, none⟩ (.int .i64 q.c)).setCell ⟨w2.heap.size, 5, none⟩ (.int .i64 q.d)).setCell ⟨w2.heap.size, 6, none⟩ (.int .i64 q.pw)).setCell ⟨w2.heap.size, 7, none⟩ (.int .i64 q.ph)).setCell ⟨w2.heap.size, 8, none⟩ (.slice ua um uc)) wO.heap.size 110 2 (.slice ua um uc) q.ps.length (pixCells q.ps) := own_mono (huB9) (show wO.heap.size ≤ w2.heap.size + 1 by have := hb2.size; omega)
          have hby : Below wO.heap.size wO (((((((((w3.setCell ⟨w2.heap.size, 0, none⟩ (.int .i64 q.kind)).setCell ⟨w2.heap.size, 1, none⟩ (.int .i64 q.id)).setCell ⟨w2.heap.size, 2, none⟩ (.int .i64 q.a)).setCell ⟨w2.heap.size, 3, none⟩ (.int .i64 q.b)).setCell ⟨w2.heap.size, 4, none⟩ (.int .i64 q.c)).setCell ⟨w2.heap.size, 5, none⟩ (.int .i64 q.d)).setCell ⟨w2.heap.size, 6, none⟩ (.int .i64 q.pw)).setCell ⟨w2.heap.size, 7, none⟩ (.int .i64 q.ph)).setCell ⟨w2.heap.size, 8, none⟩ (.slice ua um uc)) := (((((((((hbb3).setCell (show wO.heap.size ≤ w2.heap.size from hb2.size) _).setCell (show wO.heap.size ≤ w2.heap.size from hb2.size) _).setCell (show wO.heap.size ≤ w2.heap.size from hb2.size) _).setCell (show wO.heap.size ≤ w2.heap.size from hb2.size) _).setCell (show wO.heap.size ≤ w2.heap.size from hb2.size) _).setCell (show wO.heap.size ≤ w2.heap.size from hb2.size) _).setCell (show wO.heap.size ≤ w2.heap.size from hb2.size) _).setCell (show wO.heap.size ≤ w2.heap.size from hb2.size) _).setCell (show wO.heap.size ≤ w2.heap.size from hb2.size) _
          obtain ⟨Y, HY⟩ : ∃ Y, Hid ((((((((((w3.setCell ⟨w2.heap.size, 0, none⟩ (.int .i64 q.kind)).setCell ⟨w2.heap.size, 1, none⟩ (.int .i64 q.id)).setCell ⟨w2.heap.size, 2, none⟩ (.int .i64 q.a)).setCell ⟨w2.heap.size, 3, none⟩ (.int .i64 q.b)).setCell ⟨w2.heap.size, 4, none⟩ (.int .i64 q.c)).setCell ⟨w2.heap.size, 5, none⟩ (.int .i64 q.d)).setCell ⟨w2.heap.size, 6, none⟩ (.int .i64 q.pw)).setCell ⟨w2.heap.size, 7, none⟩ (.int .i64 q.ph)).setCell ⟨w2.heap.size, 8, none⟩ (.slice ua um uc)) = Y) := ⟨_, (rfl : _ = _)⟩
          obtain ⟨ob, HOB⟩ : ∃ b, Hid (w2.heap.size = b) := ⟨_, (rfl : _ = _)⟩
          rw [HY.out] at hny hqy huy hby ⊢
          rw [HOB.out] at hny ⊢
          clear HY HOB hu hb3 hHeld hk3
          obtain ⟨o0, o1, o2, o3, o4, o5, o6, o7, o8, -, -, -, -, -, -, -, -, -, -⟩ := hny
          by_cases hc : c = 0
          case neg =>
            have hcp : (0 : Int) < (c : Int) := by omega
            have HE : Hid (parB rs [] = ([], c)) := by unfold Hid; rw [← HPB.out, HDR.out]; unfold parB; rw [if_neg (by rw [HPS.out]; simp), HPQ2.out, if_neg hc]
            have HR : Hid (r = ([], c)) := by unfold Hid; rw [HR1.out, HE.out, if_pos hc]
            go_wp2_with fail
            refine bodyPost_ret (v := .tuple #[.slice none 0 0, .int .i64 (c : Int)]) (by simp [results, Tryd.results10, go_sem]) rfl (rbo_err HR (hbr.trans (hby.mono hbr.size)))
          subst hc
          have hcp : ¬ (0 : Int) < ((0 : Nat) : Int) := by omega
          have hya : Below Y.heap.size Y (Y.alloc (.cells #[.int .i64 q.kind, .int .i64 q.id, .int .i64 q.a, .int .i64 q.b, .int .i64 q.c, .int .i64 q.d, .int .i64 q.pw, .int .i64 q.ph, .slice ua um uc] 45)) := (Below.refl _ _).alloc (Nat.le_refl _) _
          have hwys := hby.size
          obtain ⟨v5, w5, hr5, ho5, hb5⟩ := op_app (Y.alloc (.cells #[.int .i64 q.kind, .int .i64 q.id, .int .i64 q.a, .int .i64 q.b, .int .i64 q.c, .int .i64 q.d, .int .i64 q.pw, .int .i64 q.ph, .slice ua um uc] 45)) wO.heap.size (.slice la qn lc) qv (hqy.on hya) (by omega) (by have := hya.size; omega) q (.slice ua um uc) (own_on2 huy hya) Y.heap.size (fun j z hj => by
            show (Y.alloc (.cells (qCells q (.slice ua um uc)).toArray 45)).cell? _ = _
            simpa using hj)
          have HR5 := hid_of3 hr5
          have HO5 := hid_of3 ho5
          obtain ⟨a5, c5, hv5⟩ := own_any ho5.1
          obtain ⟨n5, HN5⟩ : ∃ n, Hid ((qv ++ [(q, Value.slice ua um uc)]).length = n) := ⟨_, (rfl : _ = _)⟩
          rw [HN5.out] at hv5
          subst hv5
          have hbw5 : Below wO.heap.size wO w5 := (hby.alloc hwys _).trans hb5
          have HPB2 : Hid (parB (rs.drop (k + 1)) ((qv ++ [(q, Value.slice ua um uc)]).map Prod.fst) = parB rs []) := by
            unfold Hid
            rw [← HPB.out, HDR.out, List.map_append]
            conv => rhs; unfold parB
            rw [if_neg (by rw [HPS.out]; simp), HPQ2.out, if_pos rfl]
            rfl
          have HPL5 : Hid (∀ p ∈ qv ++ [(q, Value.slice ua um uc)], p.1.ps.length ≤ 64) := by
            intro p hp
            rcases List.mem_append.1 hp with hp | hp
            · exact HPL.out p hp
            · simp at hp; subst hp; exact HQL.out
          clear hr5 ho5 hb5 hya hqy huy
          go_wp2_with (at_builtin; refine Lib.wpList_append_run _ rfl _ _ _ _ rfl _ _ rfl rfl _ _ HR5.out ?_)
          go_roundw
          case rel => exact ⟨k + 1, qv ++ [(q, .slice ua um uc)], by omega, by go_num, HO5, by simp; omega, HPB2, HPL5, hbw5⟩
          case measure => simp [intOf]; omega
    have HNL : Hid (t.data.toList ≠ []) := fun e => by have h := HLT.out; rw [e] at h; simp at h; omega
    have hte : (!t.toList.isEmpty) = true := by
      rw [ByteArray.toList_eq]
      cases hl : t.data.toList with
      | nil => exact absurd hl HNL.out
      | cons a l => rfl
    by_cases hR : R = 120
    · have hRi : ((R : Int) == 120) = true := by simp; omega
      have HCD : Hid ((cs, c1) = ([], 2)) := by unfold Hid; rw [HK.out, Fb.allOf_many 120 _ _ HNL.out (by rw [HRL.out]; omega), comb_err _ _ (by decide)]
      have HC2 : Hid (c1 = 2) := congrArg Prod.snd HCD.out
      have HR : Hid (r = ([], 2)) := by unfold Hid; rw [HR0.out, HC2.out, if_pos (by decide)]
      clear HK
      go_wp2_with fail
      refine bodyPost_ret (v := .tuple #[.slice none 0 0, .int .i64 2]) (by simp [results, Tryd.results10, go_sem]) rfl (rbo_err HR hbr)
    have hRi : ((R : Int) == 120) = false := by simp; omega
    obtain ⟨z, HM⟩ : ∃ z, Hid (Fb.measureL t.data.toList = z) := ⟨_, (rfl : _ = _)⟩
    obtain ⟨m, mc⟩ := z
    have hcf := chunkFirstR_any t wr (by omega)
    unfold firstR at hcf
    by_cases hmc : mc = 0
    case neg =>
      rw [first_err2 HM.out hmc] at hcf
      have HCD : Hid ((cs, c1) = ([], mc)) := by unfold Hid; rw [HK.out, Fb.allOf_err 120 _ _ HNL.out (by rw [HRL.out]; omega) (by rw [HM.out]; exact hmc), HM.out, comb_err _ _ hmc]
      have HC2 : Hid (c1 = mc) := congrArg Prod.snd HCD.out
      have HR : Hid (r = ([], mc)) := by unfold Hid; rw [HR0.out, HC2.out, if_pos hmc]
      have hmi : (0 : Int) < (mc : Int) := by omega
      have HCF := hid_of3 hcf
      clear HK hcf
      go_wp2_with fail
      refine HCF.out.mono ?_
      rintro e w1 ⟨rfl, hb1⟩
      go_wp2_with fail
      refine bodyPost_ret (v := .tuple #[.slice none 0 0, .int .i64 (mc : Int)]) (by simp [results, Tryd.results10, go_sem]) rfl (rbo_err HR (hbr.trans (hb1.mono hbr.size)))
    subst hmc
    obtain ⟨hf4, hf8, hfl⟩ := first_name HM.out
    rw [first_ok HM.out] at hcf
    simp only at hcf
    obtain ⟨x, HX⟩ := bytes_of (t.data.toList.take 4)
    obtain ⟨y, HY⟩ := bytes_of (((t.data.toList.take m).drop 6).take (m - 8))
    obtain ⟨t', HT'⟩ := bytes_of (t.data.toList.drop m)
    rw [HX.out, HY.out, HT'.out, str_self, str_self, str_self] at hcf
    have HKN : Hid ((cs, c1) = Fb.comb (rs ++ [(x.data.toList, y.data.toList)]) (Fb.allOf 120 t'.data.toList (rs ++ [(x.data.toList, y.data.toList)]).length)) := by
      unfold Hid
      rw [HK.out, Fb.allOf_step 120 _ _ HNL.out (by rw [HRL.out]; omega) (by rw [HM.out]), HM.out, Fb.comb_comb, ← HX.out, ← HY.out, ← HT'.out]
      simp
    have hts' : t'.size = t.size - m := by rw [size_of HT', List.length_drop, HLT.out]
    have hxl : x.data.toList.length = 4 := by rw [← HX.out]; exact hf4
    have hyl : y.data.toList.length ≤ 4000 := by
      rw [← HY.out, List.length_take, List.length_drop, List.length_take, HLT.out]
      omega
    rw [HLT.out] at hfl
    have hmi : ¬ (0 : Int) < ((0 : Nat) : Int) := by omega
    have HCF := hid_of3 hcf
    clear HK hcf
    go_wp2_with fail
    refine HCF.out.mono ?_
    rintro e w1 ⟨rfl, hb1⟩
    clear HCF
    have hbb1 := hbr.trans (hb1.mono hbr.size)
    have hbs := hbr.size
    have hb1s := hb1.size
    have hn1 := own_on2 HN.out hb1
    have hd1 := own_on2 HD.out hb1
    have hxa : Below w1.heap.size w1 (w1.alloc (.cells #[.string x] 9)) := (Below.refl _ _).alloc (Nat.le_refl _) _
    have hlR : (rs.map Prod.fst).length = R := by rw [List.length_map]; exact HRL.out
    have hlR2 : (rs.map Prod.snd).length = R := by rw [List.length_map]; exact HRL.out
    obtain ⟨v3, w3, hr3, ho3, hg3, hk3⟩ := txt_app (w1.alloc (.cells #[.string x] 9)) w.heap.size (.slice na R nc) (rs.map Prod.fst) (own_on2 hn1 hxa) (by omega) (by simp; omega) x.data.toList w1.heap.size (by rw [str_self]; simp)
    have hnlt : ∀ g, (Value.slice na R nc).ownBlock = some g → g < wr.heap.size := fun g hg => (HN.out.lt g hg).2
    have hdlt : ∀ g, (Value.slice da R dc).ownBlock = some g → g < wr.heap.size := fun g hg => (HD.out.lt g hg).2
    have hd3 : w3.ownsRow w.heap.size 9 1 (.slice da R dc) (rs.map Prod.snd).length (txts (rs.map Prod.snd)) := (own_on2 hd1 hxa).kept hg3 (by
      cases hz : (Value.slice da R dc).ownBlock with
      | none => exact .inl rfl
      | some g => exact .inr (fun e => HNE.out g e.symm hz))
    have hs3 := hg3.size
    have hxas := hxa.size
    have hya : Below w3.heap.size w3 (w3.alloc (.cells #[.string y] 9)) := (Below.refl _ _).alloc (Nat.le_refl _) _
    have hyas := hya.size
    obtain ⟨v5, w5, hr5, ho5, hg5, hk5⟩ := txt_app (w3.alloc (.cells #[.string y] 9)) w.heap.size (.slice da R dc) (rs.map Prod.snd) (own_on2 hd3 hya) (by omega) (by omega) y.data.toList w3.heap.size (by rw [str_self]; simp)
    have hap : ∀ g, v3.ownBlock = some g → (Value.slice da R dc).ownBlock ≠ some g := fun g hg hd => by
      rcases hk3 with h | h
      · exact HNE.out g (h ▸ hg) hd
      · rw [hg] at h
        have := Option.some.inj h
        have := hdlt g hd
        omega
    have hn5 : w5.ownsRow w.heap.size 9 1 v3 (rs.map Prod.fst ++ [x.data.toList]).length (txts (rs.map Prod.fst ++ [x.data.toList])) := (own_on2 ho3 hya).kept hg5 (by
      cases hz : v3.ownBlock with
      | none => exact .inl rfl
      | some g => exact .inr (fun e => hap g hz e.symm))
    have hv3lt : ∀ g, v3.ownBlock = some g → g < w3.heap.size := fun g hg => (ho3.lt g hg).2
    have hne5 : ∀ g, v3.ownBlock = some g → v5.ownBlock ≠ some g := fun g hg h5 => by
      rcases hk5 with h | h
      · exact hap g hg (h ▸ h5)
      · rw [h5] at h
        have := Option.some.inj h
        have := hv3lt g hg
        omega
    have hbw5 : Below w.heap.size w w5 := ((((hbb1.alloc hbb1.size _).grown hg3 (by simp; omega) (fun g hg => (HN.out.lt g hg).1)).alloc (by omega) _).grown hg5 (by omega) (fun g hg => (HD.out.lt g hg).1))
    have HR3 := hid_of3 hr3
    have HR5 := hid_of3 hr5
    obtain ⟨a3, c3, hv3⟩ := own_any ho3
    obtain ⟨a5, c5, hv5⟩ := own_any ho5
    obtain ⟨n3, HN3⟩ : ∃ n, Hid ((rs.map Prod.fst ++ [x.data.toList]).length = n) := ⟨_, (rfl : _ = _)⟩
    obtain ⟨n5, HN5⟩ : ∃ n, Hid ((rs.map Prod.snd ++ [y.data.toList]).length = n) := ⟨_, (rfl : _ = _)⟩
    rw [HN3.out] at hv3
    rw [HN5.out] at hv5
    subst hv3 hv5
    have HON := hid_of3 hn5
    have HOD := hid_of3 ho5
    have HNE5 := hid_of3 hne5
    clear hr3 hr5 ho3 ho5 hn5 hd3 hn1 hd1 hg3 hg5 hk3 hk5 hxa hya hap hne5 hv3lt hnlt hdlt hb1 hbb1
    go_wp2_with (first | (at_builtin; refine Lib.wpList_append_run _ rfl _ _ _ _ rfl _ _ rfl rfl _ _ HR3.out ?_) | (at_builtin; refine Lib.wpList_append_run _ rfl _ _ _ _ rfl _ _ rfl rfl _ _ HR5.out ?_))
    go_roundw
    case rel =>
      refine ⟨t', rs ++ [(x.data.toList, y.data.toList)], rfl, ?_, ?_, ?_, ?_, HNE5, ?_, hbw5, HKN⟩
      · rw [List.length_append, HRL.out, List.length_singleton]; omega
      · rw [List.length_append, HRL.out, List.length_singleton]; omega
      · unfold Hid; rw [List.map_append]; exact HON.out
      · unfold Hid; rw [List.map_append]; exact HOD.out
      · intro p hp
        rcases List.mem_append.1 hp with hp | hp
        · exact HP.out p hp
        · simp at hp; subst hp; exact ⟨hxl, hyl⟩
    case measure => simp only; omega
end Go.Proofs.YtceabiodelfdoaaDoor
