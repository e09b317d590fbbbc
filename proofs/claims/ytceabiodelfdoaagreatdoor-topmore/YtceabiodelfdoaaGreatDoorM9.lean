/- Some of the walks, in one text. -/
import Derived.Test.YtceabiodelfdoaaGreatDoorM8
import Derived.StillTailTactics
import Derived.Maps.AppendAt
/- Walk of a machine: repeat. -/
namespace Go.Proofs.YtceabiodelfdoaaGreatDoor
open Go.RowKit Go.Maps

theorem MacR.ops_only {w w' : World} {B : Nat} {vo : Value} {bm : Nat} {vr vb vk vf : Value} {qs : List Pq} {op : List (Nat × Nat)} {ob kp : List Po} {fr : List Pf} (h : MacR w B vo bm vr vb vk vf qs op ob kp fr) (ho : Only MT w w') : ∃ qv, OwnQ w' B vo qv ∧ qv.map Prod.fst = qs := by
  obtain ⟨qv, a1, a2⟩ := h.ops
  exact ⟨qv, a1.only ho (by decide) (by decide), a2⟩
theorem MacR.mp_only {w w' : World} {B : Nat} {vo : Value} {bm : Nat} {vr vb vk vf : Value} {qs : List Pq} {op : List (Nat × Nat)} {ob kp : List Po} {fr : List Pf} (h : MacR w B vo bm vr vb vk vf qs op ob kp fr) (ho : Only MT w w') : ∃ D, w'.ownsMap Tryz.prog 3 (plainElem Tryz.prog 3) bm 100 D ∧ ∀ p j, Clo qs p j → D.atKey (.int .i64 (p : Int)) (.lit (.int .i64 0)) = (.lit (.int .i64 (j : Int)) : DataW Unit) := by
  obtain ⟨D, a1, a2⟩ := h.mp
  exact ⟨D, map_only a1 ho, a2⟩
theorem MacR.obs_only {w w' : World} {B : Nat} {vo : Value} {bm : Nat} {vr vb vk vf : Value} {qs : List Pq} {op : List (Nat × Nat)} {ob kp : List Po} {fr : List Pf} (h : MacR w B vo bm vr vb vk vf qs op ob kp fr) (ho : Only MT w w') : ∃ ov, OwnOb w' B vb ov ∧ ov.map Prod.fst = ob := by
  obtain ⟨qv, a1, a2⟩ := h.obs
  exact ⟨qv, a1.only ho (by decide) (by decide), a2⟩
theorem MacR.kep_only {w w' : World} {B : Nat} {vo : Value} {bm : Nat} {vr vb vk vf : Value} {qs : List Pq} {op : List (Nat × Nat)} {ob kp : List Po} {fr : List Pf} (h : MacR w B vo bm vr vb vk vf qs op ob kp fr) (ho : Only MT w w') : ∃ ov, OwnOb w' B vk ov ∧ ov.map Prod.fst = kp := by
  obtain ⟨qv, a1, a2⟩ := h.kep
  exact ⟨qv, a1.only ho (by decide) (by decide), a2⟩
theorem MacR.frs_only {w w' : World} {B : Nat} {vo : Value} {bm : Nat} {vr vb vk vf : Value} {qs : List Pq} {op : List (Nat × Nat)} {ob kp : List Po} {fr : List Pf} (h : MacR w B vo bm vr vb vk vf qs op ob kp fr) (ho : Only [87, 134] w w') : ∃ ov, OwnFr w' B vf ov ∧ ov.map Prod.fst = fr := by
  obtain ⟨qv, a1, a2⟩ := h.frs
  exact ⟨qv, a1.only ho (by decide) (by decide), a2⟩
theorem only_MT2 {w w' : World} (h : Only [87, 134] w w') : Only MT w w' := h.mono (by decide)
theorem only_MT1 {w w' : World} (h : Only [87] w w') : Only [87, 134] w w' := h.mono (by decide)
theorem only_MTr {w w' : World} (h : Only [134] w w') : Only [87, 134] w w' := h.mono (by decide)
/-- two rows of one's own of other types lie in two blocks -/
theorem blk_ne {w : World} {B1 B2 : Nat} {e1 e2 : TypeId} {s1 s2 n1 n2 g1 g2 m1 m2 c1 c2 : Nat} {xs ys : List Value} (h1 : w.ownsRow B1 e1 s1 (.slice (some ⟨g1, 0, none⟩) m1 c1) n1 xs) (h2 : w.ownsRow B2 e2 s2 (.slice (some ⟨g2, 0, none⟩) m2 c2) n2 ys) (h : e1 ≠ e2) : g1 ≠ g2 := by
  rintro rfl
  rcases h1.2 with ⟨h0, _⟩ | ⟨g, cap, cur, hv, _, hg, _⟩
  · simp at h0
  rcases h2.2 with ⟨h0, _⟩ | ⟨g', cap', cur', hv', _, hg', _⟩
  · simp at h0
  simp only [Value.slice.injEq, Option.some.injEq, Addr.mk.injEq, and_true] at hv hv'
  obtain ⟨rfl, _⟩ := hv
  obtain ⟨rfl, _⟩ := hv'
  rw [hg] at hg'
  simp only [Option.some.injEq, Obj.cells.injEq] at hg'
  exact h hg'.2.1
theorem own_some {w : World} {B : Nat} {e : TypeId} {s n : Nat} {v : Value} {xs : List Value} (h : w.ownsRow B e s v n xs) (hn : 0 < n) : ∃ g c, v = .slice (some ⟨g, 0, none⟩) n c := by
  rcases h.2 with ⟨_, h0⟩ | ⟨g, cap, cur, hv, _⟩
  · omega
  · exact ⟨g, cap, hv⟩

/-- what grows a row writes blocks of its type alone -/
theorem only_row {w w' : World} {B : Nat} {e : TypeId} {s n : Nat} {v : Value} {xs : List Value} (ho : w.ownsRow B e s v n xs) (h : w.grownBy w' v.ownBlock) : Only [e] w w' := by
  rcases ho.2 with ⟨rfl, _⟩ | ⟨g, cap, cur, rfl, _, hg, _⟩
  · exact Only.grown0 (by simpa [Value.ownBlock] using h) _
  · exact Only.grown (by simpa [Value.ownBlock] using h) hg
theorem row_ne {w : World} {B1 B2 : Nat} {e1 e2 : TypeId} {s1 s2 n1 n2 b m c : Nat} {v : Value} {xs ys : List Value} (h1 : w.ownsRow B1 e1 s1 (.slice (some ⟨b, 0, none⟩) m c) n1 xs) (h2 : w.ownsRow B2 e2 s2 v n2 ys) (h : e1 ≠ e2) : some b ≠ v.ownBlock := by
  intro e
  rcases h2.2 with ⟨rfl, _⟩ | ⟨g, cap, cur, rfl, _, hg, _⟩
  · simp [Value.ownBlock] at e
  · simp only [Value.ownBlock, Option.some.injEq] at e
    exact blk_ne h1 h2 h e

/-- what a Next does -/
def nextM (s : Ms) : Ms :=
  if 1 < (s.opn.getD (s.opn.length - 1) (0, 0)).2 then { s with pc := (s.opn.getD (s.opn.length - 1) (0, 0)).1, opn := s.opn.dropLast ++ [((s.opn.getD (s.opn.length - 1) (0, 0)).1, (s.opn.getD (s.opn.length - 1) (0, 0)).2 - 1)] } else { s with opn := s.opn.dropLast }

set_option maxHeartbeats 8000000 in
set_option maxRecDepth 100000 in
theorem mrep_any (B b : Nat) (F : List Nat) (qs : List Pq) (st : Ms) (w : World) (HM : Hid (Mac w B b F qs st)) (h0 : 0 < st.opn.length) (h3 : st.opn.length ≤ 1000) (hl : 1 ≤ (st.opn.getD (st.opn.length - 1) (0, 0)).2 ∧ (st.opn.getD (st.opn.length - 1) (0, 0)).2 ≤ 9) :
    Calls Tryz.prog 69 #[.pointer (some ⟨b, 0, none⟩)] w fun e w' => e = .returned (.tuple #[]) ∧ Mac w' B b F qs (nextM st) ∧ Foot F F w w' := by
  obtain ⟨vo, bm, vr, vb, vk, vf, hm1, hm2, hm3⟩ := HM.out
  obtain ⟨N, hB⟩ := mac_nine hm1
  obtain ⟨gr, cr, hvr⟩ := own_some hm2.rnd h0
  obtain ⟨j, HJ⟩ : ∃ j, Hid (st.opn.length = j + 1) := ⟨st.opn.length - 1, by unfold Hid; omega⟩
  rw [HJ.out] at hvr h0 h3
  rw [HJ.out, Nat.add_sub_cancel] at hl
  subst hvr
  have hrn := hm2.rnd
  rw [HJ.out] at hrn
  have hne := blk_ne hm1 hrn (by decide)
  obtain ⟨p, l, HPL⟩ : ∃ p l, Hid (st.opn.getD j (0, 0) = (p, l)) := ⟨_, _, (rfl : _ = _)⟩
  rw [HPL.out] at hl
  obtain ⟨hl1, hl9⟩ := hl
  simp only at hl1 hl9
  have hr0 : w.cell? ⟨gr, j * 2, none⟩ = some (.int .i64 (p : Int)) := by
    rw [hrn.cellAt (j * 2) (by omega), (rndCells_at st.opn j (by rw [HJ.out]; omega)).1, HPL.out]
  have hr1 : w.cell? ⟨gr, j * 2 + 1, none⟩ = some (.int .i64 (l : Int)) := by
    rw [hrn.cellAt (j * 2 + 1) (by omega), (rndCells_at st.opn j (by rw [HJ.out]; omega)).2, HPL.out]
  have hrf : w.frozen? ⟨gr, j * 2 + 1, none⟩ = false := hrn.frozenAt _
  have hst := hrn.stored (j * 2 + 1) (.int .i64 ((l - 1 : Nat) : Int))
  have hre : (rndCells st.opn).set (j * 2 + 1) (.int .i64 ((l - 1 : Nat) : Int)) = rndCells (st.opn.dropLast ++ [(p, l - 1)]) := by
    have := rndCells_last st.opn (l - 1) (by rw [HJ.out]; omega)
    rw [HJ.out, Nat.add_sub_cancel, HPL.out] at this
    exact this
  rw [hre] at hst
  have hll : ((l - 1 : Nat) : Int) = (l : Int) - 1 := by omega
  rw [hll] at hst
  obtain ⟨hs1, hs2⟩ := hst
  obtain ⟨cur, hcur⟩ := mac_typ hrn
  have hcr := own_cap hrn
  have ho1 : Only [134] w (w.setCell ⟨gr, j * 2 + 1, none⟩ (.int .i64 ((l : Int) - 1))) := Only.grown (by simpa [Value.ownBlock] using hs2) hcur
  have hf1 : Foot F F w (w.setCell ⟨gr, j * 2 + 1, none⟩ (.int .i64 ((l : Int) - 1))) := Foot.grown hs2 (fun g hg => hm3.rnd g hg)
  have hM1 := own_only hm1 ho1 (by decide)
  obtain ⟨n0, n1, n2, n3, n4, n5, n6, n7, n8, nf0, nf1, nf2, nf3, nf4, nf5, nf6, nf7, nf8, nlt⟩ := N
  have HNX : Hid (nextM st = if 1 < l then { st with pc := p, opn := st.opn.dropLast ++ [(p, l - 1)] } else { st with opn := st.opn.dropLast }) := by
    unfold Hid nextM
    rw [HJ.out, Nat.add_sub_cancel, HPL.out]
  have hji0 : (0 : Int) ≤ (j : Int) := by omega
  have hji1 : (j : Int) < ((j + 1 : Nat) : Int) := by omega
  have hjc : (j : Int) ≤ (cr : Int) := by omega
  have hne' : gr ≠ b := fun e => hne e.symm
  have hM2 := hid_of2 hm2
  have hM3 := hid_of2 hm3
  have HS1 := hid_of2 hs1
  have HO1 := hid_of2 ho1
  have HF1 := hid_of2 hf1
  have HM1 := hid_of2 hM1
  clear hm2 hm3 hm1 hs1 hs2 ho1 hf1 hM1 hrn HM hcur hre hll
  have HOL : Hid ((st.opn.dropLast ++ [(p, l - 1)]).length = j + 1) := by unfold Hid; rw [List.length_append, List.length_dropLast, HJ.out]; rfl
  by_cases hgt : 1 < l
  · have HNX2 := HNX.out
    rw [if_pos hgt] at HNX2
    have HN2 := hid_of2 HNX2
    have hgi : (0 : Int) < (l : Int) - 1 := by omega
    clear HNX HNX2
    go_enter Tryz.func69, Tryz.ntmps69
    go_wp2_with fail
    (first | go_end0 | refine bodyPost_ret (results_none rfl _ _ _) rfl ?_)
    obtain ⟨k1, k2, k3⟩ := mac_set HM1.out 2 (.int .i64 (p : Int))
    have ho := only_MT2 ((only_MTr HO1.out).trans (only_MT1 k2))
    refine ⟨rfl, ⟨vo, bm, _, vb, vk, vf, ?_, ⟨hM2.out.ops_only ho, hM2.out.mpl, hM2.out.mp_only ho, ?_, ?_, ?_, ?_⟩, hM3.out⟩, HF1.out.trans (k3 F hM3.out.self)⟩
    · rw [HN2.out]; exact k1
    · rw [HN2.out, HOL.out]; exact own_only HS1.out k2 (by decide)
    · rw [HN2.out]; exact hM2.out.obs_only ho
    · rw [HN2.out]; exact hM2.out.kep_only ho
    · rw [HN2.out]; exact hM2.out.frs_only ((only_MTr HO1.out).trans (only_MT1 k2))
  · have HNX2 := HNX.out
    rw [if_neg hgt] at HNX2
    have HN2 := hid_of2 HNX2
    have hgi : ¬ (0 : Int) < (l : Int) - 1 := by omega
    have HDL : Hid (st.opn.dropLast.length = j) := by unfold Hid; rw [List.length_dropLast, HJ.out]; rfl
    clear HNX HNX2
    go_enter Tryz.func69, Tryz.ntmps69
    go_wp2_with fail
    (first | go_end0 | refine bodyPost_ret (results_none rfl _ _ _) rfl ?_)
    obtain ⟨k1, k2, k3⟩ := mac_set HM1.out 3 (.slice (some ⟨gr, 0, none⟩) j cr)
    have ho := only_MT2 ((only_MTr HO1.out).trans (only_MT1 k2))
    refine ⟨rfl, ⟨vo, bm, .slice (some ⟨gr, 0, none⟩) j cr, vb, vk, vf, ?_, ⟨hM2.out.ops_only ho, hM2.out.mpl, hM2.out.mp_only ho, ?_, ?_, ?_, ?_⟩, hM3.out.self, hM3.out.rnd, hM3.out.frs, hM3.out.low⟩, HF1.out.trans (k3 F hM3.out.self)⟩
    · rw [HN2.out]; exact k1
    · rw [HN2.out, HDL.out]
      have h4 := own_cut (own_only HS1.out k2 (by decide)) (m := j) (by omega) (by omega)
      have h5 := rndCells_drop (st.opn.dropLast ++ [(p, l - 1)])
      rw [HOL.out, Nat.add_sub_cancel, List.dropLast_concat] at h5
      rw [h5] at h4
      exact h4
    · rw [HN2.out]; exact hM2.out.obs_only ho
    · rw [HN2.out]; exact hM2.out.kep_only ho
    · rw [HN2.out]; exact hM2.out.frs_only ((only_MTr HO1.out).trans (only_MT1 k2))
end Go.Proofs.YtceabiodelfdoaaGreatDoor
/- Walk of a machine: enter, no time. -/
namespace Go.Proofs.YtceabiodelfdoaaGreatDoor
open Go.RowKit Go.Maps

theorem law_int' : Keyed Tryz.prog 3 := int_keyed Tryz.underlying3
theorem zero_int (w : World) : (zeroValue 3).run Tryz.prog w = .ok (.int .i64 0) w := by kernel_rfl

set_option maxHeartbeats 8000000 in
set_option maxRecDepth 100000 in
theorem ment0_any (B b : Nat) (F : List Nat) (qs : List Pq) (st : Ms) (w : World) (HM : Hid (Mac w B b F qs st)) (hpc : st.pc ≤ 1000) (j : Nat) (HC : Hid (Clo qs st.pc j)) :
    Calls Tryz.prog 68 #[.pointer (some ⟨b, 0, none⟩), .int .i64 0] w fun e w' => e = .returned (.tuple #[]) ∧ Mac w' B b F qs { st with pc := j } ∧ Foot F F w w' := by
  obtain ⟨vo, bm, vr, vb, vk, vf, hm1, hm2, hm3⟩ := HM.out
  obtain ⟨N, hB⟩ := mac_nine hm1
  obtain ⟨D, hd1, hd2⟩ := hm2.mp
  obtain ⟨c, hrun, hat, hwc⟩ := hd1.lookup_int law_int' Tryz.underlying83 Tryz.underlying3 (zero_int _) (keyOf_int_mk Tryz.underlying3 (WalkArith.wf_i64 (n := (st.pc : Int)) (by omega)))
  rw [hd2 _ _ HC.out] at hat
  have hcj : c = (j : Int) := by simp only [DataW.lit.injEq, Lit.int.injEq, true_and] at hat; exact hat.symm
  subst hcj
  obtain ⟨n0, n1, n2, n3, n4, n5, n6, n7, n8, nf0, nf1, nf2, nf3, nf4, nf5, nf6, nf7, nf8, nlt⟩ := N
  have HRUN : Hid (∀ w', Below w.heap.size w w' → (Instr.lookup 83 (.map (some bm)) (.int .i64 (st.pc : Int)) false).run Tryz.prog w' = .ok (.int .i64 (j : Int)) w') := by
    intro w' hb
    obtain ⟨c', hrun', hat', _⟩ := (map_only hd1 (Only.below hb [])).lookup_int law_int' Tryz.underlying83 Tryz.underlying3 (zero_int _) (keyOf_int_mk Tryz.underlying3 (WalkArith.wf_i64 (n := (st.pc : Int)) (by omega)))
    rw [hd2 _ _ HC.out] at hat'
    simp only [DataW.lit.injEq, Lit.int.injEq, true_and] at hat'
    subst hat'
    exact hrun'
  have hM1 := hid_of2 hm1
  have hM2 := hid_of2 hm2
  have hM3 := hid_of2 hm3
  obtain ⟨pc, HPC⟩ : ∃ pc, Hid (st.pc = pc) := ⟨_, (rfl : _ = _)⟩
  rw [HPC.out] at n2 HRUN
  have KEEP : Hid (∀ w', Below w.heap.size w w' → w'.cell? ⟨b, 1, none⟩ = some (.map (some bm)) ∧ w'.cell? ⟨b, 2, none⟩ = some (.int .i64 (pc : Int)) ∧ (Instr.lookup 83 (.map (some bm)) (.int .i64 (pc : Int)) false).run Tryz.prog w' = .ok (.int .i64 (j : Int)) w') := by
    intro w' h
    exact ⟨by rw [h.cell (p := ⟨b, 1, none⟩) nlt]; exact n1, by rw [h.cell (p := ⟨b, 2, none⟩) nlt]; exact n2, HRUN.out w' h⟩
  clear hm1 hm2 hm3 HM hd1 hd2 hrun hat hwc
  go_enter Tryz.func68, Tryz.ntmps68
  go_wp2_with fail
  have hrun0 := HRUN.out _ (Below.refl _ _).drew
  have hrun1 := HRUN.out _ (Below.refl _ _)
  go_still_tail 10, (by kernel_rfl)
  go_wp2_with fail
  (first | go_end0 | refine bodyPost_ret (results_none rfl _ _ _) rfl ?_)
  obtain ⟨k1, k2, k3⟩ := mac_set hM1.out 2 (.int .i64 (j : Int))
  have ho := only_MT2 (only_MT1 k2)
  have hX : Mac (w.setCell ⟨b, 2, none⟩ (.int .i64 (j : Int))) B b F qs { st with pc := j } :=
    ⟨vo, bm, vr, vb, vk, vf, k1, ⟨hM2.out.ops_only ho, hM2.out.mpl, hM2.out.mp_only ho, own_only hM2.out.rnd k2 (by decide), hM2.out.obs_only ho, hM2.out.kep_only ho, hM2.out.frs_only (only_MT1 k2)⟩, hM3.out⟩
  exact ⟨rfl, hX.on (Below.refl _ _).drew, (k3 F hM3.out.self).trans (Foot.below (Below.refl _ _).drew F)⟩
end Go.Proofs.YtceabiodelfdoaaGreatDoor
/- Walk of a machine: enter, some times. -/
namespace Go.Proofs.YtceabiodelfdoaaGreatDoor
open Go.RowKit Go.Maps

theorem Tryz.infoRnd : (Tryz.prog.info? 134).map (fun i => (i.zero, i.size, i.bytes)) = some (some (.agg #[.int .i64 0, .int .i64 0]), 2, 16) := by kernel_rfl

set_option maxHeartbeats 8000000 in
set_option maxRecDepth 100000 in
theorem ment_any (B b : Nat) (F : List Nat) (qs : List Pq) (st : Ms) (w : World) (HM : Hid (Mac w B b F qs st)) (hol : st.opn.length ≤ 1000) (t : Nat) (ht : 1 ≤ t) :
    Calls Tryz.prog 68 #[.pointer (some ⟨b, 0, none⟩), .int .i64 (t : Int)] w fun e w' => e = .returned (.tuple #[]) ∧ ∃ F', Mac w' B b F' qs { st with opn := st.opn ++ [(st.pc, t)] } ∧ Foot F F' w w' := by
  obtain ⟨i0, hi, hz0, hz1, hz2⟩ := info_parts Tryz.infoRnd
  obtain ⟨vo, bm, vr, vb, vk, vf, hm1, hm2, hm3⟩ := HM.out
  obtain ⟨N, hB⟩ := mac_nine hm1
  obtain ⟨oa, oc, hvr⟩ := own_any hm2.rnd
  obtain ⟨m, HML⟩ : ∃ m, Hid (st.opn.length = m) := ⟨_, (rfl : _ = _)⟩
  rw [HML.out] at hvr hol
  subst hvr
  have hrn := hm2.rnd
  rw [HML.out] at hrn
  obtain ⟨n0, n1, n2, n3, n4, n5, n6, n7, n8, nf0, nf1, nf2, nf3, nf4, nf5, nf6, nf7, nf8, nlt⟩ := N
  obtain ⟨pc, HPC⟩ : ∃ pc, Hid (st.pc = pc) := ⟨_, (rfl : _ = _)⟩
  rw [HPC.out] at n2
  have hbx : Hid (Below w.heap.size w (w.drew.alloc (.cells #[.int .i64 (pc : Int), .int .i64 (t : Int)] 134))) := (Below.refl _ _).drew.alloc (by simp) _
  have hBw : B ≤ w.heap.size := by omega
  have hrx := own_on2 hrn hbx.out
  obtain ⟨v', w3, hr, h1, h2, _, hat⟩ := run_append_own_at (P := Tryz.prog) (w.drew.alloc (.cells #[.int .i64 (pc : Int), .int .i64 (t : Int)] 134)) B 84 84 134 i0 (.agg #[.int .i64 0, .int .i64 0]) 2 16 Tryz.underlying84 hi hz0 hz1 hz2 rfl (by decide) _ _ _ hrx ⟨w.heap.size, 0, none⟩ 1 1 [.int .i64 (pc : Int), .int .i64 (t : Int)] rfl (fun j u hj => new_cells w.drew _ _ j u hj) (by intro u hu; simp at hu; rcases hu with rfl | rfl <;> rfl) (by unfold maxLen; omega) (by omega) (by simp; omega)
  have HR := hid_of2 hr
  have hxn3 : (w.drew.alloc (.cells #[.int .i64 (pc : Int), .int .i64 (t : Int)] 134)).cell? ⟨b, 3, none⟩ = some (.slice oa m oc) := by rw [hbx.out.cell (p := ⟨b, 3, none⟩) nlt]; exact n3
  have hxn2 : (w.drew.alloc (.cells #[.int .i64 (pc : Int), .int .i64 (t : Int)] 134)).cell? ⟨b, 2, none⟩ = some (.int .i64 (pc : Int)) := by rw [hbx.out.cell (p := ⟨b, 2, none⟩) nlt]; exact n2
  have hne : some b ≠ (Value.slice oa m oc).ownBlock := row_ne hm1 hrn (by decide)
  have h3c : Hid (w3.cell? ⟨b, 2, none⟩ = some (.int .i64 (pc : Int))) := h2.cell hxn2 hne
  obtain ⟨va, vc, hv'⟩ := own_any h1
  subst hv'
  have h3d : w3.cell? ⟨b, 3, none⟩ = some (.slice oa m oc) := h2.cell hxn3 hne
  have hf3 : w3.frozen? ⟨b, 3, none⟩ = false := by
    have hblk := h2.block b (by have := hbx.out.size; omega) hne
    rw [World.frozen?_of_block hblk, hbx.out.frozen (p := ⟨b, 3, none⟩) nlt]; exact nf3
  have h5c : Hid ((w3.setCell ⟨b, 3, none⟩ (.slice va (m + 1) vc)).cell? ⟨b, 2, none⟩ = some (.int .i64 (pc : Int))) := by
    unfold Hid
    rw [World.cell?_setCell_other _ _ _ _ (by simp)]; exact h3c.out
  have FIN : Hid (∃ F', Mac (w3.setCell ⟨b, 3, none⟩ (.slice va (m + 1) vc)) B b F' qs { st with opn := st.opn ++ [(st.pc, t)] } ∧ Foot F F' w (w3.setCell ⟨b, 3, none⟩ (.slice va (m + 1) vc))) := by
    have hMX := own_on2 hm1 hbx.out
    have hM3 := hMX.kept h2 (.inr hne)
    obtain ⟨k1, k2, k3⟩ := mac_set hM3 3 (.slice va (m + 1) vc)
    have o1 : Only [87, 134] w w3 := (Only.below hbx.out _).trans (only_MTr (only_row hrx h2))
    have o2 := o1.trans (only_MT1 k2)
    have o3 := only_MT2 o2
    have hrow : (w3.setCell ⟨b, 3, none⟩ (.slice va (m + 1) vc)).ownsRow B 134 2 (.slice va (m + 1) vc) (st.opn ++ [(st.pc, t)]).length (rndCells (st.opn ++ [(st.pc, t)])) := by
      rw [List.length_append, HML.out]
      have := own_only h1 k2 (by decide)
      rw [rndCells_app, HPC.out]
      exact this
    have hfoot := ((Foot.below hbx.out F).trans (Foot.grown h2 (fun g hg => hm3.rnd g hg))).trans (k3 F hm3.self)
    have hmr : MacR (w3.setCell ⟨b, 3, none⟩ (.slice va (m + 1) vc)) B vo bm (.slice va (m + 1) vc) vb vk vf qs (st.opn ++ [(st.pc, t)]) st.obs st.kept st.frs := ⟨hm2.ops_only o3, hm2.mpl, hm2.mp_only o3, hrow, hm2.obs_only o3, hm2.kep_only o3, hm2.frs_only o2⟩
    rcases hat with h | h
    · exact ⟨F, ⟨vo, bm, _, vb, vk, vf, k1, hmr, hm3.self, fun g hg => hm3.rnd g (by rw [← h]; exact hg), hm3.frs, hm3.low⟩, hfoot⟩
    · refine ⟨(w.drew.alloc (.cells #[.int .i64 (pc : Int), .int .i64 (t : Int)] 134)).heap.size :: F, ⟨vo, bm, _, vb, vk, vf, k1, hmr, List.mem_cons_of_mem _ hm3.self, fun g hg => ?_, fun g hg => List.mem_cons_of_mem _ (hm3.frs g hg), fun g hg => ?_⟩, hfoot.cons _ (.inr ⟨hbx.out.size, ?_⟩)⟩
      · rw [h] at hg; simp at hg; subst hg; simp
      · rcases List.mem_cons.1 hg with rfl | hg
        · have := hbx.out.size; omega
        · exact hm3.low g hg
      · have := (h1.lt _ h).2; simpa using this
  clear hat h1 h2 hr hrx hrn hm1 hm2 hm3 HM hxn2 hne
  have KEEP : Hid (∀ w', Below w.heap.size w w' → w'.cell? ⟨b, 2, none⟩ = some (.int .i64 (pc : Int))) := by
    intro w' h
    rw [h.cell (p := ⟨b, 2, none⟩) nlt]; exact n2
  have hz3 : Hid True := trivial
  have hti : ((t : Int) == 0) = false := by rw [beq_eq_false_iff_ne]; omega
  go_enter Tryz.func68, Tryz.ntmps68
  go_wp2_with fail
  refine wp_region_held_drew (S := (fun w' => w'.cell? ⟨b, 2, none⟩ = some (.int .i64 (pc : Int)))) (by kernel_rfl) ?_ (fun hHeld => ?_)
  · exact KEEP.out _ (Below.refl _ _).drew
  refine tk (v := ?_) 0 rfl (by kernel_rfl) (by rfl) ?_ ?_
  rotate_left
  · (intro w hSw; (try dsimp only at hSw); go_simp; try with_reducible rfl)
  refine tk (v := ?_) 1 rfl (by kernel_rfl) (by rfl) ?_ ?_
  rotate_left
  · (intro w hSw; (try dsimp only at hSw); go_simp; try with_reducible rfl)
  refine tk (v := ?_) 2 rfl (by kernel_rfl) (by rfl) ?_ ?_
  rotate_left
  · (intro w hSw; (try dsimp only at hSw); go_simp; try with_reducible rfl)
  refine tk (v := ?_) 3 rfl (by kernel_rfl) (by rfl) ?_ ?_
  rotate_left
  · (intro w hSw; (try dsimp only at hSw); go_simp; try with_reducible rfl)
  refine tk (v := ?_) 5 rfl (by kernel_rfl) (by rfl) ?_ ?_
  rotate_left
  · (intro w hSw; (try dsimp only at hSw); go_simp; try with_reducible rfl)
  refine tk (v := ?_) 6 rfl (by kernel_rfl) (by rfl) ?_ ?_
  rotate_left
  · (intro w hSw; (try dsimp only at hSw); go_simp; try with_reducible rfl)
  refine tk (v := ?_) 7 rfl (by kernel_rfl) (by rfl) ?_ ?_
  rotate_left
  · (intro w hSw; (try dsimp only at hSw); go_simp; try with_reducible rfl)
  refine tk (v := ?_) 8 rfl (by kernel_rfl) (by rfl) ?_ ?_
  rotate_left
  · (intro w hSw; (try dsimp only at hSw); go_simp; try with_reducible rfl)
  refine tk (v := ?_) 9 rfl (by kernel_rfl) (by rfl) ?_ ?_
  rotate_left
  · (intro w hSw; (try dsimp only at hSw); go_simp; try with_reducible rfl)
  refine tk (v := ?_) 10 rfl (by kernel_rfl) (by rfl) ?_ ?_
  rotate_left
  · (intro w hSw; (try dsimp only at hSw); go_simp; try with_reducible rfl)
  refine wpAnyH_ready (rs := [4, 11]) (by kernel_rfl) (by simp) ?_
  refine AllReadyH.cons rfl (fun K_ hK => ?_) (AllReadyH.cons rfl (fun K_ hK => ?_) AllReadyH.nil)
  · go_simp
    refine hK.out _ _ ?_ (fun hHeld => ?_)
    · exact KEEP.out _ (Below.refl _ _).drew
    clear hK K_
    refine wpAnyH_ready (rs := [11]) (by kernel_rfl) (by simp) ?_
    refine AllReadyH.cons rfl (fun K_ hK => ?_) AllReadyH.nil
    go_simp
    refine hK.out _ _ ?_ (fun hHeld => ?_)
    · exact KEEP.out _ hbx.out
    clear hK K_
    refine wpAnyH_ready (rs := [12]) (by kernel_rfl) (by simp) ?_
    refine AllReadyH.cons rfl (fun K_ hK => ?_) AllReadyH.nil
    refine ready_app rfl (.tmp 22) (.tmp 29) 84 rfl _ _ _ ?d1a ?d1b HR.out ?_
    case d1a => rfl
    case d1b => rfl
    refine hK.out _ _ ?_ (fun hHeld => ?_)
    · exact h3c.out
    clear hK K_
    refine tk (v := ?_) 13 rfl (by kernel_rfl) (by rfl) ?_ ?_
    rotate_left
    · (intro w hSw; (try dsimp only at hSw); go_simp; try with_reducible rfl)
    refine tk (v := ?_) 14 rfl (by kernel_rfl) (by rfl) ?_ ?_
    rotate_left
    · (intro w hSw; (try dsimp only at hSw); go_simp; try with_reducible rfl)
    refine wpAnyH_ready (rs := [15]) (by kernel_rfl) (by simp) ?_
    refine AllReadyH.cons rfl (fun K_ hK => ?_) AllReadyH.nil
    go_simp
    refine hK.out _ _ ?_ (fun hHeld => ?_)
    · exact h5c.out
    clear hK K_
    refine wpAnyH_done (by kernel_rfl) ?_ _
    go_wp2_with fail
    (first | go_end0 | refine bodyPost_ret (results_none rfl _ _ _) rfl ?_)
    exact ⟨rfl, FIN.out⟩
  · go_simp
    refine hK.out _ _ ?_ (fun hHeld => ?_)
    · exact KEEP.out _ hbx.out
    clear hK K_
    refine wpAnyH_ready (rs := [4]) (by kernel_rfl) (by simp) ?_
    refine AllReadyH.cons rfl (fun K_ hK => ?_) AllReadyH.nil
    go_simp
    refine hK.out _ _ ?_ (fun hHeld => ?_)
    · exact KEEP.out _ hbx.out
    clear hK K_
    refine wpAnyH_ready (rs := [12]) (by kernel_rfl) (by simp) ?_
    refine AllReadyH.cons rfl (fun K_ hK => ?_) AllReadyH.nil
    refine ready_app rfl (.tmp 22) (.tmp 29) 84 rfl _ _ _ ?d2a ?d2b HR.out ?_
    case d2a => rfl
    case d2b => rfl
    refine hK.out _ _ ?_ (fun hHeld => ?_)
    · exact h3c.out
    clear hK K_
    refine tk (v := ?_) 13 rfl (by kernel_rfl) (by rfl) ?_ ?_
    rotate_left
    · (intro w hSw; (try dsimp only at hSw); go_simp; try with_reducible rfl)
    refine tk (v := ?_) 14 rfl (by kernel_rfl) (by rfl) ?_ ?_
    rotate_left
    · (intro w hSw; (try dsimp only at hSw); go_simp; try with_reducible rfl)
    refine wpAnyH_ready (rs := [15]) (by kernel_rfl) (by simp) ?_
    refine AllReadyH.cons rfl (fun K_ hK => ?_) AllReadyH.nil
    go_simp
    refine hK.out _ _ ?_ (fun hHeld => ?_)
    · exact h5c.out
    clear hK K_
    refine wpAnyH_done (by kernel_rfl) ?_ _
    go_wp2_with fail
    (first | go_end0 | refine bodyPost_ret (results_none rfl _ _ _) rfl ?_)
    exact ⟨rfl, FIN.out⟩
end Go.Proofs.YtceabiodelfdoaaGreatDoor
/- What is seen: lists. -/
namespace Go.Proofs.YtceabiodelfdoaaGreatDoor
open Go.RowKit

/-- an object that isn't shown -/
def Po.hide (o : Po) : Po := { o with sh := false }
theorem layO_hide (W : Nat) (ps : List (Int × Int)) (o : Po) : layO W ps o.hide = ps := rfl
theorem seen_hide (W : Nat) (t : Int) : ∀ (os : List Po) (acc : List (Int × Int)), (os.map (fun o => if o.id = t then o.hide else o)).foldl (layO W) acc = (os.filter (fun o => decide (o.id ≠ t))).foldl (layO W) acc := by
  intro os
  induction os with
  | nil => intro acc; rfl
  | cons a r ih =>
    intro acc
    by_cases h : a.id = t
    · simp only [List.map_cons, List.foldl_cons, h, if_true]
      rw [layO_hide, ih, List.filter_cons_of_neg (by simp [h])]
    · simp only [List.map_cons, List.foldl_cons, if_neg h]
      rw [ih, List.filter_cons_of_pos (by simp [h]), List.foldl_cons]
theorem set_hide (os : List Po) (hs : SortO os) (i : Nat) (hi : i < os.length) (t : Int) (ht : (os.getD i po0).id = t) : os.set i (os.getD i po0).hide = os.map (fun o => if o.id = t then o.hide else o) := by
  apply List.ext_getElem
  · simp
  · intro j h1 h2
    have hj : j < os.length := by simpa using h2
    have e : ∀ k (hk : k < os.length), os.getD k po0 = os[k] := fun k hk => by rw [List.getD_eq_getElem?_getD, List.getElem?_eq_getElem hk]; rfl
    rw [List.getElem_set, List.getElem_map]
    by_cases hij : i = j
    · subst hij
      rw [if_pos rfl, if_pos (by rw [← e i hi]; exact ht), e i hi]
    · rw [if_neg hij, if_neg]
      intro h
      rw [← e j hj] at h
      rcases Nat.lt_or_ge i j with h3 | h3
      · have := hs i j h3 hj
        omega
      · have := hs j i (by omega) hi
        omega
theorem setO_last (x : Po) : ∀ (os : List Po), SortO os → (∀ o ∈ os, o.id ≤ x.id) → ∃ pre, setO os x = pre ++ [x] ∧ ∀ o ∈ pre, o ∈ os := by
  intro os
  induction os with
  | nil => intro _ _; exact ⟨[], rfl, by simp⟩
  | cons a r ih =>
    intro hs hle
    obtain ⟨h1, h2⟩ := sort_tail hs
    unfold setO
    have ha := hle a (by simp)
    rw [if_neg (by omega)]
    by_cases h : a.id = x.id
    · rw [if_pos h]
      cases r with
      | nil => exact ⟨[], rfl, by simp⟩
      | cons b r =>
        have := h2 b (by simp)
        have := hle b (by simp)
        omega
    · rw [if_neg h]
      obtain ⟨pre, e, hm⟩ := ih h1 (fun o ho => hle o (by simp [ho]))
      exact ⟨a :: pre, by rw [e]; rfl, fun o ho => by
        rcases List.mem_cons.1 ho with h | h
        · simp [h]
        · simp [hm o h]⟩
theorem seen_check (W H : Nat) (bv ba : Int) (h1 : 1 ≤ W) (h2 : W ≤ 8) (h3 : 1 ≤ H) (h4 : H ≤ 8) (h5 : 0 ≤ bv) (h6 : bv ≤ 255) (h7 : 0 ≤ ba) (h8 : ba ≤ 255) (os : List Po) (hok : ∀ o ∈ os, o.fault' = 0) : checkL (W : Int) (H : Int) (seenL W H (bv, ba) os) = 0 := by
  unfold seenL
  have hc := check_plain W H bv ba h1 h2 h3 h4 h5 h6 h7 h8
  generalize List.replicate (W * H) (bv, ba) = acc at hc
  induction os generalizing acc with
  | nil => exact hc
  | cons a r ih =>
    rw [List.foldl_cons]
    exact ih (fun o ho => hok o (by simp [ho])) _ (layO_check W H acc a hc (hok a (by simp)))
theorem over_all (v bv ba : Int) : Fb.overL v 255 bv ba = (v, 255) := by
  unfold Fb.overL Fb.thru
  simp
/-- what covers all is seen alone -/
theorem lay_all (W H : Nat) (h1 : 1 ≤ W) (h2 : W ≤ 8) (h3 : 1 ≤ H) (h4 : H ≤ 8) (v : Int) (ps : List (Int × Int)) (hl : ps.length = W * H) : layL W ps W H (List.replicate (W * H) (v, 255)) 0 0 0 0 20 20 true = List.replicate (W * H) (v, 255) := by
  apply List.ext_getElem
  · rw [lay_len, hl, List.length_replicate]
  · intro k hk1 hk2
    have hk : k < ps.length := by rw [lay_len] at hk1; exact hk1
    have hg := lay_getD W ps W H (List.replicate (W * H) (v, 255)) 0 0 0 0 20 20 true k hk
    rw [List.getD_eq_getElem?_getD, List.getElem?_eq_getElem hk1] at hg
    simp only [Option.getD_some] at hg
    rw [hg]
    obtain ⟨m1, m2⟩ := mod_div_lt W H k (by omega) (by omega)
    rw [if_pos]
    · unfold gq
      have hidx : ((((k / W : Nat) : Int) - 0) * (W : Int) + ((k % W : Nat) : Int) - 0).toNat = k := by
        have := Nat.div_add_mod k W
        rw [Int.sub_zero, Int.sub_zero, ← Int.natCast_mul, ← Int.natCast_add, Nat.mul_comm, this]
        simp
      rw [hidx, List.getD_eq_getElem?_getD (l := List.replicate (W * H) (v, 255)), List.getElem?_replicate, if_pos (by omega)]
      simp only [Option.getD_some]
      rw [over_all]
      simp
    · unfold hasB
      generalize k % W = m at *
      generalize k / W = d at *
      simp
      omega
/-- a list of objects that shares its pixels -/
theorem rdO_sh {w : World} {B : Nat} {v : Value} {qs : List (Po × Value)} (h : w.ownsRow B 141 11 v qs.length (obCells qs)) (h2 : ∀ q ∈ qs, RdP w q.2 q.1.ps) : RdO w v (qs.map Prod.fst) := by
  rcases h.2 with ⟨rfl, h0⟩ | ⟨g, cap, cur, rfl, hb, hg, hn, hm, hs, ht⟩
  · have : qs = [] := List.length_eq_zero_iff.1 h0
    subst this
    exact ⟨none, 0, rfl, by simp, by omega, fun h => absurd rfl h⟩
  · unfold maxLen at hm
    refine ⟨some ⟨g, 0, none⟩, cap, by simp, by simpa using hn, by omega, fun hne => ⟨g, 0, rfl, ?_, fun j hj => ?_⟩⟩
    · rcases Nat.lt_or_ge g w.heap.size with h1 | h1
      · exact h1
      · rw [Array.getElem?_eq_none h1] at hg; cases hg
    · rw [List.length_map] at hj
      have e : (qs.map Prod.fst).getD j po0 = (qs.getD j qo0).1 := by
        simp [List.getD_eq_getElem?_getD, List.getElem?_eq_getElem hj]
      have hmem : qs.getD j qo0 ∈ qs := by
        rw [List.getD_eq_getElem?_getD, List.getElem?_eq_getElem hj]
        simp
      rw [e]
      have hc : ∀ x, x < 11 → w.cell? ⟨g, 0 + j * 11 + x, none⟩ = (oCells (qs.getD j qo0).1 (qs.getD j qo0).2)[x]? := fun x hx => by
        rw [Nat.zero_add, h.cellAt (j * 11 + x) (by omega)]
        exact obCells_at qs j x hj hx
      exact ⟨(qs.getD j qo0).2, ⟨hc 0 (by omega), hc 1 (by omega), hc 2 (by omega), hc 3 (by omega), hc 4 (by omega), hc 5 (by omega), hc 6 (by omega), hc 7 (by omega), hc 8 (by omega), hc 9 (by omega), hc 10 (by omega)⟩, h2 _ hmem⟩
end Go.Proofs.YtceabiodelfdoaaGreatDoor
/- Walk of a machine: tell. -/
namespace Go.Proofs.YtceabiodelfdoaaGreatDoor
open Go.RowKit Go.Maps

/-- a wait -/
def tellM (qs : List Pq) (s : Ms) (d : Int) : Ms ⊕ Nat := if 40 ≤ s.frs.length then .inr 7 else .inl { s with frs := s.frs ++ [tellF qs s d] }

set_option maxHeartbeats 8000000 in
set_option maxRecDepth 100000 in
theorem mtell_any (B b : Nat) (F : List Nat) (qs : List Pq) (st : Ms) (w : World) (HM : Hid (Mac w B b F qs st)) (HBK : Hid (Book qs)) (HW : Hid (Way qs st)) (dl : Int) :
    Calls Tryz.prog 67 #[.pointer (some ⟨b, 0, none⟩), .int .i64 dl] w fun e w' => MacP B b F qs st (tellM qs st dl) w e w' := by
  obtain ⟨i0, hi, hz0, hz1, hz2⟩ := info_parts Tryz.infoFr
  obtain ⟨vo, bm, vr, vb, vk, vf, hm1, hm2, hm3⟩ := HM.out
  obtain ⟨N, hB⟩ := mac_nine hm1
  obtain ⟨fv, hfr1, hfr2⟩ := hm2.frs
  have hfl : fv.length = st.frs.length := by rw [← hfr2]; simp
  obtain ⟨fm, HFM⟩ : ∃ m, Hid (st.frs.length = m) := ⟨_, (rfl : _ = _)⟩
  obtain ⟨fa, fc, hvf⟩ := own_any hfr1.1
  rw [hfl, HFM.out] at hvf
  subst hvf
  have hf40 := HW.out.frs
  rw [HFM.out] at hf40
  by_cases h40 : 40 ≤ fm
  · have h40i : (40 : Int) ≤ (fm : Int) := by omega
    obtain ⟨n0, n1, n2, n3, n4, n5, n6, n7, n8, nf0, nf1, nf2, nf3, nf4, nf5, nf6, nf7, nf8, nlt⟩ := N
    unfold MacP tellM
    rw [if_pos (by rw [HFM.out]; exact h40)]
    clear hm1 hm2 hm3 hfr1
    go_enter Tryz.func67, Tryz.ntmps67
    go_wp2_with fail
    go_ret
    exact ⟨F, rfl, HM.out, Foot.refl _ _⟩
  have h40i : ¬ (40 : Int) ≤ (fm : Int) := by omega
  have h0 : 0 < qs.length := by have := HBK.out.two; omega
  obtain ⟨hda, hdb⟩ := op_head _ (HBK.out.ok 0 h0) ((HBK.out.head 0 h0).2 rfl)
  obtain ⟨W, hWe⟩ : ∃ W : Nat, (qs.getD 0 pq0).a = (W : Int) := ⟨_, (Int.toNat_of_nonneg (by omega)).symm⟩
  obtain ⟨H, hHe⟩ : ∃ H : Nat, (qs.getD 0 pq0).b = (H : Int) := ⟨_, (Int.toNat_of_nonneg (by omega)).symm⟩
  obtain ⟨L, HSL0⟩ : ∃ L, Hid (seenL W H (st.bv, st.ba) st.obs = L) := ⟨_, (rfl : _ = _)⟩
  have HTL : Hid (tellM qs st dl = .inl { st with frs := st.frs ++ [⟨(W : Int), (H : Int), L, dl⟩] }) := by
    unfold Hid tellM tellF
    rw [if_neg (by rw [HFM.out]; exact h40), hWe, hHe, Int.toNat_natCast, Int.toNat_natCast, HSL0.out]
  have hW1 : 1 ≤ W := by omega
  have hW2 : W ≤ 8 := by omega
  have hH1 : 1 ≤ H := by omega
  have hH2 : H ≤ 8 := by omega
  have hLL : checkL (W : Int) (H : Int) L = 0 := by rw [← HSL0.out]; exact seen_check W H st.bv st.ba hW1 hW2 hH1 hH2 HW.out.bv.1 HW.out.bv.2 HW.out.ba.1 HW.out.ba.2 st.obs HW.out.obs.ok
  have hL64 := check_len _ _ _ hLL
  obtain ⟨ll, HLL⟩ : ∃ l, Hid (L.length = l) := ⟨_, (rfl : _ = _)⟩
  rw [HLL.out] at hL64
  obtain ⟨qv, hq1, hq2⟩ := hm2.ops
  have HRQ : Hid (RdQ w vo qs) := by unfold Hid; rw [← hq2]; exact hq1.rd
  obtain ⟨n, HN⟩ : ∃ n, Hid (qs.length = n) := ⟨_, (rfl : _ = _)⟩
  obtain ⟨qa_, qc_, hvo, hol, hoc⟩ := HRQ.out.shape
  rw [HN.out] at hvo hol h0
  subst hvo
  obtain ⟨q, HX⟩ : ∃ q, Hid (qs.getD 0 pq0 = q) := ⟨_, (rfl : _ = _)⟩
  rw [HX.out] at hWe hHe
  obtain ⟨g, o, pua, pum, puc, rfl, hg, OC, HU, HMU⟩ := HRQ.out.at h0 HX
  obtain ⟨c0, c1, c2, c3, c4, c5, c6, c7, c8⟩ := OC
  rw [Nat.zero_mul, Nat.add_zero] at c0 c1 c2 c3 c4 c5 c6 c7 c8
  obtain ⟨kd, qid, qa, qb, qc, qd, qw, qh, qp⟩ := q
  simp only at c0 c1 c2 c3 c4 c5 c6 c7 c8 hWe hHe
  subst hWe hHe
  obtain ⟨ov, hov1, hov2⟩ := hm2.obs
  obtain ⟨oa, oc, hvb⟩ := own_any hov1.1
  obtain ⟨on, HON⟩ : ∃ n, Hid (ov.length = n) := ⟨_, (rfl : _ = _)⟩
  rw [HON.out] at hvb
  subst hvb
  obtain ⟨bv, HBV⟩ : ∃ v, Hid (st.bv = v) := ⟨_, (rfl : _ = _)⟩
  obtain ⟨ba, HBA⟩ : ∃ v, Hid (st.ba = v) := ⟨_, (rfl : _ = _)⟩
  obtain ⟨hv1, hv2⟩ := HW.out.bv
  obtain ⟨ha1, ha2⟩ := HW.out.ba
  obtain ⟨obs, HOBS⟩ : ∃ o, Hid (st.obs = o) := ⟨_, (rfl : _ = _)⟩
  rw [HBV.out] at hv1 hv2 N
  rw [HBA.out] at ha1 ha2 N
  have HSL : Hid (seenL W H (bv, ba) obs = L) := by rw [← HBV.out, ← HBA.out, ← HOBS.out]; exact HSL0
  have hobg := HW.out.obs.good
  rw [HOBS.out] at hobg
  have hos : obs.length ≤ 1000 := by have := hobg.few; omega
  have HPS : Hid (∀ j, j < obs.length → (obs.getD j po0).ps.length ≤ 100) := fun j hj => by have := hobg.pix j hj; omega
  have HOK : Hid (∀ j, j < obs.length → (obs.getD j po0).fault' = 0) := hobg.ok
  have hbx1 : Below w.heap.size w (w.alloc (.cells #[.int .i64 kd, .int .i64 qid, .int .i64 (W : Int), .int .i64 (H : Int), .int .i64 qc, .int .i64 qd, .int .i64 qw, .int .i64 qh, .slice pua pum puc] 48)) := (Below.refl _ _).alloc (Nat.le_refl _) _
  have HOD : Hid (RdO (w.alloc (.cells #[.int .i64 kd, .int .i64 qid, .int .i64 (W : Int), .int .i64 (H : Int), .int .i64 qc, .int .i64 qd, .int .i64 qw, .int .i64 qh, .slice pua pum puc] 48)) (.slice oa on oc) obs) := by
    have := hov1.rd.on hbx1
    rw [hov2, HOBS.out] at this
    exact this
  obtain ⟨x0, x1, h2, h3, x4, x5, x6, x7, x8, xf0, xf1, xf2, xf3, xf4, xf5, xf6, xf7, xf8, hlt⟩ := nine_start w (.int .i64 kd) (.int .i64 qid) (.int .i64 (W : Int)) (.int .i64 (H : Int)) (.int .i64 qc) (.int .i64 qd) (.int .i64 qw) (.int .i64 qh) (.slice pua pum puc) 48 w.heap.size rfl
  have N1 := hid_of2 (N.on hbx1)
  obtain ⟨n0, n1, n2, n3, n4, n5, n6, n7, n8, nf0, nf1, nf2, nf3, nf4, nf5, nf6, nf7, nf8, nlt⟩ := N
  have HM2 := hid_of2 hm2
  have HM3 := hid_of2 hm3
  have HM1 := hid_of2 hm1
  have HFR := hid_of2 hfr1
  have HFV := hid_of2 hfr2
  have HFL : Hid (fv.length = fm) := by unfold Hid; rw [hfl, HFM.out]
  unfold MacP
  rw [HTL.out]
  clear hm1 hm2 hm3 hfr1 hfr2 hfl hq1 hq2 hov1 hov2 hobg hLL HRQ HU
  go_enter Tryz.func67, Tryz.ntmps67
  go_wp2_with fail
  have n4 := N1.out.c4
  have n5 := N1.out.c5
  have n6 := N1.out.c6
  have nlt1 := N1.out.lt
  have KEEP : Hid (∀ w', Below (w.alloc (.cells #[.int .i64 kd, .int .i64 qid, .int .i64 (W : Int), .int .i64 (H : Int), .int .i64 qc, .int .i64 qd, .int .i64 qw, .int .i64 qh, .slice pua pum puc] 48)).heap.size (w.alloc (.cells #[.int .i64 kd, .int .i64 qid, .int .i64 (W : Int), .int .i64 (H : Int), .int .i64 qc, .int .i64 qd, .int .i64 qw, .int .i64 qh, .slice pua pum puc] 48)) w' → w'.cell? ⟨b, 4, none⟩ = some (.int .i64 bv) ∧ w'.cell? ⟨b, 5, none⟩ = some (.int .i64 ba) ∧ w'.cell? ⟨b, 6, none⟩ = some (.slice oa on oc) ∧ w'.cell? ⟨w.heap.size, 2, none⟩ = some (.int .i64 (W : Int)) ∧ w'.cell? ⟨w.heap.size, 3, none⟩ = some (.int .i64 (H : Int))) := by
    intro w' h
    refine ⟨?_, ?_, ?_, ?_, ?_⟩
    · rw [h.cell (p := ⟨b, 4, none⟩) nlt1]; exact n4
    · rw [h.cell (p := ⟨b, 5, none⟩) nlt1]; exact n5
    · rw [h.cell (p := ⟨b, 6, none⟩) nlt1]; exact n6
    · rw [h.cell (p := ⟨w.heap.size, 2, none⟩) hlt]; exact h2
    · rw [h.cell (p := ⟨w.heap.size, 3, none⟩) hlt]; exact h3
  refine wp_region_held_drew (S := (fun w' => w'.cell? ⟨b, 4, none⟩ = some (.int .i64 bv) ∧ w'.cell? ⟨b, 5, none⟩ = some (.int .i64 ba) ∧ w'.cell? ⟨b, 6, none⟩ = some (.slice oa on oc) ∧ w'.cell? ⟨w.heap.size, 2, none⟩ = some (.int .i64 (W : Int)) ∧ w'.cell? ⟨w.heap.size, 3, none⟩ = some (.int .i64 (H : Int)))) (by kernel_rfl) ?_ (fun hHeld => ?_)
  · exact KEEP.out _ (Below.refl _ _).drew
  refine tk (v := ?_) 0 rfl (by kernel_rfl) (by rfl) ?_ ?_
  rotate_left
  · (intro w hSw; (try dsimp only at hSw); go_simp; try with_reducible rfl)
  refine tk (v := ?_) 1 rfl (by kernel_rfl) (by rfl) ?_ ?_
  rotate_left
  · (intro w hSw; (try dsimp only at hSw); go_simp; try with_reducible rfl)
  refine tk (v := ?_) 2 rfl (by kernel_rfl) (by rfl) ?_ ?_
  rotate_left
  · (intro w hSw; (try dsimp only at hSw); go_simp; try with_reducible rfl)
  refine tk (v := ?_) 3 rfl (by kernel_rfl) (by rfl) ?_ ?_
  rotate_left
  · (intro w hSw; (try dsimp only at hSw); go_simp; try with_reducible rfl)
  refine tk (v := ?_) 4 rfl (by kernel_rfl) (by rfl) ?_ ?_
  rotate_left
  · (intro w hSw; (try dsimp only at hSw); go_simp; try with_reducible rfl)
  refine tk (v := ?_) 5 rfl (by kernel_rfl) (by rfl) ?_ ?_
  rotate_left
  · (intro w hSw; (try dsimp only at hSw); go_simp; try with_reducible rfl)
  refine tk (v := ?_) 6 rfl (by kernel_rfl) (by rfl) ?_ ?_
  rotate_left
  · (intro w hSw; (try dsimp only at hSw); go_simp; try with_reducible rfl)
  refine tk (v := ?_) 7 rfl (by kernel_rfl) (by rfl) ?_ ?_
  rotate_left
  · (intro w hSw; (try dsimp only at hSw); go_simp; try with_reducible rfl)
  refine tk (v := ?_) 8 rfl (by kernel_rfl) (by rfl) ?_ ?_
  rotate_left
  · (intro w hSw; (try dsimp only at hSw); go_simp; try with_reducible rfl)
  refine tk (v := ?_) 9 rfl (by kernel_rfl) (by rfl) ?_ ?_
  rotate_left
  · (intro w hSw; (try dsimp only at hSw); go_simp; try with_reducible rfl)
  refine tk (v := ?_) 10 rfl (by kernel_rfl) (by rfl) ?_ ?_
  rotate_left
  · (intro w hSw; (try dsimp only at hSw); go_simp; try with_reducible rfl)
  refine tk (v := ?_) 11 rfl (by kernel_rfl) (by rfl) ?_ ?_
  rotate_left
  · (intro w hSw; (try dsimp only at hSw); go_simp; try with_reducible rfl)
  refine wpAnyH_ready (rs := [12, 13]) (by kernel_rfl) (by simp) ?_
  refine AllReadyH.cons rfl (fun K_ hK => ?_) (AllReadyH.cons rfl (fun K_ hK => ?_) AllReadyH.nil)
  · go_simp
    refine (seen_own _ obs W H bv ba (w.alloc (.cells #[.int .i64 kd, .int .i64 qid, .int .i64 (W : Int), .int .i64 (H : Int), .int .i64 qc, .int .i64 qd, .int .i64 qw, .int .i64 qh, .slice pua pum puc] 48)).drew hos HPS.out HOK.out (HOD.out.on ((Below.refl _ _).drew)) hW1 hW2 hH1 hH2 hv1 hv2 ha1 ha2).mono ?_
    unfold picV
    rintro e w2 ⟨u, rfl, hu, hb2⟩
    rw [HSL.out] at hu
    obtain ⟨ua, uc, hue⟩ := own_any hu
    rw [HLL.out] at hue hu
    subst hue
    have HU2 := hid_of2 hu
    have HB2 : Hid (Below (w.alloc (.cells #[.int .i64 kd, .int .i64 qid, .int .i64 (W : Int), .int .i64 (H : Int), .int .i64 qc, .int .i64 qd, .int .i64 qw, .int .i64 qh, .slice pua pum puc] 48)).heap.size (w.alloc (.cells #[.int .i64 kd, .int .i64 qid, .int .i64 (W : Int), .int .i64 (H : Int), .int .i64 qc, .int .i64 qd, .int .i64 qw, .int .i64 qh, .slice pua pum puc] 48)) w2) := ⟨hb2.os, hb2.tape, hb2.output, hb2.size, hb2.block⟩
    clear hu hb2
    refine hK.out _ _ ?_ (fun hHeld => ?_)
    · exact KEEP.out _ HB2.out
    clear hK K_
    refine wpAnyH_ready (rs := [13]) (by kernel_rfl) (by simp) ?_
    refine AllReadyH.cons rfl (fun K_ hK => ?_) AllReadyH.nil
    go_simp
    refine hK.out _ _ ?_ (fun hHeld => ?_)
    · exact KEEP.out _ (HB2.out.alloc HB2.out.size _)
    clear hK K_
    refine wpAnyH_ready (rs := [14]) (by kernel_rfl) (by simp) ?_
    refine AllReadyH.cons rfl (fun K_ hK => ?_) AllReadyH.nil
    go_simp
    refine hK.out _ _ ?_ (fun hHeld => ?_)
    · exact KEEP.out _ (HB2.out.alloc HB2.out.size _)
    clear hK K_
    have hsz2 : w.heap.size + 1 ≤ w2.heap.size := by have := HB2.out.size; simp at this; exact this
    have hbY : Below w.heap.size w (w2.alloc (.cells #[.int .i64 (W : Int), .int .i64 (H : Int), .slice ua ll uc] 46)) := (hbx1.trans (HB2.out.mono hbx1.size)).alloc (by omega) _
    have HUY : Hid ((w2.alloc (.cells #[.int .i64 (W : Int), .int .i64 (H : Int), .slice ua ll uc] 46)).ownsRow w.heap.size 52 2 (.slice ua ll uc) ll (pixCells L)) := own_mono (own_on2 HU2.out ((Below.refl _ _).alloc (Nat.le_refl _) _)) (by simp; omega)
    have p0 : (w2.alloc (.cells #[.int .i64 (W : Int), .int .i64 (H : Int), .slice ua ll uc] 46)).cell? ⟨w2.heap.size, 0, none⟩ = some (.int .i64 (W : Int)) := by simp
    have p1 : (w2.alloc (.cells #[.int .i64 (W : Int), .int .i64 (H : Int), .slice ua ll uc] 46)).cell? ⟨w2.heap.size, 1, none⟩ = some (.int .i64 (H : Int)) := by simp
    have p2 : (w2.alloc (.cells #[.int .i64 (W : Int), .int .i64 (H : Int), .slice ua ll uc] 46)).cell? ⟨w2.heap.size, 2, none⟩ = some (.slice ua ll uc) := by simp
    have plt : w2.heap.size < (w2.alloc (.cells #[.int .i64 (W : Int), .int .i64 (H : Int), .slice ua ll uc] 46)).heap.size := by simp
    clear KEEP HOD n4 n5 n6 nlt1 h2 h3 hlt x0 x1 x4 x5 x6 x7 x8 xf0 xf1 xf2 xf3 xf4 xf5 xf6 xf7 xf8 c0 c1 c2 c3 c4 c5 c6 c7 c8 HB2 HU2
    generalize w2.alloc (.cells #[.int .i64 (W : Int), .int .i64 (H : Int), .slice ua ll uc] 46) = Y at *
    refine wpAnyH_done (by kernel_rfl) ?_ _
    have hbY2 := hid_of2 hbY
    have n8 : Y.cell? ⟨b, 8, none⟩ = some (.slice fa fm fc) := by rw [hbY.cell (p := ⟨b, 8, none⟩) nlt]; exact n8
    have nf8Y : Y.frozen? ⟨b, 8, none⟩ = false := by rw [hbY.frozen (p := ⟨b, 8, none⟩) nlt]; exact nf8
    have hbY' : Below w.heap.size w Y := hbY
    have nltY : b < Y.heap.size := Nat.lt_of_lt_of_le nlt hbY.size
    have HFY := hid_of2 (HFR.out.on hbY)
    have hbx := hid_of2 ((Below.refl Y.heap.size Y).drew.alloc (show Y.heap.size ≤ Y.drew.heap.size from Nat.le_refl _) (.cells #[.int .i64 (W : Int), .int .i64 (H : Int), .slice ua ll uc, .int .i64 dl] 50))
    have HFX := hid_of2 (HFY.out.on hbx.out)
    have HUX := hid_of2 (own_on2 HUY.out hbx.out)
    have hbBY : B ≤ Y.heap.size := by have := hbY.size; omega
    have hMY := own_on2 HM1.out hbY
    have hMX := own_on2 hMY hbx.out
    have hX1 := HFX.out.1
    rw [HFL.out] at hX1
    obtain ⟨v', w3, hr, h1, h2', _, hat⟩ := run_append_own_at (P := Tryz.prog) (Y.drew.alloc (.cells #[.int .i64 (W : Int), .int .i64 (H : Int), .slice ua ll uc, .int .i64 dl] 50)) B 41 41 50 i0 (.agg #[.int .i64 0, .int .i64 0, .slice none 0 0, .int .i64 0]) 4 48 Tryz.underlying41 hi hz0 hz1 hz2 rfl (by decide) _ _ _ hX1 ⟨Y.heap.size, 0, none⟩ 1 1 [.int .i64 (W : Int), .int .i64 (H : Int), .slice ua ll uc, .int .i64 dl] rfl (fun j u hj => new_cells Y.drew _ _ j u hj) (by intro u hu; simp at hu; rcases hu with rfl | rfl | rfl | rfl <;> rfl) (by unfold maxLen; omega) (by omega) (by have := hbx.out.size; omega)
    have HR := hid_of2 hr
    have hne : some b ≠ (Value.slice fa fm fc).ownBlock := row_ne HM1.out HFR.out.1 (by decide)
    obtain ⟨va, vc, hv'⟩ := own_any h1
    subst hv'
    have HO7 : Hid (OwnFr w3 B (.slice va (fm + 1) vc) (fv ++ [(⟨(W : Int), (H : Int), L, dl⟩, .slice ua ll uc)])) := HFX.out.app (f := ⟨(W : Int), (H : Int), L, dl⟩) (by simp only; rw [HLL.out]; exact own_mono HUX.out (by omega)) (by rw [HFL.out]; exact h1) h2'
    have n8x : (Y.drew.alloc (.cells #[.int .i64 (W : Int), .int .i64 (H : Int), .slice ua ll uc, .int .i64 dl] 50)).cell? ⟨b, 8, none⟩ = some (.slice fa fm fc) := by rw [hbx.out.cell (p := ⟨b, 8, none⟩) nltY]; exact n8
    have n8w : w3.cell? ⟨b, 8, none⟩ = some (.slice fa fm fc) := h2'.cell n8x hne
    have nf8w : w3.frozen? ⟨b, 8, none⟩ = false := by
      have hblk := h2'.block b (by have := hbx.out.size; omega) hne
      rw [World.frozen?_of_block hblk, hbx.out.frozen (p := ⟨b, 8, none⟩) nltY]; exact nf8Y
    have hpb : some w2.heap.size ≠ (Value.slice fa fm fc).ownBlock := fun e => by have := (HFR.out.1.lt _ e.symm).2; omega
    have h3c : Hid (w3.cell? ⟨w2.heap.size, 0, none⟩ = some (.int .i64 (W : Int)) ∧ w3.cell? ⟨w2.heap.size, 1, none⟩ = some (.int .i64 (H : Int)) ∧ w3.cell? ⟨w2.heap.size, 2, none⟩ = some (.slice ua ll uc)) := by
      refine ⟨?_, ?_, ?_⟩
      · exact h2'.cell (by rw [hbx.out.cell (p := ⟨w2.heap.size, 0, none⟩) plt]; exact p0) hpb
      · exact h2'.cell (by rw [hbx.out.cell (p := ⟨w2.heap.size, 1, none⟩) plt]; exact p1) hpb
      · exact h2'.cell (by rw [hbx.out.cell (p := ⟨w2.heap.size, 2, none⟩) plt]; exact p2) hpb
    have hbpb : b ≠ w2.heap.size := by omega
    have h5c : Hid ((w3.setCell ⟨b, 8, none⟩ (.slice va (fm + 1) vc)).cell? ⟨w2.heap.size, 0, none⟩ = some (.int .i64 (W : Int)) ∧ (w3.setCell ⟨b, 8, none⟩ (.slice va (fm + 1) vc)).cell? ⟨w2.heap.size, 1, none⟩ = some (.int .i64 (H : Int)) ∧ (w3.setCell ⟨b, 8, none⟩ (.slice va (fm + 1) vc)).cell? ⟨w2.heap.size, 2, none⟩ = some (.slice ua ll uc)) := by
      refine ⟨?_, ?_, ?_⟩
      · rw [World.cell?_setCell_far _ _ _ _ hbpb]; exact h3c.out.1
      · rw [World.cell?_setCell_far _ _ _ _ hbpb]; exact h3c.out.2.1
      · rw [World.cell?_setCell_far _ _ _ _ hbpb]; exact h3c.out.2.2
    have FIN : Hid (∃ F', Mac (w3.setCell ⟨b, 8, none⟩ (.slice va (fm + 1) vc)) B b F' qs { st with frs := st.frs ++ [⟨(W : Int), (H : Int), L, dl⟩] } ∧ Foot F F' w (w3.setCell ⟨b, 8, none⟩ (.slice va (fm + 1) vc))) := by
      have hM3 := hMX.kept h2' (.inr hne)
      obtain ⟨k1, k2, k3⟩ := mac_set hM3 8 (.slice va (fm + 1) vc)
      have hbwX := hbY.trans (hbx.out.mono hbY.size)
      have o1 : Only MT w w3 := (Only.below hbwX _).trans ((only_row HFX.out.1 h2').mono (by decide))
      have o3 := o1.trans (only_MT2 (only_MT1 k2))
      have hrn : w3.ownsRow B 134 2 vr st.opn.length (rndCells st.opn) := own_only (own_on2 HM2.out.rnd hbwX) (only_row HFX.out.1 h2') (by decide)
      have hmr : MacR (w3.setCell ⟨b, 8, none⟩ (.slice va (fm + 1) vc)) B _ bm vr _ vk (.slice va (fm + 1) vc) qs st.opn st.obs st.kept (st.frs ++ [⟨(W : Int), (H : Int), L, dl⟩]) := ⟨HM2.out.ops_only o3, HM2.out.mpl, HM2.out.mp_only o3, own_only hrn k2 (by decide), HM2.out.obs_only o3, HM2.out.kep_only o3, ⟨_, HO7.out.only k2 (by decide) (by decide), by rw [List.map_append, HFV.out]; rfl⟩⟩
      have hfoot := ((Foot.below hbwX F).trans (Foot.grown h2' (fun g hg => HM3.out.frs g hg))).trans (k3 F HM3.out.self)
      rcases hat with h | h
      · exact ⟨F, ⟨_, bm, vr, _, vk, _, k1, hmr, HM3.out.self, HM3.out.rnd, fun g hg => HM3.out.frs g (by rw [← h]; exact hg), HM3.out.low⟩, hfoot⟩
      · refine ⟨(Y.drew.alloc (.cells #[.int .i64 (W : Int), .int .i64 (H : Int), .slice ua ll uc, .int .i64 dl] 50)).heap.size :: F, ⟨_, bm, vr, _, vk, _, k1, hmr, List.mem_cons_of_mem _ HM3.out.self, fun g hg => List.mem_cons_of_mem _ (HM3.out.rnd g hg), fun g hg => ?_, fun g hg => ?_⟩, hfoot.cons _ (.inr ⟨hbwX.size, ?_⟩)⟩
        · rw [h] at hg; simp at hg; subst hg; simp
        · rcases List.mem_cons.1 hg with rfl | hg
          · have := hbx.out.size; omega
          · exact HM3.out.low g hg
        · have := (h1.lt _ h).2; simpa using this
    clear hat h1 h2' hr hMX hMY hX1 HFX HFY HUX HUY n8x hbY hbY' hpb
    have KEEPY : Hid (∀ w', Below Y.heap.size Y w' → w'.cell? ⟨w2.heap.size, 0, none⟩ = some (.int .i64 (W : Int)) ∧ w'.cell? ⟨w2.heap.size, 1, none⟩ = some (.int .i64 (H : Int)) ∧ w'.cell? ⟨w2.heap.size, 2, none⟩ = some (.slice ua ll uc)) := by
      intro w' h
      refine ⟨?_, ?_, ?_⟩
      · rw [h.cell (p := ⟨w2.heap.size, 0, none⟩) plt]; exact p0
      · rw [h.cell (p := ⟨w2.heap.size, 1, none⟩) plt]; exact p1
      · rw [h.cell (p := ⟨w2.heap.size, 2, none⟩) plt]; exact p2
    have n8d : Y.drew.cell? ⟨b, 8, none⟩ = some (.slice fa fm fc) := n8
    go_wp2_with fail
    refine wp_region_held_drew (S := (fun w' => w'.cell? ⟨w2.heap.size, 0, none⟩ = some (.int .i64 (W : Int)) ∧ w'.cell? ⟨w2.heap.size, 1, none⟩ = some (.int .i64 (H : Int)) ∧ w'.cell? ⟨w2.heap.size, 2, none⟩ = some (.slice ua ll uc))) (by kernel_rfl) ?_ (fun hHeld => ?_)
    · exact KEEPY.out _ (Below.refl _ _).drew
    refine tk (v := ?_) 0 rfl (by kernel_rfl) (by rfl) ?_ ?_
    rotate_left
    · (intro w hSw; (try dsimp only at hSw); go_simp; try with_reducible rfl)
    refine tk (v := ?_) 1 rfl (by kernel_rfl) (by rfl) ?_ ?_
    rotate_left
    · (intro w hSw; (try dsimp only at hSw); go_simp; try with_reducible rfl)
    refine tk (v := ?_) 2 rfl (by kernel_rfl) (by rfl) ?_ ?_
    rotate_left
    · (intro w hSw; (try dsimp only at hSw); go_simp; try with_reducible rfl)
    refine tk (v := ?_) 3 rfl (by kernel_rfl) (by rfl) ?_ ?_
    rotate_left
    · (intro w hSw; (try dsimp only at hSw); go_simp; try with_reducible rfl)
    refine tk (v := ?_) 5 rfl (by kernel_rfl) (by rfl) ?_ ?_
    rotate_left
    · (intro w hSw; (try dsimp only at hSw); go_simp; try with_reducible rfl)
    refine tk (v := ?_) 6 rfl (by kernel_rfl) (by rfl) ?_ ?_
    rotate_left
    · (intro w hSw; (try dsimp only at hSw); go_simp; try with_reducible rfl)
    refine tk (v := ?_) 7 rfl (by kernel_rfl) (by rfl) ?_ ?_
    rotate_left
    · (intro w hSw; (try dsimp only at hSw); go_simp; try with_reducible rfl)
    refine wpAnyH_ready (rs := [4, 8]) (by kernel_rfl) (by simp) ?_
    refine AllReadyH.cons rfl (fun K_ hK => ?_) (AllReadyH.cons rfl (fun K_ hK => ?_) AllReadyH.nil)
    · go_simp
      refine hK.out _ _ ?_ (fun hHeld => ?_)
      · exact KEEPY.out _ (Below.refl _ _).drew
      clear hK K_
      refine wpAnyH_ready (rs := [8]) (by kernel_rfl) (by simp) ?_
      refine AllReadyH.cons rfl (fun K_ hK => ?_) AllReadyH.nil
      go_simp
      refine hK.out _ _ ?_ (fun hHeld => ?_)
      · exact KEEPY.out _ hbx.out
      clear hK K_
      refine wpAnyH_ready (rs := [9]) (by kernel_rfl) (by simp) ?_
      refine AllReadyH.cons rfl (fun K_ hK => ?_) AllReadyH.nil
      refine ready_app rfl (.tmp 37) (.tmp 41) 41 rfl _ _ _ ?d1a ?d1b HR.out ?_
      case d1a => rfl
      case d1b => rfl
      refine hK.out _ _ ?_ (fun hHeld => ?_)
      · exact h3c.out
      clear hK K_
      refine tk (v := ?_) 10 rfl (by kernel_rfl) (by rfl) ?_ ?_
      rotate_left
      · (intro w hSw; (try dsimp only at hSw); go_simp; try with_reducible rfl)
      refine tk (v := ?_) 11 rfl (by kernel_rfl) (by rfl) ?_ ?_
      rotate_left
      · (intro w hSw; (try dsimp only at hSw); go_simp; try with_reducible rfl)
      refine wpAnyH_ready (rs := [12]) (by kernel_rfl) (by simp) ?_
      refine AllReadyH.cons rfl (fun K_ hK => ?_) AllReadyH.nil
      go_simp
      refine hK.out _ _ ?_ (fun hHeld => ?_)
      · exact h5c.out
      clear hK K_
      refine wpAnyH_done (by kernel_rfl) ?_ _
      go_wp2_with fail
      go_ret
      obtain ⟨F1, f1, f2⟩ := FIN.out
      exact ⟨F1, rfl, f1, f2⟩
    · go_simp
      refine hK.out _ _ ?_ (fun hHeld => ?_)
      · exact KEEPY.out _ hbx.out
      clear hK K_
      have n8x : (Y.drew.alloc (.cells #[.int .i64 (W : Int), .int .i64 (H : Int), .slice ua ll uc, .int .i64 dl] 50)).cell? ⟨b, 8, none⟩ = some (.slice fa fm fc) := by rw [hbx.out.cell (p := ⟨b, 8, none⟩) nltY]; exact n8d
      refine wpAnyH_ready (rs := [4]) (by kernel_rfl) (by simp) ?_
      refine AllReadyH.cons rfl (fun K_ hK => ?_) AllReadyH.nil
      go_simp
      refine hK.out _ _ ?_ (fun hHeld => ?_)
      · exact KEEPY.out _ hbx.out
      clear hK K_
      refine wpAnyH_ready (rs := [9]) (by kernel_rfl) (by simp) ?_
      refine AllReadyH.cons rfl (fun K_ hK => ?_) AllReadyH.nil
      refine ready_app rfl (.tmp 37) (.tmp 41) 41 rfl _ _ _ ?d2a ?d2b HR.out ?_
      case d2a => rfl
      case d2b => rfl
      refine hK.out _ _ ?_ (fun hHeld => ?_)
      · exact h3c.out
      clear hK K_
      refine tk (v := ?_) 10 rfl (by kernel_rfl) (by rfl) ?_ ?_
      rotate_left
      · (intro w hSw; (try dsimp only at hSw); go_simp; try with_reducible rfl)
      refine tk (v := ?_) 11 rfl (by kernel_rfl) (by rfl) ?_ ?_
      rotate_left
      · (intro w hSw; (try dsimp only at hSw); go_simp; try with_reducible rfl)
      refine wpAnyH_ready (rs := [12]) (by kernel_rfl) (by simp) ?_
      refine AllReadyH.cons rfl (fun K_ hK => ?_) AllReadyH.nil
      go_simp
      refine hK.out _ _ ?_ (fun hHeld => ?_)
      · exact h5c.out
      clear hK K_
      refine wpAnyH_done (by kernel_rfl) ?_ _
      go_wp2_with fail
      go_ret
      obtain ⟨F1, f1, f2⟩ := FIN.out
      exact ⟨F1, rfl, f1, f2⟩
  · go_simp
    have hb13 : Below (w.alloc (.cells #[.int .i64 kd, .int .i64 qid, .int .i64 (W : Int), .int .i64 (H : Int), .int .i64 qc, .int .i64 qd, .int .i64 qw, .int .i64 qh, .slice pua pum puc] 48)).heap.size (w.alloc (.cells #[.int .i64 kd, .int .i64 qid, .int .i64 (W : Int), .int .i64 (H : Int), .int .i64 qc, .int .i64 qd, .int .i64 qw, .int .i64 qh, .slice pua pum puc] 48)) ((w.alloc (.cells #[.int .i64 kd, .int .i64 qid, .int .i64 (W : Int), .int .i64 (H : Int), .int .i64 qc, .int .i64 qd, .int .i64 qw, .int .i64 qh, .slice pua pum puc] 48)).drew.alloc (.cells #[.int .i64 0, .int .i64 0, .slice none 0 0] 46)) := (Below.refl _ _).drew.alloc (by simp) _
    refine hK.out _ _ ?_ (fun hHeld => ?_)
    · exact KEEP.out _ hb13
    clear hK K_
    refine wpAnyH_ready (rs := [12]) (by kernel_rfl) (by simp) ?_
    refine AllReadyH.cons rfl (fun K_ hK => ?_) AllReadyH.nil
    go_simp
    refine (seen_own _ obs W H bv ba ((w.alloc (.cells #[.int .i64 kd, .int .i64 qid, .int .i64 (W : Int), .int .i64 (H : Int), .int .i64 qc, .int .i64 qd, .int .i64 qw, .int .i64 qh, .slice pua pum puc] 48)).drew.alloc (.cells #[.int .i64 0, .int .i64 0, .slice none 0 0] 46)) hos HPS.out HOK.out (HOD.out.on ((Below.refl _ _).drew.alloc (by simp) _)) hW1 hW2 hH1 hH2 hv1 hv2 ha1 ha2).mono ?_
    unfold picV
    rintro e w2 ⟨u, rfl, hu, hb2⟩
    rw [HSL.out] at hu
    obtain ⟨ua, uc, hue⟩ := own_any hu
    rw [HLL.out] at hue hu
    subst hue
    have HU2 := hid_of2 hu
    have HB2 : Hid (Below (w.alloc (.cells #[.int .i64 kd, .int .i64 qid, .int .i64 (W : Int), .int .i64 (H : Int), .int .i64 qc, .int .i64 qd, .int .i64 qw, .int .i64 qh, .slice pua pum puc] 48)).heap.size (w.alloc (.cells #[.int .i64 kd, .int .i64 qid, .int .i64 (W : Int), .int .i64 (H : Int), .int .i64 qc, .int .i64 qd, .int .i64 qw, .int .i64 qh, .slice pua pum puc] 48)) w2) := hb13.trans (hb2.mono hb13.size)
    obtain ⟨q0, q1, q2, qf0, qf1, qf2, qlt⟩ := (three_begin (w.alloc (.cells #[.int .i64 kd, .int .i64 qid, .int .i64 (W : Int), .int .i64 (H : Int), .int .i64 qc, .int .i64 qd, .int .i64 qw, .int .i64 qh, .slice pua pum puc] 48)).drew (.int .i64 0) (.int .i64 0) (.slice none 0 0) 46 (w.heap.size + 1) (by simp)).on hb2
    clear hu hb2 hb13
    refine hK.out _ _ ?_ (fun hHeld => ?_)
    · exact KEEP.out _ HB2.out
    clear hK K_
    have hsz2 : w.heap.size + 1 < w2.heap.size := qlt
    have hbY1 : Below (w.alloc (.cells #[.int .i64 kd, .int .i64 qid, .int .i64 (W : Int), .int .i64 (H : Int), .int .i64 qc, .int .i64 qd, .int .i64 qw, .int .i64 qh, .slice pua pum puc] 48)).heap.size (w.alloc (.cells #[.int .i64 kd, .int .i64 qid, .int .i64 (W : Int), .int .i64 (H : Int), .int .i64 qc, .int .i64 qd, .int .i64 qw, .int .i64 qh, .slice pua pum puc] 48)) (((w2.setCell ⟨w.heap.size + 1, 0, none⟩ (.int .i64 (W : Int))).setCell ⟨w.heap.size + 1, 1, none⟩ (.int .i64 (H : Int))).setCell ⟨w.heap.size + 1, 2, none⟩ (.slice ua ll uc)) := ((HB2.out.setCell (by simp) _).setCell (by simp) _).setCell (by simp) _
    have hbY : Below w.heap.size w (((w2.setCell ⟨w.heap.size + 1, 0, none⟩ (.int .i64 (W : Int))).setCell ⟨w.heap.size + 1, 1, none⟩ (.int .i64 (H : Int))).setCell ⟨w.heap.size + 1, 2, none⟩ (.slice ua ll uc)) := hbx1.trans (hbY1.mono hbx1.size)
    have HUY : Hid ((((w2.setCell ⟨w.heap.size + 1, 0, none⟩ (.int .i64 (W : Int))).setCell ⟨w.heap.size + 1, 1, none⟩ (.int .i64 (H : Int))).setCell ⟨w.heap.size + 1, 2, none⟩ (.slice ua ll uc)).ownsRow w.heap.size 52 2 (.slice ua ll uc) ll (pixCells L)) := own_mono (ownsRow_setCell_below (ownsRow_setCell_below (ownsRow_setCell_below HU2.out (a := ⟨w.heap.size + 1, 0, none⟩) (by simp) _) (a := ⟨w.heap.size + 1, 1, none⟩) (by simp) _) (a := ⟨w.heap.size + 1, 2, none⟩) (by simp) _) (by simp; omega)
    have p0 : (((w2.setCell ⟨w.heap.size + 1, 0, none⟩ (.int .i64 (W : Int))).setCell ⟨w.heap.size + 1, 1, none⟩ (.int .i64 (H : Int))).setCell ⟨w.heap.size + 1, 2, none⟩ (.slice ua ll uc)).cell? ⟨w.heap.size + 1, 0, none⟩ = some (.int .i64 (W : Int)) := by rw [cell_set_ne _ _ _ _ _ (by decide), cell_set_ne _ _ _ _ _ (by decide)]; exact World.cell?_setCell_same _ _ _ q0
    have p1 : (((w2.setCell ⟨w.heap.size + 1, 0, none⟩ (.int .i64 (W : Int))).setCell ⟨w.heap.size + 1, 1, none⟩ (.int .i64 (H : Int))).setCell ⟨w.heap.size + 1, 2, none⟩ (.slice ua ll uc)).cell? ⟨w.heap.size + 1, 1, none⟩ = some (.int .i64 (H : Int)) := by rw [cell_set_ne _ _ _ _ _ (by decide)]; exact World.cell?_setCell_same _ _ _ ((cell_set_ne _ _ _ _ _ (by decide)).trans q1)
    have p2 : (((w2.setCell ⟨w.heap.size + 1, 0, none⟩ (.int .i64 (W : Int))).setCell ⟨w.heap.size + 1, 1, none⟩ (.int .i64 (H : Int))).setCell ⟨w.heap.size + 1, 2, none⟩ (.slice ua ll uc)).cell? ⟨w.heap.size + 1, 2, none⟩ = some (.slice ua ll uc) := World.cell?_setCell_same _ _ _ ((cell_set_ne _ _ _ _ _ (by decide)).trans ((cell_set_ne _ _ _ _ _ (by decide)).trans q2))
    have plt : w.heap.size + 1 < (((w2.setCell ⟨w.heap.size + 1, 0, none⟩ (.int .i64 (W : Int))).setCell ⟨w.heap.size + 1, 1, none⟩ (.int .i64 (H : Int))).setCell ⟨w.heap.size + 1, 2, none⟩ (.slice ua ll uc)).heap.size := by simpa using hsz2
    refine wpAnyH_ready (rs := [14]) (by kernel_rfl) (by simp) ?_
    refine AllReadyH.cons rfl (fun K_ hK => ?_) AllReadyH.nil
    go_simp
    refine hK.out _ _ ?_ (fun hHeld => ?_)
    · exact KEEP.out _ hbY1
    clear hK K_
    clear KEEP HOD n4 n5 n6 nlt1 h2 h3 hlt x0 x1 x4 x5 x6 x7 x8 xf0 xf1 xf2 xf3 xf4 xf5 xf6 xf7 xf8 c0 c1 c2 c3 c4 c5 c6 c7 c8 HB2 HU2 q0 q1 q2 qf0 qf1 qf2 hbY1
    generalize (((w2.setCell ⟨w.heap.size + 1, 0, none⟩ (.int .i64 (W : Int))).setCell ⟨w.heap.size + 1, 1, none⟩ (.int .i64 (H : Int))).setCell ⟨w.heap.size + 1, 2, none⟩ (.slice ua ll uc)) = Y at *
    refine wpAnyH_done (by kernel_rfl) ?_ _
    have hbY2 := hid_of2 hbY
    have n8 : Y.cell? ⟨b, 8, none⟩ = some (.slice fa fm fc) := by rw [hbY.cell (p := ⟨b, 8, none⟩) nlt]; exact n8
    have nf8Y : Y.frozen? ⟨b, 8, none⟩ = false := by rw [hbY.frozen (p := ⟨b, 8, none⟩) nlt]; exact nf8
    have hbY' : Below w.heap.size w Y := hbY
    have nltY : b < Y.heap.size := Nat.lt_of_lt_of_le nlt hbY.size
    have HFY := hid_of2 (HFR.out.on hbY)
    have hbx := hid_of2 ((Below.refl Y.heap.size Y).drew.alloc (show Y.heap.size ≤ Y.drew.heap.size from Nat.le_refl _) (.cells #[.int .i64 (W : Int), .int .i64 (H : Int), .slice ua ll uc, .int .i64 dl] 50))
    have HFX := hid_of2 (HFY.out.on hbx.out)
    have HUX := hid_of2 (own_on2 HUY.out hbx.out)
    have hbBY : B ≤ Y.heap.size := by have := hbY.size; omega
    have hMY := own_on2 HM1.out hbY
    have hMX := own_on2 hMY hbx.out
    have hX1 := HFX.out.1
    rw [HFL.out] at hX1
    obtain ⟨v', w3, hr, h1, h2', _, hat⟩ := run_append_own_at (P := Tryz.prog) (Y.drew.alloc (.cells #[.int .i64 (W : Int), .int .i64 (H : Int), .slice ua ll uc, .int .i64 dl] 50)) B 41 41 50 i0 (.agg #[.int .i64 0, .int .i64 0, .slice none 0 0, .int .i64 0]) 4 48 Tryz.underlying41 hi hz0 hz1 hz2 rfl (by decide) _ _ _ hX1 ⟨Y.heap.size, 0, none⟩ 1 1 [.int .i64 (W : Int), .int .i64 (H : Int), .slice ua ll uc, .int .i64 dl] rfl (fun j u hj => new_cells Y.drew _ _ j u hj) (by intro u hu; simp at hu; rcases hu with rfl | rfl | rfl | rfl <;> rfl) (by unfold maxLen; omega) (by omega) (by have := hbx.out.size; omega)
    have HR := hid_of2 hr
    have hne : some b ≠ (Value.slice fa fm fc).ownBlock := row_ne HM1.out HFR.out.1 (by decide)
    obtain ⟨va, vc, hv'⟩ := own_any h1
    subst hv'
    have HO7 : Hid (OwnFr w3 B (.slice va (fm + 1) vc) (fv ++ [(⟨(W : Int), (H : Int), L, dl⟩, .slice ua ll uc)])) := HFX.out.app (f := ⟨(W : Int), (H : Int), L, dl⟩) (by simp only; rw [HLL.out]; exact own_mono HUX.out (by omega)) (by rw [HFL.out]; exact h1) h2'
    have n8x : (Y.drew.alloc (.cells #[.int .i64 (W : Int), .int .i64 (H : Int), .slice ua ll uc, .int .i64 dl] 50)).cell? ⟨b, 8, none⟩ = some (.slice fa fm fc) := by rw [hbx.out.cell (p := ⟨b, 8, none⟩) nltY]; exact n8
    have n8w : w3.cell? ⟨b, 8, none⟩ = some (.slice fa fm fc) := h2'.cell n8x hne
    have nf8w : w3.frozen? ⟨b, 8, none⟩ = false := by
      have hblk := h2'.block b (by have := hbx.out.size; omega) hne
      rw [World.frozen?_of_block hblk, hbx.out.frozen (p := ⟨b, 8, none⟩) nltY]; exact nf8Y
    have hpb : some (w.heap.size + 1) ≠ (Value.slice fa fm fc).ownBlock := fun e => by have := (HFR.out.1.lt _ e.symm).2; omega
    have h3c : Hid (w3.cell? ⟨(w.heap.size + 1), 0, none⟩ = some (.int .i64 (W : Int)) ∧ w3.cell? ⟨(w.heap.size + 1), 1, none⟩ = some (.int .i64 (H : Int)) ∧ w3.cell? ⟨(w.heap.size + 1), 2, none⟩ = some (.slice ua ll uc)) := by
      refine ⟨?_, ?_, ?_⟩
      · exact h2'.cell (by rw [hbx.out.cell (p := ⟨(w.heap.size + 1), 0, none⟩) plt]; exact p0) hpb
      · exact h2'.cell (by rw [hbx.out.cell (p := ⟨(w.heap.size + 1), 1, none⟩) plt]; exact p1) hpb
      · exact h2'.cell (by rw [hbx.out.cell (p := ⟨(w.heap.size + 1), 2, none⟩) plt]; exact p2) hpb
    have hbpb : b ≠ (w.heap.size + 1) := by omega
    have h5c : Hid ((w3.setCell ⟨b, 8, none⟩ (.slice va (fm + 1) vc)).cell? ⟨(w.heap.size + 1), 0, none⟩ = some (.int .i64 (W : Int)) ∧ (w3.setCell ⟨b, 8, none⟩ (.slice va (fm + 1) vc)).cell? ⟨(w.heap.size + 1), 1, none⟩ = some (.int .i64 (H : Int)) ∧ (w3.setCell ⟨b, 8, none⟩ (.slice va (fm + 1) vc)).cell? ⟨(w.heap.size + 1), 2, none⟩ = some (.slice ua ll uc)) := by
      refine ⟨?_, ?_, ?_⟩
      · rw [World.cell?_setCell_far _ _ _ _ hbpb]; exact h3c.out.1
      · rw [World.cell?_setCell_far _ _ _ _ hbpb]; exact h3c.out.2.1
      · rw [World.cell?_setCell_far _ _ _ _ hbpb]; exact h3c.out.2.2
    have FIN : Hid (∃ F', Mac (w3.setCell ⟨b, 8, none⟩ (.slice va (fm + 1) vc)) B b F' qs { st with frs := st.frs ++ [⟨(W : Int), (H : Int), L, dl⟩] } ∧ Foot F F' w (w3.setCell ⟨b, 8, none⟩ (.slice va (fm + 1) vc))) := by
      have hM3 := hMX.kept h2' (.inr hne)
      obtain ⟨k1, k2, k3⟩ := mac_set hM3 8 (.slice va (fm + 1) vc)
      have hbwX := hbY.trans (hbx.out.mono hbY.size)
      have o1 : Only MT w w3 := (Only.below hbwX _).trans ((only_row HFX.out.1 h2').mono (by decide))
      have o3 := o1.trans (only_MT2 (only_MT1 k2))
      have hrn : w3.ownsRow B 134 2 vr st.opn.length (rndCells st.opn) := own_only (own_on2 HM2.out.rnd hbwX) (only_row HFX.out.1 h2') (by decide)
      have hmr : MacR (w3.setCell ⟨b, 8, none⟩ (.slice va (fm + 1) vc)) B _ bm vr _ vk (.slice va (fm + 1) vc) qs st.opn st.obs st.kept (st.frs ++ [⟨(W : Int), (H : Int), L, dl⟩]) := ⟨HM2.out.ops_only o3, HM2.out.mpl, HM2.out.mp_only o3, own_only hrn k2 (by decide), HM2.out.obs_only o3, HM2.out.kep_only o3, ⟨_, HO7.out.only k2 (by decide) (by decide), by rw [List.map_append, HFV.out]; rfl⟩⟩
      have hfoot := ((Foot.below hbwX F).trans (Foot.grown h2' (fun g hg => HM3.out.frs g hg))).trans (k3 F HM3.out.self)
      rcases hat with h | h
      · exact ⟨F, ⟨_, bm, vr, _, vk, _, k1, hmr, HM3.out.self, HM3.out.rnd, fun g hg => HM3.out.frs g (by rw [← h]; exact hg), HM3.out.low⟩, hfoot⟩
      · refine ⟨(Y.drew.alloc (.cells #[.int .i64 (W : Int), .int .i64 (H : Int), .slice ua ll uc, .int .i64 dl] 50)).heap.size :: F, ⟨_, bm, vr, _, vk, _, k1, hmr, List.mem_cons_of_mem _ HM3.out.self, fun g hg => List.mem_cons_of_mem _ (HM3.out.rnd g hg), fun g hg => ?_, fun g hg => ?_⟩, hfoot.cons _ (.inr ⟨hbwX.size, ?_⟩)⟩
        · rw [h] at hg; simp at hg; subst hg; simp
        · rcases List.mem_cons.1 hg with rfl | hg
          · have := hbx.out.size; omega
          · exact HM3.out.low g hg
        · have := (h1.lt _ h).2; simpa using this
    clear hat h1 h2' hr hMX hMY hX1 HFX HFY HUX HUY n8x hbY hbY' hpb
    have KEEPY : Hid (∀ w', Below Y.heap.size Y w' → w'.cell? ⟨(w.heap.size + 1), 0, none⟩ = some (.int .i64 (W : Int)) ∧ w'.cell? ⟨(w.heap.size + 1), 1, none⟩ = some (.int .i64 (H : Int)) ∧ w'.cell? ⟨(w.heap.size + 1), 2, none⟩ = some (.slice ua ll uc)) := by
      intro w' h
      refine ⟨?_, ?_, ?_⟩
      · rw [h.cell (p := ⟨(w.heap.size + 1), 0, none⟩) plt]; exact p0
      · rw [h.cell (p := ⟨(w.heap.size + 1), 1, none⟩) plt]; exact p1
      · rw [h.cell (p := ⟨(w.heap.size + 1), 2, none⟩) plt]; exact p2
    have n8d : Y.drew.cell? ⟨b, 8, none⟩ = some (.slice fa fm fc) := n8
    go_wp2_with fail
    refine wp_region_held_drew (S := (fun w' => w'.cell? ⟨(w.heap.size + 1), 0, none⟩ = some (.int .i64 (W : Int)) ∧ w'.cell? ⟨(w.heap.size + 1), 1, none⟩ = some (.int .i64 (H : Int)) ∧ w'.cell? ⟨(w.heap.size + 1), 2, none⟩ = some (.slice ua ll uc))) (by kernel_rfl) ?_ (fun hHeld => ?_)
    · exact KEEPY.out _ (Below.refl _ _).drew
    refine tk (v := ?_) 0 rfl (by kernel_rfl) (by rfl) ?_ ?_
    rotate_left
    · (intro w hSw; (try dsimp only at hSw); go_simp; try with_reducible rfl)
    refine tk (v := ?_) 1 rfl (by kernel_rfl) (by rfl) ?_ ?_
    rotate_left
    · (intro w hSw; (try dsimp only at hSw); go_simp; try with_reducible rfl)
    refine tk (v := ?_) 2 rfl (by kernel_rfl) (by rfl) ?_ ?_
    rotate_left
    · (intro w hSw; (try dsimp only at hSw); go_simp; try with_reducible rfl)
    refine tk (v := ?_) 3 rfl (by kernel_rfl) (by rfl) ?_ ?_
    rotate_left
    · (intro w hSw; (try dsimp only at hSw); go_simp; try with_reducible rfl)
    refine tk (v := ?_) 5 rfl (by kernel_rfl) (by rfl) ?_ ?_
    rotate_left
    · (intro w hSw; (try dsimp only at hSw); go_simp; try with_reducible rfl)
    refine tk (v := ?_) 6 rfl (by kernel_rfl) (by rfl) ?_ ?_
    rotate_left
    · (intro w hSw; (try dsimp only at hSw); go_simp; try with_reducible rfl)
    refine tk (v := ?_) 7 rfl (by kernel_rfl) (by rfl) ?_ ?_
    rotate_left
    · (intro w hSw; (try dsimp only at hSw); go_simp; try with_reducible rfl)
    refine wpAnyH_ready (rs := [4, 8]) (by kernel_rfl) (by simp) ?_
    refine AllReadyH.cons rfl (fun K_ hK => ?_) (AllReadyH.cons rfl (fun K_ hK => ?_) AllReadyH.nil)
    · go_simp
      refine hK.out _ _ ?_ (fun hHeld => ?_)
      · exact KEEPY.out _ (Below.refl _ _).drew
      clear hK K_
      refine wpAnyH_ready (rs := [8]) (by kernel_rfl) (by simp) ?_
      refine AllReadyH.cons rfl (fun K_ hK => ?_) AllReadyH.nil
      go_simp
      refine hK.out _ _ ?_ (fun hHeld => ?_)
      · exact KEEPY.out _ hbx.out
      clear hK K_
      refine wpAnyH_ready (rs := [9]) (by kernel_rfl) (by simp) ?_
      refine AllReadyH.cons rfl (fun K_ hK => ?_) AllReadyH.nil
      refine ready_app rfl (.tmp 37) (.tmp 41) 41 rfl _ _ _ ?d3a ?d3b HR.out ?_
      case d3a => rfl
      case d3b => rfl
      refine hK.out _ _ ?_ (fun hHeld => ?_)
      · exact h3c.out
      clear hK K_
      refine tk (v := ?_) 10 rfl (by kernel_rfl) (by rfl) ?_ ?_
      rotate_left
      · (intro w hSw; (try dsimp only at hSw); go_simp; try with_reducible rfl)
      refine tk (v := ?_) 11 rfl (by kernel_rfl) (by rfl) ?_ ?_
      rotate_left
      · (intro w hSw; (try dsimp only at hSw); go_simp; try with_reducible rfl)
      refine wpAnyH_ready (rs := [12]) (by kernel_rfl) (by simp) ?_
      refine AllReadyH.cons rfl (fun K_ hK => ?_) AllReadyH.nil
      go_simp
      refine hK.out _ _ ?_ (fun hHeld => ?_)
      · exact h5c.out
      clear hK K_
      refine wpAnyH_done (by kernel_rfl) ?_ _
      go_wp2_with fail
      go_ret
      obtain ⟨F1, f1, f2⟩ := FIN.out
      exact ⟨F1, rfl, f1, f2⟩
    · go_simp
      refine hK.out _ _ ?_ (fun hHeld => ?_)
      · exact KEEPY.out _ hbx.out
      clear hK K_
      have n8x : (Y.drew.alloc (.cells #[.int .i64 (W : Int), .int .i64 (H : Int), .slice ua ll uc, .int .i64 dl] 50)).cell? ⟨b, 8, none⟩ = some (.slice fa fm fc) := by rw [hbx.out.cell (p := ⟨b, 8, none⟩) nltY]; exact n8d
      refine wpAnyH_ready (rs := [4]) (by kernel_rfl) (by simp) ?_
      refine AllReadyH.cons rfl (fun K_ hK => ?_) AllReadyH.nil
      go_simp
      refine hK.out _ _ ?_ (fun hHeld => ?_)
      · exact KEEPY.out _ hbx.out
      clear hK K_
      refine wpAnyH_ready (rs := [9]) (by kernel_rfl) (by simp) ?_
      refine AllReadyH.cons rfl (fun K_ hK => ?_) AllReadyH.nil
      refine ready_app rfl (.tmp 37) (.tmp 41) 41 rfl _ _ _ ?d4a ?d4b HR.out ?_
      case d4a => rfl
      case d4b => rfl
      refine hK.out _ _ ?_ (fun hHeld => ?_)
      · exact h3c.out
      clear hK K_
      refine tk (v := ?_) 10 rfl (by kernel_rfl) (by rfl) ?_ ?_
      rotate_left
      · (intro w hSw; (try dsimp only at hSw); go_simp; try with_reducible rfl)
      refine tk (v := ?_) 11 rfl (by kernel_rfl) (by rfl) ?_ ?_
      rotate_left
      · (intro w hSw; (try dsimp only at hSw); go_simp; try with_reducible rfl)
      refine wpAnyH_ready (rs := [12]) (by kernel_rfl) (by simp) ?_
      refine AllReadyH.cons rfl (fun K_ hK => ?_) AllReadyH.nil
      go_simp
      refine hK.out _ _ ?_ (fun hHeld => ?_)
      · exact h5c.out
      clear hK K_
      refine wpAnyH_done (by kernel_rfl) ?_ _
      go_wp2_with fail
      go_ret
      obtain ⟨F1, f1, f2⟩ := FIN.out
      exact ⟨F1, rfl, f1, f2⟩
end Go.Proofs.YtceabiodelfdoaaGreatDoor
/- Walk of a machine: change. -/
namespace Go.Proofs.YtceabiodelfdoaaGreatDoor
open Go.RowKit Go.Maps

/-- an op of one object -/
def chaM (s : Ms) (q : Pq) : Ms ⊕ Nat := match doO s.obs q with
  | .inl rs => .inl { s with obs := rs }
  | .inr c => .inr c

set_option maxHeartbeats 8000000 in
set_option maxRecDepth 100000 in
theorem mcha_any (B b : Nat) (F : List Nat) (qs : List Pq) (st : Ms) (w : World) (HM : Hid (Mac w B b F qs st)) (HF : Hid (FineO st.obs)) (q : Pq) (u : Value) (hq : opC q = 0) (hpl : q.ps.length ≤ 80) (HU : Hid (RdP w u q.ps)) :
    Calls Tryz.prog 70 #[.pointer (some ⟨b, 0, none⟩), opV q u] w fun e w' => MacP B b F qs st (chaM st q) w e w' := by
  obtain ⟨vo, bm, vr, vb, vk, vf, hm1, hm2, hm3⟩ := HM.out
  obtain ⟨N, hB⟩ := mac_nine hm1
  obtain ⟨ov, hov1, hov2⟩ := hm2.obs
  obtain ⟨oa, oc, hvb⟩ := own_any hov1.1
  obtain ⟨on, HON⟩ : ∃ n, Hid (ov.length = n) := ⟨_, (rfl : _ = _)⟩
  rw [HON.out] at hvb
  subst hvb
  obtain ⟨ua, uc, hu, _, _⟩ := HU.out
  obtain ⟨mu, HMU⟩ : ∃ n, Hid (q.ps.length = n) := ⟨_, (rfl : _ = _)⟩
  rw [HMU.out] at hu
  subst hu
  obtain ⟨obs, HOBS⟩ : ∃ o, Hid (st.obs = o) := ⟨_, (rfl : _ = _)⟩
  have HDP : Hid (DoPre obs q) := by rw [← HOBS.out]; exact do_pre _ q HF.out.good hq hpl
  have hbx1 : Below w.heap.size w (w.alloc (.cells #[.int .i64 q.kind, .int .i64 q.id, .int .i64 q.a, .int .i64 q.b, .int .i64 q.c, .int .i64 q.d, .int .i64 q.pw, .int .i64 q.ph, .slice ua mu uc] 48)) := (Below.refl _ _).alloc (Nat.le_refl _) _
  have HOD : Hid (RdO (w.alloc (.cells #[.int .i64 q.kind, .int .i64 q.id, .int .i64 q.a, .int .i64 q.b, .int .i64 q.c, .int .i64 q.d, .int .i64 q.pw, .int .i64 q.ph, .slice ua mu uc] 48)) (.slice oa on oc) obs) := by
    have := hov1.rd.on hbx1
    rw [hov2, HOBS.out] at this
    exact this
  have HUD : Hid (RdP (w.alloc (.cells #[.int .i64 q.kind, .int .i64 q.id, .int .i64 q.a, .int .i64 q.b, .int .i64 q.c, .int .i64 q.d, .int .i64 q.pw, .int .i64 q.ph, .slice ua mu uc] 48)) (.slice ua mu uc) q.ps) := HU.out.on hbx1
  obtain ⟨x0, x1, x2, x3, x4, x5, x6, x7, x8, xf0, xf1, xf2, xf3, xf4, xf5, xf6, xf7, xf8, xlt⟩ := nine_start w (.int .i64 q.kind) (.int .i64 q.id) (.int .i64 q.a) (.int .i64 q.b) (.int .i64 q.c) (.int .i64 q.d) (.int .i64 q.pw) (.int .i64 q.ph) (.slice ua mu uc) 48 w.heap.size rfl
  have N1 := hid_of2 (N.on hbx1)
  have HM2 := hid_of2 hm2
  have HM3 := hid_of2 hm3
  have HM1 := hid_of2 hm1
  have n6 := N1.out.c6
  have nlt1 := N1.out.lt
  have nltw := N.lt
  clear hm1 hm2 hm3 hov1 hov2 HU N
  go_enter Tryz.func70, Tryz.ntmps70
  go_wp2_with fail
  have KEEP : Hid (∀ w', Below (w.alloc (.cells #[.int .i64 q.kind, .int .i64 q.id, .int .i64 q.a, .int .i64 q.b, .int .i64 q.c, .int .i64 q.d, .int .i64 q.pw, .int .i64 q.ph, .slice ua mu uc] 48)).heap.size (w.alloc (.cells #[.int .i64 q.kind, .int .i64 q.id, .int .i64 q.a, .int .i64 q.b, .int .i64 q.c, .int .i64 q.d, .int .i64 q.pw, .int .i64 q.ph, .slice ua mu uc] 48)) w' → w'.cell? ⟨b, 6, none⟩ = some (.slice oa on oc) ∧ w'.cell? ⟨w.heap.size, 0, none⟩ = some (.int .i64 q.kind) ∧ w'.cell? ⟨w.heap.size, 1, none⟩ = some (.int .i64 q.id) ∧ w'.cell? ⟨w.heap.size, 2, none⟩ = some (.int .i64 q.a) ∧ w'.cell? ⟨w.heap.size, 3, none⟩ = some (.int .i64 q.b) ∧ w'.cell? ⟨w.heap.size, 4, none⟩ = some (.int .i64 q.c) ∧ w'.cell? ⟨w.heap.size, 5, none⟩ = some (.int .i64 q.d) ∧ w'.cell? ⟨w.heap.size, 6, none⟩ = some (.int .i64 q.pw) ∧ w'.cell? ⟨w.heap.size, 7, none⟩ = some (.int .i64 q.ph) ∧ w'.cell? ⟨w.heap.size, 8, none⟩ = some (.slice ua mu uc)) := by
    intro w' h
    refine ⟨?_, ?_, ?_, ?_, ?_, ?_, ?_, ?_, ?_, ?_⟩
    · rw [h.cell (p := ⟨b, 6, none⟩) nlt1]; exact n6
    · rw [h.cell (p := ⟨w.heap.size, 0, none⟩) xlt]; exact x0
    · rw [h.cell (p := ⟨w.heap.size, 1, none⟩) xlt]; exact x1
    · rw [h.cell (p := ⟨w.heap.size, 2, none⟩) xlt]; exact x2
    · rw [h.cell (p := ⟨w.heap.size, 3, none⟩) xlt]; exact x3
    · rw [h.cell (p := ⟨w.heap.size, 4, none⟩) xlt]; exact x4
    · rw [h.cell (p := ⟨w.heap.size, 5, none⟩) xlt]; exact x5
    · rw [h.cell (p := ⟨w.heap.size, 6, none⟩) xlt]; exact x6
    · rw [h.cell (p := ⟨w.heap.size, 7, none⟩) xlt]; exact x7
    · rw [h.cell (p := ⟨w.heap.size, 8, none⟩) xlt]; exact x8
  refine wp_region_held_drew (S := (fun w' => w'.cell? ⟨b, 6, none⟩ = some (.slice oa on oc) ∧ w'.cell? ⟨w.heap.size, 0, none⟩ = some (.int .i64 q.kind) ∧ w'.cell? ⟨w.heap.size, 1, none⟩ = some (.int .i64 q.id) ∧ w'.cell? ⟨w.heap.size, 2, none⟩ = some (.int .i64 q.a) ∧ w'.cell? ⟨w.heap.size, 3, none⟩ = some (.int .i64 q.b) ∧ w'.cell? ⟨w.heap.size, 4, none⟩ = some (.int .i64 q.c) ∧ w'.cell? ⟨w.heap.size, 5, none⟩ = some (.int .i64 q.d) ∧ w'.cell? ⟨w.heap.size, 6, none⟩ = some (.int .i64 q.pw) ∧ w'.cell? ⟨w.heap.size, 7, none⟩ = some (.int .i64 q.ph) ∧ w'.cell? ⟨w.heap.size, 8, none⟩ = some (.slice ua mu uc))) (by kernel_rfl) ?_ (fun hHeld => ?_)
  · exact KEEP.out _ (Below.refl _ _).drew
  refine tk (v := ?_) 0 rfl (by kernel_rfl) (by rfl) ?_ ?_
  rotate_left
  · (intro w hSw; (try dsimp only at hSw); go_simp; try with_reducible rfl)
  refine tk (v := ?_) 1 rfl (by kernel_rfl) (by rfl) ?_ ?_
  rotate_left
  · (intro w hSw; (try dsimp only at hSw); go_simp; try with_reducible rfl)
  refine tk (v := ?_) 2 rfl (by kernel_rfl) (by rfl) ?_ ?_
  rotate_left
  · (intro w hSw; (try dsimp only at hSw); go_simp; try with_reducible rfl)
  refine tk (v := ?_) 3 rfl (by kernel_rfl) (by rfl) ?_ ?_
  rotate_left
  · (intro w hSw; (try dsimp only at hSw); go_simp; try with_reducible rfl)
  refine tk (v := ?_) 4 rfl (by kernel_rfl) (by rfl) ?_ ?_
  rotate_left
  · (intro w hSw; (try dsimp only at hSw); go_simp; try with_reducible rfl)
  refine wpAnyH_ready (rs := [5]) (by kernel_rfl) (by simp) ?_
  refine AllReadyH.cons rfl (fun K_ hK => ?_) AllReadyH.nil
  go_simp
  have hdo := do_any (.slice oa on oc) obs q (.slice ua mu uc) (w.alloc (.cells #[.int .i64 q.kind, .int .i64 q.id, .int .i64 q.a, .int .i64 q.b, .int .i64 q.c, .int .i64 q.d, .int .i64 q.pw, .int .i64 q.ph, .slice ua mu uc] 48)).drew HDP (HOD.out.on (Below.refl _ _).drew) (HUD.out.on (Below.refl _ _).drew)
  simp only [opV] at hdo
  refine hdo.mono ?_
  clear hdo
  rintro e w2 ⟨hb2, hd⟩
  have HB2 : Hid (Below (w.alloc (.cells #[.int .i64 q.kind, .int .i64 q.id, .int .i64 q.a, .int .i64 q.b, .int .i64 q.c, .int .i64 q.d, .int .i64 q.pw, .int .i64 q.ph, .slice ua mu uc] 48)).heap.size (w.alloc (.cells #[.int .i64 q.kind, .int .i64 q.id, .int .i64 q.a, .int .i64 q.b, .int .i64 q.c, .int .i64 q.d, .int .i64 q.pw, .int .i64 q.ph, .slice ua mu uc] 48)) w2) := ⟨hb2.os, hb2.tape, hb2.output, hb2.size, hb2.block⟩
  rcases hd with ⟨v5, qs5, he5, rfl, ho5⟩ | ⟨c5, he5, hc5, rfl⟩
  · have HD5 := hid_of2 he5
    obtain ⟨a5, c5, hv5⟩ := own_any ho5.1
    subst hv5
    have HO5 := hide_ob ho5
    clear he5 ho5 hb2
    refine hK.out _ _ ?_ (fun hHeld => ?_)
    · exact KEEP.out _ HB2.out
    clear hK K_
    refine tk (v := ?_) 6 rfl (by kernel_rfl) (by rfl) ?_ ?_
    rotate_left
    · (intro w hSw; (try dsimp only at hSw); go_simp; try with_reducible rfl)
    refine tk (v := ?_) 7 rfl (by kernel_rfl) (by rfl) ?_ ?_
    rotate_left
    · (intro w hSw; (try dsimp only at hSw); go_simp; try with_reducible rfl)
    refine tk (v := ?_) 8 rfl (by kernel_rfl) (by rfl) ?_ ?_
    rotate_left
    · (intro w hSw; (try dsimp only at hSw); go_simp; try with_reducible rfl)
    refine tk (v := ?_) 9 rfl (by kernel_rfl) (by rfl) ?_ ?_
    rotate_left
    · (intro w hSw; (try dsimp only at hSw); go_simp; try with_reducible rfl)
    refine tk (v := ?_) 10 rfl (by kernel_rfl) (by rfl) ?_ ?_
    rotate_left
    · (intro w hSw; (try dsimp only at hSw); go_simp; try with_reducible rfl)
    refine wpAnyH_done (by kernel_rfl) ?_ _
    have hbw2 := hbx1.trans (HB2.out.mono hbx1.size)
    obtain ⟨z0, z1, z2, z3, z4, z5, z6, z7, z8, zf0, zf1, zf2, zf3, zf4, zf5, zf6, zf7, zf8, zlt⟩ := N1.out.on HB2.out
    clear KEEP HOD HUD HDP x0 x1 x2 x3 x4 x5 x6 x7 x8 n6 nlt1 hHeld
    go_wp2_with fail
    go_ret
    obtain ⟨k1, k2, k3⟩ := mac_set (own_on2 HM1.out hbw2) 6 (.slice a5 qs5.length c5)
    have o2 := (Only.below hbw2 [87, 134]).trans (only_MT1 k2)
    have o3 := only_MT2 o2
    have HCH : chaM st q = .inl { st with obs := qs5.map Prod.fst } := by unfold chaM; rw [HOBS.out, HD5.out]
    unfold MacP
    rw [HCH]
    exact ⟨F, rfl, ⟨vo, bm, vr, _, vk, vf, k1, ⟨HM2.out.ops_only o3, HM2.out.mpl, HM2.out.mp_only o3, own_only (own_on2 HM2.out.rnd hbw2) k2 (by decide), ⟨qs5, ((HO5.out.mono (show B ≤ _ by have := hbx1.size; show B ≤ (w.alloc (.cells #[.int .i64 q.kind, .int .i64 q.id, .int .i64 q.a, .int .i64 q.b, .int .i64 q.c, .int .i64 q.d, .int .i64 q.pw, .int .i64 q.ph, .slice ua mu uc] 48)).heap.size; omega)).only k2 (by decide) (by decide)), rfl⟩, HM2.out.kep_only o3, HM2.out.frs_only o2⟩, HM3.out⟩, (Foot.below hbw2 F).trans (k3 F HM3.out.self)⟩
  · have HD5 := hid_of2 he5
    clear he5 hb2
    rcases hc5 with rfl | rfl
    · rw [show errV 5 = Value.iface 62 (.int .i64 5) from rfl]
      refine hK.out _ _ ?_ (fun hHeld => ?_)
      · exact KEEP.out _ HB2.out
      clear hK K_
      refine tk (v := ?_) 6 rfl (by kernel_rfl) (by rfl) ?_ ?_
      rotate_left
      · (intro w hSw; (try dsimp only at hSw); go_simp; try with_reducible rfl)
      refine tk (v := ?_) 7 rfl (by kernel_rfl) (by rfl) ?_ ?_
      rotate_left
      · (intro w hSw; (try dsimp only at hSw); go_simp; try with_reducible rfl)
      refine tk (v := ?_) 8 rfl (by kernel_rfl) (by rfl) ?_ ?_
      rotate_left
      · (intro w hSw; (try dsimp only at hSw); go_simp; try with_reducible rfl)
      refine tk (v := ?_) 9 rfl (by kernel_rfl) (by rfl) ?_ ?_
      rotate_left
      · (intro w hSw; (try dsimp only at hSw); go_simp; try with_reducible rfl)
      refine tk (v := ?_) 10 rfl (by kernel_rfl) (by rfl) ?_ ?_
      rotate_left
      · (intro w hSw; (try dsimp only at hSw); go_simp; try with_reducible rfl)
      refine wpAnyH_done (by kernel_rfl) ?_ _
      have hbw2 := hbx1.trans (HB2.out.mono hbx1.size)
      clear KEEP HOD HUD HDP x0 x1 x2 x3 x4 x5 x6 x7 x8 n6 nlt1 hHeld
      go_wp2_with fail
      go_ret
      have HCH : chaM st q = .inr 5 := by unfold chaM; rw [HOBS.out, HD5.out]
      unfold MacP
      rw [HCH]
      exact ⟨F, rfl, HM.out.on hbw2, Foot.below hbw2 F⟩
    · rw [show errV 3 = Value.iface 62 (.int .i64 3) from rfl]
      refine hK.out _ _ ?_ (fun hHeld => ?_)
      · exact KEEP.out _ HB2.out
      clear hK K_
      refine tk (v := ?_) 6 rfl (by kernel_rfl) (by rfl) ?_ ?_
      rotate_left
      · (intro w hSw; (try dsimp only at hSw); go_simp; try with_reducible rfl)
      refine tk (v := ?_) 7 rfl (by kernel_rfl) (by rfl) ?_ ?_
      rotate_left
      · (intro w hSw; (try dsimp only at hSw); go_simp; try with_reducible rfl)
      refine tk (v := ?_) 8 rfl (by kernel_rfl) (by rfl) ?_ ?_
      rotate_left
      · (intro w hSw; (try dsimp only at hSw); go_simp; try with_reducible rfl)
      refine tk (v := ?_) 9 rfl (by kernel_rfl) (by rfl) ?_ ?_
      rotate_left
      · (intro w hSw; (try dsimp only at hSw); go_simp; try with_reducible rfl)
      refine tk (v := ?_) 10 rfl (by kernel_rfl) (by rfl) ?_ ?_
      rotate_left
      · (intro w hSw; (try dsimp only at hSw); go_simp; try with_reducible rfl)
      refine wpAnyH_done (by kernel_rfl) ?_ _
      have hbw2 := hbx1.trans (HB2.out.mono hbx1.size)
      clear KEEP HOD HUD HDP x0 x1 x2 x3 x4 x5 x6 x7 x8 n6 nlt1 hHeld
      go_wp2_with fail
      go_ret
      have HCH : chaM st q = .inr 3 := by unfold chaM; rw [HOBS.out, HD5.out]
      unfold MacP
      rw [HCH]
      exact ⟨F, rfl, HM.out.on hbw2, Foot.below hbw2 F⟩
end Go.Proofs.YtceabiodelfdoaaGreatDoor
/- Walk of a machine: do. -/
namespace Go.Proofs.YtceabiodelfdoaaGreatDoor
open Go.RowKit Go.Maps

theorem doM_next (qs : List Pq) (s : Ms) (q : Pq) (h : q.kind = 13) : doM qs s q = .inl (nextM s) := by
  unfold doM nextM
  rw [if_neg (by omega), if_neg (by omega), if_neg (by omega), if_neg (by omega), if_pos h]
  split <;> rfl
theorem doM_cha (qs : List Pq) (s : Ms) (q : Pq) (h : q.kind ≠ 1 ∧ q.kind ≠ 10 ∧ q.kind ≠ 11 ∧ q.kind ≠ 12 ∧ q.kind ≠ 13 ∧ q.kind ≠ 14 ∧ q.kind ≠ 15) : doM qs s q = chaM s q := by
  obtain ⟨h1, h2, h3, h4, h5, h6, h7⟩ := h
  unfold doM chaM
  rw [if_neg h1, if_neg h2, if_neg h3, if_neg h4, if_neg h5, if_neg h6, if_neg h7]
  first | done | (cases doO s.obs q <;> rfl)
theorem doM_tell (qs : List Pq) (s : Ms) (q : Pq) (h : q.kind = 11) : doM qs s q = tellM qs s q.a := by
  unfold doM tellM
  rw [if_neg (by omega), if_neg (by omega), if_pos h]
theorem mac_in {B b : Nat} {F : List Nat} {qs : List Pq} {st : Ms} {r : Ms ⊕ Nat} {w w1 : World} {e : Ending} {w' : World} (hb : Below w.heap.size w w1) (h : MacP B b F qs st r w1 e w') : MacP B b F qs st r w e w' := by
  obtain ⟨F', h1, h2, h3⟩ := h
  exact ⟨F', h1, h2, (Foot.below hb F).trans h3⟩

set_option maxHeartbeats 8000000 in
set_option maxRecDepth 100000 in
theorem mdo_any (B b : Nat) (F : List Nat) (qs : List Pq) (st : Ms) (w : World) (HM : Hid (Mac w B b F qs st)) (HBK : Hid (Book qs)) (HW : Hid (Way qs st)) (q : Pq) (u : Value) (HQ : Hid (qs.getD st.pc pq0 = q)) (hpl : q.ps.length ≤ 80) (HU : Hid (RdP w u q.ps)) :
    Calls Tryz.prog 53 #[.pointer (some ⟨b, 0, none⟩), opV q u] w fun e w' => MacP B b F qs st (doM qs st q) w e w' := by
  have HOPC : Hid (opC q = 0) := by rw [← HQ.out]; exact HBK.out.ok _ HW.out.on
  obtain ⟨ua, uc, hu, _, _⟩ := HU.out
  obtain ⟨mu, HMU⟩ : ∃ n, Hid (q.ps.length = n) := ⟨_, (rfl : _ = _)⟩
  rw [HMU.out] at hu
  subst hu
  obtain ⟨kd, qid, qa, qb, qc, qd, qw, qh, qp⟩ := q
  simp only at HU hpl HMU
  have hbx1 : Below w.heap.size w (w.alloc (.cells #[.int .i64 kd, .int .i64 qid, .int .i64 qa, .int .i64 qb, .int .i64 qc, .int .i64 qd, .int .i64 qw, .int .i64 qh, .slice ua mu uc] 48)) := (Below.refl _ _).alloc (Nat.le_refl _) _
  have HM1 : Hid (Mac (w.alloc (.cells #[.int .i64 kd, .int .i64 qid, .int .i64 qa, .int .i64 qb, .int .i64 qc, .int .i64 qd, .int .i64 qw, .int .i64 qh, .slice ua mu uc] 48)) B b F qs st) := HM.out.on hbx1
  have HU1 : Hid (RdP (w.alloc (.cells #[.int .i64 kd, .int .i64 qid, .int .i64 qa, .int .i64 qb, .int .i64 qc, .int .i64 qd, .int .i64 qw, .int .i64 qh, .slice ua mu uc] 48)) (.slice ua mu uc) qp) := HU.out.on hbx1
  obtain ⟨x0, x1, x2, x3, x4, x5, x6, x7, x8, xf0, xf1, xf2, xf3, xf4, xf5, xf6, xf7, xf8, xlt⟩ := nine_start w (.int .i64 kd) (.int .i64 qid) (.int .i64 qa) (.int .i64 qb) (.int .i64 qc) (.int .i64 qd) (.int .i64 qw) (.int .i64 qh) (.slice ua mu uc) 48 w.heap.size rfl
  by_cases k1 : kd = 1
  · subst k1
    have HD : Hid (doM qs st ⟨1, qid, qa, qb, qc, qd, qw, qh, qp⟩ = .inl st) := by unfold Hid doM; rw [if_pos rfl]
    rw [HD.out]
    go_enter Tryz.func53, Tryz.ntmps53
    go_wp2_with fail
    go_ret
    exact ⟨F, rfl, HM1.out, Foot.below hbx1 F⟩
  by_cases k10 : kd = 10
  · subst k10
    have HD : Hid (doM qs st ⟨10, qid, qa, qb, qc, qd, qw, qh, qp⟩ = .inl { st with bv := qa, ba := qb }) := by unfold Hid doM; rw [if_neg (by simp), if_pos rfl]
    rw [HD.out]
    obtain ⟨vo, bm, vr, vb, vk, vf, hm1, hm2, hm3⟩ := HM1.out
    obtain ⟨N, hB⟩ := mac_nine hm1
    obtain ⟨n0, n1, n2, n3, n4, n5, n6, n7, n8, nf0, nf1, nf2, nf3, nf4, nf5, nf6, nf7, nf8, nlt⟩ := N
    have HX1 := hid_of2 hm1
    have HX2 := hid_of2 hm2
    have HX3 := hid_of2 hm3
    have hne : ¬ w.heap.size = b := by
      obtain ⟨_, _, _, _, _, _, y1, _⟩ := HM.out
      have := (mac_nine y1).1.lt
      omega
    clear hm1 hm2 hm3
    go_enter Tryz.func53, Tryz.ntmps53
    go_wp2_with fail
    go_ret
    obtain ⟨a1, a2, a3⟩ := mac_set HX1.out 4 (.int .i64 qa)
    obtain ⟨b1, b2, b3⟩ := mac_set a1 5 (.int .i64 qb)
    have o2 := only_MT1 (a2.trans b2)
    have o3 := only_MT2 o2
    exact ⟨F, rfl, ⟨vo, bm, vr, vb, vk, vf, b1, ⟨HX2.out.ops_only o3, HX2.out.mpl, HX2.out.mp_only o3, own_only HX2.out.rnd (a2.trans b2) (by decide), HX2.out.obs_only o3, HX2.out.kep_only o3, HX2.out.frs_only o2⟩, HX3.out⟩, ((Foot.below hbx1 F).trans (a3 F HX3.out.self)).trans (b3 F HX3.out.self)⟩
  by_cases k11 : kd = 11
  · subst k11
    rw [doM_tell _ _ _ rfl]
    go_enter Tryz.func53, Tryz.ntmps53
    go_wp2_with fail
    refine (mtell_any B b F qs st _ HM1 HBK HW qa).mono ?_
    rintro e w2 h2
    obtain ⟨F', rfl, h3, h4⟩ := mac_in hbx1 h2
    clear h2
    go_wp2_with fail
    go_ret
    exact ⟨F', rfl, h3, h4⟩
  by_cases k12 : kd = 12
  · subst k12
    obtain ⟨l1, l2⟩ := op_loop _ HOPC.out rfl
    simp only at l1 l2
    have hpc : st.pc ≤ 1000 := by have := HW.out.on; have := HBK.out.few; omega
    by_cases ha : qa = 0
    · subst ha
      obtain ⟨j, hj⟩ := clo_ex HBK.out HW.out.on (by rw [HQ.out])
      have HD : Hid (doM qs st ⟨12, qid, 0, qb, qc, qd, qw, qh, qp⟩ = .inl { st with pc := j }) := by unfold Hid doM; rw [if_neg (by simp), if_neg (by simp), if_neg (by simp), if_pos rfl, if_pos rfl, hj.fn]
      rw [HD.out]
      have HJ := hid_of2 hj
      clear hj
      go_enter Tryz.func53, Tryz.ntmps53
      go_wp2_with fail
      refine (ment0_any B b F qs st _ HM1 hpc j HJ).mono ?_
      rintro e w2 ⟨rfl, h3, h4⟩
      go_wp2_with fail
      go_ret
      exact ⟨F, rfl, h3, (Foot.below hbx1 F).trans h4⟩
    · obtain ⟨t, rfl⟩ : ∃ t : Nat, qa = (t : Int) := ⟨_, (Int.toNat_of_nonneg l1).symm⟩
      have ht : 1 ≤ t := by omega
      have HD : Hid (doM qs st ⟨12, qid, (t : Int), qb, qc, qd, qw, qh, qp⟩ = .inl { st with opn := st.opn ++ [(st.pc, t)] }) := by unfold Hid doM; rw [if_neg (by simp), if_neg (by simp), if_neg (by simp), if_pos rfl, if_neg ha]; simp
      rw [HD.out]
      have hol : st.opn.length ≤ 1000 := by
        have h1 := HW.out.deep
        have h2 := HBK.out.high st.pc (by have := HW.out.on; omega)
        omega
      clear ha
      go_enter Tryz.func53, Tryz.ntmps53
      go_wp2_with fail
      refine (ment_any B b F qs st _ HM1 hol t ht).mono ?_
      rintro e w2 ⟨rfl, F', h3, h4⟩
      go_wp2_with fail
      go_ret
      exact ⟨F', rfl, h3, (Foot.below hbx1 F).trans h4⟩
  by_cases k13 : kd = 13
  · subst k13
    rw [doM_next _ _ _ rfl]
    obtain ⟨p1, p2⟩ := open_pos HBK.out HW.out (by rw [HQ.out])
    obtain ⟨c1, c2, c3, c4, c5⟩ := HW.out.inn (st.opn.length - 1) (by omega)
    go_enter Tryz.func53, Tryz.ntmps53
    go_wp2_with fail
    refine (mrep_any B b F qs st _ HM1 p1 (by omega) ⟨c4, c5⟩).mono ?_
    rintro e w2 ⟨rfl, h3, h4⟩
    clear p1 p2 c1 c2 c3 c4 c5
    go_wp2_with fail
    go_ret
    exact ⟨F, rfl, h3, (Foot.below hbx1 F).trans h4⟩
  by_cases k14 : kd = 14
  · subst k14
    have HD : Hid (doM qs st ⟨14, qid, qa, qb, qc, qd, qw, qh, qp⟩ = .inl { st with kept := st.obs }) := by unfold Hid doM; rw [if_neg (by simp), if_neg (by simp), if_neg (by simp), if_neg (by simp), if_neg (by simp), if_pos rfl]
    rw [HD.out]
    obtain ⟨vo, bm, vr, vb, vk, vf, hm1, hm2, hm3⟩ := HM1.out
    obtain ⟨N, hB⟩ := mac_nine hm1
    obtain ⟨n0, n1, n2, n3, n4, n5, n6, n7, n8, nf0, nf1, nf2, nf3, nf4, nf5, nf6, nf7, nf8, nlt⟩ := N
    obtain ⟨ov, hov1, _⟩ := hm2.obs
    obtain ⟨oa, oc, hvb⟩ := own_any hov1.1
    subst hvb
    have HX1 := hid_of2 hm1
    have HX2 := hid_of2 hm2
    have HX3 := hid_of2 hm3
    clear hm1 hm2 hm3 hov1
    go_enter Tryz.func53, Tryz.ntmps53
    go_wp2_with fail
    go_ret
    obtain ⟨a1, a2, a3⟩ := mac_set HX1.out 7 (.slice oa ov.length oc)
    have o2 := only_MT1 a2
    have o3 := only_MT2 o2
    exact ⟨F, rfl, ⟨vo, bm, vr, _, _, vf, a1, ⟨HX2.out.ops_only o3, HX2.out.mpl, HX2.out.mp_only o3, own_only HX2.out.rnd a2 (by decide), HX2.out.obs_only o3, HX2.out.obs_only o3, HX2.out.frs_only o2⟩, HX3.out⟩, (Foot.below hbx1 F).trans (a3 F HX3.out.self)⟩
  by_cases k15 : kd = 15
  · subst k15
    have HD : Hid (doM qs st ⟨15, qid, qa, qb, qc, qd, qw, qh, qp⟩ = .inl { st with obs := st.kept }) := by unfold Hid doM; rw [if_neg (by simp), if_neg (by simp), if_neg (by simp), if_neg (by simp), if_neg (by simp), if_neg (by simp), if_pos rfl]
    rw [HD.out]
    obtain ⟨vo, bm, vr, vb, vk, vf, hm1, hm2, hm3⟩ := HM1.out
    obtain ⟨N, hB⟩ := mac_nine hm1
    obtain ⟨n0, n1, n2, n3, n4, n5, n6, n7, n8, nf0, nf1, nf2, nf3, nf4, nf5, nf6, nf7, nf8, nlt⟩ := N
    obtain ⟨ov, hov1, _⟩ := hm2.kep
    obtain ⟨oa, oc, hvb⟩ := own_any hov1.1
    subst hvb
    have HX1 := hid_of2 hm1
    have HX2 := hid_of2 hm2
    have HX3 := hid_of2 hm3
    clear hm1 hm2 hm3 hov1
    go_enter Tryz.func53, Tryz.ntmps53
    go_wp2_with fail
    go_ret
    obtain ⟨a1, a2, a3⟩ := mac_set HX1.out 6 (.slice oa ov.length oc)
    have o2 := only_MT1 a2
    have o3 := only_MT2 o2
    exact ⟨F, rfl, ⟨vo, bm, vr, _, _, vf, a1, ⟨HX2.out.ops_only o3, HX2.out.mpl, HX2.out.mp_only o3, own_only HX2.out.rnd a2 (by decide), HX2.out.kep_only o3, HX2.out.kep_only o3, HX2.out.frs_only o2⟩, HX3.out⟩, (Foot.below hbx1 F).trans (a3 F HX3.out.self)⟩
  rw [doM_cha _ _ _ ⟨k1, k10, k11, k12, k13, k14, k15⟩]
  have y1 : (kd == 1) = false := by simpa using k1
  have y10 : (kd == 10) = false := by simpa using k10
  have y11 : (kd == 11) = false := by simpa using k11
  have y12 : (kd == 12) = false := by simpa using k12
  have y13 : (kd == 13) = false := by simpa using k13
  have y14 : (kd == 14) = false := by simpa using k14
  have y15 : (kd == 15) = false := by simpa using k15
  clear k1 k10 k11 k12 k13 k14 k15
  have HFO : Hid (FineO st.obs) := HW.out.obs
  have hch := mcha_any B b F qs st (w.alloc (.cells #[.int .i64 kd, .int .i64 qid, .int .i64 qa, .int .i64 qb, .int .i64 qc, .int .i64 qd, .int .i64 qw, .int .i64 qh, .slice ua mu uc] 48)) HM1 HFO ⟨kd, qid, qa, qb, qc, qd, qw, qh, qp⟩ (.slice ua mu uc) HOPC.out hpl HU1
  simp only [opV] at hch
  have HCH := hid_of2 hch
  clear hch
  go_enter Tryz.func53, Tryz.ntmps53
  go_wp2_with fail
  refine HCH.out.mono ?_
  rintro e w2 h2
  obtain ⟨F', rfl, h3, h4⟩ := mac_in hbx1 h2
  clear h2
  go_wp2_with fail
  go_ret
  exact ⟨F', rfl, h3, h4⟩
end Go.Proofs.YtceabiodelfdoaaGreatDoor
/- Walk of a machine: Step. -/
namespace Go.Proofs.YtceabiodelfdoaaGreatDoor
open Go.RowKit Go.Maps

theorem doO_err {os : List Po} {q : Pq} {c : Nat} (h : doO os q = .inr c) : c = 5 ∨ c = 3 := by
  unfold doO at h
  split at h
  · cases h
  split at h
  · obtain rfl := Sum.inr.inj h; exact .inl rfl
  split at h
  · cases h
  split at h
  · obtain rfl := Sum.inr.inj h; exact .inr rfl
  · cases h
theorem doM_err {qs : List Pq} {s : Ms} {q : Pq} {c : Nat} (h : doM qs s q = .inr c) : c = 7 ∨ c = 5 ∨ c = 3 := by
  unfold doM at h
  split at h
  · cases h
  split at h
  · cases h
  split at h
  · split at h
    · obtain rfl := Sum.inr.inj h; exact .inl rfl
    · cases h
  split at h
  · split at h <;> cases h
  split at h
  · split at h <;> cases h
  split at h
  · cases h
  split at h
  · cases h
  split at h
  · cases h
  · rename_i c' hc
    obtain rfl := Sum.inr.inj h
    exact .inr (doO_err hc)
theorem op_ps (q : Pq) (h : opC q = 0) : q.ps.length ≤ 64 := by
  cases hk : kindAt q.kind shps with
  | none => unfold opC at h; rw [hk] at h; simp at h
  | some s =>
    obtain ⟨h1, _, _, h4⟩ := op_shape q h s hk
    by_cases hp : s.pic = true
    · exact check_len _ _ _ (h4 hp)
    · simp [forL, hp] at h1
      rw [h1.2.2.2.2]
      simp
/-- Step, by numbers -/
theorem stepM_not {qs : List Pq} {s : Ms} (h : ¬ (qs.getD s.pc pq0).kind = 16) : stepM qs s = match doM qs s (qs.getD s.pc pq0) with
    | .inl s' => .inl { s' with pc := s'.pc + 1 }
    | .inr c => .inr c := by
  unfold stepM
  rw [if_neg (show ¬ doneM qs s from h)]
  first | done | (cases doM qs s (qs.getD s.pc pq0) <;> rfl)

set_option maxHeartbeats 8000000 in
set_option maxRecDepth 100000 in
theorem mstep_any (B b : Nat) (F : List Nat) (qs : List Pq) (st : Ms) (w : World) (HM : Hid (Mac w B b F qs st)) (HBK : Hid (Book qs)) (HW : Hid (Way qs st)) :
    Calls Tryz.prog 34 #[.pointer (some ⟨b, 0, none⟩)] w fun e w' => MacP B b F qs st (stepM qs st) w e w' := by
  obtain ⟨t, HT⟩ : ∃ t, Hid (decide ((qs.getD st.pc pq0).kind = 16) = t) := ⟨_, (rfl : _ = _)⟩
  go_enter Tryz.func34, Tryz.ntmps34
  go_wp2_with fail
  refine (mdone_any B b F qs st _ HM HW.out.on t HT).mono ?_
  rintro e w1 ⟨rfl, hb1⟩
  have HM1 : Hid (Mac w1 B b F qs st) := HM.out.on hb1
  cases t with
  | true =>
    have hd : stepM qs st = .inl st := by
      unfold stepM
      rw [if_pos (show doneM qs st from of_decide_eq_true HT.out)]
    have HD := hid_of2 hd
    clear hd
    go_wp2_with fail
    go_ret
    rw [HD.out]
    exact ⟨F, rfl, HM1.out, Foot.below hb1 F⟩
  | false =>
    have hd := stepM_not (s := st) (of_decide_eq_false HT.out)
    have hnd : ¬ doneM qs st := of_decide_eq_false HT.out
    obtain ⟨q, HX⟩ : ∃ q, Hid (qs.getD st.pc pq0 = q) := ⟨_, (rfl : _ = _)⟩
    rw [HX.out] at hd
    have HD := hid_of2 hd
    have HND := hid_of2 hnd
    clear hd hnd
    have hopc : opC q = 0 := by rw [← HX.out]; exact HBK.out.ok _ HW.out.on
    have hpl : q.ps.length ≤ 80 := by have := op_ps q hopc; omega
    obtain ⟨vo, bm, vr, vb, vk, vf, hm1, hm2, hm3⟩ := HM1.out
    obtain ⟨N, hB⟩ := mac_nine hm1
    obtain ⟨qv, hq1, hq2⟩ := hm2.ops
    have HRQ : Hid (RdQ w1 vo qs) := by unfold Hid; rw [← hq2]; exact hq1.rd
    obtain ⟨n, HN⟩ : ∃ n, Hid (qs.length = n) := ⟨_, (rfl : _ = _)⟩
    obtain ⟨oa, oc, hvo, hol, hoc⟩ := HRQ.out.shape
    have hpc := HW.out.on
    rw [HN.out] at hvo hol hpc
    subst hvo
    obtain ⟨pc, HPC⟩ : ∃ pc, Hid (st.pc = pc) := ⟨_, (rfl : _ = _)⟩
    rw [HPC.out] at hpc N
    have HX2 : Hid (qs.getD pc pq0 = q) := by rw [← HPC.out]; exact HX
    obtain ⟨g, o, ua, mu, uc, rfl, hg, OC, HU, HMU⟩ := HRQ.out.at hpc HX2
    obtain ⟨x0, x1, x2, x3, x4, x5, x6, x7, x8⟩ := OC
    have hi0 : (0 : Int) ≤ (pc : Int) := by omega
    have hi1 : (pc : Int) < (n : Int) := by omega
    obtain ⟨n0, n1, n2, n3, n4, n5, n6, n7, n8, nf0, nf1, nf2, nf3, nf4, nf5, nf6, nf7, nf8, nlt⟩ := N
    have HUD : Hid (RdP w1.drew (.slice ua mu uc) q.ps) := HU.out.on (Below.refl _ _).drew
    have HMD : Hid (Mac w1.drew B b F qs st) := HM1.out.on (Below.refl _ _).drew
    have hdo := mdo_any B b F qs st w1.drew HMD HBK HW q (.slice ua mu uc) HX hpl HUD
    simp only [opV] at hdo
    have HDO := hid_of2 hdo
    clear hm1 hm2 hm3 hq1 hq2 HRQ hdo hopc HU
    go_wp2_with fail
    go_still_tail 11, (by kernel_rfl)
    go_wp2_with fail
    refine HDO.out.mono ?_
    rintro e w2 ⟨F', rfl, h3, h4⟩
    have hf1 := (Foot.below (hb1.trans ((Below.refl w1.heap.size w1).drew.mono hb1.size)) F).trans h4
    obtain ⟨r, HRR⟩ : ∃ r, Hid (doM qs st q = r) := ⟨_, (rfl : _ = _)⟩
    rw [HRR.out] at h3 ⊢
    have HF1 := hid_of2 hf1
    clear hf1 h4 HDO HMD HUD x0 x1 x2 x3 x4 x5 x6 x7 x8 n0 n1 n2 n3 n4 n5 n6 n7 n8 nf0 nf1 nf2 nf3 nf4 nf5 nf6 nf7 nf8 nlt
    cases r with
    | inr c =>
      have HS : Hid (stepM qs st = .inr c) := by unfold Hid; rw [HD.out, HRR.out]
      have HM3 := hid_of2 h3
      have hc := doM_err HRR.out
      clear h3
      unfold numM
      rcases hc with rfl | rfl | rfl
      · rw [show errV 7 = Value.iface 62 (.int .i64 7) from rfl]
        go_wp2_with fail
        go_ret
        exact ⟨F', by rw [HS.out]; rfl, by rw [HS.out]; exact HM3.out, HF1.out⟩
      · rw [show errV 5 = Value.iface 62 (.int .i64 5) from rfl]
        go_wp2_with fail
        go_ret
        exact ⟨F', by rw [HS.out]; rfl, by rw [HS.out]; exact HM3.out, HF1.out⟩
      · rw [show errV 3 = Value.iface 62 (.int .i64 3) from rfl]
        go_wp2_with fail
        go_ret
        exact ⟨F', by rw [HS.out]; rfl, by rw [HS.out]; exact HM3.out, HF1.out⟩
    | inl s' =>
      have HS : Hid (stepM qs st = .inl { s' with pc := s'.pc + 1 }) := by unfold Hid; rw [HD.out, HRR.out]
      have hw := (step_way HBK.out HW.out HND.out (by rw [HX.out]; exact HRR.out)).on
      have hfew := HBK.out.few
      unfold nxtM at h3
      unfold numM
      rw [show errV 0 = Value.nilIface from rfl]
      obtain ⟨vo', bm', vr', vb', vk', vf', hm1, hm2, hm3⟩ := h3
      obtain ⟨N, hB'⟩ := mac_nine hm1
      obtain ⟨n0, n1, n2, n3, n4, n5, n6, n7, n8, nf0, nf1, nf2, nf3, nf4, nf5, nf6, nf7, nf8, nlt⟩ := N
      have HX1 := hid_of2 hm1
      have HXM := hid_of2 hm2
      have HX3 := hid_of2 hm3
      simp only at hw
      have hpb : s'.pc < 60 := by omega
      clear hm1 hm2 hm3 hw hfew HD HRR
      obtain ⟨pc', HPC'⟩ : ∃ pc', Hid (s'.pc = pc') := ⟨_, (rfl : _ = _)⟩
      rw [HPC'.out] at n2 hpb
      go_wp2_with fail
      go_ret
      obtain ⟨a1, a2, a3⟩ := mac_set HX1.out 2 (.int .i64 ((pc' : Int) + 1))
      have o2 := only_MT1 a2
      have o3 := only_MT2 o2
      refine ⟨F', by rw [HS.out]; rfl, ?_, HF1.out.trans (a3 F' HX3.out.self)⟩
      rw [HS.out]
      refine ⟨vo', bm', vr', vb', vk', vf', ?_, ⟨HXM.out.ops_only o3, HXM.out.mpl, HXM.out.mp_only o3, own_only HXM.out.rnd a2 (by decide), HXM.out.obs_only o3, HXM.out.kep_only o3, HXM.out.frs_only o2⟩, HX3.out⟩
      have e : (((nxtM st (.inl { s' with pc := s'.pc + 1 })).pc : Nat) : Int) = (pc' : Int) + 1 := by rw [← HPC'.out]; simp [nxtM]
      rw [e]
      exact a1
end Go.Proofs.YtceabiodelfdoaaGreatDoor
