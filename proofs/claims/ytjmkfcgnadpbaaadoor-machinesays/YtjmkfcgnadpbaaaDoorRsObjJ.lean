/- Walk of the reference's machine: an op of one object -/
import Derived.Test.YtjmkfcgnadpbaaaDoorM9
import Derived.Test.YtjmkfcgnadpbaaaDoorRmAJ
import Derived.Test.YtjmkfcgnadpbaaaDoorRsMJ
namespace Go.Proofs.YtjmkfcgnadpbaaaDoor
open Go.RowKit Go.Maps

set_option maxHeartbeats 8000000 in
set_option maxRecDepth 100000 in
theorem rst_obj (b : Nat) (Fb : Nat → Prop) (qs : List Pq) (st : Ms) (w : World) (HM : Hid (RMac w b Fb qs st)) (HBK : Hid (Book qs)) (HW : Hid (Way qs st)) (hk : 2 ≤ (qs.getD st.pc pq0).kind ∧ (qs.getD st.pc pq0).kind ≤ 9) :
    Calls Tryd.prog 12 #[.pointer (some ⟨b, 0, none⟩)] w fun e w' => RMacP b Fb qs st (stepM qs st) w e w' := by
  obtain ⟨vl, vt, vo, vs, vf, hm1, hm2⟩ := HM.out
  have E := box_eight hm1
  have h0 := HW.out.on
  obtain ⟨pc, HPC⟩ : ∃ p, Hid (st.pc = p) := ⟨_, (rfl : _ = _)⟩
  obtain ⟨⟨W0, hq0, hqb, hql⟩, hfb, hfbl⟩ := hm2.ops
  have HRQ : Hid (RdQ w vl qs) := hq0.on hqb
  obtain ⟨n, HN⟩ : ∃ n, Hid (qs.length = n) := ⟨_, (rfl : _ = _)⟩
  obtain ⟨qa_, qc_, hvl, hol, hoc⟩ := hq0.shape
  rw [HN.out] at hvl hol h0
  subst hvl
  rw [HPC.out] at h0 hk E
  obtain ⟨q, HX⟩ : ∃ q, Hid (qs.getD pc pq0 = q) := ⟨_, (rfl : _ = _)⟩
  obtain ⟨g, o, pua, pum, puc, rfl, hg, OC, HU, HMU⟩ := hq0.at h0 HX
  have hgw : g < w.heap.size := Nat.lt_of_lt_of_le hg hqb.size
  have HUN : Hid (RdPn Fb w (.slice pua pum puc) q.ps) := @Go.Proofs.YtjmkfcgnadpbaaaDoor.NI.rdP_of ⟨⟨Fb⟩⟩ _ _ _ _ HU.out hqb hql
  obtain ⟨c0, c1, c2, c3, c4, c5, c6, c7, c8⟩ := OC.on hg hqb
  rw [HX.out] at hk
  have hki : (pc : Int) < (n : Int) := by omega
  have hki0 : (0 : Int) ≤ (pc : Int) := by omega
  have hns : (n : Int) ≤ 9223372036854775807 := by omega
  obtain ⟨kd, qid, qa, qb, qc, qd, qw, qh, qp⟩ := q
  simp only at c0 c1 c2 c3 c4 c5 c6 c7 c8 hk HUN HMU
  obtain ⟨oa, oc, hvo, _, _, _⟩ := id hm2.obs
  subst hvo
  obtain ⟨on, HON⟩ : ∃ n, Hid (st.obs.length = n) := ⟨_, (rfl : _ = _)⟩
  rw [HON.out] at E hm1 hm2
  obtain ⟨obs, HOBS⟩ : ∃ o, Hid (st.obs = o) := ⟨_, (rfl : _ = _)⟩
  obtain ⟨hk2, hk9⟩ := hk
  have HSTP : Hid (stepM qs st = match doO obs ⟨kd, qid, qa, qb, qc, qd, qw, qh, qp⟩ with | .inl rs => .inl { st with pc := pc + 1, obs := rs } | .inr c => .inr c) := by
    unfold Hid
    rw [stepM_not (by rw [HPC.out, HX.out]; simp; omega)]
    rw [HPC.out, HX.out]
    unfold doM
    rw [if_neg (by simp; omega), if_neg (by simp; omega), if_neg (by simp; omega), if_neg (by simp; omega), if_neg (by simp; omega), if_neg (by simp; omega), if_neg (by simp; omega), HOBS.out]
    cases doO obs ⟨kd, qid, qa, qb, qc, qd, qw, qh, qp⟩ <;> simp [HPC.out]
  have kk1 : (kd == 1) = false := by simp; omega
  have kk10 : (kd == 10) = false := by simp; omega
  have kk11 : (kd == 11) = false := by simp; omega
  have kk12 : (kd == 12) = false := by simp; omega
  have kk13 : (kd == 13) = false := by simp; omega
  have kk14 : (kd == 14) = false := by simp; omega
  have kk15 : (kd == 15) = false := by simp; omega
  have kk16 : (kd == 16) = false := by simp; omega
  have HBX := hid_of2 hm1
  have HRM := hid_of2 hm2
  have HOPB := hid_of2 (op_ok_at HBK.out (by rw [HN.out]; exact h0) HX.out)
  clear hm1 hm2 hq0 hqb HU OC
  have KEEP : Hid (∀ w', Below w.heap.size w w' → w'.cell? ⟨b, 0, none⟩ = some (.slice (some ⟨g, o, none⟩) n qc_) ∧ w'.cell? ⟨b, 1, none⟩ = some (.int .i64 (pc : Int)) ∧ w'.cell? ⟨g, o + pc * 9, none⟩ = some (.int .i64 kd) ∧ w'.cell? ⟨g, o + pc * 9 + 1, none⟩ = some (.int .i64 qid) ∧ w'.cell? ⟨g, o + pc * 9 + 2, none⟩ = some (.int .i64 qa) ∧ w'.cell? ⟨g, o + pc * 9 + 3, none⟩ = some (.int .i64 qb) ∧ w'.cell? ⟨g, o + pc * 9 + 4, none⟩ = some (.int .i64 qc) ∧ w'.cell? ⟨g, o + pc * 9 + 5, none⟩ = some (.int .i64 qd) ∧ w'.cell? ⟨g, o + pc * 9 + 6, none⟩ = some (.int .i64 qw) ∧ w'.cell? ⟨g, o + pc * 9 + 7, none⟩ = some (.int .i64 qh) ∧ w'.cell? ⟨g, o + pc * 9 + 8, none⟩ = some (.slice pua pum puc)) := by
    intro w' h
    refine ⟨?_, ?_, ?_, ?_, ?_, ?_, ?_, ?_, ?_, ?_, ?_⟩
    · rw [h.cell (p := ⟨b, 0, none⟩) E.lt]; exact E.c0
    · rw [h.cell (p := ⟨b, 1, none⟩) E.lt]; exact E.c1
    · rw [h.cell (p := ⟨g, o + pc * 9, none⟩) hgw]; exact c0
    · rw [h.cell (p := ⟨g, o + pc * 9 + 1, none⟩) hgw]; exact c1
    · rw [h.cell (p := ⟨g, o + pc * 9 + 2, none⟩) hgw]; exact c2
    · rw [h.cell (p := ⟨g, o + pc * 9 + 3, none⟩) hgw]; exact c3
    · rw [h.cell (p := ⟨g, o + pc * 9 + 4, none⟩) hgw]; exact c4
    · rw [h.cell (p := ⟨g, o + pc * 9 + 5, none⟩) hgw]; exact c5
    · rw [h.cell (p := ⟨g, o + pc * 9 + 6, none⟩) hgw]; exact c6
    · rw [h.cell (p := ⟨g, o + pc * 9 + 7, none⟩) hgw]; exact c7
    · rw [h.cell (p := ⟨g, o + pc * 9 + 8, none⟩) hgw]; exact c8
  go_enter Tryd.func12, Tryd.ntmps12
  go_wp2_with fail
  refine wp_region_held_drew (S := (fun w' => w'.cell? ⟨b, 0, none⟩ = some (.slice (some ⟨g, o, none⟩) n qc_) ∧ w'.cell? ⟨b, 1, none⟩ = some (.int .i64 (pc : Int)) ∧ w'.cell? ⟨g, o + pc * 9, none⟩ = some (.int .i64 kd) ∧ w'.cell? ⟨g, o + pc * 9 + 1, none⟩ = some (.int .i64 qid) ∧ w'.cell? ⟨g, o + pc * 9 + 2, none⟩ = some (.int .i64 qa) ∧ w'.cell? ⟨g, o + pc * 9 + 3, none⟩ = some (.int .i64 qb) ∧ w'.cell? ⟨g, o + pc * 9 + 4, none⟩ = some (.int .i64 qc) ∧ w'.cell? ⟨g, o + pc * 9 + 5, none⟩ = some (.int .i64 qd) ∧ w'.cell? ⟨g, o + pc * 9 + 6, none⟩ = some (.int .i64 qw) ∧ w'.cell? ⟨g, o + pc * 9 + 7, none⟩ = some (.int .i64 qh) ∧ w'.cell? ⟨g, o + pc * 9 + 8, none⟩ = some (.slice pua pum puc))) (by kernel_rfl) ?_ (fun hHeld => ?_)
  · exact KEEP.out _ (Below.refl _ _).drew
  refine tk (v := ?_) 0 rfl (by kernel_rfl) (by rfl) ?_ ?_
  rotate_left
  · (intro w hSw; (try dsimp only at hSw); go_simp; try with_reducible rfl)
  refine tk (v := ?_) 1 rfl (by kernel_rfl) (by rfl) ?_ ?_
  rotate_left
  · (intro w hSw; (try dsimp only at hSw); go_simp; try with_reducible rfl)
  refine tk (v := ?_) 2 rfl (by kernel_rfl) (by rfl) ?_ ?_
  rotate_left
  · (intro w hSw; (try dsimp only at hSw); go_simp; try with_reducible rfl)
  refine tk (v := ?_) 3 rfl (by kernel_rfl) (by rfl) ?_ ?_
  rotate_left
  · (intro w hSw; (try dsimp only at hSw); go_simp; try with_reducible rfl)
  refine tk (v := ?_) 4 rfl (by kernel_rfl) (by rfl) ?_ ?_
  rotate_left
  · (intro w hSw; (try dsimp only at hSw); go_simp; try with_reducible rfl)
  refine tk (v := ?_) 5 rfl (by kernel_rfl) (by rfl) ?_ ?_
  rotate_left
  · (intro w hSw; (try dsimp only at hSw); go_simp; try with_reducible rfl)
  refine tk (v := ?_) 6 rfl (by kernel_rfl) (by rfl) ?_ ?_
  rotate_left
  · (intro w hSw; (try dsimp only at hSw); go_simp; try with_reducible rfl)
  refine tk (v := ?_) 7 rfl (by kernel_rfl) (by rfl) ?_ ?_
  rotate_left
  · (intro w hSw; (try dsimp only at hSw); go_simp; try with_reducible rfl)
  refine tk (v := ?_) 8 rfl (by kernel_rfl) (by rfl) ?_ ?_
  rotate_left
  · (intro w hSw; (try dsimp only at hSw); go_simp; try with_reducible rfl)
  refine tk (v := ?_) 9 rfl (by kernel_rfl) (by rfl) ?_ ?_
  rotate_left
  · (intro w hSw; (try dsimp only at hSw); go_simp; try with_reducible rfl)
  refine wpAnyH_ready (rs := [10]) (by kernel_rfl) (by simp) ?_
  refine AllReadyH.cons rfl (fun K_ hK => ?_) AllReadyH.nil
  go_simp
  have hbx0 : Below w.heap.size w (w.drew.alloc (.cells #[.int .i64 0, .int .i64 0, .int .i64 0, .int .i64 0, .int .i64 0, .int .i64 0, .int .i64 0, .int .i64 0, .slice none 0 0] 51)) := (Below.refl _ _).drew.alloc (by simp) _
  refine hK.out _ _ ?_ (fun hHeld => ?_)
  · exact KEEP.out _ hbx0
  clear hK K_
  refine wpAnyH_ready (rs := [11]) (by kernel_rfl) (by simp) ?_
  refine AllReadyH.cons rfl (fun K_ hK => ?_) AllReadyH.nil
  go_simp
  have hbx1 : Below w.heap.size w ((w.alloc (.cells #[.int .i64 kd, .int .i64 qid, .int .i64 qa, .int .i64 qb, .int .i64 qc, .int .i64 qd, .int .i64 qw, .int .i64 qh, .slice pua pum puc] 51)).drew) := ((Below.refl _ _).alloc (Nat.le_refl _) _).drew
  refine hK.out _ _ ?_ (fun hHeld => ?_)
  · exact KEEP.out _ hbx1
  clear hK K_
  refine wpAnyH_done (by kernel_rfl) ?_ _
  obtain ⟨ho, HHB⟩ : ∃ h, Hid (w.heap.size = h) := ⟨_, (rfl : _ = _)⟩
  obtain ⟨X, HX1⟩ : ∃ X, Hid (((w.alloc (.cells #[.int .i64 kd, .int .i64 qid, .int .i64 qa, .int .i64 qb, .int .i64 qc, .int .i64 qd, .int .i64 qw, .int .i64 qh, .slice pua pum puc] 51)).drew) = X) := ⟨_, (rfl : _ = _)⟩
  have NX : Nine X ho (.int .i64 kd) (.int .i64 qid) (.int .i64 qa) (.int .i64 qb) (.int .i64 qc) (.int .i64 qd) (.int .i64 qw) (.int .i64 qh) (.slice pua pum puc) := by
    rw [← HX1.out, ← HHB.out]
    exact (nine_start w _ _ _ _ _ _ _ _ _ 51 w.heap.size rfl).drew
  have hbX : Below w.heap.size w X := by rw [← HX1.out]; exact hbx1
  rw [HX1.out, HHB.out]
  have HBXX := hid_of2 (own_on2 HBX.out hbX)
  have HRMX := hid_of2 (HRM.out.foot (Foot.below hbX _))
  have HUX := hid_of2 (foot_rdP HUN.out (stay_box (Foot.below hbX [b]) hfb))
  have hfX : ∀ x, Fb x → x < X.heap.size := fun x hx => Nat.lt_of_lt_of_le (hfbl x hx) hbX.size
  have HFX := hid_of2 (Foot.below hbX [b])
  have hbh : b < ho := by rw [← HHB.out]; exact E.lt
  have hXs : ho < X.heap.size := NX.lt
  have EX := E.on hbX
  obtain ⟨m0, m1, m2, m3, m4, m5, m6, m7, mf0, mf1, mf2, mf3, mf4, mf5, mf6, mf7, mlt⟩ := EX
  obtain ⟨k0, k1, k2, k3, k4, k5, k6, k7, k8, -, -, -, -, -, -, -, -, -, -⟩ := NX
  clear hbx0 hbx1 HX1 KEEP c0 c1 c2 c3 c4 c5 c6 c7 c8 hbX E HM hHeld
  have HUB : Hid (RdPn Fb X (.slice pua pum puc) qp) := HUX
  have HOX : Hid (RdOn Fb X (.slice oa on oc) obs) := by have := HRMX.out.obs; rw [HOBS.out] at this; exact this
  have HDP : Hid (DoPre obs ⟨kd, qid, qa, qb, qc, qd, qw, qh, qp⟩) := by rw [← HOBS.out]; exact do_pre _ _ HW.out.obs.good HOPB.out (by have := op_ps _ HOPB.out; simp only at this ⊢; omega)
  have KEEP : Hid (∀ w', Below X.heap.size X w' → w'.cell? ⟨b, 3, none⟩ = some (.slice oa on oc) ∧ w'.cell? ⟨ho, 0, none⟩ = some (.int .i64 kd) ∧ w'.cell? ⟨ho, 1, none⟩ = some (.int .i64 qid) ∧ w'.cell? ⟨ho, 2, none⟩ = some (.int .i64 qa) ∧ w'.cell? ⟨ho, 3, none⟩ = some (.int .i64 qb) ∧ w'.cell? ⟨ho, 4, none⟩ = some (.int .i64 qc) ∧ w'.cell? ⟨ho, 5, none⟩ = some (.int .i64 qd) ∧ w'.cell? ⟨ho, 6, none⟩ = some (.int .i64 qw) ∧ w'.cell? ⟨ho, 7, none⟩ = some (.int .i64 qh) ∧ w'.cell? ⟨ho, 8, none⟩ = some (.slice pua pum puc)) := by
    intro w' h
    refine ⟨?_, ?_, ?_, ?_, ?_, ?_, ?_, ?_, ?_, ?_⟩
    · rw [h.cell (p := ⟨b, 3, none⟩) mlt]; exact m3
    · rw [h.cell (p := ⟨ho, 0, none⟩) hXs]; exact k0
    · rw [h.cell (p := ⟨ho, 1, none⟩) hXs]; exact k1
    · rw [h.cell (p := ⟨ho, 2, none⟩) hXs]; exact k2
    · rw [h.cell (p := ⟨ho, 3, none⟩) hXs]; exact k3
    · rw [h.cell (p := ⟨ho, 4, none⟩) hXs]; exact k4
    · rw [h.cell (p := ⟨ho, 5, none⟩) hXs]; exact k5
    · rw [h.cell (p := ⟨ho, 6, none⟩) hXs]; exact k6
    · rw [h.cell (p := ⟨ho, 7, none⟩) hXs]; exact k7
    · rw [h.cell (p := ⟨ho, 8, none⟩) hXs]; exact k8
  go_wp2_with fail
  refine wp_region_held_drew (S := (fun w' => w'.cell? ⟨b, 3, none⟩ = some (.slice oa on oc) ∧ w'.cell? ⟨ho, 0, none⟩ = some (.int .i64 kd) ∧ w'.cell? ⟨ho, 1, none⟩ = some (.int .i64 qid) ∧ w'.cell? ⟨ho, 2, none⟩ = some (.int .i64 qa) ∧ w'.cell? ⟨ho, 3, none⟩ = some (.int .i64 qb) ∧ w'.cell? ⟨ho, 4, none⟩ = some (.int .i64 qc) ∧ w'.cell? ⟨ho, 5, none⟩ = some (.int .i64 qd) ∧ w'.cell? ⟨ho, 6, none⟩ = some (.int .i64 qw) ∧ w'.cell? ⟨ho, 7, none⟩ = some (.int .i64 qh) ∧ w'.cell? ⟨ho, 8, none⟩ = some (.slice pua pum puc))) (by kernel_rfl) ?_ (fun hHeld => ?_)
  · exact KEEP.out _ (Below.refl _ _).drew
  refine tk (v := ?_) 0 rfl (by kernel_rfl) (by rfl) ?_ ?_
  rotate_left
  · (intro w hSw; (try dsimp only at hSw); go_simp; try with_reducible rfl)
  refine tk (v := ?_) 1 rfl (by kernel_rfl) (by rfl) ?_ ?_
  rotate_left
  · (intro w hSw; (try dsimp only at hSw); go_simp; try with_reducible rfl)
  refine tk (v := ?_) 2 rfl (by kernel_rfl) (by rfl) ?_ ?_
  rotate_left
  · (intro w hSw; (try dsimp only at hSw); go_simp; try with_reducible rfl)
  refine tk (v := ?_) 3 rfl (by kernel_rfl) (by rfl) ?_ ?_
  rotate_left
  · (intro w hSw; (try dsimp only at hSw); go_simp; try with_reducible rfl)
  refine tk (v := ?_) 4 rfl (by kernel_rfl) (by rfl) ?_ ?_
  rotate_left
  · (intro w hSw; (try dsimp only at hSw); go_simp; try with_reducible rfl)
  refine wpAnyH_ready (rs := [5]) (by kernel_rfl) (by simp) ?_
  refine AllReadyH.cons rfl (fun K_ hK => ?_) AllReadyH.nil
  go_simp
  have hdo := @Go.Proofs.YtjmkfcgnadpbaaaDoor.NI.rdo_any ⟨⟨Fb⟩⟩ (.slice oa on oc) obs ⟨kd, qid, qa, qb, qc, qd, qw, qh, qp⟩ (.slice pua pum puc) X.drew (show ∀ x, Fb x → x < X.heap.size from hfX) HDP (@Go.Proofs.YtjmkfcgnadpbaaaDoor.NI.RdO.on ⟨⟨Fb⟩⟩ _ _ _ _ HOX.out (Below.refl _ _).drew) (@Go.Proofs.YtjmkfcgnadpbaaaDoor.NI.RdP.on ⟨⟨Fb⟩⟩ _ _ _ _ HUB.out (Below.refl _ _).drew)
  simp only [opV] at hdo
  refine hdo.mono ?_
  clear hdo
  rintro e w2 ⟨hb2, hd⟩
  have HB2 : Hid (Below X.heap.size X w2) := ⟨hb2.os, hb2.tape, hb2.output, hb2.size, hb2.block⟩
  rcases hd with ⟨v5, os5, he5, rfl, ho5⟩ | ⟨c5, he5, hc5, rfl⟩
  · have HD5 := hid_of2 he5
    have HO5 : Hid (RdOn Fb w2 v5 os5) := ho5
    obtain ⟨a5, c5, hv5, _, _, _⟩ := ho5
    subst hv5
    clear he5 hb2
    refine hK.out _ _ ?_ (fun hHeld => ?_)
    · exact KEEP.out _ HB2.out
    clear hK K_
    refine tk (v := ?_) 6 rfl (by kernel_rfl) (by rfl) ?_ ?_
    rotate_left
    · (intro w hSw; (try dsimp only at hSw); go_simp; try with_reducible rfl)
    refine tk (v := ?_) 7 rfl (by kernel_rfl) (by rfl) ?_ ?_
    rotate_left
    · (intro w hSw; (try dsimp only at hSw); go_simp; try with_reducible rfl)
    refine tk (v := ?_) 8 rfl (by kernel_rfl) (by rfl) ?_ ?_
    rotate_left
    · (intro w hSw; (try dsimp only at hSw); go_simp; try with_reducible rfl)
    refine tk (v := ?_) 9 rfl (by kernel_rfl) (by rfl) ?_ ?_
    rotate_left
    · (intro w hSw; (try dsimp only at hSw); go_simp; try with_reducible rfl)
    refine tk (v := ?_) 10 rfl (by kernel_rfl) (by rfl) ?_ ?_
    rotate_left
    · (intro w hSw; (try dsimp only at hSw); go_simp; try with_reducible rfl)
    refine wpAnyH_done (by kernel_rfl) ?_ _
    have hbX2 := HB2.out
    obtain ⟨z0, z1, z2, z3, z4, z5, z6, z7, zf0, zf1, zf2, zf3, zf4, zf5, zf6, zf7, zlt⟩ := (box_eight HBXX.out).on hbX2
    have HBW := hid_of2 (own_on2 HBXX.out hbX2)
    have HRW := hid_of2 (HRMX.out.foot (Foot.below hbX2 [b]))
    have HFW := hid_of2 (HFX.out.trans (Foot.below hbX2 [b]))
    rw [HPC.out] at z1
    have hnn : ¬ (0 : Int) < ((0 : Nat) : Int) := by omega
    clear KEEP HOX HUB HUX HDP k0 k1 k2 k3 k4 k5 k6 k7 k8 m0 m1 m2 m3 m4 m5 m6 m7 mf0 mf1 mf2 mf3 mf4 mf5 mf6 mf7 mlt hHeld hbX2
    go_wp2_with fail
    refine bodyPost_ret (v := .int .i64 0) (by simp [results, Tryd.results12, go_sem]) rfl ?_
    obtain ⟨j0, l0⟩ := box_set HBW.out 3 (.slice a5 os5.length c5)
    obtain ⟨j1, l1⟩ := box_set j0 1 (.int .i64 ((pc : Int) + 1))
    have hst := HSTP.out
    rw [HD5.out] at hst
    unfold RMacP
    rw [hst]
    have hrm := HRW.out.foot (l0.trans l1)
    exact ⟨rfl, ⟨_, _, _, _, _, j1, ⟨hrm.ops, hrm.trn, foot_rdO HO5.out (stay_box (l0.trans l1) hfb), hrm.kep, hrm.frs⟩⟩, HFW.out.trans (l0.trans l1)⟩
  · have HD5 := hid_of2 he5
    clear he5 hb2
    have hcp : (0 : Int) < (c5 : Int) := by omega
    refine hK.out _ _ ?_ (fun hHeld => ?_)
    · exact KEEP.out _ HB2.out
    clear hK K_
    refine tk (v := ?_) 6 rfl (by kernel_rfl) (by rfl) ?_ ?_
    rotate_left
    · (intro w hSw; (try dsimp only at hSw); go_simp; try with_reducible rfl)
    refine tk (v := ?_) 7 rfl (by kernel_rfl) (by rfl) ?_ ?_
    rotate_left
    · (intro w hSw; (try dsimp only at hSw); go_simp; try with_reducible rfl)
    refine tk (v := ?_) 8 rfl (by kernel_rfl) (by rfl) ?_ ?_
    rotate_left
    · (intro w hSw; (try dsimp only at hSw); go_simp; try with_reducible rfl)
    refine tk (v := ?_) 9 rfl (by kernel_rfl) (by rfl) ?_ ?_
    rotate_left
    · (intro w hSw; (try dsimp only at hSw); go_simp; try with_reducible rfl)
    refine tk (v := ?_) 10 rfl (by kernel_rfl) (by rfl) ?_ ?_
    rotate_left
    · (intro w hSw; (try dsimp only at hSw); go_simp; try with_reducible rfl)
    refine wpAnyH_done (by kernel_rfl) ?_ _
    have hbX2 := HB2.out
    clear KEEP HOX HUB HUX HDP k0 k1 k2 k3 k4 k5 k6 k7 k8 m0 m1 m2 m3 m4 m5 m6 m7 mf0 mf1 mf2 mf3 mf4 mf5 mf6 mf7 mlt hHeld
    go_wp2_with fail
    refine bodyPost_ret (v := .int .i64 (c5 : Int)) (by simp [results, Tryd.results12, go_sem]) rfl ?_
    have hst := HSTP.out
    rw [HD5.out] at hst
    unfold RMacP
    rw [hst]
    exact ⟨rfl, ⟨_, _, _, _, _, own_on2 HBXX.out hbX2, HRMX.out.foot (Foot.below hbX2 [b])⟩, HFX.out.trans (Foot.below hbX2 [b])⟩
end Go.Proofs.YtjmkfcgnadpbaaaDoor
