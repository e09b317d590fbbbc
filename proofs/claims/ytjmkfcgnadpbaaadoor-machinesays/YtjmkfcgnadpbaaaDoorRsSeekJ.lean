/- Walk of the reference's machine: seek -/
import Derived.Test.YtjmkfcgnadpbaaaDoorM9
import Derived.Test.YtjmkfcgnadpbaaaDoorRmAJ
import Derived.Test.YtjmkfcgnadpbaaaDoorRsMJ
namespace Go.Proofs.YtjmkfcgnadpbaaaDoor
open Go.RowKit Go.Maps

set_option maxHeartbeats 8000000 in
set_option maxRecDepth 100000 in
theorem rst_seek (b : Nat) (Fb : Nat → Prop) (qs : List Pq) (st : Ms) (w : World) (HM : Hid (RMac w b Fb qs st)) (HBK : Hid (Book qs)) (HW : Hid (Way qs st)) (hk : (qs.getD st.pc pq0).kind = 15) :
    Calls Tryd.prog 12 #[.pointer (some ⟨b, 0, none⟩)] w fun e w' => RMacP b Fb qs st (stepM qs st) w e w' := by
  obtain ⟨vl, vt, vo, vs, vf, hm1, hm2⟩ := HM.out
  have E := box_eight hm1
  have h0 := HW.out.on
  obtain ⟨pc, HPC⟩ : ∃ p, Hid (st.pc = p) := ⟨_, (rfl : _ = _)⟩
  obtain ⟨⟨W0, hq0, hqb, hql⟩, hfb, hfbl⟩ := hm2.ops
  have HRQ : Hid (RdQ w vl qs) := hq0.on hqb
  obtain ⟨n, HN⟩ : ∃ n, Hid (qs.length = n) := ⟨_, (rfl : _ = _)⟩
  obtain ⟨qa_, qc_, hvl, hol, hoc⟩ := hq0.shape
  rw [HN.out] at hvl hol h0
  subst hvl
  rw [HPC.out] at h0 hk E
  obtain ⟨q, HX⟩ : ∃ q, Hid (qs.getD pc pq0 = q) := ⟨_, (rfl : _ = _)⟩
  obtain ⟨g, o, pua, pum, puc, rfl, hg, OC, HU, HMU⟩ := hq0.at h0 HX
  have hgw : g < w.heap.size := Nat.lt_of_lt_of_le hg hqb.size
  have HUN : Hid (RdPn Fb w (.slice pua pum puc) q.ps) := @Go.Proofs.YtjmkfcgnadpbaaaDoor.NI.rdP_of ⟨⟨Fb⟩⟩ _ _ _ _ HU.out hqb hql
  obtain ⟨c0, c1, c2, c3, c4, c5, c6, c7, c8⟩ := OC.on hg hqb
  rw [HX.out] at hk
  have hki : (pc : Int) < (n : Int) := by omega
  have hki0 : (0 : Int) ≤ (pc : Int) := by omega
  have hns : (n : Int) ≤ 9223372036854775807 := by omega
  obtain ⟨kd, qid, qa, qb, qc, qd, qw, qh, qp⟩ := q
  simp only at c0 c1 c2 c3 c4 c5 c6 c7 c8 hk HUN HMU
  subst hk
  obtain ⟨oa, oc, hvo, _, _, _⟩ := id hm2.obs
  obtain ⟨ka, kc, hvs, _, _, _⟩ := id hm2.kep
  subst hvo hvs
  have HSTP : Hid (stepM qs st = .inl { st with pc := pc + 1, obs := st.kept }) := by
    unfold Hid
    rw [stepM_not (by rw [HPC.out, HX.out]; simp)]
    rw [HPC.out, HX.out]
    simp [doM, HPC.out]
  have HBX := hid_of2 hm1
  have HRM := hid_of2 hm2
  have HOPB := hid_of2 (op_ok_at HBK.out (by rw [HN.out]; exact h0) HX.out)
  clear hm1 hm2 hq0 hqb HU OC
  have KEEP : Hid (∀ w', Below w.heap.size w w' → w'.cell? ⟨b, 0, none⟩ = some (.slice (some ⟨g, o, none⟩) n qc_) ∧ w'.cell? ⟨b, 1, none⟩ = some (.int .i64 (pc : Int)) ∧ w'.cell? ⟨g, o + pc * 9, none⟩ = some (.int .i64 15) ∧ w'.cell? ⟨g, o + pc * 9 + 1, none⟩ = some (.int .i64 qid) ∧ w'.cell? ⟨g, o + pc * 9 + 2, none⟩ = some (.int .i64 qa) ∧ w'.cell? ⟨g, o + pc * 9 + 3, none⟩ = some (.int .i64 qb) ∧ w'.cell? ⟨g, o + pc * 9 + 4, none⟩ = some (.int .i64 qc) ∧ w'.cell? ⟨g, o + pc * 9 + 5, none⟩ = some (.int .i64 qd) ∧ w'.cell? ⟨g, o + pc * 9 + 6, none⟩ = some (.int .i64 qw) ∧ w'.cell? ⟨g, o + pc * 9 + 7, none⟩ = some (.int .i64 qh) ∧ w'.cell? ⟨g, o + pc * 9 + 8, none⟩ = some (.slice pua pum puc)) := by
    intro w' h
    refine ⟨?_, ?_, ?_, ?_, ?_, ?_, ?_, ?_, ?_, ?_, ?_⟩
    · rw [h.cell (p := ⟨b, 0, none⟩) E.lt]; exact E.c0
    · rw [h.cell (p := ⟨b, 1, none⟩) E.lt]; exact E.c1
    · rw [h.cell (p := ⟨g, o + pc * 9, none⟩) hgw]; exact c0
    · rw [h.cell (p := ⟨g, o + pc * 9 + 1, none⟩) hgw]; exact c1
    · rw [h.cell (p := ⟨g, o + pc * 9 + 2, none⟩) hgw]; exact c2
    · rw [h.cell (p := ⟨g, o + pc * 9 + 3, none⟩) hgw]; exact c3
    · rw [h.cell (p := ⟨g, o + pc * 9 + 4, none⟩) hgw]; exact c4
    · rw [h.cell (p := ⟨g, o + pc * 9 + 5, none⟩) hgw]; exact c5
    · rw [h.cell (p := ⟨g, o + pc * 9 + 6, none⟩) hgw]; exact c6
    · rw [h.cell (p := ⟨g, o + pc * 9 + 7, none⟩) hgw]; exact c7
    · rw [h.cell (p := ⟨g, o + pc * 9 + 8, none⟩) hgw]; exact c8
  go_enter Tryd.func12, Tryd.ntmps12
  go_wp2_with fail
  refine wp_region_held_drew (S := (fun w' => w'.cell? ⟨b, 0, none⟩ = some (.slice (some ⟨g, o, none⟩) n qc_) ∧ w'.cell? ⟨b, 1, none⟩ = some (.int .i64 (pc : Int)) ∧ w'.cell? ⟨g, o + pc * 9, none⟩ = some (.int .i64 15) ∧ w'.cell? ⟨g, o + pc * 9 + 1, none⟩ = some (.int .i64 qid) ∧ w'.cell? ⟨g, o + pc * 9 + 2, none⟩ = some (.int .i64 qa) ∧ w'.cell? ⟨g, o + pc * 9 + 3, none⟩ = some (.int .i64 qb) ∧ w'.cell? ⟨g, o + pc * 9 + 4, none⟩ = some (.int .i64 qc) ∧ w'.cell? ⟨g, o + pc * 9 + 5, none⟩ = some (.int .i64 qd) ∧ w'.cell? ⟨g, o + pc * 9 + 6, none⟩ = some (.int .i64 qw) ∧ w'.cell? ⟨g, o + pc * 9 + 7, none⟩ = some (.int .i64 qh) ∧ w'.cell? ⟨g, o + pc * 9 + 8, none⟩ = some (.slice pua pum puc))) (by kernel_rfl) ?_ (fun hHeld => ?_)
  · exact KEEP.out _ (Below.refl _ _).drew
  refine tk (v := ?_) 0 rfl (by kernel_rfl) (by rfl) ?_ ?_
  rotate_left
  · (intro w hSw; (try dsimp only at hSw); go_simp; try with_reducible rfl)
  refine tk (v := ?_) 1 rfl (by kernel_rfl) (by rfl) ?_ ?_
  rotate_left
  · (intro w hSw; (try dsimp only at hSw); go_simp; try with_reducible rfl)
  refine tk (v := ?_) 2 rfl (by kernel_rfl) (by rfl) ?_ ?_
  rotate_left
  · (intro w hSw; (try dsimp only at hSw); go_simp; try with_reducible rfl)
  refine tk (v := ?_) 3 rfl (by kernel_rfl) (by rfl) ?_ ?_
  rotate_left
  · (intro w hSw; (try dsimp only at hSw); go_simp; try with_reducible rfl)
  refine tk (v := ?_) 4 rfl (by kernel_rfl) (by rfl) ?_ ?_
  rotate_left
  · (intro w hSw; (try dsimp only at hSw); go_simp; try with_reducible rfl)
  refine tk (v := ?_) 5 rfl (by kernel_rfl) (by rfl) ?_ ?_
  rotate_left
  · (intro w hSw; (try dsimp only at hSw); go_simp; try with_reducible rfl)
  refine tk (v := ?_) 6 rfl (by kernel_rfl) (by rfl) ?_ ?_
  rotate_left
  · (intro w hSw; (try dsimp only at hSw); go_simp; try with_reducible rfl)
  refine tk (v := ?_) 7 rfl (by kernel_rfl) (by rfl) ?_ ?_
  rotate_left
  · (intro w hSw; (try dsimp only at hSw); go_simp; try with_reducible rfl)
  refine tk (v := ?_) 8 rfl (by kernel_rfl) (by rfl) ?_ ?_
  rotate_left
  · (intro w hSw; (try dsimp only at hSw); go_simp; try with_reducible rfl)
  refine tk (v := ?_) 9 rfl (by kernel_rfl) (by rfl) ?_ ?_
  rotate_left
  · (intro w hSw; (try dsimp only at hSw); go_simp; try with_reducible rfl)
  refine wpAnyH_ready (rs := [10]) (by kernel_rfl) (by simp) ?_
  refine AllReadyH.cons rfl (fun K_ hK => ?_) AllReadyH.nil
  go_simp
  have hbx0 : Below w.heap.size w (w.drew.alloc (.cells #[.int .i64 0, .int .i64 0, .int .i64 0, .int .i64 0, .int .i64 0, .int .i64 0, .int .i64 0, .int .i64 0, .slice none 0 0] 51)) := (Below.refl _ _).drew.alloc (by simp) _
  refine hK.out _ _ ?_ (fun hHeld => ?_)
  · exact KEEP.out _ hbx0
  clear hK K_
  refine wpAnyH_ready (rs := [11]) (by kernel_rfl) (by simp) ?_
  refine AllReadyH.cons rfl (fun K_ hK => ?_) AllReadyH.nil
  go_simp
  have hbx1 : Below w.heap.size w ((w.alloc (.cells #[.int .i64 15, .int .i64 qid, .int .i64 qa, .int .i64 qb, .int .i64 qc, .int .i64 qd, .int .i64 qw, .int .i64 qh, .slice pua pum puc] 51)).drew) := ((Below.refl _ _).alloc (Nat.le_refl _) _).drew
  refine hK.out _ _ ?_ (fun hHeld => ?_)
  · exact KEEP.out _ hbx1
  clear hK K_
  refine wpAnyH_done (by kernel_rfl) ?_ _
  obtain ⟨ho, HHB⟩ : ∃ h, Hid (w.heap.size = h) := ⟨_, (rfl : _ = _)⟩
  obtain ⟨X, HX1⟩ : ∃ X, Hid (((w.alloc (.cells #[.int .i64 15, .int .i64 qid, .int .i64 qa, .int .i64 qb, .int .i64 qc, .int .i64 qd, .int .i64 qw, .int .i64 qh, .slice pua pum puc] 51)).drew) = X) := ⟨_, (rfl : _ = _)⟩
  have NX : Nine X ho (.int .i64 15) (.int .i64 qid) (.int .i64 qa) (.int .i64 qb) (.int .i64 qc) (.int .i64 qd) (.int .i64 qw) (.int .i64 qh) (.slice pua pum puc) := by
    rw [← HX1.out, ← HHB.out]
    exact (nine_start w _ _ _ _ _ _ _ _ _ 51 w.heap.size rfl).drew
  have hbX : Below w.heap.size w X := by rw [← HX1.out]; exact hbx1
  rw [HX1.out, HHB.out]
  have HBXX := hid_of2 (own_on2 HBX.out hbX)
  have HRMX := hid_of2 (HRM.out.foot (Foot.below hbX _))
  have HUX := hid_of2 (foot_rdP HUN.out (stay_box (Foot.below hbX [b]) hfb))
  have hfX : ∀ x, Fb x → x < X.heap.size := fun x hx => Nat.lt_of_lt_of_le (hfbl x hx) hbX.size
  have HFX := hid_of2 (Foot.below hbX [b])
  have hbh : b < ho := by rw [← HHB.out]; exact E.lt
  have hXs : ho < X.heap.size := NX.lt
  have EX := E.on hbX
  obtain ⟨m0, m1, m2, m3, m4, m5, m6, m7, mf0, mf1, mf2, mf3, mf4, mf5, mf6, mf7, mlt⟩ := EX
  obtain ⟨k0, k1, k2, k3, k4, k5, k6, k7, k8, -, -, -, -, -, -, -, -, -, -⟩ := NX
  clear hbx0 hbx1 HX1 KEEP c0 c1 c2 c3 c4 c5 c6 c7 c8 hbX E HM hHeld
  go_wp2_with fail
  refine bodyPost_ret (v := .int .i64 0) (by simp [results, Tryd.results12, go_sem]) rfl ?_
  obtain ⟨j0, l0⟩ := box_set HBXX.out 3 (.slice ka st.kept.length kc)
  obtain ⟨j1, l1⟩ := box_set j0 1 (.int .i64 ((pc : Int) + 1))
  unfold RMacP
  rw [HSTP.out]
  have hrm := HRMX.out.foot ((l0).trans l1)
  exact ⟨rfl, ⟨_, _, _, _, _, j1, ⟨hrm.ops, hrm.trn, hrm.kep, hrm.kep, hrm.frs⟩⟩, ((HFX.out).trans l0).trans l1⟩
end Go.Proofs.YtjmkfcgnadpbaaaDoor
