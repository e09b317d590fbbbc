/- Walk of the reference's machine: a wait -/
import Derived.Test.YtjmkfcgnadpbaaaDoorM9
import Derived.Test.YtjmkfcgnadpbaaaDoorRmAJ
import Derived.Test.YtjmkfcgnadpbaaaDoorRsMJ
namespace Go.Proofs.YtjmkfcgnadpbaaaDoor
open Go.RowKit Go.Maps

set_option maxHeartbeats 8000000 in
set_option maxRecDepth 100000 in
theorem rst_wait (b : Nat) (Fb : Nat → Prop) (qs : List Pq) (st : Ms) (w : World) (HM : Hid (RMac w b Fb qs st)) (HBK : Hid (Book qs)) (HW : Hid (Way qs st)) (hk : (qs.getD st.pc pq0).kind = 11) (h40 : ¬ 40 ≤ st.frs.length) :
    Calls Tryd.prog 12 #[.pointer (some ⟨b, 0, none⟩)] w fun e w' => RMacP b Fb qs st (stepM qs st) w e w' := by
  obtain ⟨vl, vt, vo, vs, vf, hm1, hm2⟩ := HM.out
  have E := box_eight hm1
  have h0 := HW.out.on
  obtain ⟨pc, HPC⟩ : ∃ p, Hid (st.pc = p) := ⟨_, (rfl : _ = _)⟩
  obtain ⟨⟨W0, hq0, hqb, hql⟩, hfb, hfbl⟩ := hm2.ops
  have HRQ : Hid (RdQ w vl qs) := hq0.on hqb
  obtain ⟨n, HN⟩ : ∃ n, Hid (qs.length = n) := ⟨_, (rfl : _ = _)⟩
  obtain ⟨qa_, qc_, hvl, hol, hoc⟩ := hq0.shape
  rw [HN.out] at hvl hol h0
  subst hvl
  rw [HPC.out] at h0 hk E
  obtain ⟨q, HX⟩ : ∃ q, Hid (qs.getD pc pq0 = q) := ⟨_, (rfl : _ = _)⟩
  obtain ⟨g, o, pua, pum, puc, rfl, hg, OC, HU, HMU⟩ := hq0.at h0 HX
  have hgw : g < w.heap.size := Nat.lt_of_lt_of_le hg hqb.size
  have HUN : Hid (RdPn Fb w (.slice pua pum puc) q.ps) := @Go.Proofs.YtjmkfcgnadpbaaaDoor.NI.rdP_of ⟨⟨Fb⟩⟩ _ _ _ _ HU.out hqb hql
  obtain ⟨c0, c1, c2, c3, c4, c5, c6, c7, c8⟩ := OC.on hg hqb
  rw [HX.out] at hk
  have hki : (pc : Int) < (n : Int) := by omega
  have hki0 : (0 : Int) ≤ (pc : Int) := by omega
  have hns : (n : Int) ≤ 9223372036854775807 := by omega
  obtain ⟨kd, qid, qa, qb, qc, qd, qw, qh, qp⟩ := q
  simp only at c0 c1 c2 c3 c4 c5 c6 c7 c8 hk HUN HMU
  subst hk
  obtain ⟨fv, hf1, hf2, -, HNQ⟩ := hm2.frs
  obtain ⟨fa, fc, hvf⟩ := own_any hf1.1
  have hfl : fv.length = st.frs.length := by rw [← hf2]; simp
  obtain ⟨fm, HFM⟩ : ∃ m, Hid (fv.length = m) := ⟨_, (rfl : _ = _)⟩
  rw [HFM.out] at hvf hfl
  subst hvf
  have hfm40 : fm < 40 := by omega
  obtain ⟨oa, oc, hvo, _, _, _⟩ := id hm2.obs
  subst hvo
  obtain ⟨on, HON⟩ : ∃ n, Hid (st.obs.length = n) := ⟨_, (rfl : _ = _)⟩
  rw [HON.out] at E hm1 hm2
  obtain ⟨obs, HOBS⟩ : ∃ o, Hid (st.obs = o) := ⟨_, (rfl : _ = _)⟩
  have h0q : 0 < qs.length := by have := HBK.out.two; omega
  obtain ⟨hda, hdb⟩ := op_head _ (HBK.out.ok 0 h0q) ((HBK.out.head 0 h0q).2 rfl)
  obtain ⟨W, hWe⟩ : ∃ W : Nat, (qs.getD 0 pq0).a = (W : Int) := ⟨_, (Int.toNat_of_nonneg (by omega)).symm⟩
  obtain ⟨H, hHe⟩ : ∃ H : Nat, (qs.getD 0 pq0).b = (H : Int) := ⟨_, (Int.toNat_of_nonneg (by omega)).symm⟩
  have hW1 : 1 ≤ W := by omega
  have hW2 : W ≤ 8 := by omega
  have hH1 : 1 ≤ H := by omega
  have hH2 : H ≤ 8 := by omega
  obtain ⟨bv, HBV⟩ : ∃ v, Hid (st.bv = v) := ⟨_, (rfl : _ = _)⟩
  obtain ⟨ba, HBA⟩ : ∃ v, Hid (st.ba = v) := ⟨_, (rfl : _ = _)⟩
  obtain ⟨hv1, hv2⟩ := HW.out.bv
  obtain ⟨ha1, ha2⟩ := HW.out.ba
  rw [HBV.out] at hv1 hv2 E
  rw [HBA.out] at ha1 ha2 E
  obtain ⟨L, HSL⟩ : ∃ L, Hid (seenL W H (bv, ba) obs = L) := ⟨_, (rfl : _ = _)⟩
  have HSTP : Hid (stepM qs st = .inl { st with pc := pc + 1, frs := st.frs ++ [⟨(W : Int), (H : Int), L, qa⟩] }) := by
    unfold Hid
    rw [stepM_not (by rw [HPC.out, HX.out]; simp)]
    rw [HPC.out, HX.out]
    unfold doM
    rw [if_neg (by simp), if_neg (by simp), if_pos rfl, if_neg h40]
    unfold tellF
    rw [hWe, hHe, Int.toNat_natCast, Int.toNat_natCast, HBV.out, HBA.out, HOBS.out, HSL.out]
    simp [HPC.out]
  have hobg := HW.out.obs.good
  rw [HOBS.out] at hobg
  have hos : obs.length ≤ 1000 := by have := hobg.few; omega
  have HPS : Hid (∀ j, j < obs.length → (obs.getD j po0).ps.length ≤ 100) := fun j hj => by have := hobg.pix j hj; omega
  have HOK : Hid (∀ j, j < obs.length → (obs.getD j po0).fault' = 0) := hobg.ok
  obtain ⟨g', o', pa', pm', pc', hga, hg', OC', -, -⟩ := hq0.at (k := 0) (by rw [HN.out] at h0q; exact h0q) (show Hid (qs.getD 0 pq0 = qs.getD 0 pq0) from rfl)
  simp only [Option.some.injEq, Addr.mk.injEq, and_true] at hga
  obtain ⟨rfl, rfl⟩ := hga
  obtain ⟨-, -, e2, e3, -, -, -, -, -⟩ := OC'.on hg' hqb
  rw [hWe, Nat.zero_mul, Nat.add_zero] at e2
  rw [hHe, Nat.zero_mul, Nat.add_zero] at e3
  have h0n : 0 < n := by rw [HN.out] at h0q; exact h0q
  have HFR := hid_of2 hf1
  have HFV := hid_of2 hf2
  clear hf1 hf2 hfl OC' hobg hWe hHe
  have HBX := hid_of2 hm1
  have HRM := hid_of2 hm2
  have HOPB := hid_of2 (op_ok_at HBK.out (by rw [HN.out]; exact h0) HX.out)
  clear hm1 hm2 hq0 hqb HU OC
  have KEEP : Hid (∀ w', Below w.heap.size w w' → w'.cell? ⟨b, 0, none⟩ = some (.slice (some ⟨g, o, none⟩) n qc_) ∧ w'.cell? ⟨b, 1, none⟩ = some (.int .i64 (pc : Int)) ∧ w'.cell? ⟨g, o + pc * 9, none⟩ = some (.int .i64 11) ∧ w'.cell? ⟨g, o + pc * 9 + 1, none⟩ = some (.int .i64 qid) ∧ w'.cell? ⟨g, o + pc * 9 + 2, none⟩ = some (.int .i64 qa) ∧ w'.cell? ⟨g, o + pc * 9 + 3, none⟩ = some (.int .i64 qb) ∧ w'.cell? ⟨g, o + pc * 9 + 4, none⟩ = some (.int .i64 qc) ∧ w'.cell? ⟨g, o + pc * 9 + 5, none⟩ = some (.int .i64 qd) ∧ w'.cell? ⟨g, o + pc * 9 + 6, none⟩ = some (.int .i64 qw) ∧ w'.cell? ⟨g, o + pc * 9 + 7, none⟩ = some (.int .i64 qh) ∧ w'.cell? ⟨g, o + pc * 9 + 8, none⟩ = some (.slice pua pum puc)) := by
    intro w' h
    refine ⟨?_, ?_, ?_, ?_, ?_, ?_, ?_, ?_, ?_, ?_, ?_⟩
    · rw [h.cell (p := ⟨b, 0, none⟩) E.lt]; exact E.c0
    · rw [h.cell (p := ⟨b, 1, none⟩) E.lt]; exact E.c1
    · rw [h.cell (p := ⟨g, o + pc * 9, none⟩) hgw]; exact c0
    · rw [h.cell (p := ⟨g, o + pc * 9 + 1, none⟩) hgw]; exact c1
    · rw [h.cell (p := ⟨g, o + pc * 9 + 2, none⟩) hgw]; exact c2
    · rw [h.cell (p := ⟨g, o + pc * 9 + 3, none⟩) hgw]; exact c3
    · rw [h.cell (p := ⟨g, o + pc * 9 + 4, none⟩) hgw]; exact c4
    · rw [h.cell (p := ⟨g, o + pc * 9 + 5, none⟩) hgw]; exact c5
    · rw [h.cell (p := ⟨g, o + pc * 9 + 6, none⟩) hgw]; exact c6
    · rw [h.cell (p := ⟨g, o + pc * 9 + 7, none⟩) hgw]; exact c7
    · rw [h.cell (p := ⟨g, o + pc * 9 + 8, none⟩) hgw]; exact c8
  go_enter Tryd.func12, Tryd.ntmps12
  go_wp2_with fail
  refine wp_region_held_drew (S := (fun w' => w'.cell? ⟨b, 0, none⟩ = some (.slice (some ⟨g, o, none⟩) n qc_) ∧ w'.cell? ⟨b, 1, none⟩ = some (.int .i64 (pc : Int)) ∧ w'.cell? ⟨g, o + pc * 9, none⟩ = some (.int .i64 11) ∧ w'.cell? ⟨g, o + pc * 9 + 1, none⟩ = some (.int .i64 qid) ∧ w'.cell? ⟨g, o + pc * 9 + 2, none⟩ = some (.int .i64 qa) ∧ w'.cell? ⟨g, o + pc * 9 + 3, none⟩ = some (.int .i64 qb) ∧ w'.cell? ⟨g, o + pc * 9 + 4, none⟩ = some (.int .i64 qc) ∧ w'.cell? ⟨g, o + pc * 9 + 5, none⟩ = some (.int .i64 qd) ∧ w'.cell? ⟨g, o + pc * 9 + 6, none⟩ = some (.int .i64 qw) ∧ w'.cell? ⟨g, o + pc * 9 + 7, none⟩ = some (.int .i64 qh) ∧ w'.cell? ⟨g, o + pc * 9 + 8, none⟩ = some (.slice pua pum puc))) (by kernel_rfl) ?_ (fun hHeld => ?_)
  · exact KEEP.out _ (Below.refl _ _).drew
  refine tk (v := ?_) 0 rfl (by kernel_rfl) (by rfl) ?_ ?_
  rotate_left
  · (intro w hSw; (try dsimp only at hSw); go_simp; try with_reducible rfl)
  refine tk (v := ?_) 1 rfl (by kernel_rfl) (by rfl) ?_ ?_
  rotate_left
  · (intro w hSw; (try dsimp only at hSw); go_simp; try with_reducible rfl)
  refine tk (v := ?_) 2 rfl (by kernel_rfl) (by rfl) ?_ ?_
  rotate_left
  · (intro w hSw; (try dsimp only at hSw); go_simp; try with_reducible rfl)
  refine tk (v := ?_) 3 rfl (by kernel_rfl) (by rfl) ?_ ?_
  rotate_left
  · (intro w hSw; (try dsimp only at hSw); go_simp; try with_reducible rfl)
  refine tk (v := ?_) 4 rfl (by kernel_rfl) (by rfl) ?_ ?_
  rotate_left
  · (intro w hSw; (try dsimp only at hSw); go_simp; try with_reducible rfl)
  refine tk (v := ?_) 5 rfl (by kernel_rfl) (by rfl) ?_ ?_
  rotate_left
  · (intro w hSw; (try dsimp only at hSw); go_simp; try with_reducible rfl)
  refine tk (v := ?_) 6 rfl (by kernel_rfl) (by rfl) ?_ ?_
  rotate_left
  · (intro w hSw; (try dsimp only at hSw); go_simp; try with_reducible rfl)
  refine tk (v := ?_) 7 rfl (by kernel_rfl) (by rfl) ?_ ?_
  rotate_left
  · (intro w hSw; (try dsimp only at hSw); go_simp; try with_reducible rfl)
  refine tk (v := ?_) 8 rfl (by kernel_rfl) (by rfl) ?_ ?_
  rotate_left
  · (intro w hSw; (try dsimp only at hSw); go_simp; try with_reducible rfl)
  refine tk (v := ?_) 9 rfl (by kernel_rfl) (by rfl) ?_ ?_
  rotate_left
  · (intro w hSw; (try dsimp only at hSw); go_simp; try with_reducible rfl)
  refine wpAnyH_ready (rs := [10]) (by kernel_rfl) (by simp) ?_
  refine AllReadyH.cons rfl (fun K_ hK => ?_) AllReadyH.nil
  go_simp
  have hbx0 : Below w.heap.size w (w.drew.alloc (.cells #[.int .i64 0, .int .i64 0, .int .i64 0, .int .i64 0, .int .i64 0, .int .i64 0, .int .i64 0, .int .i64 0, .slice none 0 0] 51)) := (Below.refl _ _).drew.alloc (by simp) _
  refine hK.out _ _ ?_ (fun hHeld => ?_)
  · exact KEEP.out _ hbx0
  clear hK K_
  refine wpAnyH_ready (rs := [11]) (by kernel_rfl) (by simp) ?_
  refine AllReadyH.cons rfl (fun K_ hK => ?_) AllReadyH.nil
  go_simp
  have hbx1 : Below w.heap.size w ((w.alloc (.cells #[.int .i64 11, .int .i64 qid, .int .i64 qa, .int .i64 qb, .int .i64 qc, .int .i64 qd, .int .i64 qw, .int .i64 qh, .slice pua pum puc] 51)).drew) := ((Below.refl _ _).alloc (Nat.le_refl _) _).drew
  refine hK.out _ _ ?_ (fun hHeld => ?_)
  · exact KEEP.out _ hbx1
  clear hK K_
  refine wpAnyH_done (by kernel_rfl) ?_ _
  obtain ⟨ho, HHB⟩ : ∃ h, Hid (w.heap.size = h) := ⟨_, (rfl : _ = _)⟩
  obtain ⟨X, HX1⟩ : ∃ X, Hid (((w.alloc (.cells #[.int .i64 11, .int .i64 qid, .int .i64 qa, .int .i64 qb, .int .i64 qc, .int .i64 qd, .int .i64 qw, .int .i64 qh, .slice pua pum puc] 51)).drew) = X) := ⟨_, (rfl : _ = _)⟩
  have NX : Nine X ho (.int .i64 11) (.int .i64 qid) (.int .i64 qa) (.int .i64 qb) (.int .i64 qc) (.int .i64 qd) (.int .i64 qw) (.int .i64 qh) (.slice pua pum puc) := by
    rw [← HX1.out, ← HHB.out]
    exact (nine_start w _ _ _ _ _ _ _ _ _ 51 w.heap.size rfl).drew
  have hbX : Below w.heap.size w X := by rw [← HX1.out]; exact hbx1
  rw [HX1.out, HHB.out]
  have HBXX := hid_of2 (own_on2 HBX.out hbX)
  have HRMX := hid_of2 (HRM.out.foot (Foot.below hbX _))
  have HUX := hid_of2 (foot_rdP HUN.out (stay_box (Foot.below hbX [b]) hfb))
  have hfX : ∀ x, Fb x → x < X.heap.size := fun x hx => Nat.lt_of_lt_of_le (hfbl x hx) hbX.size
  have HFX := hid_of2 (Foot.below hbX [b])
  have hbh : b < ho := by rw [← HHB.out]; exact E.lt
  have hXs : ho < X.heap.size := NX.lt
  have EX := E.on hbX
  have HBLW := hid_of2 hbX
  obtain ⟨m0, m1, m2, m3, m4, m5, m6, m7, mf0, mf1, mf2, mf3, mf4, mf5, mf6, mf7, mlt⟩ := EX
  obtain ⟨k0, k1, k2, k3, k4, k5, k6, k7, k8, -, -, -, -, -, -, -, -, -, -⟩ := NX
  clear hbx0 hbx1 HX1 KEEP c0 c1 c2 c3 c4 c5 c6 c7 c8 hbX E HM hHeld
  have hbX1 : b + 1 ≤ X.heap.size := by omega
  have u2 : X.cell? ⟨g, o + 2, none⟩ = some (.int .i64 (W : Int)) := (HBLW.out.cell (p := ⟨g, o + 2, none⟩) hgw).trans e2
  have u3 : X.cell? ⟨g, o + 3, none⟩ = some (.int .i64 (H : Int)) := (HBLW.out.cell (p := ⟨g, o + 3, none⟩) hgw).trans e3
  have hgX : g < X.heap.size := Nat.lt_of_lt_of_le hgw HBLW.out.size
  have HOX : Hid (RdO X (.slice oa on oc) obs) := by have := HRMX.out.obs; rw [HOBS.out] at this; exact @Go.Proofs.YtjmkfcgnadpbaaaDoor.NI.RdO.rd ⟨⟨Fb⟩⟩ _ _ _ this
  have HFRX := hid_of2 (HFR.out.on HBLW.out)
  have hfmi : ((fm : Int) == 40) = false := by simp; omega
  have KEEP : Hid (∀ w', Below X.heap.size X w' → w'.cell? ⟨b, 0, none⟩ = some (.slice (some ⟨g, o, none⟩) n qc_) ∧ w'.cell? ⟨b, 3, none⟩ = some (.slice oa on oc) ∧ w'.cell? ⟨b, 5, none⟩ = some (.int .i64 bv) ∧ w'.cell? ⟨b, 6, none⟩ = some (.int .i64 ba) ∧ w'.cell? ⟨g, o + 2, none⟩ = some (.int .i64 (W : Int)) ∧ w'.cell? ⟨g, o + 3, none⟩ = some (.int .i64 (H : Int)) ∧ w'.cell? ⟨ho, 2, none⟩ = some (.int .i64 qa)) := by
    intro w' h
    refine ⟨?_, ?_, ?_, ?_, ?_, ?_, ?_⟩
    · rw [h.cell (p := ⟨b, 0, none⟩) mlt]; exact m0
    · rw [h.cell (p := ⟨b, 3, none⟩) mlt]; exact m3
    · rw [h.cell (p := ⟨b, 5, none⟩) mlt]; exact m5
    · rw [h.cell (p := ⟨b, 6, none⟩) mlt]; exact m6
    · rw [h.cell (p := ⟨g, o + 2, none⟩) hgX]; exact u2
    · rw [h.cell (p := ⟨g, o + 3, none⟩) hgX]; exact u3
    · rw [h.cell (p := ⟨ho, 2, none⟩) hXs]; exact k2
  go_wp2_with fail
  refine wp_region_held_drew (S := (fun w' => w'.cell? ⟨b, 0, none⟩ = some (.slice (some ⟨g, o, none⟩) n qc_) ∧ w'.cell? ⟨b, 3, none⟩ = some (.slice oa on oc) ∧ w'.cell? ⟨b, 5, none⟩ = some (.int .i64 bv) ∧ w'.cell? ⟨b, 6, none⟩ = some (.int .i64 ba) ∧ w'.cell? ⟨g, o + 2, none⟩ = some (.int .i64 (W : Int)) ∧ w'.cell? ⟨g, o + 3, none⟩ = some (.int .i64 (H : Int)) ∧ w'.cell? ⟨ho, 2, none⟩ = some (.int .i64 qa))) (by kernel_rfl) ?_ (fun hHeld => ?_)
  · exact KEEP.out _ (Below.refl _ _).drew
  refine tk (v := ?_) 0 rfl (by kernel_rfl) (by rfl) ?_ ?_
  rotate_left
  · (intro w hSw; (try dsimp only at hSw); go_simp; try with_reducible rfl)
  refine tk (v := ?_) 1 rfl (by kernel_rfl) (by rfl) ?_ ?_
  rotate_left
  · (intro w hSw; (try dsimp only at hSw); go_simp; try with_reducible rfl)
  refine tk (v := ?_) 2 rfl (by kernel_rfl) (by rfl) ?_ ?_
  rotate_left
  · (intro w hSw; (try dsimp only at hSw); go_simp; try with_reducible rfl)
  refine tk (v := ?_) 3 rfl (by kernel_rfl) (by rfl) ?_ ?_
  rotate_left
  · (intro w hSw; (try dsimp only at hSw); go_simp; try with_reducible rfl)
  refine tk (v := ?_) 6 rfl (by kernel_rfl) (by rfl) ?_ ?_
  rotate_left
  · (intro w hSw; (try dsimp only at hSw); go_simp; try with_reducible rfl)
  refine tk (v := ?_) 7 rfl (by kernel_rfl) (by rfl) ?_ ?_
  rotate_left
  · (intro w hSw; (try dsimp only at hSw); go_simp; try with_reducible rfl)
  refine tk (v := ?_) 8 rfl (by kernel_rfl) (by rfl) ?_ ?_
  rotate_left
  · (intro w hSw; (try dsimp only at hSw); go_simp; try with_reducible rfl)
  refine tk (v := ?_) 9 rfl (by kernel_rfl) (by rfl) ?_ ?_
  rotate_left
  · (intro w hSw; (try dsimp only at hSw); go_simp; try with_reducible rfl)
  refine tk (v := ?_) 10 rfl (by kernel_rfl) (by rfl) ?_ ?_
  rotate_left
  · (intro w hSw; (try dsimp only at hSw); go_simp; try with_reducible rfl)
  refine tk (v := ?_) 11 rfl (by kernel_rfl) (by rfl) ?_ ?_
  rotate_left
  · (intro w hSw; (try dsimp only at hSw); go_simp; try with_reducible rfl)
  refine tk (v := ?_) 12 rfl (by kernel_rfl) (by rfl) ?_ ?_
  rotate_left
  · (intro w hSw; (try dsimp only at hSw); go_simp; try with_reducible rfl)
  refine tk (v := ?_) 13 rfl (by kernel_rfl) (by rfl) ?_ ?_
  rotate_left
  · (intro w hSw; (try dsimp only at hSw); go_simp; try with_reducible rfl)
  refine tk (v := ?_) 14 rfl (by kernel_rfl) (by rfl) ?_ ?_
  rotate_left
  · (intro w hSw; (try dsimp only at hSw); go_simp; try with_reducible rfl)
  refine tk (v := ?_) 15 rfl (by kernel_rfl) (by rfl) ?_ ?_
  rotate_left
  · (intro w hSw; (try dsimp only at hSw); go_simp; try with_reducible rfl)
  refine tk (v := ?_) 16 rfl (by kernel_rfl) (by rfl) ?_ ?_
  rotate_left
  · (intro w hSw; (try dsimp only at hSw); go_simp; try with_reducible rfl)
  refine tk (v := ?_) 17 rfl (by kernel_rfl) (by rfl) ?_ ?_
  rotate_left
  · (intro w hSw; (try dsimp only at hSw); go_simp; try with_reducible rfl)
  refine tk (v := ?_) 18 rfl (by kernel_rfl) (by rfl) ?_ ?_
  rotate_left
  · (intro w hSw; (try dsimp only at hSw); go_simp; try with_reducible rfl)
  refine tk (v := ?_) 19 rfl (by kernel_rfl) (by rfl) ?_ ?_
  rotate_left
  · (intro w hSw; (try dsimp only at hSw); go_simp; try with_reducible rfl)
  refine tk (v := ?_) 20 rfl (by kernel_rfl) (by rfl) ?_ ?_
  rotate_left
  · (intro w hSw; (try dsimp only at hSw); go_simp; try with_reducible rfl)
  refine tk (v := ?_) 21 rfl (by kernel_rfl) (by rfl) ?_ ?_
  rotate_left
  · (intro w hSw; (try dsimp only at hSw); go_simp; try with_reducible rfl)
  refine tk (v := ?_) 22 rfl (by kernel_rfl) (by rfl) ?_ ?_
  rotate_left
  · (intro w hSw; (try dsimp only at hSw); go_simp; try with_reducible rfl)
  refine tk (v := ?_) 23 rfl (by kernel_rfl) (by rfl) ?_ ?_
  rotate_left
  · (intro w hSw; (try dsimp only at hSw); go_simp; try with_reducible rfl)
  refine tk (v := ?_) 24 rfl (by kernel_rfl) (by rfl) ?_ ?_
  rotate_left
  · (intro w hSw; (try dsimp only at hSw); go_simp; try with_reducible rfl)
  refine tk (v := ?_) 25 rfl (by kernel_rfl) (by rfl) ?_ ?_
  rotate_left
  · (intro w hSw; (try dsimp only at hSw); go_simp; try with_reducible rfl)
  refine tk (v := ?_) 26 rfl (by kernel_rfl) (by rfl) ?_ ?_
  rotate_left
  · (intro w hSw; (try dsimp only at hSw); go_simp; try with_reducible rfl)
  refine tk (v := ?_) 27 rfl (by kernel_rfl) (by rfl) ?_ ?_
  rotate_left
  · (intro w hSw; (try dsimp only at hSw); go_simp; try with_reducible rfl)
  refine tk (v := ?_) 29 rfl (by kernel_rfl) (by rfl) ?_ ?_
  rotate_left
  · (intro w hSw; (try dsimp only at hSw); go_simp; try with_reducible rfl)
  refine tk (v := ?_) 30 rfl (by kernel_rfl) (by rfl) ?_ ?_
  rotate_left
  · (intro w hSw; (try dsimp only at hSw); go_simp; try with_reducible rfl)
  refine wpAnyH_ready (rs := [4]) (by kernel_rfl) (by simp) ?_
  refine AllReadyH.cons rfl (fun K_ hK => ?_) AllReadyH.nil
  go_simp
  refine hK.out _ _ ?_ (fun hHeld => ?_)
  · exact KEEP.out _ ((Below.refl _ _).drew)
  clear hK K_
  obtain ⟨v2, w2, hr2, ho2, hb2⟩ := fr_copy X.drew (b + 1) (.slice fa fm fc) fv (HFRX.out.on (Below.refl _ _).drew) (by rw [HFM.out]; omega)
  have HR2 := hid_of2 hr2
  obtain ⟨a2, c2, hv2⟩ := own_any ho2
  rw [HFM.out] at hv2
  subst hv2
  have hbD : Below X.heap.size X X.drew := (Below.refl _ _).drew
  have hbX2 := hbD.trans (hb2.mono hbD.size)
  have HO2 : Hid (w2.ownsRow X.heap.size 56 4 (.slice a2 fm c2) fv.length (frCells fv)) := ho2
  have HP2 : Hid (∀ q ∈ fv, w2.ownsRow (b + 1) 42 2 q.2 q.1.ps.length (pixCells q.1.ps)) := fun q hq => own_on2 (own_on2 (HFRX.out.2 q hq) hbD) hb2
  have HBX2 := hid_of2 hbX2
  clear hr2 ho2 hb2 hbD hbX2
  refine wpAnyH_ready (rs := [5]) (by kernel_rfl) (by simp) ?_
  refine AllReadyH.cons rfl (fun K_ hK => ?_) AllReadyH.nil
  refine ready_app rfl (.const (.slice none 0 0)) (.tmp 62) 25 rfl _ _ _ ?d1a ?d1b HR2.out ?_
  case d1a => rfl
  case d1b => rfl
  refine hK.out _ _ ?_ (fun hHeld => ?_)
  · exact KEEP.out _ HBX2.out
  clear hK K_
  refine wpAnyH_ready (rs := [28]) (by kernel_rfl) (by simp) ?_
  refine AllReadyH.cons rfl (fun K_ hK => ?_) AllReadyH.nil
  go_simp
  have hsn := seenOf_own (.slice oa on oc) obs W H bv ba w2 hos HPS.out HOK.out (HOX.out.on HBX2.out) hW1 hW2 hH1 hH2 hv1 hv2 ha1 ha2
  unfold pixV picV at hsn
  refine hsn.mono ?_
  clear hsn
  rintro e w3 ⟨u, rfl, hu, hb3⟩
  rw [HSL.out] at hu
  obtain ⟨ua, uc, hue⟩ := own_any hu
  obtain ⟨ul, HUL⟩ : ∃ n, Hid (L.length = n) := ⟨_, (rfl : _ = _)⟩
  rw [HUL.out] at hue
  subst hue
  have HU3 := hid_of2 hu
  have HBX3 := hid_of2 (HBX2.out.trans (hb3.mono HBX2.out.size))
  have HO3 := hid_of2 (own_on2 HO2.out hb3)
  have HP3 : Hid (∀ q ∈ fv, w3.ownsRow (b + 1) 42 2 q.2 q.1.ps.length (pixCells q.1.ps)) := fun q hq => own_on2 (HP2.out q hq) hb3
  have hw23 := HBX2.out.size
  clear hu hb3
  refine hK.out _ _ ?_ (fun hHeld => ?_)
  · exact KEEP.out _ HBX3.out
  clear hK K_
  refine tk (v := ?_) 31 rfl (by kernel_rfl) (by rfl) ?_ ?_
  rotate_left
  · (intro w hSw; (try dsimp only at hSw); go_simp; try with_reducible rfl)
  refine wpAnyH_ready (rs := [32]) (by kernel_rfl) (by simp) ?_
  refine AllReadyH.cons rfl (fun K_ hK => ?_) AllReadyH.nil
  go_simp
  refine hK.out _ _ ?_ (fun hHeld => ?_)
  · exact KEEP.out _ (HBX3.out.alloc HBX3.out.size _)
  clear hK K_
  have hbZ : Below w3.heap.size w3 (w3.alloc (.cells #[.int .i64 (W : Int), .int .i64 (H : Int), .slice ua ul uc, .int .i64 qa] 56)) := (Below.refl _ _).alloc (Nat.le_refl _) _
  have hws := HBX3.out.size
  obtain ⟨v4, w4, hr4, ho4, hb4, _, _, ho5⟩ := fr_app (w3.alloc (.cells #[.int .i64 (W : Int), .int .i64 (H : Int), .slice ua ul uc, .int .i64 qa] 56)) (b + 1) X.heap.size (.slice a2 fm c2) fv ⟨own_mono (own_on2 HO3.out hbZ) (by omega), fun q hq => own_on2 (HP3.out q hq) hbZ⟩ (own_on2 HO3.out hbZ) (by omega) (by simp; omega) (by rw [HFM.out]; omega) ⟨(W : Int), (H : Int), L, qa⟩ (.slice ua ul uc) (own_mono (own_on2 HU3.out hbZ) (by omega)) w3.heap.size (by simp) (by simp) (by simp) (by simp)
  have HR4 := hid_of2 hr4
  have HO4 := hid_of2 ho4
  have hnv := own_notin ho5 hfX
  have hnu : NotIn Fb (.slice ua ul uc) := own_notin HU3.out (fun x hx => by have := hfX x hx; have := HBX2.out.size; omega)
  have HB4 : Hid (Below X.heap.size X w4) := (HBX3.out.alloc HBX3.out.size _).trans hb4
  obtain ⟨a4, c4, hv4⟩ := own_any ho4.1
  obtain ⟨fn, HFN⟩ : ∃ n, Hid ((fv ++ [((⟨(W : Int), (H : Int), L, qa⟩ : Pf), Value.slice ua ul uc)]).length = n) := ⟨_, (rfl : _ = _)⟩
  rw [HFN.out] at hv4
  subst hv4
  clear hr4 ho4 hb4 hbZ ho5
  have hnq : ∀ q ∈ fv ++ [((⟨(W : Int), (H : Int), L, qa⟩ : Pf), Value.slice ua ul uc)], NotIn Fb q.2 := by
    intro q hq
    rcases List.mem_append.1 hq with hq | hq
    · exact HNQ q hq
    · simp at hq; subst hq; exact hnu
  refine wpAnyH_ready (rs := [33]) (by kernel_rfl) (by simp) ?_
  refine AllReadyH.cons rfl (fun K_ hK => ?_) AllReadyH.nil
  refine ready_app rfl (.tmp 63) (.tmp 90) 25 rfl _ _ _ ?d2a ?d2b HR4.out ?_
  case d2a => rfl
  case d2b => rfl
  refine hK.out _ _ ?_ (fun hHeld => ?_)
  · exact KEEP.out _ HB4.out
  clear hK K_
  refine tk (v := ?_) 34 rfl (by kernel_rfl) (by rfl) ?_ ?_
  rotate_left
  · (intro w hSw; (try dsimp only at hSw); go_simp; try with_reducible rfl)
  refine tk (v := ?_) 35 rfl (by kernel_rfl) (by rfl) ?_ ?_
  rotate_left
  · (intro w hSw; (try dsimp only at hSw); go_simp; try with_reducible rfl)
  have hk4 := KEEP.out _ HB4.out
  obtain ⟨q0, q1, q2, q3, q4, q5, q6, q7, qf0, qf1, qf2, qf3, qf4, qf5, qf6, qf7, qlt⟩ := (box_eight HBXX.out).on HB4.out
  have hgbne : b ≠ g := by have := hql b hfb; omega
  have hs4 : Hid ((w4.setCell ⟨b, 7, none⟩ (.slice a4 fn c4)).cell? ⟨b, 0, none⟩ = some (.slice (some ⟨g, o, none⟩) n qc_) ∧ (w4.setCell ⟨b, 7, none⟩ (.slice a4 fn c4)).cell? ⟨b, 3, none⟩ = some (.slice oa on oc) ∧ (w4.setCell ⟨b, 7, none⟩ (.slice a4 fn c4)).cell? ⟨b, 5, none⟩ = some (.int .i64 bv) ∧ (w4.setCell ⟨b, 7, none⟩ (.slice a4 fn c4)).cell? ⟨b, 6, none⟩ = some (.int .i64 ba) ∧ (w4.setCell ⟨b, 7, none⟩ (.slice a4 fn c4)).cell? ⟨g, o + 2, none⟩ = some (.int .i64 (W : Int)) ∧ (w4.setCell ⟨b, 7, none⟩ (.slice a4 fn c4)).cell? ⟨g, o + 3, none⟩ = some (.int .i64 (H : Int)) ∧ (w4.setCell ⟨b, 7, none⟩ (.slice a4 fn c4)).cell? ⟨ho, 2, none⟩ = some (.int .i64 qa)) := by
    obtain ⟨z0, z1, z2, z3, z4, z5, z6⟩ := hk4
    refine ⟨?_, ?_, ?_, ?_, ?_, ?_, ?_⟩
    · rw [World.cell?_setCell_other _ _ _ _ (by simp)]; exact z0
    · rw [World.cell?_setCell_other _ _ _ _ (by simp)]; exact z1
    · rw [World.cell?_setCell_other _ _ _ _ (by simp)]; exact z2
    · rw [World.cell?_setCell_other _ _ _ _ (by simp)]; exact z3
    · rw [World.cell?_setCell_far _ _ _ _ (by show b ≠ g; exact hgbne)]; exact z4
    · rw [World.cell?_setCell_far _ _ _ _ (by show b ≠ g; exact hgbne)]; exact z5
    · rw [World.cell?_setCell_far _ _ _ _ (by show b ≠ ho; omega)]; exact z6
  clear hk4
  refine wpAnyH_ready (rs := [36]) (by kernel_rfl) (by simp) ?_
  refine AllReadyH.cons rfl (fun K_ hK => ?_) AllReadyH.nil
  go_simp
  refine hK.out _ _ ?_ (fun hHeld => ?_)
  · exact hs4.out
  clear hK K_
  refine wpAnyH_done (by kernel_rfl) ?_ _
  have HBW4 := hid_of2 (own_on2 HBXX.out HB4.out)
  obtain ⟨j0, l0⟩ := box_set HBW4.out 7 (.slice a4 fn c4)
  have hft := (Foot.below HB4.out [b]).trans l0
  have HRY := hid_of2 (HRMX.out.foot hft)
  have HOY := hid_of2 (foot_fr HO4.out hnv hnq (stay_box l0 hfb))
  have HBY := hid_of2 j0
  have HFY := hid_of2 (HFX.out.trans hft)
  clear j0 l0 hft KEEP hHeld hs4 HR4 u2 u3 q0 q1 q2 q3 q4 q5 q6 q7 qf0 qf1 qf2 qf3 qf4 qf5 qf6 qf7 qlt k0 k1 k2 k3 k4 k5 k6 k7 k8 m0 m1 m2 m3 m4 m5 m6 m7 mf0 mf1 mf2 mf3 mf4 mf5 mf6 mf7 mlt
  obtain ⟨Y, HY⟩ : ∃ Y, Hid ((w4.setCell ⟨b, 7, none⟩ (.slice a4 fn c4)) = Y) := ⟨_, (rfl : _ = _)⟩
  rw [HY.out] at HRY HOY HBY HFY ⊢
  obtain ⟨n0, n1, n2, n3, n4_, n5, n6, n7, nf0, nf1, nf2, nf3, nf4, nf5, nf6, nf7, nlt⟩ := box_eight HBY.out
  rw [HPC.out] at n1
  go_wp2_with fail
  refine bodyPost_ret (v := .int .i64 0) (by simp [results, Tryd.results12, go_sem]) rfl ?_
  obtain ⟨j0, l0⟩ := box_set HBY.out 1 (.int .i64 ((pc : Int) + 1))
  unfold RMacP
  rw [HSTP.out]
  have hrm := HRY.out.foot l0
  exact ⟨rfl, ⟨_, _, _, _, _, j0, ⟨hrm.ops, hrm.trn, hrm.obs, hrm.kep, _, foot_fr HOY.out hnv hnq (stay_box l0 hfb), by rw [List.map_append, HFV.out]; rfl, hnv, hnq⟩⟩, HFY.out.trans l0⟩
end Go.Proofs.YtjmkfcgnadpbaaaDoor
