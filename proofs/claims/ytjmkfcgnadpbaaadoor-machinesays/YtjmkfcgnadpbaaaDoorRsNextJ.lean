/- Walk of the reference's machine: next -/
import Derived.Test.YtjmkfcgnadpbaaaDoorM9
import Derived.Test.YtjmkfcgnadpbaaaDoorRmAJ
import Derived.Test.YtjmkfcgnadpbaaaDoorRsMJ
namespace Go.Proofs.YtjmkfcgnadpbaaaDoor
open Go.RowKit Go.Maps

set_option maxHeartbeats 8000000 in
set_option maxRecDepth 100000 in
theorem rst_next (b : Nat) (Fb : Nat → Prop) (qs : List Pq) (st : Ms) (w : World) (HM : Hid (RMac w b Fb qs st)) (HBK : Hid (Book qs)) (HW : Hid (Way qs st)) (hk : (qs.getD st.pc pq0).kind = 13) :
    Calls Tryd.prog 12 #[.pointer (some ⟨b, 0, none⟩)] w fun e w' => RMacP b Fb qs st (stepM qs st) w e w' := by
  obtain ⟨vl, vt, vo, vs, vf, hm1, hm2⟩ := HM.out
  have E := box_eight hm1
  have h0 := HW.out.on
  obtain ⟨pc, HPC⟩ : ∃ p, Hid (st.pc = p) := ⟨_, (rfl : _ = _)⟩
  obtain ⟨⟨W0, hq0, hqb, hql⟩, hfb, hfbl⟩ := hm2.ops
  have HRQ : Hid (RdQ w vl qs) := hq0.on hqb
  obtain ⟨n, HN⟩ : ∃ n, Hid (qs.length = n) := ⟨_, (rfl : _ = _)⟩
  obtain ⟨qa_, qc_, hvl, hol, hoc⟩ := hq0.shape
  rw [HN.out] at hvl hol h0
  subst hvl
  rw [HPC.out] at h0 hk E
  obtain ⟨q, HX⟩ : ∃ q, Hid (qs.getD pc pq0 = q) := ⟨_, (rfl : _ = _)⟩
  obtain ⟨g, o, pua, pum, puc, rfl, hg, OC, HU, HMU⟩ := hq0.at h0 HX
  have hgw : g < w.heap.size := Nat.lt_of_lt_of_le hg hqb.size
  have HUN : Hid (RdPn Fb w (.slice pua pum puc) q.ps) := @Go.Proofs.YtjmkfcgnadpbaaaDoor.NI.rdP_of ⟨⟨Fb⟩⟩ _ _ _ _ HU.out hqb hql
  obtain ⟨c0, c1, c2, c3, c4, c5, c6, c7, c8⟩ := OC.on hg hqb
  rw [HX.out] at hk
  have hki : (pc : Int) < (n : Int) := by omega
  have hki0 : (0 : Int) ≤ (pc : Int) := by omega
  have hns : (n : Int) ≤ 9223372036854775807 := by omega
  obtain ⟨kd, qid, qa, qb, qc, qd, qw, qh, qp⟩ := q
  simp only at c0 c1 c2 c3 c4 c5 c6 c7 c8 hk HUN HMU
  subst hk
  obtain ⟨hop0, hop3⟩ := open_pos HBK.out HW.out (by rw [HPC.out, HX.out])
  obtain ⟨gt, tc, hvt⟩ := own_some hm2.trn.1 hop0
  subst hvt
  obtain ⟨tm, HTM⟩ : ∃ m, Hid (st.opn.length = m + 1) := ⟨st.opn.length - 1, by unfold Hid; omega⟩
  obtain ⟨p, l, HPL⟩ : ∃ p l, Hid (st.opn.getD tm (0, 0) = (p, l)) := ⟨_, _, (rfl : _ = _)⟩
  obtain ⟨htc, htx⟩ := row_cap hm2.trn.1
  unfold maxLen at htx
  have hpin := HW.out.inn tm (by rw [HTM.out]; omega)
  rw [HPL.out] at hpin
  simp only at hpin
  have hpn : p < n := by rw [← HN.out]; exact hpin.1
  have hl1 : 1 ≤ l := hpin.2.2.2.1
  have hl9 : l ≤ 9 := hpin.2.2.2.2
  obtain ⟨lm, rfl⟩ : ∃ k, l = k + 1 := ⟨l - 1, by omega⟩
  obtain ⟨t0, t1⟩ := rndCells_at st.opn tm (by rw [HTM.out]; omega)
  rw [HPL.out] at t0 t1
  simp only at t0 t1
  have q0 := (hm2.trn.1.cellAt (tm * 2) (by rw [HTM.out]; omega)).trans t0
  have q1 := (hm2.trn.1.cellAt (tm * 2 + 1) (by rw [HTM.out]; omega)).trans t1
  have hgt : gt < w.heap.size := World.block_lt_of_cell? w ⟨gt, tm * 2, none⟩ q0
  have hgb : b < gt := by
    rcases hm2.trn.1.2 with ⟨h0, _⟩ | ⟨g', cap', cur', hv', hB', _⟩
    · simp at h0
    · simp only [Value.slice.injEq, Option.some.injEq, Addr.mk.injEq, and_true] at hv'
      obtain ⟨rfl, _⟩ := hv'
      omega
  have hpre := row_pre hm2.trn.1 (show tm ≤ st.opn.length by rw [HTM.out]; omega)
  rw [show (rndCells st.opn).take (tm * 2) = rndCells st.opn.dropLast by have := rndCells_drop st.opn; rw [HTM.out, Nat.add_sub_cancel] at this; exact this] at hpre
  have HPRE := hid_of2 hpre
  have hdl : st.opn.dropLast.length = tm := by rw [List.length_dropLast, HTM.out]; rfl
  have HDL := hid_of2 hdl
  rw [HTM.out] at E
  have q1 : w.cell? ⟨gt, tm * 2 + 1, none⟩ = some (.int .i64 ((lm : Int) + 1)) := by rw [q1]; simp
  have HST1 : 1 < lm + 1 → Hid (stepM qs st = .inl { st with pc := p + 1, opn := st.opn.dropLast ++ [(p, lm)] }) := fun hh => by
    unfold Hid
    rw [stepM_not (by rw [HPC.out, HX.out]; simp)]
    rw [HPC.out, HX.out]
    unfold doM
    rw [if_neg (by simp), if_neg (by simp), if_neg (by simp), if_neg (by simp), if_pos rfl, HTM.out, Nat.add_sub_cancel, HPL.out, if_pos hh]
    rfl
  have HST2 : ¬ 1 < lm + 1 → Hid (stepM qs st = .inl { st with pc := pc + 1, opn := st.opn.dropLast }) := fun hh => by
    unfold Hid
    rw [stepM_not (by rw [HPC.out, HX.out]; simp)]
    rw [HPC.out, HX.out]
    unfold doM
    rw [if_neg (by simp), if_neg (by simp), if_neg (by simp), if_neg (by simp), if_pos rfl, HTM.out, Nat.add_sub_cancel, HPL.out, if_neg hh]
    simp [HPC.out]
  rw [HTM.out] at htc
  clear t0 t1 hpre hdl hpin
  have HBX := hid_of2 hm1
  have HRM := hid_of2 hm2
  have HOPB := hid_of2 (op_ok_at HBK.out (by rw [HN.out]; exact h0) HX.out)
  clear hm1 hm2 hq0 hqb HU OC
  have KEEP : Hid (∀ w', Below w.heap.size w w' → w'.cell? ⟨b, 0, none⟩ = some (.slice (some ⟨g, o, none⟩) n qc_) ∧ w'.cell? ⟨b, 1, none⟩ = some (.int .i64 (pc : Int)) ∧ w'.cell? ⟨g, o + pc * 9, none⟩ = some (.int .i64 13) ∧ w'.cell? ⟨g, o + pc * 9 + 1, none⟩ = some (.int .i64 qid) ∧ w'.cell? ⟨g, o + pc * 9 + 2, none⟩ = some (.int .i64 qa) ∧ w'.cell? ⟨g, o + pc * 9 + 3, none⟩ = some (.int .i64 qb) ∧ w'.cell? ⟨g, o + pc * 9 + 4, none⟩ = some (.int .i64 qc) ∧ w'.cell? ⟨g, o + pc * 9 + 5, none⟩ = some (.int .i64 qd) ∧ w'.cell? ⟨g, o + pc * 9 + 6, none⟩ = some (.int .i64 qw) ∧ w'.cell? ⟨g, o + pc * 9 + 7, none⟩ = some (.int .i64 qh) ∧ w'.cell? ⟨g, o + pc * 9 + 8, none⟩ = some (.slice pua pum puc)) := by
    intro w' h
    refine ⟨?_, ?_, ?_, ?_, ?_, ?_, ?_, ?_, ?_, ?_, ?_⟩
    · rw [h.cell (p := ⟨b, 0, none⟩) E.lt]; exact E.c0
    · rw [h.cell (p := ⟨b, 1, none⟩) E.lt]; exact E.c1
    · rw [h.cell (p := ⟨g, o + pc * 9, none⟩) hgw]; exact c0
    · rw [h.cell (p := ⟨g, o + pc * 9 + 1, none⟩) hgw]; exact c1
    · rw [h.cell (p := ⟨g, o + pc * 9 + 2, none⟩) hgw]; exact c2
    · rw [h.cell (p := ⟨g, o + pc * 9 + 3, none⟩) hgw]; exact c3
    · rw [h.cell (p := ⟨g, o + pc * 9 + 4, none⟩) hgw]; exact c4
    · rw [h.cell (p := ⟨g, o + pc * 9 + 5, none⟩) hgw]; exact c5
    · rw [h.cell (p := ⟨g, o + pc * 9 + 6, none⟩) hgw]; exact c6
    · rw [h.cell (p := ⟨g, o + pc * 9 + 7, none⟩) hgw]; exact c7
    · rw [h.cell (p := ⟨g, o + pc * 9 + 8, none⟩) hgw]; exact c8
  go_enter Tryd.func12, Tryd.ntmps12
  go_wp2_with fail
  refine wp_region_held_drew (S := (fun w' => w'.cell? ⟨b, 0, none⟩ = some (.slice (some ⟨g, o, none⟩) n qc_) ∧ w'.cell? ⟨b, 1, none⟩ = some (.int .i64 (pc : Int)) ∧ w'.cell? ⟨g, o + pc * 9, none⟩ = some (.int .i64 13) ∧ w'.cell? ⟨g, o + pc * 9 + 1, none⟩ = some (.int .i64 qid) ∧ w'.cell? ⟨g, o + pc * 9 + 2, none⟩ = some (.int .i64 qa) ∧ w'.cell? ⟨g, o + pc * 9 + 3, none⟩ = some (.int .i64 qb) ∧ w'.cell? ⟨g, o + pc * 9 + 4, none⟩ = some (.int .i64 qc) ∧ w'.cell? ⟨g, o + pc * 9 + 5, none⟩ = some (.int .i64 qd) ∧ w'.cell? ⟨g, o + pc * 9 + 6, none⟩ = some (.int .i64 qw) ∧ w'.cell? ⟨g, o + pc * 9 + 7, none⟩ = some (.int .i64 qh) ∧ w'.cell? ⟨g, o + pc * 9 + 8, none⟩ = some (.slice pua pum puc))) (by kernel_rfl) ?_ (fun hHeld => ?_)
  · exact KEEP.out _ (Below.refl _ _).drew
  refine tk (v := ?_) 0 rfl (by kernel_rfl) (by rfl) ?_ ?_
  rotate_left
  · (intro w hSw; (try dsimp only at hSw); go_simp; try with_reducible rfl)
  refine tk (v := ?_) 1 rfl (by kernel_rfl) (by rfl) ?_ ?_
  rotate_left
  · (intro w hSw; (try dsimp only at hSw); go_simp; try with_reducible rfl)
  refine tk (v := ?_) 2 rfl (by kernel_rfl) (by rfl) ?_ ?_
  rotate_left
  · (intro w hSw; (try dsimp only at hSw); go_simp; try with_reducible rfl)
  refine tk (v := ?_) 3 rfl (by kernel_rfl) (by rfl) ?_ ?_
  rotate_left
  · (intro w hSw; (try dsimp only at hSw); go_simp; try with_reducible rfl)
  refine tk (v := ?_) 4 rfl (by kernel_rfl) (by rfl) ?_ ?_
  rotate_left
  · (intro w hSw; (try dsimp only at hSw); go_simp; try with_reducible rfl)
  refine tk (v := ?_) 5 rfl (by kernel_rfl) (by rfl) ?_ ?_
  rotate_left
  · (intro w hSw; (try dsimp only at hSw); go_simp; try with_reducible rfl)
  refine tk (v := ?_) 6 rfl (by kernel_rfl) (by rfl) ?_ ?_
  rotate_left
  · (intro w hSw; (try dsimp only at hSw); go_simp; try with_reducible rfl)
  refine tk (v := ?_) 7 rfl (by kernel_rfl) (by rfl) ?_ ?_
  rotate_left
  · (intro w hSw; (try dsimp only at hSw); go_simp; try with_reducible rfl)
  refine tk (v := ?_) 8 rfl (by kernel_rfl) (by rfl) ?_ ?_
  rotate_left
  · (intro w hSw; (try dsimp only at hSw); go_simp; try with_reducible rfl)
  refine tk (v := ?_) 9 rfl (by kernel_rfl) (by rfl) ?_ ?_
  rotate_left
  · (intro w hSw; (try dsimp only at hSw); go_simp; try with_reducible rfl)
  refine wpAnyH_ready (rs := [10]) (by kernel_rfl) (by simp) ?_
  refine AllReadyH.cons rfl (fun K_ hK => ?_) AllReadyH.nil
  go_simp
  have hbx0 : Below w.heap.size w (w.drew.alloc (.cells #[.int .i64 0, .int .i64 0, .int .i64 0, .int .i64 0, .int .i64 0, .int .i64 0, .int .i64 0, .int .i64 0, .slice none 0 0] 51)) := (Below.refl _ _).drew.alloc (by simp) _
  refine hK.out _ _ ?_ (fun hHeld => ?_)
  · exact KEEP.out _ hbx0
  clear hK K_
  refine wpAnyH_ready (rs := [11]) (by kernel_rfl) (by simp) ?_
  refine AllReadyH.cons rfl (fun K_ hK => ?_) AllReadyH.nil
  go_simp
  have hbx1 : Below w.heap.size w ((w.alloc (.cells #[.int .i64 13, .int .i64 qid, .int .i64 qa, .int .i64 qb, .int .i64 qc, .int .i64 qd, .int .i64 qw, .int .i64 qh, .slice pua pum puc] 51)).drew) := ((Below.refl _ _).alloc (Nat.le_refl _) _).drew
  refine hK.out _ _ ?_ (fun hHeld => ?_)
  · exact KEEP.out _ hbx1
  clear hK K_
  refine wpAnyH_done (by kernel_rfl) ?_ _
  obtain ⟨ho, HHB⟩ : ∃ h, Hid (w.heap.size = h) := ⟨_, (rfl : _ = _)⟩
  obtain ⟨X, HX1⟩ : ∃ X, Hid (((w.alloc (.cells #[.int .i64 13, .int .i64 qid, .int .i64 qa, .int .i64 qb, .int .i64 qc, .int .i64 qd, .int .i64 qw, .int .i64 qh, .slice pua pum puc] 51)).drew) = X) := ⟨_, (rfl : _ = _)⟩
  have NX : Nine X ho (.int .i64 13) (.int .i64 qid) (.int .i64 qa) (.int .i64 qb) (.int .i64 qc) (.int .i64 qd) (.int .i64 qw) (.int .i64 qh) (.slice pua pum puc) := by
    rw [← HX1.out, ← HHB.out]
    exact (nine_start w _ _ _ _ _ _ _ _ _ 51 w.heap.size rfl).drew
  have hbX : Below w.heap.size w X := by rw [← HX1.out]; exact hbx1
  rw [HX1.out, HHB.out]
  have HBXX := hid_of2 (own_on2 HBX.out hbX)
  have HRMX := hid_of2 (HRM.out.foot (Foot.below hbX _))
  have HUX := hid_of2 (foot_rdP HUN.out (stay_box (Foot.below hbX [b]) hfb))
  have hfX : ∀ x, Fb x → x < X.heap.size := fun x hx => Nat.lt_of_lt_of_le (hfbl x hx) hbX.size
  have HFX := hid_of2 (Foot.below hbX [b])
  have hbh : b < ho := by rw [← HHB.out]; exact E.lt
  have hXs : ho < X.heap.size := NX.lt
  have EX := E.on hbX
  have HBLW := hid_of2 hbX
  obtain ⟨m0, m1, m2, m3, m4, m5, m6, m7, mf0, mf1, mf2, mf3, mf4, mf5, mf6, mf7, mlt⟩ := EX
  obtain ⟨k0, k1, k2, k3, k4, k5, k6, k7, k8, -, -, -, -, -, -, -, -, -, -⟩ := NX
  clear hbx0 hbx1 HX1 KEEP c0 c1 c2 c3 c4 c5 c6 c7 c8 hbX E HM hHeld
  have htm3 : (tm : Int) ≤ 2 := by have := HTM.out; omega
  have htm0 : (0 : Int) ≤ (tm : Int) := by omega
  have htm1 : (tm : Int) < ((tm + 1 : Nat) : Int) := by omega
  have htci : (tm : Int) ≤ (tc : Int) := by omega
  have htci2 : tm ≤ tc := by omega
  have htc0 : ¬ tc = 0 := by omega
  have u0 : X.cell? ⟨gt, tm * 2, none⟩ = some (.int .i64 (p : Int)) := (HBLW.out.cell (p := ⟨gt, tm * 2, none⟩) hgt).trans q0
  have u1 : X.cell? ⟨gt, tm * 2 + 1, none⟩ = some (.int .i64 ((lm : Int) + 1)) := (HBLW.out.cell (p := ⟨gt, tm * 2 + 1, none⟩) hgt).trans q1
  have hbX1 : b + 1 ≤ X.heap.size := by omega
  obtain ⟨Z, HZ⟩ : ∃ Z, Hid ((X.alloc (.cells #[.int .i64 (p : Int), .int .i64 ((lm : Int) + 1)] 72)) = Z) := ⟨_, (rfl : _ = _)⟩
  have hbZ : Below X.heap.size X Z := by rw [← HZ.out]; exact (Below.refl _ _).alloc (Nat.le_refl _) _
  have hzp : Z.ownsRow (b + 1) 72 2 (.slice (some ⟨gt, 0, none⟩) tm tc) st.opn.dropLast.length (rndCells st.opn.dropLast) := by rw [HDL.out]; exact own_on2 (own_on2 HPRE.out HBLW.out) hbZ
  obtain ⟨v2, w2, hr2, ho2, hb2⟩ := trn_copy Z (b + 1) (.slice (some ⟨gt, 0, none⟩) tm tc) st.opn.dropLast hzp (by rw [HDL.out]; omega)
  obtain ⟨a2, c2, hv2⟩ := own_any ho2
  rw [HDL.out] at hv2
  subst hv2
  have hbW2 := hbZ.trans (hb2.mono hbZ.size)
  obtain ⟨p0, p1, p2, p3, p4, p5, p6, p7, pf0, pf1, pf2, pf3, pf4, pf5, pf6, pf7, plt⟩ := (box_eight HBXX.out).on hbW2
  have z0 : Z.cell? ⟨X.heap.size, 0, none⟩ = some (.int .i64 (p : Int)) := by rw [← HZ.out]; simp
  have z1 : Z.cell? ⟨X.heap.size, 1, none⟩ = some (.int .i64 ((lm : Int) + 1)) := by rw [← HZ.out]; simp
  have hzs : X.heap.size < Z.heap.size := by rw [← HZ.out]; simp
  have g0 : w2.cell? ⟨X.heap.size, 0, none⟩ = some (.int .i64 (p : Int)) := (hb2.cell (p := ⟨X.heap.size, 0, none⟩) hzs).trans z0
  have g1 : w2.cell? ⟨X.heap.size, 1, none⟩ = some (.int .i64 ((lm : Int) + 1)) := (hb2.cell (p := ⟨X.heap.size, 1, none⟩) hzs).trans z1
  have HR2 := hid_of2 hr2
  rw [← HZ.out] at HR2
  have hne2 : ¬ b = X.heap.size := by omega
  rw [HPC.out] at p1
  have hw2s : X.heap.size < w2.heap.size := Nat.lt_of_lt_of_le hzs hb2.size
  have HO2 := hid_of2 (own_mono ho2 (show X.heap.size + 1 ≤ _ from hzs))
  have HBW2 := hid_of2 hbW2
  have HBW := hid_of2 (own_on2 HBXX.out hbW2)
  clear hr2 ho2 hb2 hbZ hzp z0 z1 hbW2
  by_cases hl : 1 < lm + 1
  · have hli : (1 : Int) < (lm : Int) + 1 := by omega
    have HSTP := HST1 hl
    go_wp2_with (at_builtin; refine Lib.wpList_append_run _ rfl _ _ _ _ rfl _ _ rfl rfl _ _ HR2.out ?_)
    obtain ⟨Y, HY⟩ : ∃ Y, Hid (((w2.setCell ⟨b, 2, none⟩ (.slice a2 tm c2)).setCell ⟨b, 1, none⟩ (.int .i64 (p : Int))) = Y) := ⟨_, (rfl : _ = _)⟩
    obtain ⟨j0, l0⟩ := box_set HBW.out 2 (.slice a2 tm c2)
    obtain ⟨j1, l1⟩ := box_set j0 1 (.int .i64 (p : Int))
    have HFY := hid_of2 ((Foot.below HBW2.out [b]).trans (l0.trans l1))
    have hty : ((w2.setCell ⟨b, 2, none⟩ (.slice a2 tm c2)).setCell ⟨b, 1, none⟩ (.int .i64 (p : Int))).ownsRow (X.heap.size + 1) 72 2 (.slice a2 tm c2) st.opn.dropLast.length (rndCells st.opn.dropLast) := ownsRow_setCell_below (ownsRow_setCell_below HO2.out (a := ⟨b, 2, none⟩) (show b < X.heap.size + 1 by omega) _) (a := ⟨b, 1, none⟩) (show b < X.heap.size + 1 by omega) _
    have y0 : ((w2.setCell ⟨b, 2, none⟩ (.slice a2 tm c2)).setCell ⟨b, 1, none⟩ (.int .i64 (p : Int))).cell? ⟨X.heap.size, 0, none⟩ = some (.int .i64 (p : Int)) := by rw [World.cell?_setCell_far _ _ _ _ (by show b ≠ X.heap.size; omega), World.cell?_setCell_far _ _ _ _ (by show b ≠ X.heap.size; omega)]; exact g0
    have y1 : ((w2.setCell ⟨b, 2, none⟩ (.slice a2 tm c2)).setCell ⟨b, 1, none⟩ (.int .i64 (p : Int))).cell? ⟨X.heap.size, 1, none⟩ = some (.int .i64 ((lm : Int) + 1)) := by rw [World.cell?_setCell_far _ _ _ _ (by show b ≠ X.heap.size; omega), World.cell?_setCell_far _ _ _ _ (by show b ≠ X.heap.size; omega)]; exact g1
    have hys : X.heap.size < ((w2.setCell ⟨b, 2, none⟩ (.slice a2 tm c2)).setCell ⟨b, 1, none⟩ (.int .i64 (p : Int))).heap.size := by simpa using hw2s
    rw [HY.out] at HFY hty y0 y1 hys j1 ⊢
    have HTY := hid_of2 hty
    have HBY := hid_of2 j1
    clear HY l0 l1 j0 j1 hty p0 p1 p2 p3 p4 p5 p6 p7 pf0 pf1 pf2 pf3 pf4 pf5 pf6 pf7 plt g0 g1 hw2s HR2 k0 k1 k2 k3 k4 k5 k6 k7 k8 m0 m1 m2 m3 m4 m5 m6 m7 mf0 mf1 mf2 mf3 mf4 mf5 mf6 mf7 mlt
    obtain ⟨n0, n1, n2, n3, n4, n5, n6, n7, nf0, nf1, nf2, nf3, nf4, nf5, nf6, nf7, nlt⟩ := box_eight HBY.out
    obtain ⟨tb, HTB⟩ : ∃ tb, Hid (X.heap.size = tb) := ⟨_, (rfl : _ = _)⟩
    rw [HTB.out] at y0 y1 hys
    have hwr : IntKind.i64.wrap (lm : Int) = (lm : Int) := by rw [IntKind.wrap_i64]; omega
    have hbtb : b < tb := by have := HTB.out; omega
    simp only [HTB.out]
    have KEEP : Hid (∀ w', Below Y.heap.size Y w' → w'.cell? ⟨tb, 0, none⟩ = some (.int .i64 (p : Int)) ∧ w'.cell? ⟨tb, 1, none⟩ = some (.int .i64 ((lm : Int) + 1))) := by
      intro w' h
      refine ⟨?_, ?_⟩
      · rw [h.cell (p := ⟨tb, 0, none⟩) hys]; exact y0
      · rw [h.cell (p := ⟨tb, 1, none⟩) hys]; exact y1
    refine wp_region_held_drew (S := (fun w' => w'.cell? ⟨tb, 0, none⟩ = some (.int .i64 (p : Int)) ∧ w'.cell? ⟨tb, 1, none⟩ = some (.int .i64 ((lm : Int) + 1)))) (by kernel_rfl) ?_ (fun hHeld => ?_)
    · exact KEEP.out _ (Below.refl _ _).drew
    refine tk (v := ?_) 0 rfl (by kernel_rfl) (by rfl) ?_ ?_
    rotate_left
    · (intro w hSw; (try dsimp only at hSw); go_simp; try with_reducible rfl)
    refine tk (v := ?_) 1 rfl (by kernel_rfl) (by rfl) ?_ ?_
    rotate_left
    · (intro w hSw; (try dsimp only at hSw); go_simp; try with_reducible rfl)
    refine tk (v := ?_) 2 rfl (by kernel_rfl) (by rfl) ?_ ?_
    rotate_left
    · (intro w hSw; (try dsimp only at hSw); go_simp; try with_reducible rfl)
    refine tk (v := ?_) 3 rfl (by kernel_rfl) (by rfl) ?_ ?_
    rotate_left
    · (intro w hSw; (try dsimp only at hSw); go_simp; try with_reducible rfl)
    refine tk (v := ?_) 5 rfl (by kernel_rfl) (by rfl) ?_ ?_
    rotate_left
    · (intro w hSw; (try dsimp only at hSw); go_simp; try with_reducible rfl)
    refine tk (v := ?_) 6 rfl (by kernel_rfl) (by rfl) ?_ ?_
    rotate_left
    · (intro w hSw; (try dsimp only at hSw); go_simp; try with_reducible rfl)
    refine tk (v := ?_) 7 rfl (by kernel_rfl) (by rfl) ?_ ?_
    rotate_left
    · (intro w hSw; (try dsimp only at hSw); go_simp; try with_reducible rfl)
    refine tk (v := ?_) 8 rfl (by kernel_rfl) (by rfl) ?_ ?_
    rotate_left
    · (intro w hSw; (try dsimp only at hSw); go_simp; try with_reducible rfl)
    refine tk (v := ?_) 9 rfl (by kernel_rfl) (by rfl) ?_ ?_
    rotate_left
    · (intro w hSw; (try dsimp only at hSw); go_simp; try with_reducible rfl)
    refine tk (v := ?_) 10 rfl (by kernel_rfl) (by rfl) ?_ ?_
    rotate_left
    · (intro w hSw; (try dsimp only at hSw); go_simp; try with_reducible rfl)
    refine wpAnyH_ready (rs := [4, 11]) (by kernel_rfl) (by simp) ?_
    refine AllReadyH.cons rfl (fun K_ hK => ?_) (AllReadyH.cons rfl (fun K_ hK => ?_) AllReadyH.nil)
    · go_simp
      refine hK.out _ _ ?_ (fun hHeld => ?_)
      · exact KEEP.out _ ((Below.refl _ _).drew)
      clear hK K_
      refine wpAnyH_ready (rs := [11]) (by kernel_rfl) (by simp) ?_
      refine AllReadyH.cons rfl (fun K_ hK => ?_) AllReadyH.nil
      go_simp
      refine hK.out _ _ ?_ (fun hHeld => ?_)
      · exact KEEP.out _ ((Below.refl Y.heap.size Y).drew.alloc (show Y.heap.size ≤ Y.drew.heap.size from Nat.le_refl _) (.cells #[.int .i64 (p : Int), .int .i64 (lm : Int)] 72))
      clear hK K_
      have hbZ : Below Y.heap.size Y (Y.drew.alloc (.cells #[.int .i64 (p : Int), .int .i64 (lm : Int)] 72)) := (Below.refl Y.heap.size Y).drew.alloc (show Y.heap.size ≤ Y.drew.heap.size from Nat.le_refl _) (.cells #[.int .i64 (p : Int), .int .i64 (lm : Int)] 72)
      have hc0 : (Y.drew.alloc (.cells #[.int .i64 (p : Int), .int .i64 (lm : Int)] 72)).cell? ⟨Y.heap.size, 0, none⟩ = some (.int .i64 (p : Int)) := by have h := new_cells Y.drew [.int .i64 (p : Int), .int .i64 (lm : Int)] 72 0 _ rfl; rw [addr_zero] at h; exact h
      have hc1 : (Y.drew.alloc (.cells #[.int .i64 (p : Int), .int .i64 (lm : Int)] 72)).cell? ⟨Y.heap.size, 1, none⟩ = some (.int .i64 (lm : Int)) := by have h := new_cells Y.drew [.int .i64 (p : Int), .int .i64 (lm : Int)] 72 1 _ rfl; rw [addr_zero] at h; exact h
      have hts := HTB.out
      obtain ⟨v4, w4, hr4, ho4, hb4⟩ := trn_app (Y.drew.alloc (.cells #[.int .i64 (p : Int), .int .i64 (lm : Int)] 72)) (X.heap.size + 1) (.slice a2 tm c2) st.opn.dropLast (own_on2 HTY.out hbZ) (by rw [HDL.out]; omega) (by have := hbZ.size; omega) p lm _ hc0 hc1
      have HR4 := hid_of2 hr4
      obtain ⟨a4, c4, hv4⟩ := own_any ho4
      obtain ⟨n4_, HN4⟩ : ∃ n, Hid ((st.opn.dropLast ++ [(p, lm)]).length = n) := ⟨_, (rfl : _ = _)⟩
      rw [HN4.out] at hv4 ho4
      subst hv4
      have HB4 : Hid (Below (X.heap.size + 1) Y w4) := ((hbZ.mono (by omega)).trans hb4)
      have HO4 := hid_of2 ho4
      clear hr4 ho4 hb4 hc0 hc1
      have hk4 : Hid (w4.cell? ⟨tb, 0, none⟩ = some (.int .i64 (p : Int)) ∧ w4.cell? ⟨tb, 1, none⟩ = some (.int .i64 ((lm : Int) + 1))) := ⟨(HB4.out.cell (p := ⟨tb, 0, none⟩) (by show tb < _; omega)).trans y0, (HB4.out.cell (p := ⟨tb, 1, none⟩) (by show tb < _; omega)).trans y1⟩
      refine wpAnyH_ready (rs := [12]) (by kernel_rfl) (by simp) ?_
      refine AllReadyH.cons rfl (fun K_ hK => ?_) AllReadyH.nil
      refine ready_app rfl (.tmp 165) (.tmp 172) 39 rfl _ _ _ ?d8a ?d8b HR4.out ?_
      case d8a => rfl
      case d8b => rfl
      refine hK.out _ _ ?_ (fun hHeld => ?_)
      · exact hk4.out
      clear hK K_
      refine tk (v := ?_) 13 rfl (by kernel_rfl) (by rfl) ?_ ?_
      rotate_left
      · (intro w hSw; (try dsimp only at hSw); go_simp; try with_reducible rfl)
      refine tk (v := ?_) 14 rfl (by kernel_rfl) (by rfl) ?_ ?_
      rotate_left
      · (intro w hSw; (try dsimp only at hSw); go_simp; try with_reducible rfl)
      have HBW4 := hid_of2 (box_onB HBY.out HB4.out (by omega))
      obtain ⟨r0, r1, r2, r3, r4, r5, r6, r7, rf0, rf1, rf2, rf3, rf4, rf5, rf6, rf7, rlt⟩ := box_eight HBW4.out
      have hs4 : Hid ((w4.setCell ⟨b, 2, none⟩ (.slice a4 n4_ c4)).cell? ⟨tb, 0, none⟩ = some (.int .i64 (p : Int)) ∧ (w4.setCell ⟨b, 2, none⟩ (.slice a4 n4_ c4)).cell? ⟨tb, 1, none⟩ = some (.int .i64 ((lm : Int) + 1))) := by
        refine ⟨?_, ?_⟩
        · rw [World.cell?_setCell_far _ _ _ _ (by show b ≠ tb; omega)]; exact hk4.out.1
        · rw [World.cell?_setCell_far _ _ _ _ (by show b ≠ tb; omega)]; exact hk4.out.2
      refine wpAnyH_ready (rs := [15]) (by kernel_rfl) (by simp) ?_
      refine AllReadyH.cons rfl (fun K_ hK => ?_) AllReadyH.nil
      go_simp
      refine hK.out _ _ ?_ (fun hHeld => ?_)
      · exact hs4.out
      clear hK K_
      refine wpAnyH_done (by kernel_rfl) ?_ _
      obtain ⟨j0, l0⟩ := box_set HBW4.out 2 (.slice a4 n4_ c4)
      have hft := (foot_then HFY.out (HB4.out.mono (Nat.le_succ _))).trans l0
      have HFV := hid_of2 hft
      have HRV := hid_of2 (HRMX.out.foot hft)
      have hni := own_notin HO4.out (fun x hx => by have := hfX x hx; omega : ∀ x, Fb x → x < X.heap.size + 1)
      have HOV := hid_of2 (foot_own (own_mono HO4.out (show b + 1 ≤ _ by omega)) hni (stay_box l0 hfb))
      have HBV := hid_of2 j0
      obtain ⟨V, HV⟩ : ∃ V, Hid ((w4.setCell ⟨b, 2, none⟩ (.slice a4 n4_ c4)) = V) := ⟨_, (rfl : _ = _)⟩
      rw [HV.out] at HFV HRV HOV HBV ⊢
      clear hft j0 l0 KEEP hHeld hs4 hk4 HR4 HV r0 r1 r2 r3 r4 r5 r6 r7 rf0 rf1 rf2 rf3 rf4 rf5 rf6 rf7 rlt y0 y1 n0 n1 n2 n3 n4 n5 n6 n7 nf0 nf1 nf2 nf3 nf4 nf5 nf6 nf7 nlt hts
      obtain ⟨r0, r1, r2, r3, r4, r5, r6, r7, rf0, rf1, rf2, rf3, rf4, rf5, rf6, rf7, rlt⟩ := box_eight HBV.out
      have hpi : (p : Int) < 9223372036854775807 := by omega
      go_wp2_with fail
      refine bodyPost_ret (v := .int .i64 0) (by simp [results, Tryd.results12, go_sem]) rfl ?_
      obtain ⟨j0, l0⟩ := box_set HBV.out 1 (.int .i64 ((p : Int) + 1))
      unfold RMacP
      rw [HSTP.out]
      have hrm := HRV.out.foot l0
      have ht5 : V.ownsRow (b + 1) 72 2 (.slice a4 n4_ c4) (st.opn.dropLast ++ [(p, lm)]).length (rndCells (st.opn.dropLast ++ [(p, lm)])) := by rw [HN4.out]; exact HOV.out
      exact ⟨rfl, ⟨_, _, _, _, _, j0, ⟨hrm.ops, ⟨foot_own ht5 hni (stay_box l0 hfb), hni⟩, hrm.obs, hrm.kep, hrm.frs⟩⟩, HFX.out.trans (HFV.out.trans l0)⟩
    · go_simp
      refine hK.out _ _ ?_ (fun hHeld => ?_)
      · exact KEEP.out _ ((Below.refl Y.heap.size Y).drew.alloc (show Y.heap.size ≤ Y.drew.heap.size from Nat.le_refl _) (.cells #[.int .i64 (p : Int), .int .i64 (lm : Int)] 72))
      clear hK K_
      refine wpAnyH_ready (rs := [4]) (by kernel_rfl) (by simp) ?_
      refine AllReadyH.cons rfl (fun K_ hK => ?_) AllReadyH.nil
      go_simp
      refine hK.out _ _ ?_ (fun hHeld => ?_)
      · exact KEEP.out _ ((Below.refl Y.heap.size Y).drew.alloc (show Y.heap.size ≤ Y.drew.heap.size from Nat.le_refl _) (.cells #[.int .i64 (p : Int), .int .i64 (lm : Int)] 72))
      clear hK K_
      have hbZ : Below Y.heap.size Y (Y.drew.alloc (.cells #[.int .i64 (p : Int), .int .i64 (lm : Int)] 72)) := (Below.refl Y.heap.size Y).drew.alloc (show Y.heap.size ≤ Y.drew.heap.size from Nat.le_refl _) (.cells #[.int .i64 (p : Int), .int .i64 (lm : Int)] 72)
      have hc0 : (Y.drew.alloc (.cells #[.int .i64 (p : Int), .int .i64 (lm : Int)] 72)).cell? ⟨Y.heap.size, 0, none⟩ = some (.int .i64 (p : Int)) := by have h := new_cells Y.drew [.int .i64 (p : Int), .int .i64 (lm : Int)] 72 0 _ rfl; rw [addr_zero] at h; exact h
      have hc1 : (Y.drew.alloc (.cells #[.int .i64 (p : Int), .int .i64 (lm : Int)] 72)).cell? ⟨Y.heap.size, 1, none⟩ = some (.int .i64 (lm : Int)) := by have h := new_cells Y.drew [.int .i64 (p : Int), .int .i64 (lm : Int)] 72 1 _ rfl; rw [addr_zero] at h; exact h
      have hts := HTB.out
      obtain ⟨v4, w4, hr4, ho4, hb4⟩ := trn_app (Y.drew.alloc (.cells #[.int .i64 (p : Int), .int .i64 (lm : Int)] 72)) (X.heap.size + 1) (.slice a2 tm c2) st.opn.dropLast (own_on2 HTY.out hbZ) (by rw [HDL.out]; omega) (by have := hbZ.size; omega) p lm _ hc0 hc1
      have HR4 := hid_of2 hr4
      obtain ⟨a4, c4, hv4⟩ := own_any ho4
      obtain ⟨n4_, HN4⟩ : ∃ n, Hid ((st.opn.dropLast ++ [(p, lm)]).length = n) := ⟨_, (rfl : _ = _)⟩
      rw [HN4.out] at hv4 ho4
      subst hv4
      have HB4 : Hid (Below (X.heap.size + 1) Y w4) := ((hbZ.mono (by omega)).trans hb4)
      have HO4 := hid_of2 ho4
      clear hr4 ho4 hb4 hc0 hc1
      have hk4 : Hid (w4.cell? ⟨tb, 0, none⟩ = some (.int .i64 (p : Int)) ∧ w4.cell? ⟨tb, 1, none⟩ = some (.int .i64 ((lm : Int) + 1))) := ⟨(HB4.out.cell (p := ⟨tb, 0, none⟩) (by show tb < _; omega)).trans y0, (HB4.out.cell (p := ⟨tb, 1, none⟩) (by show tb < _; omega)).trans y1⟩
      refine wpAnyH_ready (rs := [12]) (by kernel_rfl) (by simp) ?_
      refine AllReadyH.cons rfl (fun K_ hK => ?_) AllReadyH.nil
      refine ready_app rfl (.tmp 165) (.tmp 172) 39 rfl _ _ _ ?d9a ?d9b HR4.out ?_
      case d9a => rfl
      case d9b => rfl
      refine hK.out _ _ ?_ (fun hHeld => ?_)
      · exact hk4.out
      clear hK K_
      refine tk (v := ?_) 13 rfl (by kernel_rfl) (by rfl) ?_ ?_
      rotate_left
      · (intro w hSw; (try dsimp only at hSw); go_simp; try with_reducible rfl)
      refine tk (v := ?_) 14 rfl (by kernel_rfl) (by rfl) ?_ ?_
      rotate_left
      · (intro w hSw; (try dsimp only at hSw); go_simp; try with_reducible rfl)
      have HBW4 := hid_of2 (box_onB HBY.out HB4.out (by omega))
      obtain ⟨r0, r1, r2, r3, r4, r5, r6, r7, rf0, rf1, rf2, rf3, rf4, rf5, rf6, rf7, rlt⟩ := box_eight HBW4.out
      have hs4 : Hid ((w4.setCell ⟨b, 2, none⟩ (.slice a4 n4_ c4)).cell? ⟨tb, 0, none⟩ = some (.int .i64 (p : Int)) ∧ (w4.setCell ⟨b, 2, none⟩ (.slice a4 n4_ c4)).cell? ⟨tb, 1, none⟩ = some (.int .i64 ((lm : Int) + 1))) := by
        refine ⟨?_, ?_⟩
        · rw [World.cell?_setCell_far _ _ _ _ (by show b ≠ tb; omega)]; exact hk4.out.1
        · rw [World.cell?_setCell_far _ _ _ _ (by show b ≠ tb; omega)]; exact hk4.out.2
      refine wpAnyH_ready (rs := [15]) (by kernel_rfl) (by simp) ?_
      refine AllReadyH.cons rfl (fun K_ hK => ?_) AllReadyH.nil
      go_simp
      refine hK.out _ _ ?_ (fun hHeld => ?_)
      · exact hs4.out
      clear hK K_
      refine wpAnyH_done (by kernel_rfl) ?_ _
      obtain ⟨j0, l0⟩ := box_set HBW4.out 2 (.slice a4 n4_ c4)
      have hft := (foot_then HFY.out (HB4.out.mono (Nat.le_succ _))).trans l0
      have HFV := hid_of2 hft
      have HRV := hid_of2 (HRMX.out.foot hft)
      have hni := own_notin HO4.out (fun x hx => by have := hfX x hx; omega : ∀ x, Fb x → x < X.heap.size + 1)
      have HOV := hid_of2 (foot_own (own_mono HO4.out (show b + 1 ≤ _ by omega)) hni (stay_box l0 hfb))
      have HBV := hid_of2 j0
      obtain ⟨V, HV⟩ : ∃ V, Hid ((w4.setCell ⟨b, 2, none⟩ (.slice a4 n4_ c4)) = V) := ⟨_, (rfl : _ = _)⟩
      rw [HV.out] at HFV HRV HOV HBV ⊢
      clear hft j0 l0 KEEP hHeld hs4 hk4 HR4 HV r0 r1 r2 r3 r4 r5 r6 r7 rf0 rf1 rf2 rf3 rf4 rf5 rf6 rf7 rlt y0 y1 n0 n1 n2 n3 n4 n5 n6 n7 nf0 nf1 nf2 nf3 nf4 nf5 nf6 nf7 nlt hts
      obtain ⟨r0, r1, r2, r3, r4, r5, r6, r7, rf0, rf1, rf2, rf3, rf4, rf5, rf6, rf7, rlt⟩ := box_eight HBV.out
      have hpi : (p : Int) < 9223372036854775807 := by omega
      go_wp2_with fail
      refine bodyPost_ret (v := .int .i64 0) (by simp [results, Tryd.results12, go_sem]) rfl ?_
      obtain ⟨j0, l0⟩ := box_set HBV.out 1 (.int .i64 ((p : Int) + 1))
      unfold RMacP
      rw [HSTP.out]
      have hrm := HRV.out.foot l0
      have ht5 : V.ownsRow (b + 1) 72 2 (.slice a4 n4_ c4) (st.opn.dropLast ++ [(p, lm)]).length (rndCells (st.opn.dropLast ++ [(p, lm)])) := by rw [HN4.out]; exact HOV.out
      exact ⟨rfl, ⟨_, _, _, _, _, j0, ⟨hrm.ops, ⟨foot_own ht5 hni (stay_box l0 hfb), hni⟩, hrm.obs, hrm.kep, hrm.frs⟩⟩, HFX.out.trans (HFV.out.trans l0)⟩
  · have hli : ¬ (1 : Int) < (lm : Int) + 1 := by omega
    have HSTP := HST2 hl
    go_wp2_with (at_builtin; refine Lib.wpList_append_run _ rfl _ _ _ _ rfl _ _ rfl rfl _ _ HR2.out ?_)
    refine bodyPost_ret (v := .int .i64 0) (by simp [results, Tryd.results12, go_sem]) rfl ?_
    obtain ⟨j0, l0⟩ := box_set HBW.out 2 (.slice a2 tm c2)
    obtain ⟨j1, l1⟩ := box_set j0 1 (.int .i64 ((pc : Int) + 1))
    unfold RMacP
    rw [HSTP.out]
    have hft := (Foot.below HBW2.out [b]).trans (l0.trans l1)
    have hrm := HRMX.out.foot hft
    exact ⟨rfl, ⟨_, _, _, _, _, j1, ⟨hrm.ops, ⟨foot_own (own_mono HO2.out (by omega)) (own_notin HO2.out (fun x hx => by have := hfX x hx; omega)) (stay_box (l0.trans l1) hfb), own_notin HO2.out (fun x hx => by have := hfX x hx; omega)⟩, hrm.obs, hrm.kep, hrm.frs⟩⟩, HFX.out.trans hft⟩
end Go.Proofs.YtjmkfcgnadpbaaaDoor
