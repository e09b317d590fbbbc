/- Walk of the reference's machine: a loop of turns -/
import Derived.Test.YtjmkfcgnadpbaaaDoorM9
import Derived.Test.YtjmkfcgnadpbaaaDoorRmAJ
import Derived.Test.YtjmkfcgnadpbaaaDoorRsMJ
namespace Go.Proofs.YtjmkfcgnadpbaaaDoor
open Go.RowKit Go.Maps

set_option maxHeartbeats 8000000 in
set_option maxRecDepth 100000 in
theorem rst_loop1 (b : Nat) (Fb : Nat → Prop) (qs : List Pq) (st : Ms) (w : World) (HM : Hid (RMac w b Fb qs st)) (HBK : Hid (Book qs)) (HW : Hid (Way qs st)) (hk : (qs.getD st.pc pq0).kind = 12) (hz : ¬ (qs.getD st.pc pq0).a = 0) :
    Calls Tryd.prog 12 #[.pointer (some ⟨b, 0, none⟩)] w fun e w' => RMacP b Fb qs st (stepM qs st) w e w' := by
  obtain ⟨vl, vt, vo, vs, vf, hm1, hm2⟩ := HM.out
  have E := box_eight hm1
  have h0 := HW.out.on
  obtain ⟨pc, HPC⟩ : ∃ p, Hid (st.pc = p) := ⟨_, (rfl : _ = _)⟩
  obtain ⟨⟨W0, hq0, hqb, hql⟩, hfb, hfbl⟩ := hm2.ops
  have HRQ : Hid (RdQ w vl qs) := hq0.on hqb
  obtain ⟨n, HN⟩ : ∃ n, Hid (qs.length = n) := ⟨_, (rfl : _ = _)⟩
  obtain ⟨qa_, qc_, hvl, hol, hoc⟩ := hq0.shape
  rw [HN.out] at hvl hol h0
  subst hvl
  rw [HPC.out] at h0 hk E
  obtain ⟨q, HX⟩ : ∃ q, Hid (qs.getD pc pq0 = q) := ⟨_, (rfl : _ = _)⟩
  obtain ⟨g, o, pua, pum, puc, rfl, hg, OC, HU, HMU⟩ := hq0.at h0 HX
  have hgw : g < w.heap.size := Nat.lt_of_lt_of_le hg hqb.size
  have HUN : Hid (RdPn Fb w (.slice pua pum puc) q.ps) := @Go.Proofs.YtjmkfcgnadpbaaaDoor.NI.rdP_of ⟨⟨Fb⟩⟩ _ _ _ _ HU.out hqb hql
  obtain ⟨c0, c1, c2, c3, c4, c5, c6, c7, c8⟩ := OC.on hg hqb
  rw [HX.out] at hk
  have hki : (pc : Int) < (n : Int) := by omega
  have hki0 : (0 : Int) ≤ (pc : Int) := by omega
  have hns : (n : Int) ≤ 9223372036854775807 := by omega
  obtain ⟨kd, qid, qa, qb, qc, qd, qw, qh, qp⟩ := q
  simp only at c0 c1 c2 c3 c4 c5 c6 c7 c8 hk HUN HMU
  subst hk
  obtain ⟨hqa0, hqa9⟩ := op_loop _ (op_ok_at HBK.out (by rw [HN.out]; exact h0) HX.out) rfl
  have hqne : ¬ qa = 0 := by rw [HPC.out, HX.out] at hz; exact hz
  simp only at hqa0 hqa9
  obtain ⟨tt, rfl⟩ : ∃ t : Nat, qa = (t : Int) := ⟨qa.toNat, by omega⟩
  have HQZ := hid_of2 hqne
  obtain ⟨ta, tc, hvt⟩ := own_any hm2.trn.1
  subst hvt
  obtain ⟨tn, HTN⟩ : ∃ n, Hid (st.opn.length = n) := ⟨_, (rfl : _ = _)⟩
  have htn : st.opn.length ≤ 1000 := by
    have h1 := HW.out.deep
    have h2 := HBK.out.high st.pc (by have := HW.out.on; omega)
    omega
  rw [HTN.out] at E
  have HSTP : Hid (stepM qs st = .inl { st with pc := pc + 1, opn := st.opn ++ [(pc, tt)] }) := by
    unfold Hid
    rw [stepM_not (by rw [HPC.out, HX.out]; simp)]
    rw [HPC.out, HX.out]
    have hz2 : ¬ tt = 0 := by omega
    simp [doM, HPC.out, hz2]
  clear hz hqne
  have HBX := hid_of2 hm1
  have HRM := hid_of2 hm2
  have HOPB := hid_of2 (op_ok_at HBK.out (by rw [HN.out]; exact h0) HX.out)
  clear hm1 hm2 hq0 hqb HU OC
  have KEEP : Hid (∀ w', Below w.heap.size w w' → w'.cell? ⟨b, 0, none⟩ = some (.slice (some ⟨g, o, none⟩) n qc_) ∧ w'.cell? ⟨b, 1, none⟩ = some (.int .i64 (pc : Int)) ∧ w'.cell? ⟨g, o + pc * 9, none⟩ = some (.int .i64 12) ∧ w'.cell? ⟨g, o + pc * 9 + 1, none⟩ = some (.int .i64 qid) ∧ w'.cell? ⟨g, o + pc * 9 + 2, none⟩ = some (.int .i64 (tt : Int)) ∧ w'.cell? ⟨g, o + pc * 9 + 3, none⟩ = some (.int .i64 qb) ∧ w'.cell? ⟨g, o + pc * 9 + 4, none⟩ = some (.int .i64 qc) ∧ w'.cell? ⟨g, o + pc * 9 + 5, none⟩ = some (.int .i64 qd) ∧ w'.cell? ⟨g, o + pc * 9 + 6, none⟩ = some (.int .i64 qw) ∧ w'.cell? ⟨g, o + pc * 9 + 7, none⟩ = some (.int .i64 qh) ∧ w'.cell? ⟨g, o + pc * 9 + 8, none⟩ = some (.slice pua pum puc)) := by
    intro w' h
    refine ⟨?_, ?_, ?_, ?_, ?_, ?_, ?_, ?_, ?_, ?_, ?_⟩
    · rw [h.cell (p := ⟨b, 0, none⟩) E.lt]; exact E.c0
    · rw [h.cell (p := ⟨b, 1, none⟩) E.lt]; exact E.c1
    · rw [h.cell (p := ⟨g, o + pc * 9, none⟩) hgw]; exact c0
    · rw [h.cell (p := ⟨g, o + pc * 9 + 1, none⟩) hgw]; exact c1
    · rw [h.cell (p := ⟨g, o + pc * 9 + 2, none⟩) hgw]; exact c2
    · rw [h.cell (p := ⟨g, o + pc * 9 + 3, none⟩) hgw]; exact c3
    · rw [h.cell (p := ⟨g, o + pc * 9 + 4, none⟩) hgw]; exact c4
    · rw [h.cell (p := ⟨g, o + pc * 9 + 5, none⟩) hgw]; exact c5
    · rw [h.cell (p := ⟨g, o + pc * 9 + 6, none⟩) hgw]; exact c6
    · rw [h.cell (p := ⟨g, o + pc * 9 + 7, none⟩) hgw]; exact c7
    · rw [h.cell (p := ⟨g, o + pc * 9 + 8, none⟩) hgw]; exact c8
  go_enter Tryd.func12, Tryd.ntmps12
  go_wp2_with fail
  refine wp_region_held_drew (S := (fun w' => w'.cell? ⟨b, 0, none⟩ = some (.slice (some ⟨g, o, none⟩) n qc_) ∧ w'.cell? ⟨b, 1, none⟩ = some (.int .i64 (pc : Int)) ∧ w'.cell? ⟨g, o + pc * 9, none⟩ = some (.int .i64 12) ∧ w'.cell? ⟨g, o + pc * 9 + 1, none⟩ = some (.int .i64 qid) ∧ w'.cell? ⟨g, o + pc * 9 + 2, none⟩ = some (.int .i64 (tt : Int)) ∧ w'.cell? ⟨g, o + pc * 9 + 3, none⟩ = some (.int .i64 qb) ∧ w'.cell? ⟨g, o + pc * 9 + 4, none⟩ = some (.int .i64 qc) ∧ w'.cell? ⟨g, o + pc * 9 + 5, none⟩ = some (.int .i64 qd) ∧ w'.cell? ⟨g, o + pc * 9 + 6, none⟩ = some (.int .i64 qw) ∧ w'.cell? ⟨g, o + pc * 9 + 7, none⟩ = some (.int .i64 qh) ∧ w'.cell? ⟨g, o + pc * 9 + 8, none⟩ = some (.slice pua pum puc))) (by kernel_rfl) ?_ (fun hHeld => ?_)
  · exact KEEP.out _ (Below.refl _ _).drew
  refine tk (v := ?_) 0 rfl (by kernel_rfl) (by rfl) ?_ ?_
  rotate_left
  · (intro w hSw; (try dsimp only at hSw); go_simp; try with_reducible rfl)
  refine tk (v := ?_) 1 rfl (by kernel_rfl) (by rfl) ?_ ?_
  rotate_left
  · (intro w hSw; (try dsimp only at hSw); go_simp; try with_reducible rfl)
  refine tk (v := ?_) 2 rfl (by kernel_rfl) (by rfl) ?_ ?_
  rotate_left
  · (intro w hSw; (try dsimp only at hSw); go_simp; try with_reducible rfl)
  refine tk (v := ?_) 3 rfl (by kernel_rfl) (by rfl) ?_ ?_
  rotate_left
  · (intro w hSw; (try dsimp only at hSw); go_simp; try with_reducible rfl)
  refine tk (v := ?_) 4 rfl (by kernel_rfl) (by rfl) ?_ ?_
  rotate_left
  · (intro w hSw; (try dsimp only at hSw); go_simp; try with_reducible rfl)
  refine tk (v := ?_) 5 rfl (by kernel_rfl) (by rfl) ?_ ?_
  rotate_left
  · (intro w hSw; (try dsimp only at hSw); go_simp; try with_reducible rfl)
  refine tk (v := ?_) 6 rfl (by kernel_rfl) (by rfl) ?_ ?_
  rotate_left
  · (intro w hSw; (try dsimp only at hSw); go_simp; try with_reducible rfl)
  refine tk (v := ?_) 7 rfl (by kernel_rfl) (by rfl) ?_ ?_
  rotate_left
  · (intro w hSw; (try dsimp only at hSw); go_simp; try with_reducible rfl)
  refine tk (v := ?_) 8 rfl (by kernel_rfl) (by rfl) ?_ ?_
  rotate_left
  · (intro w hSw; (try dsimp only at hSw); go_simp; try with_reducible rfl)
  refine tk (v := ?_) 9 rfl (by kernel_rfl) (by rfl) ?_ ?_
  rotate_left
  · (intro w hSw; (try dsimp only at hSw); go_simp; try with_reducible rfl)
  refine wpAnyH_ready (rs := [10]) (by kernel_rfl) (by simp) ?_
  refine AllReadyH.cons rfl (fun K_ hK => ?_) AllReadyH.nil
  go_simp
  have hbx0 : Below w.heap.size w (w.drew.alloc (.cells #[.int .i64 0, .int .i64 0, .int .i64 0, .int .i64 0, .int .i64 0, .int .i64 0, .int .i64 0, .int .i64 0, .slice none 0 0] 51)) := (Below.refl _ _).drew.alloc (by simp) _
  refine hK.out _ _ ?_ (fun hHeld => ?_)
  · exact KEEP.out _ hbx0
  clear hK K_
  refine wpAnyH_ready (rs := [11]) (by kernel_rfl) (by simp) ?_
  refine AllReadyH.cons rfl (fun K_ hK => ?_) AllReadyH.nil
  go_simp
  have hbx1 : Below w.heap.size w ((w.alloc (.cells #[.int .i64 12, .int .i64 qid, .int .i64 (tt : Int), .int .i64 qb, .int .i64 qc, .int .i64 qd, .int .i64 qw, .int .i64 qh, .slice pua pum puc] 51)).drew) := ((Below.refl _ _).alloc (Nat.le_refl _) _).drew
  refine hK.out _ _ ?_ (fun hHeld => ?_)
  · exact KEEP.out _ hbx1
  clear hK K_
  refine wpAnyH_done (by kernel_rfl) ?_ _
  obtain ⟨ho, HHB⟩ : ∃ h, Hid (w.heap.size = h) := ⟨_, (rfl : _ = _)⟩
  obtain ⟨X, HX1⟩ : ∃ X, Hid (((w.alloc (.cells #[.int .i64 12, .int .i64 qid, .int .i64 (tt : Int), .int .i64 qb, .int .i64 qc, .int .i64 qd, .int .i64 qw, .int .i64 qh, .slice pua pum puc] 51)).drew) = X) := ⟨_, (rfl : _ = _)⟩
  have NX : Nine X ho (.int .i64 12) (.int .i64 qid) (.int .i64 (tt : Int)) (.int .i64 qb) (.int .i64 qc) (.int .i64 qd) (.int .i64 qw) (.int .i64 qh) (.slice pua pum puc) := by
    rw [← HX1.out, ← HHB.out]
    exact (nine_start w _ _ _ _ _ _ _ _ _ 51 w.heap.size rfl).drew
  have hbX : Below w.heap.size w X := by rw [← HX1.out]; exact hbx1
  rw [HX1.out, HHB.out]
  have HBXX := hid_of2 (own_on2 HBX.out hbX)
  have HRMX := hid_of2 (HRM.out.foot (Foot.below hbX _))
  have HUX := hid_of2 (foot_rdP HUN.out (stay_box (Foot.below hbX [b]) hfb))
  have hfX : ∀ x, Fb x → x < X.heap.size := fun x hx => Nat.lt_of_lt_of_le (hfbl x hx) hbX.size
  have HFX := hid_of2 (Foot.below hbX [b])
  have hbh : b < ho := by rw [← HHB.out]; exact E.lt
  have hXs : ho < X.heap.size := NX.lt
  have EX := E.on hbX
  obtain ⟨m0, m1, m2, m3, m4, m5, m6, m7, mf0, mf1, mf2, mf3, mf4, mf5, mf6, mf7, mlt⟩ := EX
  obtain ⟨k0, k1, k2, k3, k4, k5, k6, k7, k8, -, -, -, -, -, -, -, -, -, -⟩ := NX
  clear hbx0 hbx1 HX1 KEEP c0 c1 c2 c3 c4 c5 c6 c7 c8 hbX E HM hHeld
  have hqz : ((tt : Int) == 0) = false := by have := HQZ.out; simpa using this
  have HTR : Hid (X.drew.ownsRow (b + 1) 72 2 (.slice ta tn tc) st.opn.length (rndCells st.opn)) := by
    have := HRMX.out.trn.1.drew
    rw [HTN.out] at this ⊢
    exact this
  rw [HTN.out] at HBXX HRMX
  have hbX1 : b + 1 ≤ X.heap.size := by omega
  have KEEP : Hid (∀ w', Below X.heap.size X w' → w'.cell? ⟨b, 1, none⟩ = some (.int .i64 (pc : Int)) ∧ w'.cell? ⟨ho, 2, none⟩ = some (.int .i64 (tt : Int))) := by
    intro w' h
    refine ⟨?_, ?_⟩
    · rw [h.cell (p := ⟨b, 1, none⟩) mlt]; exact m1
    · rw [h.cell (p := ⟨ho, 2, none⟩) hXs]; exact k2
  go_wp2_with fail
  refine wp_region_held_drew (S := (fun w' => w'.cell? ⟨b, 1, none⟩ = some (.int .i64 (pc : Int)) ∧ w'.cell? ⟨ho, 2, none⟩ = some (.int .i64 (tt : Int)))) (by kernel_rfl) ?_ (fun hHeld => ?_)
  · exact KEEP.out _ (Below.refl _ _).drew
  refine tk (v := ?_) 0 rfl (by kernel_rfl) (by rfl) ?_ ?_
  rotate_left
  · (intro w hSw; (try dsimp only at hSw); go_simp; try with_reducible rfl)
  refine tk (v := ?_) 1 rfl (by kernel_rfl) (by rfl) ?_ ?_
  rotate_left
  · (intro w hSw; (try dsimp only at hSw); go_simp; try with_reducible rfl)
  refine tk (v := ?_) 2 rfl (by kernel_rfl) (by rfl) ?_ ?_
  rotate_left
  · (intro w hSw; (try dsimp only at hSw); go_simp; try with_reducible rfl)
  refine tk (v := ?_) 3 rfl (by kernel_rfl) (by rfl) ?_ ?_
  rotate_left
  · (intro w hSw; (try dsimp only at hSw); go_simp; try with_reducible rfl)
  refine tk (v := ?_) 6 rfl (by kernel_rfl) (by rfl) ?_ ?_
  rotate_left
  · (intro w hSw; (try dsimp only at hSw); go_simp; try with_reducible rfl)
  refine tk (v := ?_) 7 rfl (by kernel_rfl) (by rfl) ?_ ?_
  rotate_left
  · (intro w hSw; (try dsimp only at hSw); go_simp; try with_reducible rfl)
  refine tk (v := ?_) 8 rfl (by kernel_rfl) (by rfl) ?_ ?_
  rotate_left
  · (intro w hSw; (try dsimp only at hSw); go_simp; try with_reducible rfl)
  refine tk (v := ?_) 9 rfl (by kernel_rfl) (by rfl) ?_ ?_
  rotate_left
  · (intro w hSw; (try dsimp only at hSw); go_simp; try with_reducible rfl)
  refine tk (v := ?_) 10 rfl (by kernel_rfl) (by rfl) ?_ ?_
  rotate_left
  · (intro w hSw; (try dsimp only at hSw); go_simp; try with_reducible rfl)
  refine tk (v := ?_) 11 rfl (by kernel_rfl) (by rfl) ?_ ?_
  rotate_left
  · (intro w hSw; (try dsimp only at hSw); go_simp; try with_reducible rfl)
  refine tk (v := ?_) 12 rfl (by kernel_rfl) (by rfl) ?_ ?_
  rotate_left
  · (intro w hSw; (try dsimp only at hSw); go_simp; try with_reducible rfl)
  refine wpAnyH_ready (rs := [4, 13]) (by kernel_rfl) (by simp) ?_
  refine AllReadyH.cons rfl (fun K_ hK => ?_) (AllReadyH.cons rfl (fun K_ hK => ?_) AllReadyH.nil)
  · go_simp
    refine hK.out _ _ ?_ (fun hHeld => ?_)
    · exact KEEP.out _ ((Below.refl _ _).drew)
    clear hK K_
    refine wpAnyH_ready (rs := [5, 13]) (by kernel_rfl) (by simp) ?_
    refine AllReadyH.cons rfl (fun K_ hK => ?_) (AllReadyH.cons rfl (fun K_ hK => ?_) AllReadyH.nil)
    · obtain ⟨v2, w2, hr2, ho2, hb2⟩ := trn_copy (X.drew) (b + 1) (.slice ta tn tc) st.opn (HTR.out) htn
      have HR2 := hid_of2 hr2
      obtain ⟨a2, c2, hv2⟩ := own_any ho2
      subst hv2
      have hbW0 : Below X.heap.size X (X.drew) := (Below.refl _ _).drew
      have hbX2 := hbW0.trans (hb2.mono hbW0.size)
      clear hr2 hbW0
      refine ready_app rfl (.const (.slice none 0 0)) (.tmp 115) 39 rfl _ _ _ ?d3a ?d3b HR2.out ?_
      case d3a => rfl
      case d3b => rfl
      refine hK.out _ _ ?_ (fun hHeld => ?_)
      · exact KEEP.out _ hbX2
      clear hK K_
      have hbZ : Below X.heap.size X (w2.alloc (.cells #[.int .i64 (pc : Int), .int .i64 (tt : Int)] 72)) := hbX2.alloc hbX2.size _
      refine wpAnyH_ready (rs := [13]) (by kernel_rfl) (by simp) ?_
      refine AllReadyH.cons rfl (fun K_ hK => ?_) AllReadyH.nil
      go_simp
      refine hK.out _ _ ?_ (fun hHeld => ?_)
      · exact KEEP.out _ hbZ
      clear hK K_
      have hoZ := own_on2 (own_mono ho2 (show X.heap.size ≤ _ from Nat.le_refl _)) ((Below.refl _ _).alloc (Nat.le_refl _) (.cells #[.int .i64 (pc : Int), .int .i64 (tt : Int)] 72))
      have hc0 : (w2.alloc (.cells #[.int .i64 (pc : Int), .int .i64 (tt : Int)] 72)).cell? ⟨w2.heap.size, 0, none⟩ = some (.int .i64 (pc : Int)) := by simp
      have hc1 : (w2.alloc (.cells #[.int .i64 (pc : Int), .int .i64 (tt : Int)] 72)).cell? ⟨w2.heap.size, 1, none⟩ = some (.int .i64 (tt : Int)) := by simp
      obtain ⟨Z, HZ⟩ : ∃ Z, Hid (w2.alloc (.cells #[.int .i64 (pc : Int), .int .i64 (tt : Int)] 72) = Z) := ⟨_, (rfl : _ = _)⟩
      rw [HZ.out] at hbZ hoZ hc0 hc1 ⊢
      clear HZ
      obtain ⟨v4, w4, hr4, ho4, hb4⟩ := trn_app Z X.heap.size (.slice a2 st.opn.length c2) st.opn hoZ htn hbZ.size pc tt _ hc0 hc1
      have HR4 := hid_of2 hr4
      obtain ⟨a4, c4, hv4⟩ := own_any ho4
      obtain ⟨n4, HN4⟩ : ∃ n, Hid ((st.opn ++ [(pc, tt)]).length = n) := ⟨_, (rfl : _ = _)⟩
      rw [HN4.out] at hv4 ho4
      subst hv4
      have hbW4 := hbZ.trans (hb4.mono (Nat.le_refl _))
      have HO4 := hid_of2 ho4
      have HB4 := hid_of2 hbW4
      clear hr4 ho4 hb4 hbW4 hbZ hoZ hc0 hc1
      refine wpAnyH_ready (rs := [14]) (by kernel_rfl) (by simp) ?_
      refine AllReadyH.cons rfl (fun K_ hK => ?_) AllReadyH.nil
      refine ready_app rfl (.tmp 116) (.tmp 124) 39 rfl _ _ _ ?d2a ?d2b HR4.out ?_
      case d2a => rfl
      case d2b => rfl
      refine hK.out _ _ ?_ (fun hHeld => ?_)
      · exact KEEP.out _ HB4.out
      clear hK K_
      refine tk (v := ?_) 15 rfl (by kernel_rfl) (by rfl) ?_ ?_
      rotate_left
      · (intro w hSw; (try dsimp only at hSw); go_simp; try with_reducible rfl)
      refine tk (v := ?_) 16 rfl (by kernel_rfl) (by rfl) ?_ ?_
      rotate_left
      · (intro w hSw; (try dsimp only at hSw); go_simp; try with_reducible rfl)
      have hk4 := KEEP.out _ HB4.out
      have hs4 : Hid ((w4.setCell ⟨b, 2, none⟩ (.slice a4 n4 c4)).cell? ⟨b, 1, none⟩ = some (.int .i64 (pc : Int)) ∧ (w4.setCell ⟨b, 2, none⟩ (.slice a4 n4 c4)).cell? ⟨ho, 2, none⟩ = some (.int .i64 (tt : Int))) := by
        refine ⟨?_, ?_⟩
        · rw [World.cell?_setCell_other _ _ _ _ (by simp)]; exact hk4.1
        · rw [World.cell?_setCell_far _ _ _ _ (by show b ≠ ho; omega)]; exact hk4.2
      obtain ⟨p0, p1, p2, p3, p4, p5, p6, p7, pf0, pf1, pf2, pf3, pf4, pf5, pf6, pf7, plt⟩ := (box_eight HBXX.out).on HB4.out
      clear hk4
      refine wpAnyH_ready (rs := [17]) (by kernel_rfl) (by simp) ?_
      refine AllReadyH.cons rfl (fun K_ hK => ?_) AllReadyH.nil
      go_simp
      refine hK.out _ _ ?_ (fun hHeld => ?_)
      · exact hs4.out
      clear hK K_
      refine wpAnyH_done (by kernel_rfl) ?_ _
      have HBW4 := hid_of2 (own_on2 HBXX.out HB4.out)
      obtain ⟨j0, l0⟩ := box_set HBW4.out 2 (.slice a4 n4 c4)
      have HRY := hid_of2 (HRMX.out.foot ((Foot.below HB4.out [b]).trans l0))
      have hni := own_notin HO4.out hfX
      have HOY := hid_of2 (foot_own (own_mono HO4.out hbX1) hni (stay_box l0 hfb))
      have HBY := hid_of2 j0
      have HFY := hid_of2 (HFX.out.trans ((Foot.below HB4.out [b]).trans l0))
      clear j0 l0 KEEP hHeld hs4 HR4 p0 p1 p2 p3 p4 p5 p6 p7 pf0 pf1 pf2 pf3 pf4 pf5 pf6 pf7 plt k0 k1 k2 k3 k4 k5 k6 k7 k8 m0 m1 m2 m3 m4 m5 m6 m7 mf0 mf1 mf2 mf3 mf4 mf5 mf6 mf7 mlt
      obtain ⟨Y, HY⟩ : ∃ Y, Hid ((w4.setCell ⟨b, 2, none⟩ (.slice a4 n4 c4)) = Y) := ⟨_, (rfl : _ = _)⟩
      rw [HY.out] at HRY HOY HBY HFY ⊢
      obtain ⟨n0, n1, n2, n3, n4_, n5, n6, n7, nf0, nf1, nf2, nf3, nf4, nf5, nf6, nf7, nlt⟩ := box_eight HBY.out
      rw [HPC.out] at n1
      go_wp2_with fail
      refine bodyPost_ret (v := .int .i64 0) (by simp [results, Tryd.results12, go_sem]) rfl ?_
      obtain ⟨j0, l0⟩ := box_set HBY.out 1 (.int .i64 ((pc : Int) + 1))
      unfold RMacP
      rw [HSTP.out]
      have hrm := HRY.out.foot l0
      have ht5 : Y.ownsRow (b + 1) 72 2 (.slice a4 n4 c4) (st.opn ++ [(pc, tt)]).length (rndCells (st.opn ++ [(pc, tt)])) := by rw [HN4.out]; exact HOY.out
      exact ⟨rfl, ⟨_, _, _, _, _, j0, ⟨hrm.ops, ⟨foot_own ht5 hni (stay_box l0 hfb), hni⟩, hrm.obs, hrm.kep, hrm.frs⟩⟩, (HFY.out).trans l0⟩
    · go_simp
      refine hK.out _ _ ?_ (fun hHeld => ?_)
      · exact KEEP.out _ ((Below.refl X.heap.size X).drew.alloc (show X.heap.size ≤ X.drew.heap.size from Nat.le_refl _) (.cells #[.int .i64 (pc : Int), .int .i64 (tt : Int)] 72))
      clear hK K_
      obtain ⟨v2, w2, hr2, ho2, hb2⟩ := trn_copy (X.drew.alloc (.cells #[.int .i64 (pc : Int), .int .i64 (tt : Int)] 72)) (b + 1) (.slice ta tn tc) st.opn (own_on2 HTR.out ((Below.refl _ _).alloc (Nat.le_refl _) _)) htn
      have HR2 := hid_of2 hr2
      obtain ⟨a2, c2, hv2⟩ := own_any ho2
      subst hv2
      have hbW0 : Below X.heap.size X (X.drew.alloc (.cells #[.int .i64 (pc : Int), .int .i64 (tt : Int)] 72)) := (Below.refl X.heap.size X).drew.alloc (show X.heap.size ≤ X.drew.heap.size from Nat.le_refl _) (.cells #[.int .i64 (pc : Int), .int .i64 (tt : Int)] 72)
      have hbX2 := hbW0.trans (hb2.mono hbW0.size)
      clear hr2 hbW0
      refine wpAnyH_ready (rs := [5]) (by kernel_rfl) (by simp) ?_
      refine AllReadyH.cons rfl (fun K_ hK => ?_) AllReadyH.nil
      refine ready_app rfl (.const (.slice none 0 0)) (.tmp 115) 39 rfl _ _ _ ?d4a ?d4b HR2.out ?_
      case d4a => rfl
      case d4b => rfl
      refine hK.out _ _ ?_ (fun hHeld => ?_)
      · exact KEEP.out _ hbX2
      clear hK K_
      have hbZ := hbX2
      have hoZ := own_mono ho2 (show X.heap.size ≤ _ by simp)
      have hc0 : w2.cell? ⟨X.heap.size, 0, none⟩ = some (.int .i64 (pc : Int)) := by rw [hb2.cell (p := ⟨X.heap.size, 0, none⟩) (by simp)]; have h := new_cells X.drew [.int .i64 (pc : Int), .int .i64 (tt : Int)] 72 0 _ rfl; rw [addr_zero] at h; exact h
      have hc1 : w2.cell? ⟨X.heap.size, 1, none⟩ = some (.int .i64 (tt : Int)) := by rw [hb2.cell (p := ⟨X.heap.size, 1, none⟩) (by simp)]; have h := new_cells X.drew [.int .i64 (pc : Int), .int .i64 (tt : Int)] 72 1 _ rfl; rw [addr_zero] at h; exact h
      obtain ⟨Z, HZ⟩ : ∃ Z, Hid (w2 = Z) := ⟨_, (rfl : _ = _)⟩
      rw [HZ.out] at hbZ hoZ hc0 hc1 ⊢
      clear HZ
      obtain ⟨v4, w4, hr4, ho4, hb4⟩ := trn_app Z X.heap.size (.slice a2 st.opn.length c2) st.opn hoZ htn hbZ.size pc tt _ hc0 hc1
      have HR4 := hid_of2 hr4
      obtain ⟨a4, c4, hv4⟩ := own_any ho4
      obtain ⟨n4, HN4⟩ : ∃ n, Hid ((st.opn ++ [(pc, tt)]).length = n) := ⟨_, (rfl : _ = _)⟩
      rw [HN4.out] at hv4 ho4
      subst hv4
      have hbW4 := hbZ.trans (hb4.mono (Nat.le_refl _))
      have HO4 := hid_of2 ho4
      have HB4 := hid_of2 hbW4
      clear hr4 ho4 hb4 hbW4 hbZ hoZ hc0 hc1
      refine wpAnyH_ready (rs := [14]) (by kernel_rfl) (by simp) ?_
      refine AllReadyH.cons rfl (fun K_ hK => ?_) AllReadyH.nil
      refine ready_app rfl (.tmp 116) (.tmp 124) 39 rfl _ _ _ ?d5a ?d5b HR4.out ?_
      case d5a => rfl
      case d5b => rfl
      refine hK.out _ _ ?_ (fun hHeld => ?_)
      · exact KEEP.out _ HB4.out
      clear hK K_
      refine tk (v := ?_) 15 rfl (by kernel_rfl) (by rfl) ?_ ?_
      rotate_left
      · (intro w hSw; (try dsimp only at hSw); go_simp; try with_reducible rfl)
      refine tk (v := ?_) 16 rfl (by kernel_rfl) (by rfl) ?_ ?_
      rotate_left
      · (intro w hSw; (try dsimp only at hSw); go_simp; try with_reducible rfl)
      have hk4 := KEEP.out _ HB4.out
      have hs4 : Hid ((w4.setCell ⟨b, 2, none⟩ (.slice a4 n4 c4)).cell? ⟨b, 1, none⟩ = some (.int .i64 (pc : Int)) ∧ (w4.setCell ⟨b, 2, none⟩ (.slice a4 n4 c4)).cell? ⟨ho, 2, none⟩ = some (.int .i64 (tt : Int))) := by
        refine ⟨?_, ?_⟩
        · rw [World.cell?_setCell_other _ _ _ _ (by simp)]; exact hk4.1
        · rw [World.cell?_setCell_far _ _ _ _ (by show b ≠ ho; omega)]; exact hk4.2
      obtain ⟨p0, p1, p2, p3, p4, p5, p6, p7, pf0, pf1, pf2, pf3, pf4, pf5, pf6, pf7, plt⟩ := (box_eight HBXX.out).on HB4.out
      clear hk4
      refine wpAnyH_ready (rs := [17]) (by kernel_rfl) (by simp) ?_
      refine AllReadyH.cons rfl (fun K_ hK => ?_) AllReadyH.nil
      go_simp
      refine hK.out _ _ ?_ (fun hHeld => ?_)
      · exact hs4.out
      clear hK K_
      refine wpAnyH_done (by kernel_rfl) ?_ _
      have HBW4 := hid_of2 (own_on2 HBXX.out HB4.out)
      obtain ⟨j0, l0⟩ := box_set HBW4.out 2 (.slice a4 n4 c4)
      have HRY := hid_of2 (HRMX.out.foot ((Foot.below HB4.out [b]).trans l0))
      have hni := own_notin HO4.out hfX
      have HOY := hid_of2 (foot_own (own_mono HO4.out hbX1) hni (stay_box l0 hfb))
      have HBY := hid_of2 j0
      have HFY := hid_of2 (HFX.out.trans ((Foot.below HB4.out [b]).trans l0))
      clear j0 l0 KEEP hHeld hs4 HR4 p0 p1 p2 p3 p4 p5 p6 p7 pf0 pf1 pf2 pf3 pf4 pf5 pf6 pf7 plt k0 k1 k2 k3 k4 k5 k6 k7 k8 m0 m1 m2 m3 m4 m5 m6 m7 mf0 mf1 mf2 mf3 mf4 mf5 mf6 mf7 mlt
      obtain ⟨Y, HY⟩ : ∃ Y, Hid ((w4.setCell ⟨b, 2, none⟩ (.slice a4 n4 c4)) = Y) := ⟨_, (rfl : _ = _)⟩
      rw [HY.out] at HRY HOY HBY HFY ⊢
      obtain ⟨n0, n1, n2, n3, n4_, n5, n6, n7, nf0, nf1, nf2, nf3, nf4, nf5, nf6, nf7, nlt⟩ := box_eight HBY.out
      rw [HPC.out] at n1
      go_wp2_with fail
      refine bodyPost_ret (v := .int .i64 0) (by simp [results, Tryd.results12, go_sem]) rfl ?_
      obtain ⟨j0, l0⟩ := box_set HBY.out 1 (.int .i64 ((pc : Int) + 1))
      unfold RMacP
      rw [HSTP.out]
      have hrm := HRY.out.foot l0
      have ht5 : Y.ownsRow (b + 1) 72 2 (.slice a4 n4 c4) (st.opn ++ [(pc, tt)]).length (rndCells (st.opn ++ [(pc, tt)])) := by rw [HN4.out]; exact HOY.out
      exact ⟨rfl, ⟨_, _, _, _, _, j0, ⟨hrm.ops, ⟨foot_own ht5 hni (stay_box l0 hfb), hni⟩, hrm.obs, hrm.kep, hrm.frs⟩⟩, (HFY.out).trans l0⟩
  · go_simp
    refine hK.out _ _ ?_ (fun hHeld => ?_)
    · exact KEEP.out _ ((Below.refl X.heap.size X).drew.alloc (show X.heap.size ≤ X.drew.heap.size from Nat.le_refl _) (.cells #[.int .i64 (pc : Int), .int .i64 (tt : Int)] 72))
    clear hK K_
    refine wpAnyH_ready (rs := [4]) (by kernel_rfl) (by simp) ?_
    refine AllReadyH.cons rfl (fun K_ hK => ?_) AllReadyH.nil
    go_simp
    refine hK.out _ _ ?_ (fun hHeld => ?_)
    · exact KEEP.out _ ((Below.refl X.heap.size X).drew.alloc (show X.heap.size ≤ X.drew.heap.size from Nat.le_refl _) (.cells #[.int .i64 (pc : Int), .int .i64 (tt : Int)] 72))
    clear hK K_
    obtain ⟨v2, w2, hr2, ho2, hb2⟩ := trn_copy (X.drew.alloc (.cells #[.int .i64 (pc : Int), .int .i64 (tt : Int)] 72)) (b + 1) (.slice ta tn tc) st.opn (own_on2 HTR.out ((Below.refl _ _).alloc (Nat.le_refl _) _)) htn
    have HR2 := hid_of2 hr2
    obtain ⟨a2, c2, hv2⟩ := own_any ho2
    subst hv2
    have hbW0 : Below X.heap.size X (X.drew.alloc (.cells #[.int .i64 (pc : Int), .int .i64 (tt : Int)] 72)) := (Below.refl X.heap.size X).drew.alloc (show X.heap.size ≤ X.drew.heap.size from Nat.le_refl _) (.cells #[.int .i64 (pc : Int), .int .i64 (tt : Int)] 72)
    have hbX2 := hbW0.trans (hb2.mono hbW0.size)
    clear hr2 hbW0
    refine wpAnyH_ready (rs := [5]) (by kernel_rfl) (by simp) ?_
    refine AllReadyH.cons rfl (fun K_ hK => ?_) AllReadyH.nil
    refine ready_app rfl (.const (.slice none 0 0)) (.tmp 115) 39 rfl _ _ _ ?d6a ?d6b HR2.out ?_
    case d6a => rfl
    case d6b => rfl
    refine hK.out _ _ ?_ (fun hHeld => ?_)
    · exact KEEP.out _ hbX2
    clear hK K_
    have hbZ := hbX2
    have hoZ := own_mono ho2 (show X.heap.size ≤ _ by simp)
    have hc0 : w2.cell? ⟨X.heap.size, 0, none⟩ = some (.int .i64 (pc : Int)) := by rw [hb2.cell (p := ⟨X.heap.size, 0, none⟩) (by simp)]; have h := new_cells X.drew [.int .i64 (pc : Int), .int .i64 (tt : Int)] 72 0 _ rfl; rw [addr_zero] at h; exact h
    have hc1 : w2.cell? ⟨X.heap.size, 1, none⟩ = some (.int .i64 (tt : Int)) := by rw [hb2.cell (p := ⟨X.heap.size, 1, none⟩) (by simp)]; have h := new_cells X.drew [.int .i64 (pc : Int), .int .i64 (tt : Int)] 72 1 _ rfl; rw [addr_zero] at h; exact h
    obtain ⟨Z, HZ⟩ : ∃ Z, Hid (w2 = Z) := ⟨_, (rfl : _ = _)⟩
    rw [HZ.out] at hbZ hoZ hc0 hc1 ⊢
    clear HZ
    obtain ⟨v4, w4, hr4, ho4, hb4⟩ := trn_app Z X.heap.size (.slice a2 st.opn.length c2) st.opn hoZ htn hbZ.size pc tt _ hc0 hc1
    have HR4 := hid_of2 hr4
    obtain ⟨a4, c4, hv4⟩ := own_any ho4
    obtain ⟨n4, HN4⟩ : ∃ n, Hid ((st.opn ++ [(pc, tt)]).length = n) := ⟨_, (rfl : _ = _)⟩
    rw [HN4.out] at hv4 ho4
    subst hv4
    have hbW4 := hbZ.trans (hb4.mono (Nat.le_refl _))
    have HO4 := hid_of2 ho4
    have HB4 := hid_of2 hbW4
    clear hr4 ho4 hb4 hbW4 hbZ hoZ hc0 hc1
    refine wpAnyH_ready (rs := [14]) (by kernel_rfl) (by simp) ?_
    refine AllReadyH.cons rfl (fun K_ hK => ?_) AllReadyH.nil
    refine ready_app rfl (.tmp 116) (.tmp 124) 39 rfl _ _ _ ?d7a ?d7b HR4.out ?_
    case d7a => rfl
    case d7b => rfl
    refine hK.out _ _ ?_ (fun hHeld => ?_)
    · exact KEEP.out _ HB4.out
    clear hK K_
    refine tk (v := ?_) 15 rfl (by kernel_rfl) (by rfl) ?_ ?_
    rotate_left
    · (intro w hSw; (try dsimp only at hSw); go_simp; try with_reducible rfl)
    refine tk (v := ?_) 16 rfl (by kernel_rfl) (by rfl) ?_ ?_
    rotate_left
    · (intro w hSw; (try dsimp only at hSw); go_simp; try with_reducible rfl)
    have hk4 := KEEP.out _ HB4.out
    have hs4 : Hid ((w4.setCell ⟨b, 2, none⟩ (.slice a4 n4 c4)).cell? ⟨b, 1, none⟩ = some (.int .i64 (pc : Int)) ∧ (w4.setCell ⟨b, 2, none⟩ (.slice a4 n4 c4)).cell? ⟨ho, 2, none⟩ = some (.int .i64 (tt : Int))) := by
      refine ⟨?_, ?_⟩
      · rw [World.cell?_setCell_other _ _ _ _ (by simp)]; exact hk4.1
      · rw [World.cell?_setCell_far _ _ _ _ (by show b ≠ ho; omega)]; exact hk4.2
    obtain ⟨p0, p1, p2, p3, p4, p5, p6, p7, pf0, pf1, pf2, pf3, pf4, pf5, pf6, pf7, plt⟩ := (box_eight HBXX.out).on HB4.out
    clear hk4
    refine wpAnyH_ready (rs := [17]) (by kernel_rfl) (by simp) ?_
    refine AllReadyH.cons rfl (fun K_ hK => ?_) AllReadyH.nil
    go_simp
    refine hK.out _ _ ?_ (fun hHeld => ?_)
    · exact hs4.out
    clear hK K_
    refine wpAnyH_done (by kernel_rfl) ?_ _
    have HBW4 := hid_of2 (own_on2 HBXX.out HB4.out)
    obtain ⟨j0, l0⟩ := box_set HBW4.out 2 (.slice a4 n4 c4)
    have HRY := hid_of2 (HRMX.out.foot ((Foot.below HB4.out [b]).trans l0))
    have hni := own_notin HO4.out hfX
    have HOY := hid_of2 (foot_own (own_mono HO4.out hbX1) hni (stay_box l0 hfb))
    have HBY := hid_of2 j0
    have HFY := hid_of2 (HFX.out.trans ((Foot.below HB4.out [b]).trans l0))
    clear j0 l0 KEEP hHeld hs4 HR4 p0 p1 p2 p3 p4 p5 p6 p7 pf0 pf1 pf2 pf3 pf4 pf5 pf6 pf7 plt k0 k1 k2 k3 k4 k5 k6 k7 k8 m0 m1 m2 m3 m4 m5 m6 m7 mf0 mf1 mf2 mf3 mf4 mf5 mf6 mf7 mlt
    obtain ⟨Y, HY⟩ : ∃ Y, Hid ((w4.setCell ⟨b, 2, none⟩ (.slice a4 n4 c4)) = Y) := ⟨_, (rfl : _ = _)⟩
    rw [HY.out] at HRY HOY HBY HFY ⊢
    obtain ⟨n0, n1, n2, n3, n4_, n5, n6, n7, nf0, nf1, nf2, nf3, nf4, nf5, nf6, nf7, nlt⟩ := box_eight HBY.out
    rw [HPC.out] at n1
    go_wp2_with fail
    refine bodyPost_ret (v := .int .i64 0) (by simp [results, Tryd.results12, go_sem]) rfl ?_
    obtain ⟨j0, l0⟩ := box_set HBY.out 1 (.int .i64 ((pc : Int) + 1))
    unfold RMacP
    rw [HSTP.out]
    have hrm := HRY.out.foot l0
    have ht5 : Y.ownsRow (b + 1) 72 2 (.slice a4 n4 c4) (st.opn ++ [(pc, tt)]).length (rndCells (st.opn ++ [(pc, tt)])) := by rw [HN4.out]; exact HOY.out
    exact ⟨rfl, ⟨_, _, _, _, _, j0, ⟨hrm.ops, ⟨foot_own ht5 hni (stay_box l0 hfb), hni⟩, hrm.obs, hrm.kep, hrm.frs⟩⟩, (HFY.out).trans l0⟩
end Go.Proofs.YtjmkfcgnadpbaaaDoor
