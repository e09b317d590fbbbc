/- Some of the walks, in one text. -/
import Derived.Test.YtjmkfcgnadpbaaaDoorM7
import Derived.Maps.OwnOps
/- Walk of a machine: tell. -/
namespace Go.Proofs.YtjmkfcgnadpbaaaDoor
open Go.RowKit Go.Maps

/-- a wait -/
def tellM (qs : List Pq) (s : Ms) (d : Int) : Ms ⊕ Nat := if 40 ≤ s.frs.length then .inr 7 else .inl { s with frs := s.frs ++ [tellF qs s d] }

set_option maxHeartbeats 8000000 in
set_option maxRecDepth 100000 in
theorem mtell_any (B b : Nat) (F : List Nat) (qs : List Pq) (st : Ms) (w : World) (HM : Hid (Mac w B b F qs st)) (HBK : Hid (Book qs)) (HW : Hid (Way qs st)) (dl : Int) :
    Calls Tryd.prog 40 #[.pointer (some ⟨b, 0, none⟩), .int .i64 dl] w fun e w' => MacP B b F qs st (tellM qs st dl) w e w' := by
  obtain ⟨i0, hi, hz0, hz1, hz2⟩ := info_parts Tryd.infoFr
  obtain ⟨vo, bm, vr, vb, vk, vf, hm1, hm2, hm3⟩ := HM.out
  obtain ⟨N, hB⟩ := mac_nine hm1
  obtain ⟨fv, hfr1, hfr2⟩ := hm2.frs
  have hfl : fv.length = st.frs.length := by rw [← hfr2]; simp
  obtain ⟨fm, HFM⟩ : ∃ m, Hid (st.frs.length = m) := ⟨_, (rfl : _ = _)⟩
  obtain ⟨fa, fc, hvf⟩ := own_any hfr1.1
  rw [hfl, HFM.out] at hvf
  subst hvf
  have hf40 := HW.out.frs
  rw [HFM.out] at hf40
  by_cases h40 : 40 ≤ fm
  · have h40i : (40 : Int) ≤ (fm : Int) := by omega
    obtain ⟨n0, n1, n2, n3, n4, n5, n6, n7, n8, nf0, nf1, nf2, nf3, nf4, nf5, nf6, nf7, nf8, nlt⟩ := N
    unfold MacP tellM
    rw [if_pos (by rw [HFM.out]; exact h40)]
    clear hm1 hm2 hm3 hfr1
    go_enter Tryd.func40, Tryd.ntmps40
    go_wp2_with fail
    go_ret
    exact ⟨F, rfl, HM.out, Foot.refl _ _⟩
  have h40i : ¬ (40 : Int) ≤ (fm : Int) := by omega
  have h0 : 0 < qs.length := by have := HBK.out.two; omega
  obtain ⟨hda, hdb⟩ := op_head _ (HBK.out.ok 0 h0) ((HBK.out.head 0 h0).2 rfl)
  obtain ⟨W, hWe⟩ : ∃ W : Nat, (qs.getD 0 pq0).a = (W : Int) := ⟨_, (Int.toNat_of_nonneg (by omega)).symm⟩
  obtain ⟨H, hHe⟩ : ∃ H : Nat, (qs.getD 0 pq0).b = (H : Int) := ⟨_, (Int.toNat_of_nonneg (by omega)).symm⟩
  obtain ⟨L, HSL0⟩ : ∃ L, Hid (seenL W H (st.bv, st.ba) st.obs = L) := ⟨_, (rfl : _ = _)⟩
  have HTL : Hid (tellM qs st dl = .inl { st with frs := st.frs ++ [⟨(W : Int), (H : Int), L, dl⟩] }) := by
    unfold Hid tellM tellF
    rw [if_neg (by rw [HFM.out]; exact h40), hWe, hHe, Int.toNat_natCast, Int.toNat_natCast, HSL0.out]
  have hW1 : 1 ≤ W := by omega
  have hW2 : W ≤ 8 := by omega
  have hH1 : 1 ≤ H := by omega
  have hH2 : H ≤ 8 := by omega
  have hLL : checkL (W : Int) (H : Int) L = 0 := by rw [← HSL0.out]; exact seen_check W H st.bv st.ba hW1 hW2 hH1 hH2 HW.out.bv.1 HW.out.bv.2 HW.out.ba.1 HW.out.ba.2 st.obs HW.out.obs.ok
  have hL64 := check_len _ _ _ hLL
  obtain ⟨ll, HLL⟩ : ∃ l, Hid (L.length = l) := ⟨_, (rfl : _ = _)⟩
  rw [HLL.out] at hL64
  obtain ⟨qv, hq1, hq2⟩ := hm2.ops
  have HRQ : Hid (RdQ w vo qs) := by unfold Hid; rw [← hq2]; exact hq1.rd
  obtain ⟨n, HN⟩ : ∃ n, Hid (qs.length = n) := ⟨_, (rfl : _ = _)⟩
  obtain ⟨qa_, qc_, hvo, hol, hoc⟩ := HRQ.out.shape
  rw [HN.out] at hvo hol h0
  subst hvo
  obtain ⟨q, HX⟩ : ∃ q, Hid (qs.getD 0 pq0 = q) := ⟨_, (rfl : _ = _)⟩
  rw [HX.out] at hWe hHe
  obtain ⟨g, o, pua, pum, puc, rfl, hg, OC, HU, HMU⟩ := HRQ.out.at h0 HX
  obtain ⟨c0, c1, c2, c3, c4, c5, c6, c7, c8⟩ := OC
  rw [Nat.zero_mul, Nat.add_zero] at c0 c1 c2 c3 c4 c5 c6 c7 c8
  obtain ⟨kd, qid, qa, qb, qc, qd, qw, qh, qp⟩ := q
  simp only at c0 c1 c2 c3 c4 c5 c6 c7 c8 hWe hHe
  subst hWe hHe
  obtain ⟨ov, hov1, hov2⟩ := hm2.obs
  obtain ⟨oa, oc, hvb⟩ := own_any hov1.1
  obtain ⟨on, HON⟩ : ∃ n, Hid (ov.length = n) := ⟨_, (rfl : _ = _)⟩
  rw [HON.out] at hvb
  subst hvb
  obtain ⟨bv, HBV⟩ : ∃ v, Hid (st.bv = v) := ⟨_, (rfl : _ = _)⟩
  obtain ⟨ba, HBA⟩ : ∃ v, Hid (st.ba = v) := ⟨_, (rfl : _ = _)⟩
  obtain ⟨hv1, hv2⟩ := HW.out.bv
  obtain ⟨ha1, ha2⟩ := HW.out.ba
  obtain ⟨obs, HOBS⟩ : ∃ o, Hid (st.obs = o) := ⟨_, (rfl : _ = _)⟩
  rw [HBV.out] at hv1 hv2 N
  rw [HBA.out] at ha1 ha2 N
  have HSL : Hid (seenL W H (bv, ba) obs = L) := by rw [← HBV.out, ← HBA.out, ← HOBS.out]; exact HSL0
  have hobg := HW.out.obs.good
  rw [HOBS.out] at hobg
  have hos : obs.length ≤ 1000 := by have := hobg.few; omega
  have HPS : Hid (∀ j, j < obs.length → (obs.getD j po0).ps.length ≤ 100) := fun j hj => by have := hobg.pix j hj; omega
  have HOK : Hid (∀ j, j < obs.length → (obs.getD j po0).fault' = 0) := hobg.ok
  have hbx1 : Below w.heap.size w (w.alloc (.cells #[.int .i64 kd, .int .i64 qid, .int .i64 (W : Int), .int .i64 (H : Int), .int .i64 qc, .int .i64 qd, .int .i64 qw, .int .i64 qh, .slice pua pum puc] 51)) := (Below.refl _ _).alloc (Nat.le_refl _) _
  have HOD : Hid (RdO (w.alloc (.cells #[.int .i64 kd, .int .i64 qid, .int .i64 (W : Int), .int .i64 (H : Int), .int .i64 qc, .int .i64 qd, .int .i64 qw, .int .i64 qh, .slice pua pum puc] 51)) (.slice oa on oc) obs) := by
    have := hov1.rd.on hbx1
    rw [hov2, HOBS.out] at this
    exact this
  obtain ⟨x0, x1, h2, h3, x4, x5, x6, x7, x8, xf0, xf1, xf2, xf3, xf4, xf5, xf6, xf7, xf8, hlt⟩ := nine_start w (.int .i64 kd) (.int .i64 qid) (.int .i64 (W : Int)) (.int .i64 (H : Int)) (.int .i64 qc) (.int .i64 qd) (.int .i64 qw) (.int .i64 qh) (.slice pua pum puc) 51 w.heap.size rfl
  have N1 := hid_of2 (N.on hbx1)
  obtain ⟨n0, n1, n2, n3, n4, n5, n6, n7, n8, nf0, nf1, nf2, nf3, nf4, nf5, nf6, nf7, nf8, nlt⟩ := N
  have HM2 := hid_of2 hm2
  have HM3 := hid_of2 hm3
  have HM1 := hid_of2 hm1
  have HFR := hid_of2 hfr1
  have HFV := hid_of2 hfr2
  have HFL : Hid (fv.length = fm) := by unfold Hid; rw [hfl, HFM.out]
  unfold MacP
  rw [HTL.out]
  clear hm1 hm2 hm3 hfr1 hfr2 hfl hq1 hq2 hov1 hov2 hobg hLL HRQ HU
  go_enter Tryd.func40, Tryd.ntmps40
  go_wp2_with fail
  have n4 := N1.out.c4
  have n5 := N1.out.c5
  have n6 := N1.out.c6
  have nlt1 := N1.out.lt
  have KEEP : Hid (∀ w', Below (w.alloc (.cells #[.int .i64 kd, .int .i64 qid, .int .i64 (W : Int), .int .i64 (H : Int), .int .i64 qc, .int .i64 qd, .int .i64 qw, .int .i64 qh, .slice pua pum puc] 51)).heap.size (w.alloc (.cells #[.int .i64 kd, .int .i64 qid, .int .i64 (W : Int), .int .i64 (H : Int), .int .i64 qc, .int .i64 qd, .int .i64 qw, .int .i64 qh, .slice pua pum puc] 51)) w' → w'.cell? ⟨b, 4, none⟩ = some (.int .i64 bv) ∧ w'.cell? ⟨b, 5, none⟩ = some (.int .i64 ba) ∧ w'.cell? ⟨b, 6, none⟩ = some (.slice oa on oc) ∧ w'.cell? ⟨w.heap.size, 2, none⟩ = some (.int .i64 (W : Int)) ∧ w'.cell? ⟨w.heap.size, 3, none⟩ = some (.int .i64 (H : Int))) := by
    intro w' h
    refine ⟨?_, ?_, ?_, ?_, ?_⟩
    · rw [h.cell (p := ⟨b, 4, none⟩) nlt1]; exact n4
    · rw [h.cell (p := ⟨b, 5, none⟩) nlt1]; exact n5
    · rw [h.cell (p := ⟨b, 6, none⟩) nlt1]; exact n6
    · rw [h.cell (p := ⟨w.heap.size, 2, none⟩) hlt]; exact h2
    · rw [h.cell (p := ⟨w.heap.size, 3, none⟩) hlt]; exact h3
  refine wp_region_held_drew (S := (fun w' => w'.cell? ⟨b, 4, none⟩ = some (.int .i64 bv) ∧ w'.cell? ⟨b, 5, none⟩ = some (.int .i64 ba) ∧ w'.cell? ⟨b, 6, none⟩ = some (.slice oa on oc) ∧ w'.cell? ⟨w.heap.size, 2, none⟩ = some (.int .i64 (W : Int)) ∧ w'.cell? ⟨w.heap.size, 3, none⟩ = some (.int .i64 (H : Int)))) (by kernel_rfl) ?_ (fun hHeld => ?_)
  · exact KEEP.out _ (Below.refl _ _).drew
  refine tk (v := ?_) 0 rfl (by kernel_rfl) (by rfl) ?_ ?_
  rotate_left
  · (intro w hSw; (try dsimp only at hSw); go_simp; try with_reducible rfl)
  refine tk (v := ?_) 1 rfl (by kernel_rfl) (by rfl) ?_ ?_
  rotate_left
  · (intro w hSw; (try dsimp only at hSw); go_simp; try with_reducible rfl)
  refine tk (v := ?_) 2 rfl (by kernel_rfl) (by rfl) ?_ ?_
  rotate_left
  · (intro w hSw; (try dsimp only at hSw); go_simp; try with_reducible rfl)
  refine tk (v := ?_) 3 rfl (by kernel_rfl) (by rfl) ?_ ?_
  rotate_left
  · (intro w hSw; (try dsimp only at hSw); go_simp; try with_reducible rfl)
  refine tk (v := ?_) 4 rfl (by kernel_rfl) (by rfl) ?_ ?_
  rotate_left
  · (intro w hSw; (try dsimp only at hSw); go_simp; try with_reducible rfl)
  refine tk (v := ?_) 5 rfl (by kernel_rfl) (by rfl) ?_ ?_
  rotate_left
  · (intro w hSw; (try dsimp only at hSw); go_simp; try with_reducible rfl)
  refine tk (v := ?_) 6 rfl (by kernel_rfl) (by rfl) ?_ ?_
  rotate_left
  · (intro w hSw; (try dsimp only at hSw); go_simp; try with_reducible rfl)
  refine tk (v := ?_) 7 rfl (by kernel_rfl) (by rfl) ?_ ?_
  rotate_left
  · (intro w hSw; (try dsimp only at hSw); go_simp; try with_reducible rfl)
  refine tk (v := ?_) 8 rfl (by kernel_rfl) (by rfl) ?_ ?_
  rotate_left
  · (intro w hSw; (try dsimp only at hSw); go_simp; try with_reducible rfl)
  refine tk (v := ?_) 9 rfl (by kernel_rfl) (by rfl) ?_ ?_
  rotate_left
  · (intro w hSw; (try dsimp only at hSw); go_simp; try with_reducible rfl)
  refine tk (v := ?_) 10 rfl (by kernel_rfl) (by rfl) ?_ ?_
  rotate_left
  · (intro w hSw; (try dsimp only at hSw); go_simp; try with_reducible rfl)
  refine tk (v := ?_) 11 rfl (by kernel_rfl) (by rfl) ?_ ?_
  rotate_left
  · (intro w hSw; (try dsimp only at hSw); go_simp; try with_reducible rfl)
  refine wpAnyH_ready (rs := [12, 13]) (by kernel_rfl) (by simp) ?_
  refine AllReadyH.cons rfl (fun K_ hK => ?_) (AllReadyH.cons rfl (fun K_ hK => ?_) AllReadyH.nil)
  · go_simp
    refine (seen_own _ obs W H bv ba (w.alloc (.cells #[.int .i64 kd, .int .i64 qid, .int .i64 (W : Int), .int .i64 (H : Int), .int .i64 qc, .int .i64 qd, .int .i64 qw, .int .i64 qh, .slice pua pum puc] 51)).drew hos HPS.out HOK.out (HOD.out.on ((Below.refl _ _).drew)) hW1 hW2 hH1 hH2 hv1 hv2 ha1 ha2).mono ?_
    unfold picV
    rintro e w2 ⟨u, rfl, hu, hb2⟩
    rw [HSL.out] at hu
    obtain ⟨ua, uc, hue⟩ := own_any hu
    rw [HLL.out] at hue hu
    subst hue
    have HU2 := hid_of2 hu
    have HB2 : Hid (Below (w.alloc (.cells #[.int .i64 kd, .int .i64 qid, .int .i64 (W : Int), .int .i64 (H : Int), .int .i64 qc, .int .i64 qd, .int .i64 qw, .int .i64 qh, .slice pua pum puc] 51)).heap.size (w.alloc (.cells #[.int .i64 kd, .int .i64 qid, .int .i64 (W : Int), .int .i64 (H : Int), .int .i64 qc, .int .i64 qd, .int .i64 qw, .int .i64 qh, .slice pua pum puc] 51)) w2) := ⟨hb2.os, hb2.tape, hb2.output, hb2.size, hb2.block⟩
    clear hu hb2
    refine hK.out _ _ ?_ (fun hHeld => ?_)
    · exact KEEP.out _ HB2.out
    clear hK K_
    refine wpAnyH_ready (rs := [13]) (by kernel_rfl) (by simp) ?_
    refine AllReadyH.cons rfl (fun K_ hK => ?_) AllReadyH.nil
    go_simp
    refine hK.out _ _ ?_ (fun hHeld => ?_)
    · exact KEEP.out _ (HB2.out.alloc HB2.out.size _)
    clear hK K_
    refine wpAnyH_ready (rs := [14]) (by kernel_rfl) (by simp) ?_
    refine AllReadyH.cons rfl (fun K_ hK => ?_) AllReadyH.nil
    go_simp
    refine hK.out _ _ ?_ (fun hHeld => ?_)
    · exact KEEP.out _ (HB2.out.alloc HB2.out.size _)
    clear hK K_
    have hsz2 : w.heap.size + 1 ≤ w2.heap.size := by have := HB2.out.size; simp at this; exact this
    have hbY : Below w.heap.size w (w2.alloc (.cells #[.int .i64 (W : Int), .int .i64 (H : Int), .slice ua ll uc] 49)) := (hbx1.trans (HB2.out.mono hbx1.size)).alloc (by omega) _
    have HUY : Hid ((w2.alloc (.cells #[.int .i64 (W : Int), .int .i64 (H : Int), .slice ua ll uc] 49)).ownsRow w.heap.size 42 2 (.slice ua ll uc) ll (pixCells L)) := own_mono (own_on2 HU2.out ((Below.refl _ _).alloc (Nat.le_refl _) _)) (by simp; omega)
    have p0 : (w2.alloc (.cells #[.int .i64 (W : Int), .int .i64 (H : Int), .slice ua ll uc] 49)).cell? ⟨w2.heap.size, 0, none⟩ = some (.int .i64 (W : Int)) := by simp
    have p1 : (w2.alloc (.cells #[.int .i64 (W : Int), .int .i64 (H : Int), .slice ua ll uc] 49)).cell? ⟨w2.heap.size, 1, none⟩ = some (.int .i64 (H : Int)) := by simp
    have p2 : (w2.alloc (.cells #[.int .i64 (W : Int), .int .i64 (H : Int), .slice ua ll uc] 49)).cell? ⟨w2.heap.size, 2, none⟩ = some (.slice ua ll uc) := by simp
    have plt : w2.heap.size < (w2.alloc (.cells #[.int .i64 (W : Int), .int .i64 (H : Int), .slice ua ll uc] 49)).heap.size := by simp
    clear KEEP HOD n4 n5 n6 nlt1 h2 h3 hlt x0 x1 x4 x5 x6 x7 x8 xf0 xf1 xf2 xf3 xf4 xf5 xf6 xf7 xf8 c0 c1 c2 c3 c4 c5 c6 c7 c8 HB2 HU2
    generalize w2.alloc (.cells #[.int .i64 (W : Int), .int .i64 (H : Int), .slice ua ll uc] 49) = Y at *
    refine wpAnyH_done (by kernel_rfl) ?_ _
    have hbY2 := hid_of2 hbY
    have n8 : Y.cell? ⟨b, 8, none⟩ = some (.slice fa fm fc) := by rw [hbY.cell (p := ⟨b, 8, none⟩) nlt]; exact n8
    have nf8Y : Y.frozen? ⟨b, 8, none⟩ = false := by rw [hbY.frozen (p := ⟨b, 8, none⟩) nlt]; exact nf8
    have hbY' : Below w.heap.size w Y := hbY
    have nltY : b < Y.heap.size := Nat.lt_of_lt_of_le nlt hbY.size
    have HFY := hid_of2 (HFR.out.on hbY)
    have hbx := hid_of2 ((Below.refl Y.heap.size Y).drew.alloc (show Y.heap.size ≤ Y.drew.heap.size from Nat.le_refl _) (.cells #[.int .i64 (W : Int), .int .i64 (H : Int), .slice ua ll uc, .int .i64 dl] 56))
    have HFX := hid_of2 (HFY.out.on hbx.out)
    have HUX := hid_of2 (own_on2 HUY.out hbx.out)
    have hbBY : B ≤ Y.heap.size := by have := hbY.size; omega
    have hMY := own_on2 HM1.out hbY
    have hMX := own_on2 hMY hbx.out
    have hX1 := HFX.out.1
    rw [HFL.out] at hX1
    obtain ⟨v', w3, hr, h1, h2', _, hat⟩ := run_append_own_at (P := Tryd.prog) (Y.drew.alloc (.cells #[.int .i64 (W : Int), .int .i64 (H : Int), .slice ua ll uc, .int .i64 dl] 56)) B 25 25 56 i0 (.agg #[.int .i64 0, .int .i64 0, .slice none 0 0, .int .i64 0]) 4 48 Tryd.underlying25 hi hz0 hz1 hz2 rfl (by decide) _ _ _ hX1 ⟨Y.heap.size, 0, none⟩ 1 1 [.int .i64 (W : Int), .int .i64 (H : Int), .slice ua ll uc, .int .i64 dl] rfl (fun j u hj => new_cells Y.drew _ _ j u hj) (by intro u hu; simp at hu; rcases hu with rfl | rfl | rfl | rfl <;> rfl) (by unfold maxLen; omega) (by omega) (by have := hbx.out.size; omega)
    have HR := hid_of2 hr
    have hne : some b ≠ (Value.slice fa fm fc).ownBlock := row_ne HM1.out HFR.out.1 (by decide)
    obtain ⟨va, vc, hv'⟩ := own_any h1
    subst hv'
    have HO7 : Hid (OwnFr w3 B (.slice va (fm + 1) vc) (fv ++ [(⟨(W : Int), (H : Int), L, dl⟩, .slice ua ll uc)])) := HFX.out.app (f := ⟨(W : Int), (H : Int), L, dl⟩) (by simp only; rw [HLL.out]; exact own_mono HUX.out (by omega)) (by rw [HFL.out]; exact h1) h2'
    have n8x : (Y.drew.alloc (.cells #[.int .i64 (W : Int), .int .i64 (H : Int), .slice ua ll uc, .int .i64 dl] 56)).cell? ⟨b, 8, none⟩ = some (.slice fa fm fc) := by rw [hbx.out.cell (p := ⟨b, 8, none⟩) nltY]; exact n8
    have n8w : w3.cell? ⟨b, 8, none⟩ = some (.slice fa fm fc) := h2'.cell n8x hne
    have nf8w : w3.frozen? ⟨b, 8, none⟩ = false := by
      have hblk := h2'.block b (by have := hbx.out.size; omega) hne
      rw [World.frozen?_of_block hblk, hbx.out.frozen (p := ⟨b, 8, none⟩) nltY]; exact nf8Y
    have hpb : some w2.heap.size ≠ (Value.slice fa fm fc).ownBlock := fun e => by have := (HFR.out.1.lt _ e.symm).2; omega
    have h3c : Hid (w3.cell? ⟨w2.heap.size, 0, none⟩ = some (.int .i64 (W : Int)) ∧ w3.cell? ⟨w2.heap.size, 1, none⟩ = some (.int .i64 (H : Int)) ∧ w3.cell? ⟨w2.heap.size, 2, none⟩ = some (.slice ua ll uc)) := by
      refine ⟨?_, ?_, ?_⟩
      · exact h2'.cell (by rw [hbx.out.cell (p := ⟨w2.heap.size, 0, none⟩) plt]; exact p0) hpb
      · exact h2'.cell (by rw [hbx.out.cell (p := ⟨w2.heap.size, 1, none⟩) plt]; exact p1) hpb
      · exact h2'.cell (by rw [hbx.out.cell (p := ⟨w2.heap.size, 2, none⟩) plt]; exact p2) hpb
    have hbpb : b ≠ w2.heap.size := by omega
    have h5c : Hid ((w3.setCell ⟨b, 8, none⟩ (.slice va (fm + 1) vc)).cell? ⟨w2.heap.size, 0, none⟩ = some (.int .i64 (W : Int)) ∧ (w3.setCell ⟨b, 8, none⟩ (.slice va (fm + 1) vc)).cell? ⟨w2.heap.size, 1, none⟩ = some (.int .i64 (H : Int)) ∧ (w3.setCell ⟨b, 8, none⟩ (.slice va (fm + 1) vc)).cell? ⟨w2.heap.size, 2, none⟩ = some (.slice ua ll uc)) := by
      refine ⟨?_, ?_, ?_⟩
      · rw [World.cell?_setCell_far _ _ _ _ hbpb]; exact h3c.out.1
      · rw [World.cell?_setCell_far _ _ _ _ hbpb]; exact h3c.out.2.1
      · rw [World.cell?_setCell_far _ _ _ _ hbpb]; exact h3c.out.2.2
    have FIN : Hid (∃ F', Mac (w3.setCell ⟨b, 8, none⟩ (.slice va (fm + 1) vc)) B b F' qs { st with frs := st.frs ++ [⟨(W : Int), (H : Int), L, dl⟩] } ∧ Foot F F' w (w3.setCell ⟨b, 8, none⟩ (.slice va (fm + 1) vc))) := by
      have hM3 := hMX.kept h2' (.inr hne)
      obtain ⟨k1, k2, k3⟩ := mac_set hM3 8 (.slice va (fm + 1) vc)
      have hbwX := hbY.trans (hbx.out.mono hbY.size)
      have o1 : Only MT w w3 := (Only.below hbwX _).trans ((only_row HFX.out.1 h2').mono (by decide))
      have o3 := o1.trans (only_MT2 (only_MT1 k2))
      have hrn : w3.ownsRow B 108 2 vr st.opn.length (rndCells st.opn) := own_only (own_on2 HM2.out.rnd hbwX) (only_row HFX.out.1 h2') (by decide)
      have hmr : MacR (w3.setCell ⟨b, 8, none⟩ (.slice va (fm + 1) vc)) B _ bm vr _ vk (.slice va (fm + 1) vc) qs st.opn st.obs st.kept (st.frs ++ [⟨(W : Int), (H : Int), L, dl⟩]) := ⟨HM2.out.ops_only o3, HM2.out.mpl, HM2.out.mp_only o3, own_only hrn k2 (by decide), HM2.out.obs_only o3, HM2.out.kep_only o3, ⟨_, HO7.out.only k2 (by decide) (by decide), by rw [List.map_append, HFV.out]; rfl⟩⟩
      have hfoot := ((Foot.below hbwX F).trans (Foot.grown h2' (fun g hg => HM3.out.frs g hg))).trans (k3 F HM3.out.self)
      rcases hat with h | h
      · exact ⟨F, ⟨_, bm, vr, _, vk, _, k1, hmr, HM3.out.self, HM3.out.rnd, fun g hg => HM3.out.frs g (by rw [← h]; exact hg), HM3.out.low⟩, hfoot⟩
      · refine ⟨(Y.drew.alloc (.cells #[.int .i64 (W : Int), .int .i64 (H : Int), .slice ua ll uc, .int .i64 dl] 56)).heap.size :: F, ⟨_, bm, vr, _, vk, _, k1, hmr, List.mem_cons_of_mem _ HM3.out.self, fun g hg => List.mem_cons_of_mem _ (HM3.out.rnd g hg), fun g hg => ?_, fun g hg => ?_⟩, hfoot.cons _ (.inr ⟨hbwX.size, ?_⟩)⟩
        · rw [h] at hg; simp at hg; subst hg; simp
        · rcases List.mem_cons.1 hg with rfl | hg
          · have := hbx.out.size; omega
          · exact HM3.out.low g hg
        · have := (h1.lt _ h).2; simpa using this
    clear hat h1 h2' hr hMX hMY hX1 HFX HFY HUX HUY n8x hbY hbY' hpb
    have KEEPY : Hid (∀ w', Below Y.heap.size Y w' → w'.cell? ⟨w2.heap.size, 0, none⟩ = some (.int .i64 (W : Int)) ∧ w'.cell? ⟨w2.heap.size, 1, none⟩ = some (.int .i64 (H : Int)) ∧ w'.cell? ⟨w2.heap.size, 2, none⟩ = some (.slice ua ll uc)) := by
      intro w' h
      refine ⟨?_, ?_, ?_⟩
      · rw [h.cell (p := ⟨w2.heap.size, 0, none⟩) plt]; exact p0
      · rw [h.cell (p := ⟨w2.heap.size, 1, none⟩) plt]; exact p1
      · rw [h.cell (p := ⟨w2.heap.size, 2, none⟩) plt]; exact p2
    have n8d : Y.drew.cell? ⟨b, 8, none⟩ = some (.slice fa fm fc) := n8
    go_wp2_with fail
    refine wp_region_held_drew (S := (fun w' => w'.cell? ⟨w2.heap.size, 0, none⟩ = some (.int .i64 (W : Int)) ∧ w'.cell? ⟨w2.heap.size, 1, none⟩ = some (.int .i64 (H : Int)) ∧ w'.cell? ⟨w2.heap.size, 2, none⟩ = some (.slice ua ll uc))) (by kernel_rfl) ?_ (fun hHeld => ?_)
    · exact KEEPY.out _ (Below.refl _ _).drew
    refine tk (v := ?_) 0 rfl (by kernel_rfl) (by rfl) ?_ ?_
    rotate_left
    · (intro w hSw; (try dsimp only at hSw); go_simp; try with_reducible rfl)
    refine tk (v := ?_) 1 rfl (by kernel_rfl) (by rfl) ?_ ?_
    rotate_left
    · (intro w hSw; (try dsimp only at hSw); go_simp; try with_reducible rfl)
    refine tk (v := ?_) 2 rfl (by kernel_rfl) (by rfl) ?_ ?_
    rotate_left
    · (intro w hSw; (try dsimp only at hSw); go_simp; try with_reducible rfl)
    refine tk (v := ?_) 3 rfl (by kernel_rfl) (by rfl) ?_ ?_
    rotate_left
    · (intro w hSw; (try dsimp only at hSw); go_simp; try with_reducible rfl)
    refine tk (v := ?_) 5 rfl (by kernel_rfl) (by rfl) ?_ ?_
    rotate_left
    · (intro w hSw; (try dsimp only at hSw); go_simp; try with_reducible rfl)
    refine tk (v := ?_) 6 rfl (by kernel_rfl) (by rfl) ?_ ?_
    rotate_left
    · (intro w hSw; (try dsimp only at hSw); go_simp; try with_reducible rfl)
    refine tk (v := ?_) 7 rfl (by kernel_rfl) (by rfl) ?_ ?_
    rotate_left
    · (intro w hSw; (try dsimp only at hSw); go_simp; try with_reducible rfl)
    refine wpAnyH_ready (rs := [4, 8]) (by kernel_rfl) (by simp) ?_
    refine AllReadyH.cons rfl (fun K_ hK => ?_) (AllReadyH.cons rfl (fun K_ hK => ?_) AllReadyH.nil)
    · go_simp
      refine hK.out _ _ ?_ (fun hHeld => ?_)
      · exact KEEPY.out _ (Below.refl _ _).drew
      clear hK K_
      refine wpAnyH_ready (rs := [8]) (by kernel_rfl) (by simp) ?_
      refine AllReadyH.cons rfl (fun K_ hK => ?_) AllReadyH.nil
      go_simp
      refine hK.out _ _ ?_ (fun hHeld => ?_)
      · exact KEEPY.out _ hbx.out
      clear hK K_
      refine wpAnyH_ready (rs := [9]) (by kernel_rfl) (by simp) ?_
      refine AllReadyH.cons rfl (fun K_ hK => ?_) AllReadyH.nil
      refine ready_app rfl (.tmp 37) (.tmp 41) 25 rfl _ _ _ ?d1a ?d1b HR.out ?_
      case d1a => rfl
      case d1b => rfl
      refine hK.out _ _ ?_ (fun hHeld => ?_)
      · exact h3c.out
      clear hK K_
      refine tk (v := ?_) 10 rfl (by kernel_rfl) (by rfl) ?_ ?_
      rotate_left
      · (intro w hSw; (try dsimp only at hSw); go_simp; try with_reducible rfl)
      refine tk (v := ?_) 11 rfl (by kernel_rfl) (by rfl) ?_ ?_
      rotate_left
      · (intro w hSw; (try dsimp only at hSw); go_simp; try with_reducible rfl)
      refine wpAnyH_ready (rs := [12]) (by kernel_rfl) (by simp) ?_
      refine AllReadyH.cons rfl (fun K_ hK => ?_) AllReadyH.nil
      go_simp
      refine hK.out _ _ ?_ (fun hHeld => ?_)
      · exact h5c.out
      clear hK K_
      refine wpAnyH_done (by kernel_rfl) ?_ _
      go_wp2_with fail
      go_ret
      obtain ⟨F1, f1, f2⟩ := FIN.out
      exact ⟨F1, rfl, f1, f2⟩
    · go_simp
      refine hK.out _ _ ?_ (fun hHeld => ?_)
      · exact KEEPY.out _ hbx.out
      clear hK K_
      have n8x : (Y.drew.alloc (.cells #[.int .i64 (W : Int), .int .i64 (H : Int), .slice ua ll uc, .int .i64 dl] 56)).cell? ⟨b, 8, none⟩ = some (.slice fa fm fc) := by rw [hbx.out.cell (p := ⟨b, 8, none⟩) nltY]; exact n8d
      refine wpAnyH_ready (rs := [4]) (by kernel_rfl) (by simp) ?_
      refine AllReadyH.cons rfl (fun K_ hK => ?_) AllReadyH.nil
      go_simp
      refine hK.out _ _ ?_ (fun hHeld => ?_)
      · exact KEEPY.out _ hbx.out
      clear hK K_
      refine wpAnyH_ready (rs := [9]) (by kernel_rfl) (by simp) ?_
      refine AllReadyH.cons rfl (fun K_ hK => ?_) AllReadyH.nil
      refine ready_app rfl (.tmp 37) (.tmp 41) 25 rfl _ _ _ ?d2a ?d2b HR.out ?_
      case d2a => rfl
      case d2b => rfl
      refine hK.out _ _ ?_ (fun hHeld => ?_)
      · exact h3c.out
      clear hK K_
      refine tk (v := ?_) 10 rfl (by kernel_rfl) (by rfl) ?_ ?_
      rotate_left
      · (intro w hSw; (try dsimp only at hSw); go_simp; try with_reducible rfl)
      refine tk (v := ?_) 11 rfl (by kernel_rfl) (by rfl) ?_ ?_
      rotate_left
      · (intro w hSw; (try dsimp only at hSw); go_simp; try with_reducible rfl)
      refine wpAnyH_ready (rs := [12]) (by kernel_rfl) (by simp) ?_
      refine AllReadyH.cons rfl (fun K_ hK => ?_) AllReadyH.nil
      go_simp
      refine hK.out _ _ ?_ (fun hHeld => ?_)
      · exact h5c.out
      clear hK K_
      refine wpAnyH_done (by kernel_rfl) ?_ _
      go_wp2_with fail
      go_ret
      obtain ⟨F1, f1, f2⟩ := FIN.out
      exact ⟨F1, rfl, f1, f2⟩
  · go_simp
    have hb13 : Below (w.alloc (.cells #[.int .i64 kd, .int .i64 qid, .int .i64 (W : Int), .int .i64 (H : Int), .int .i64 qc, .int .i64 qd, .int .i64 qw, .int .i64 qh, .slice pua pum puc] 51)).heap.size (w.alloc (.cells #[.int .i64 kd, .int .i64 qid, .int .i64 (W : Int), .int .i64 (H : Int), .int .i64 qc, .int .i64 qd, .int .i64 qw, .int .i64 qh, .slice pua pum puc] 51)) ((w.alloc (.cells #[.int .i64 kd, .int .i64 qid, .int .i64 (W : Int), .int .i64 (H : Int), .int .i64 qc, .int .i64 qd, .int .i64 qw, .int .i64 qh, .slice pua pum puc] 51)).drew.alloc (.cells #[.int .i64 0, .int .i64 0, .slice none 0 0] 49)) := (Below.refl _ _).drew.alloc (by simp) _
    refine hK.out _ _ ?_ (fun hHeld => ?_)
    · exact KEEP.out _ hb13
    clear hK K_
    refine wpAnyH_ready (rs := [12]) (by kernel_rfl) (by simp) ?_
    refine AllReadyH.cons rfl (fun K_ hK => ?_) AllReadyH.nil
    go_simp
    refine (seen_own _ obs W H bv ba ((w.alloc (.cells #[.int .i64 kd, .int .i64 qid, .int .i64 (W : Int), .int .i64 (H : Int), .int .i64 qc, .int .i64 qd, .int .i64 qw, .int .i64 qh, .slice pua pum puc] 51)).drew.alloc (.cells #[.int .i64 0, .int .i64 0, .slice none 0 0] 49)) hos HPS.out HOK.out (HOD.out.on ((Below.refl _ _).drew.alloc (by simp) _)) hW1 hW2 hH1 hH2 hv1 hv2 ha1 ha2).mono ?_
    unfold picV
    rintro e w2 ⟨u, rfl, hu, hb2⟩
    rw [HSL.out] at hu
    obtain ⟨ua, uc, hue⟩ := own_any hu
    rw [HLL.out] at hue hu
    subst hue
    have HU2 := hid_of2 hu
    have HB2 : Hid (Below (w.alloc (.cells #[.int .i64 kd, .int .i64 qid, .int .i64 (W : Int), .int .i64 (H : Int), .int .i64 qc, .int .i64 qd, .int .i64 qw, .int .i64 qh, .slice pua pum puc] 51)).heap.size (w.alloc (.cells #[.int .i64 kd, .int .i64 qid, .int .i64 (W : Int), .int .i64 (H : Int), .int .i64 qc, .int .i64 qd, .int .i64 qw, .int .i64 qh, .slice pua pum puc] 51)) w2) := hb13.trans (hb2.mono hb13.size)
    obtain ⟨q0, q1, q2, qf0, qf1, qf2, qlt⟩ := (three_begin (w.alloc (.cells #[.int .i64 kd, .int .i64 qid, .int .i64 (W : Int), .int .i64 (H : Int), .int .i64 qc, .int .i64 qd, .int .i64 qw, .int .i64 qh, .slice pua pum puc] 51)).drew (.int .i64 0) (.int .i64 0) (.slice none 0 0) 49 (w.heap.size + 1) (by simp)).on hb2
    clear hu hb2 hb13
    refine hK.out _ _ ?_ (fun hHeld => ?_)
    · exact KEEP.out _ HB2.out
    clear hK K_
    have hsz2 : w.heap.size + 1 < w2.heap.size := qlt
    have hbY1 : Below (w.alloc (.cells #[.int .i64 kd, .int .i64 qid, .int .i64 (W : Int), .int .i64 (H : Int), .int .i64 qc, .int .i64 qd, .int .i64 qw, .int .i64 qh, .slice pua pum puc] 51)).heap.size (w.alloc (.cells #[.int .i64 kd, .int .i64 qid, .int .i64 (W : Int), .int .i64 (H : Int), .int .i64 qc, .int .i64 qd, .int .i64 qw, .int .i64 qh, .slice pua pum puc] 51)) (((w2.setCell ⟨w.heap.size + 1, 0, none⟩ (.int .i64 (W : Int))).setCell ⟨w.heap.size + 1, 1, none⟩ (.int .i64 (H : Int))).setCell ⟨w.heap.size + 1, 2, none⟩ (.slice ua ll uc)) := ((HB2.out.setCell (by simp) _).setCell (by simp) _).setCell (by simp) _
    have hbY : Below w.heap.size w (((w2.setCell ⟨w.heap.size + 1, 0, none⟩ (.int .i64 (W : Int))).setCell ⟨w.heap.size + 1, 1, none⟩ (.int .i64 (H : Int))).setCell ⟨w.heap.size + 1, 2, none⟩ (.slice ua ll uc)) := hbx1.trans (hbY1.mono hbx1.size)
    have HUY : Hid ((((w2.setCell ⟨w.heap.size + 1, 0, none⟩ (.int .i64 (W : Int))).setCell ⟨w.heap.size + 1, 1, none⟩ (.int .i64 (H : Int))).setCell ⟨w.heap.size + 1, 2, none⟩ (.slice ua ll uc)).ownsRow w.heap.size 42 2 (.slice ua ll uc) ll (pixCells L)) := own_mono (ownsRow_setCell_below (ownsRow_setCell_below (ownsRow_setCell_below HU2.out (a := ⟨w.heap.size + 1, 0, none⟩) (by simp) _) (a := ⟨w.heap.size + 1, 1, none⟩) (by simp) _) (a := ⟨w.heap.size + 1, 2, none⟩) (by simp) _) (by simp; omega)
    have p0 : (((w2.setCell ⟨w.heap.size + 1, 0, none⟩ (.int .i64 (W : Int))).setCell ⟨w.heap.size + 1, 1, none⟩ (.int .i64 (H : Int))).setCell ⟨w.heap.size + 1, 2, none⟩ (.slice ua ll uc)).cell? ⟨w.heap.size + 1, 0, none⟩ = some (.int .i64 (W : Int)) := by rw [cell_set_ne _ _ _ _ _ (by decide), cell_set_ne _ _ _ _ _ (by decide)]; exact World.cell?_setCell_same _ _ _ q0
    have p1 : (((w2.setCell ⟨w.heap.size + 1, 0, none⟩ (.int .i64 (W : Int))).setCell ⟨w.heap.size + 1, 1, none⟩ (.int .i64 (H : Int))).setCell ⟨w.heap.size + 1, 2, none⟩ (.slice ua ll uc)).cell? ⟨w.heap.size + 1, 1, none⟩ = some (.int .i64 (H : Int)) := by rw [cell_set_ne _ _ _ _ _ (by decide)]; exact World.cell?_setCell_same _ _ _ ((cell_set_ne _ _ _ _ _ (by decide)).trans q1)
    have p2 : (((w2.setCell ⟨w.heap.size + 1, 0, none⟩ (.int .i64 (W : Int))).setCell ⟨w.heap.size + 1, 1, none⟩ (.int .i64 (H : Int))).setCell ⟨w.heap.size + 1, 2, none⟩ (.slice ua ll uc)).cell? ⟨w.heap.size + 1, 2, none⟩ = some (.slice ua ll uc) := World.cell?_setCell_same _ _ _ ((cell_set_ne _ _ _ _ _ (by decide)).trans ((cell_set_ne _ _ _ _ _ (by decide)).trans q2))
    have plt : w.heap.size + 1 < (((w2.setCell ⟨w.heap.size + 1, 0, none⟩ (.int .i64 (W : Int))).setCell ⟨w.heap.size + 1, 1, none⟩ (.int .i64 (H : Int))).setCell ⟨w.heap.size + 1, 2, none⟩ (.slice ua ll uc)).heap.size := by simpa using hsz2
    refine wpAnyH_ready (rs := [14]) (by kernel_rfl) (by simp) ?_
    refine AllReadyH.cons rfl (fun K_ hK => ?_) AllReadyH.nil
    go_simp
    refine hK.out _ _ ?_ (fun hHeld => ?_)
    · exact KEEP.out _ hbY1
    clear hK K_
    clear KEEP HOD n4 n5 n6 nlt1 h2 h3 hlt x0 x1 x4 x5 x6 x7 x8 xf0 xf1 xf2 xf3 xf4 xf5 xf6 xf7 xf8 c0 c1 c2 c3 c4 c5 c6 c7 c8 HB2 HU2 q0 q1 q2 qf0 qf1 qf2 hbY1
    generalize (((w2.setCell ⟨w.heap.size + 1, 0, none⟩ (.int .i64 (W : Int))).setCell ⟨w.heap.size + 1, 1, none⟩ (.int .i64 (H : Int))).setCell ⟨w.heap.size + 1, 2, none⟩ (.slice ua ll uc)) = Y at *
    refine wpAnyH_done (by kernel_rfl) ?_ _
    have hbY2 := hid_of2 hbY
    have n8 : Y.cell? ⟨b, 8, none⟩ = some (.slice fa fm fc) := by rw [hbY.cell (p := ⟨b, 8, none⟩) nlt]; exact n8
    have nf8Y : Y.frozen? ⟨b, 8, none⟩ = false := by rw [hbY.frozen (p := ⟨b, 8, none⟩) nlt]; exact nf8
    have hbY' : Below w.heap.size w Y := hbY
    have nltY : b < Y.heap.size := Nat.lt_of_lt_of_le nlt hbY.size
    have HFY := hid_of2 (HFR.out.on hbY)
    have hbx := hid_of2 ((Below.refl Y.heap.size Y).drew.alloc (show Y.heap.size ≤ Y.drew.heap.size from Nat.le_refl _) (.cells #[.int .i64 (W : Int), .int .i64 (H : Int), .slice ua ll uc, .int .i64 dl] 56))
    have HFX := hid_of2 (HFY.out.on hbx.out)
    have HUX := hid_of2 (own_on2 HUY.out hbx.out)
    have hbBY : B ≤ Y.heap.size := by have := hbY.size; omega
    have hMY := own_on2 HM1.out hbY
    have hMX := own_on2 hMY hbx.out
    have hX1 := HFX.out.1
    rw [HFL.out] at hX1
    obtain ⟨v', w3, hr, h1, h2', _, hat⟩ := run_append_own_at (P := Tryd.prog) (Y.drew.alloc (.cells #[.int .i64 (W : Int), .int .i64 (H : Int), .slice ua ll uc, .int .i64 dl] 56)) B 25 25 56 i0 (.agg #[.int .i64 0, .int .i64 0, .slice none 0 0, .int .i64 0]) 4 48 Tryd.underlying25 hi hz0 hz1 hz2 rfl (by decide) _ _ _ hX1 ⟨Y.heap.size, 0, none⟩ 1 1 [.int .i64 (W : Int), .int .i64 (H : Int), .slice ua ll uc, .int .i64 dl] rfl (fun j u hj => new_cells Y.drew _ _ j u hj) (by intro u hu; simp at hu; rcases hu with rfl | rfl | rfl | rfl <;> rfl) (by unfold maxLen; omega) (by omega) (by have := hbx.out.size; omega)
    have HR := hid_of2 hr
    have hne : some b ≠ (Value.slice fa fm fc).ownBlock := row_ne HM1.out HFR.out.1 (by decide)
    obtain ⟨va, vc, hv'⟩ := own_any h1
    subst hv'
    have HO7 : Hid (OwnFr w3 B (.slice va (fm + 1) vc) (fv ++ [(⟨(W : Int), (H : Int), L, dl⟩, .slice ua ll uc)])) := HFX.out.app (f := ⟨(W : Int), (H : Int), L, dl⟩) (by simp only; rw [HLL.out]; exact own_mono HUX.out (by omega)) (by rw [HFL.out]; exact h1) h2'
    have n8x : (Y.drew.alloc (.cells #[.int .i64 (W : Int), .int .i64 (H : Int), .slice ua ll uc, .int .i64 dl] 56)).cell? ⟨b, 8, none⟩ = some (.slice fa fm fc) := by rw [hbx.out.cell (p := ⟨b, 8, none⟩) nltY]; exact n8
    have n8w : w3.cell? ⟨b, 8, none⟩ = some (.slice fa fm fc) := h2'.cell n8x hne
    have nf8w : w3.frozen? ⟨b, 8, none⟩ = false := by
      have hblk := h2'.block b (by have := hbx.out.size; omega) hne
      rw [World.frozen?_of_block hblk, hbx.out.frozen (p := ⟨b, 8, none⟩) nltY]; exact nf8Y
    have hpb : some (w.heap.size + 1) ≠ (Value.slice fa fm fc).ownBlock := fun e => by have := (HFR.out.1.lt _ e.symm).2; omega
    have h3c : Hid (w3.cell? ⟨(w.heap.size + 1), 0, none⟩ = some (.int .i64 (W : Int)) ∧ w3.cell? ⟨(w.heap.size + 1), 1, none⟩ = some (.int .i64 (H : Int)) ∧ w3.cell? ⟨(w.heap.size + 1), 2, none⟩ = some (.slice ua ll uc)) := by
      refine ⟨?_, ?_, ?_⟩
      · exact h2'.cell (by rw [hbx.out.cell (p := ⟨(w.heap.size + 1), 0, none⟩) plt]; exact p0) hpb
      · exact h2'.cell (by rw [hbx.out.cell (p := ⟨(w.heap.size + 1), 1, none⟩) plt]; exact p1) hpb
      · exact h2'.cell (by rw [hbx.out.cell (p := ⟨(w.heap.size + 1), 2, none⟩) plt]; exact p2) hpb
    have hbpb : b ≠ (w.heap.size + 1) := by omega
    have h5c : Hid ((w3.setCell ⟨b, 8, none⟩ (.slice va (fm + 1) vc)).cell? ⟨(w.heap.size + 1), 0, none⟩ = some (.int .i64 (W : Int)) ∧ (w3.setCell ⟨b, 8, none⟩ (.slice va (fm + 1) vc)).cell? ⟨(w.heap.size + 1), 1, none⟩ = some (.int .i64 (H : Int)) ∧ (w3.setCell ⟨b, 8, none⟩ (.slice va (fm + 1) vc)).cell? ⟨(w.heap.size + 1), 2, none⟩ = some (.slice ua ll uc)) := by
      refine ⟨?_, ?_, ?_⟩
      · rw [World.cell?_setCell_far _ _ _ _ hbpb]; exact h3c.out.1
      · rw [World.cell?_setCell_far _ _ _ _ hbpb]; exact h3c.out.2.1
      · rw [World.cell?_setCell_far _ _ _ _ hbpb]; exact h3c.out.2.2
    have FIN : Hid (∃ F', Mac (w3.setCell ⟨b, 8, none⟩ (.slice va (fm + 1) vc)) B b F' qs { st with frs := st.frs ++ [⟨(W : Int), (H : Int), L, dl⟩] } ∧ Foot F F' w (w3.setCell ⟨b, 8, none⟩ (.slice va (fm + 1) vc))) := by
      have hM3 := hMX.kept h2' (.inr hne)
      obtain ⟨k1, k2, k3⟩ := mac_set hM3 8 (.slice va (fm + 1) vc)
      have hbwX := hbY.trans (hbx.out.mono hbY.size)
      have o1 : Only MT w w3 := (Only.below hbwX _).trans ((only_row HFX.out.1 h2').mono (by decide))
      have o3 := o1.trans (only_MT2 (only_MT1 k2))
      have hrn : w3.ownsRow B 108 2 vr st.opn.length (rndCells st.opn) := own_only (own_on2 HM2.out.rnd hbwX) (only_row HFX.out.1 h2') (by decide)
      have hmr : MacR (w3.setCell ⟨b, 8, none⟩ (.slice va (fm + 1) vc)) B _ bm vr _ vk (.slice va (fm + 1) vc) qs st.opn st.obs st.kept (st.frs ++ [⟨(W : Int), (H : Int), L, dl⟩]) := ⟨HM2.out.ops_only o3, HM2.out.mpl, HM2.out.mp_only o3, own_only hrn k2 (by decide), HM2.out.obs_only o3, HM2.out.kep_only o3, ⟨_, HO7.out.only k2 (by decide) (by decide), by rw [List.map_append, HFV.out]; rfl⟩⟩
      have hfoot := ((Foot.below hbwX F).trans (Foot.grown h2' (fun g hg => HM3.out.frs g hg))).trans (k3 F HM3.out.self)
      rcases hat with h | h
      · exact ⟨F, ⟨_, bm, vr, _, vk, _, k1, hmr, HM3.out.self, HM3.out.rnd, fun g hg => HM3.out.frs g (by rw [← h]; exact hg), HM3.out.low⟩, hfoot⟩
      · refine ⟨(Y.drew.alloc (.cells #[.int .i64 (W : Int), .int .i64 (H : Int), .slice ua ll uc, .int .i64 dl] 56)).heap.size :: F, ⟨_, bm, vr, _, vk, _, k1, hmr, List.mem_cons_of_mem _ HM3.out.self, fun g hg => List.mem_cons_of_mem _ (HM3.out.rnd g hg), fun g hg => ?_, fun g hg => ?_⟩, hfoot.cons _ (.inr ⟨hbwX.size, ?_⟩)⟩
        · rw [h] at hg; simp at hg; subst hg; simp
        · rcases List.mem_cons.1 hg with rfl | hg
          · have := hbx.out.size; omega
          · exact HM3.out.low g hg
        · have := (h1.lt _ h).2; simpa using this
    clear hat h1 h2' hr hMX hMY hX1 HFX HFY HUX HUY n8x hbY hbY' hpb
    have KEEPY : Hid (∀ w', Below Y.heap.size Y w' → w'.cell? ⟨(w.heap.size + 1), 0, none⟩ = some (.int .i64 (W : Int)) ∧ w'.cell? ⟨(w.heap.size + 1), 1, none⟩ = some (.int .i64 (H : Int)) ∧ w'.cell? ⟨(w.heap.size + 1), 2, none⟩ = some (.slice ua ll uc)) := by
      intro w' h
      refine ⟨?_, ?_, ?_⟩
      · rw [h.cell (p := ⟨(w.heap.size + 1), 0, none⟩) plt]; exact p0
      · rw [h.cell (p := ⟨(w.heap.size + 1), 1, none⟩) plt]; exact p1
      · rw [h.cell (p := ⟨(w.heap.size + 1), 2, none⟩) plt]; exact p2
    have n8d : Y.drew.cell? ⟨b, 8, none⟩ = some (.slice fa fm fc) := n8
    go_wp2_with fail
    refine wp_region_held_drew (S := (fun w' => w'.cell? ⟨(w.heap.size + 1), 0, none⟩ = some (.int .i64 (W : Int)) ∧ w'.cell? ⟨(w.heap.size + 1), 1, none⟩ = some (.int .i64 (H : Int)) ∧ w'.cell? ⟨(w.heap.size + 1), 2, none⟩ = some (.slice ua ll uc))) (by kernel_rfl) ?_ (fun hHeld => ?_)
    · exact KEEPY.out _ (Below.refl _ _).drew
    refine tk (v := ?_) 0 rfl (by kernel_rfl) (by rfl) ?_ ?_
    rotate_left
    · (intro w hSw; (try dsimp only at hSw); go_simp; try with_reducible rfl)
    refine tk (v := ?_) 1 rfl (by kernel_rfl) (by rfl) ?_ ?_
    rotate_left
    · (intro w hSw; (try dsimp only at hSw); go_simp; try with_reducible rfl)
    refine tk (v := ?_) 2 rfl (by kernel_rfl) (by rfl) ?_ ?_
    rotate_left
    · (intro w hSw; (try dsimp only at hSw); go_simp; try with_reducible rfl)
    refine tk (v := ?_) 3 rfl (by kernel_rfl) (by rfl) ?_ ?_
    rotate_left
    · (intro w hSw; (try dsimp only at hSw); go_simp; try with_reducible rfl)
    refine tk (v := ?_) 5 rfl (by kernel_rfl) (by rfl) ?_ ?_
    rotate_left
    · (intro w hSw; (try dsimp only at hSw); go_simp; try with_reducible rfl)
    refine tk (v := ?_) 6 rfl (by kernel_rfl) (by rfl) ?_ ?_
    rotate_left
    · (intro w hSw; (try dsimp only at hSw); go_simp; try with_reducible rfl)
    refine tk (v := ?_) 7 rfl (by kernel_rfl) (by rfl) ?_ ?_
    rotate_left
    · (intro w hSw; (try dsimp only at hSw); go_simp; try with_reducible rfl)
    refine wpAnyH_ready (rs := [4, 8]) (by kernel_rfl) (by simp) ?_
    refine AllReadyH.cons rfl (fun K_ hK => ?_) (AllReadyH.cons rfl (fun K_ hK => ?_) AllReadyH.nil)
    · go_simp
      refine hK.out _ _ ?_ (fun hHeld => ?_)
      · exact KEEPY.out _ (Below.refl _ _).drew
      clear hK K_
      refine wpAnyH_ready (rs := [8]) (by kernel_rfl) (by simp) ?_
      refine AllReadyH.cons rfl (fun K_ hK => ?_) AllReadyH.nil
      go_simp
      refine hK.out _ _ ?_ (fun hHeld => ?_)
      · exact KEEPY.out _ hbx.out
      clear hK K_
      refine wpAnyH_ready (rs := [9]) (by kernel_rfl) (by simp) ?_
      refine AllReadyH.cons rfl (fun K_ hK => ?_) AllReadyH.nil
      refine ready_app rfl (.tmp 37) (.tmp 41) 25 rfl _ _ _ ?d3a ?d3b HR.out ?_
      case d3a => rfl
      case d3b => rfl
      refine hK.out _ _ ?_ (fun hHeld => ?_)
      · exact h3c.out
      clear hK K_
      refine tk (v := ?_) 10 rfl (by kernel_rfl) (by rfl) ?_ ?_
      rotate_left
      · (intro w hSw; (try dsimp only at hSw); go_simp; try with_reducible rfl)
      refine tk (v := ?_) 11 rfl (by kernel_rfl) (by rfl) ?_ ?_
      rotate_left
      · (intro w hSw; (try dsimp only at hSw); go_simp; try with_reducible rfl)
      refine wpAnyH_ready (rs := [12]) (by kernel_rfl) (by simp) ?_
      refine AllReadyH.cons rfl (fun K_ hK => ?_) AllReadyH.nil
      go_simp
      refine hK.out _ _ ?_ (fun hHeld => ?_)
      · exact h5c.out
      clear hK K_
      refine wpAnyH_done (by kernel_rfl) ?_ _
      go_wp2_with fail
      go_ret
      obtain ⟨F1, f1, f2⟩ := FIN.out
      exact ⟨F1, rfl, f1, f2⟩
    · go_simp
      refine hK.out _ _ ?_ (fun hHeld => ?_)
      · exact KEEPY.out _ hbx.out
      clear hK K_
      have n8x : (Y.drew.alloc (.cells #[.int .i64 (W : Int), .int .i64 (H : Int), .slice ua ll uc, .int .i64 dl] 56)).cell? ⟨b, 8, none⟩ = some (.slice fa fm fc) := by rw [hbx.out.cell (p := ⟨b, 8, none⟩) nltY]; exact n8d
      refine wpAnyH_ready (rs := [4]) (by kernel_rfl) (by simp) ?_
      refine AllReadyH.cons rfl (fun K_ hK => ?_) AllReadyH.nil
      go_simp
      refine hK.out _ _ ?_ (fun hHeld => ?_)
      · exact KEEPY.out _ hbx.out
      clear hK K_
      refine wpAnyH_ready (rs := [9]) (by kernel_rfl) (by simp) ?_
      refine AllReadyH.cons rfl (fun K_ hK => ?_) AllReadyH.nil
      refine ready_app rfl (.tmp 37) (.tmp 41) 25 rfl _ _ _ ?d4a ?d4b HR.out ?_
      case d4a => rfl
      case d4b => rfl
      refine hK.out _ _ ?_ (fun hHeld => ?_)
      · exact h3c.out
      clear hK K_
      refine tk (v := ?_) 10 rfl (by kernel_rfl) (by rfl) ?_ ?_
      rotate_left
      · (intro w hSw; (try dsimp only at hSw); go_simp; try with_reducible rfl)
      refine tk (v := ?_) 11 rfl (by kernel_rfl) (by rfl) ?_ ?_
      rotate_left
      · (intro w hSw; (try dsimp only at hSw); go_simp; try with_reducible rfl)
      refine wpAnyH_ready (rs := [12]) (by kernel_rfl) (by simp) ?_
      refine AllReadyH.cons rfl (fun K_ hK => ?_) AllReadyH.nil
      go_simp
      refine hK.out _ _ ?_ (fun hHeld => ?_)
      · exact h5c.out
      clear hK K_
      refine wpAnyH_done (by kernel_rfl) ?_ _
      go_wp2_with fail
      go_ret
      obtain ⟨F1, f1, f2⟩ := FIN.out
      exact ⟨F1, rfl, f1, f2⟩
end Go.Proofs.YtjmkfcgnadpbaaaDoor
/- Walk of a machine: change. -/
namespace Go.Proofs.YtjmkfcgnadpbaaaDoor
open Go.RowKit Go.Maps

/-- an op of one object -/
def chaM (s : Ms) (q : Pq) : Ms ⊕ Nat := match doO s.obs q with
  | .inl rs => .inl { s with obs := rs }
  | .inr c => .inr c

set_option maxHeartbeats 8000000 in
set_option maxRecDepth 100000 in
theorem mcha_any (B b : Nat) (F : List Nat) (qs : List Pq) (st : Ms) (w : World) (HM : Hid (Mac w B b F qs st)) (HF : Hid (FineO st.obs)) (q : Pq) (u : Value) (hq : opC q = 0) (hpl : q.ps.length ≤ 80) (HU : Hid (RdP w u q.ps)) :
    Calls Tryd.prog 43 #[.pointer (some ⟨b, 0, none⟩), opV q u] w fun e w' => MacP B b F qs st (chaM st q) w e w' := by
  obtain ⟨vo, bm, vr, vb, vk, vf, hm1, hm2, hm3⟩ := HM.out
  obtain ⟨N, hB⟩ := mac_nine hm1
  obtain ⟨ov, hov1, hov2⟩ := hm2.obs
  obtain ⟨oa, oc, hvb⟩ := own_any hov1.1
  obtain ⟨on, HON⟩ : ∃ n, Hid (ov.length = n) := ⟨_, (rfl : _ = _)⟩
  rw [HON.out] at hvb
  subst hvb
  obtain ⟨ua, uc, hu, _, _⟩ := HU.out
  obtain ⟨mu, HMU⟩ : ∃ n, Hid (q.ps.length = n) := ⟨_, (rfl : _ = _)⟩
  rw [HMU.out] at hu
  subst hu
  obtain ⟨obs, HOBS⟩ : ∃ o, Hid (st.obs = o) := ⟨_, (rfl : _ = _)⟩
  have HDP : Hid (DoPre obs q) := by rw [← HOBS.out]; exact do_pre _ q HF.out.good hq hpl
  have hbx1 : Below w.heap.size w (w.alloc (.cells #[.int .i64 q.kind, .int .i64 q.id, .int .i64 q.a, .int .i64 q.b, .int .i64 q.c, .int .i64 q.d, .int .i64 q.pw, .int .i64 q.ph, .slice ua mu uc] 51)) := (Below.refl _ _).alloc (Nat.le_refl _) _
  have HOD : Hid (RdO (w.alloc (.cells #[.int .i64 q.kind, .int .i64 q.id, .int .i64 q.a, .int .i64 q.b, .int .i64 q.c, .int .i64 q.d, .int .i64 q.pw, .int .i64 q.ph, .slice ua mu uc] 51)) (.slice oa on oc) obs) := by
    have := hov1.rd.on hbx1
    rw [hov2, HOBS.out] at this
    exact this
  have HUD : Hid (RdP (w.alloc (.cells #[.int .i64 q.kind, .int .i64 q.id, .int .i64 q.a, .int .i64 q.b, .int .i64 q.c, .int .i64 q.d, .int .i64 q.pw, .int .i64 q.ph, .slice ua mu uc] 51)) (.slice ua mu uc) q.ps) := HU.out.on hbx1
  obtain ⟨x0, x1, x2, x3, x4, x5, x6, x7, x8, xf0, xf1, xf2, xf3, xf4, xf5, xf6, xf7, xf8, xlt⟩ := nine_start w (.int .i64 q.kind) (.int .i64 q.id) (.int .i64 q.a) (.int .i64 q.b) (.int .i64 q.c) (.int .i64 q.d) (.int .i64 q.pw) (.int .i64 q.ph) (.slice ua mu uc) 51 w.heap.size rfl
  have N1 := hid_of2 (N.on hbx1)
  have HM2 := hid_of2 hm2
  have HM3 := hid_of2 hm3
  have HM1 := hid_of2 hm1
  have n6 := N1.out.c6
  have nlt1 := N1.out.lt
  have nltw := N.lt
  clear hm1 hm2 hm3 hov1 hov2 HU N
  go_enter Tryd.func43, Tryd.ntmps43
  go_wp2_with fail
  have KEEP : Hid (∀ w', Below (w.alloc (.cells #[.int .i64 q.kind, .int .i64 q.id, .int .i64 q.a, .int .i64 q.b, .int .i64 q.c, .int .i64 q.d, .int .i64 q.pw, .int .i64 q.ph, .slice ua mu uc] 51)).heap.size (w.alloc (.cells #[.int .i64 q.kind, .int .i64 q.id, .int .i64 q.a, .int .i64 q.b, .int .i64 q.c, .int .i64 q.d, .int .i64 q.pw, .int .i64 q.ph, .slice ua mu uc] 51)) w' → w'.cell? ⟨b, 6, none⟩ = some (.slice oa on oc) ∧ w'.cell? ⟨w.heap.size, 0, none⟩ = some (.int .i64 q.kind) ∧ w'.cell? ⟨w.heap.size, 1, none⟩ = some (.int .i64 q.id) ∧ w'.cell? ⟨w.heap.size, 2, none⟩ = some (.int .i64 q.a) ∧ w'.cell? ⟨w.heap.size, 3, none⟩ = some (.int .i64 q.b) ∧ w'.cell? ⟨w.heap.size, 4, none⟩ = some (.int .i64 q.c) ∧ w'.cell? ⟨w.heap.size, 5, none⟩ = some (.int .i64 q.d) ∧ w'.cell? ⟨w.heap.size, 6, none⟩ = some (.int .i64 q.pw) ∧ w'.cell? ⟨w.heap.size, 7, none⟩ = some (.int .i64 q.ph) ∧ w'.cell? ⟨w.heap.size, 8, none⟩ = some (.slice ua mu uc)) := by
    intro w' h
    refine ⟨?_, ?_, ?_, ?_, ?_, ?_, ?_, ?_, ?_, ?_⟩
    · rw [h.cell (p := ⟨b, 6, none⟩) nlt1]; exact n6
    · rw [h.cell (p := ⟨w.heap.size, 0, none⟩) xlt]; exact x0
    · rw [h.cell (p := ⟨w.heap.size, 1, none⟩) xlt]; exact x1
    · rw [h.cell (p := ⟨w.heap.size, 2, none⟩) xlt]; exact x2
    · rw [h.cell (p := ⟨w.heap.size, 3, none⟩) xlt]; exact x3
    · rw [h.cell (p := ⟨w.heap.size, 4, none⟩) xlt]; exact x4
    · rw [h.cell (p := ⟨w.heap.size, 5, none⟩) xlt]; exact x5
    · rw [h.cell (p := ⟨w.heap.size, 6, none⟩) xlt]; exact x6
    · rw [h.cell (p := ⟨w.heap.size, 7, none⟩) xlt]; exact x7
    · rw [h.cell (p := ⟨w.heap.size, 8, none⟩) xlt]; exact x8
  refine wp_region_held_drew (S := (fun w' => w'.cell? ⟨b, 6, none⟩ = some (.slice oa on oc) ∧ w'.cell? ⟨w.heap.size, 0, none⟩ = some (.int .i64 q.kind) ∧ w'.cell? ⟨w.heap.size, 1, none⟩ = some (.int .i64 q.id) ∧ w'.cell? ⟨w.heap.size, 2, none⟩ = some (.int .i64 q.a) ∧ w'.cell? ⟨w.heap.size, 3, none⟩ = some (.int .i64 q.b) ∧ w'.cell? ⟨w.heap.size, 4, none⟩ = some (.int .i64 q.c) ∧ w'.cell? ⟨w.heap.size, 5, none⟩ = some (.int .i64 q.d) ∧ w'.cell? ⟨w.heap.size, 6, none⟩ = some (.int .i64 q.pw) ∧ w'.cell? ⟨w.heap.size, 7, none⟩ = some (.int .i64 q.ph) ∧ w'.cell? ⟨w.heap.size, 8, none⟩ = some (.slice ua mu uc))) (by kernel_rfl) ?_ (fun hHeld => ?_)
  · exact KEEP.out _ (Below.refl _ _).drew
  refine tk (v := ?_) 0 rfl (by kernel_rfl) (by rfl) ?_ ?_
  rotate_left
  · (intro w hSw; (try dsimp only at hSw); go_simp; try with_reducible rfl)
  refine tk (v := ?_) 1 rfl (by kernel_rfl) (by rfl) ?_ ?_
  rotate_left
  · (intro w hSw; (try dsimp only at hSw); go_simp; try with_reducible rfl)
  refine tk (v := ?_) 2 rfl (by kernel_rfl) (by rfl) ?_ ?_
  rotate_left
  · (intro w hSw; (try dsimp only at hSw); go_simp; try with_reducible rfl)
  refine tk (v := ?_) 3 rfl (by kernel_rfl) (by rfl) ?_ ?_
  rotate_left
  · (intro w hSw; (try dsimp only at hSw); go_simp; try with_reducible rfl)
  refine tk (v := ?_) 4 rfl (by kernel_rfl) (by rfl) ?_ ?_
  rotate_left
  · (intro w hSw; (try dsimp only at hSw); go_simp; try with_reducible rfl)
  refine wpAnyH_ready (rs := [5]) (by kernel_rfl) (by simp) ?_
  refine AllReadyH.cons rfl (fun K_ hK => ?_) AllReadyH.nil
  go_simp
  have hdo := do_any (.slice oa on oc) obs q (.slice ua mu uc) (w.alloc (.cells #[.int .i64 q.kind, .int .i64 q.id, .int .i64 q.a, .int .i64 q.b, .int .i64 q.c, .int .i64 q.d, .int .i64 q.pw, .int .i64 q.ph, .slice ua mu uc] 51)).drew HDP (HOD.out.on (Below.refl _ _).drew) (HUD.out.on (Below.refl _ _).drew)
  simp only [opV] at hdo
  refine hdo.mono ?_
  clear hdo
  rintro e w2 ⟨hb2, hd⟩
  have HB2 : Hid (Below (w.alloc (.cells #[.int .i64 q.kind, .int .i64 q.id, .int .i64 q.a, .int .i64 q.b, .int .i64 q.c, .int .i64 q.d, .int .i64 q.pw, .int .i64 q.ph, .slice ua mu uc] 51)).heap.size (w.alloc (.cells #[.int .i64 q.kind, .int .i64 q.id, .int .i64 q.a, .int .i64 q.b, .int .i64 q.c, .int .i64 q.d, .int .i64 q.pw, .int .i64 q.ph, .slice ua mu uc] 51)) w2) := ⟨hb2.os, hb2.tape, hb2.output, hb2.size, hb2.block⟩
  rcases hd with ⟨v5, qs5, he5, rfl, ho5⟩ | ⟨c5, he5, hc5, rfl⟩
  · have HD5 := hid_of2 he5
    obtain ⟨a5, c5, hv5⟩ := own_any ho5.1
    subst hv5
    have HO5 := hide_ob ho5
    clear he5 ho5 hb2
    refine hK.out _ _ ?_ (fun hHeld => ?_)
    · exact KEEP.out _ HB2.out
    clear hK K_
    refine tk (v := ?_) 6 rfl (by kernel_rfl) (by rfl) ?_ ?_
    rotate_left
    · (intro w hSw; (try dsimp only at hSw); go_simp; try with_reducible rfl)
    refine tk (v := ?_) 7 rfl (by kernel_rfl) (by rfl) ?_ ?_
    rotate_left
    · (intro w hSw; (try dsimp only at hSw); go_simp; try with_reducible rfl)
    refine tk (v := ?_) 8 rfl (by kernel_rfl) (by rfl) ?_ ?_
    rotate_left
    · (intro w hSw; (try dsimp only at hSw); go_simp; try with_reducible rfl)
    refine tk (v := ?_) 9 rfl (by kernel_rfl) (by rfl) ?_ ?_
    rotate_left
    · (intro w hSw; (try dsimp only at hSw); go_simp; try with_reducible rfl)
    refine tk (v := ?_) 10 rfl (by kernel_rfl) (by rfl) ?_ ?_
    rotate_left
    · (intro w hSw; (try dsimp only at hSw); go_simp; try with_reducible rfl)
    refine wpAnyH_done (by kernel_rfl) ?_ _
    have hbw2 := hbx1.trans (HB2.out.mono hbx1.size)
    obtain ⟨z0, z1, z2, z3, z4, z5, z6, z7, z8, zf0, zf1, zf2, zf3, zf4, zf5, zf6, zf7, zf8, zlt⟩ := N1.out.on HB2.out
    clear KEEP HOD HUD HDP x0 x1 x2 x3 x4 x5 x6 x7 x8 n6 nlt1 hHeld
    go_wp2_with fail
    go_ret
    obtain ⟨k1, k2, k3⟩ := mac_set (own_on2 HM1.out hbw2) 6 (.slice a5 qs5.length c5)
    have o2 := (Only.below hbw2 [62, 108]).trans (only_MT1 k2)
    have o3 := only_MT2 o2
    have HCH : chaM st q = .inl { st with obs := qs5.map Prod.fst } := by unfold chaM; rw [HOBS.out, HD5.out]
    unfold MacP
    rw [HCH]
    exact ⟨F, rfl, ⟨vo, bm, vr, _, vk, vf, k1, ⟨HM2.out.ops_only o3, HM2.out.mpl, HM2.out.mp_only o3, own_only (own_on2 HM2.out.rnd hbw2) k2 (by decide), ⟨qs5, ((HO5.out.mono (show B ≤ _ by have := hbx1.size; show B ≤ (w.alloc (.cells #[.int .i64 q.kind, .int .i64 q.id, .int .i64 q.a, .int .i64 q.b, .int .i64 q.c, .int .i64 q.d, .int .i64 q.pw, .int .i64 q.ph, .slice ua mu uc] 51)).heap.size; omega)).only k2 (by decide) (by decide)), rfl⟩, HM2.out.kep_only o3, HM2.out.frs_only o2⟩, HM3.out⟩, (Foot.below hbw2 F).trans (k3 F HM3.out.self)⟩
  · have HD5 := hid_of2 he5
    clear he5 hb2
    rcases hc5 with rfl | rfl
    · rw [show errV 5 = Value.iface 58 (.int .i64 5) from rfl]
      refine hK.out _ _ ?_ (fun hHeld => ?_)
      · exact KEEP.out _ HB2.out
      clear hK K_
      refine tk (v := ?_) 6 rfl (by kernel_rfl) (by rfl) ?_ ?_
      rotate_left
      · (intro w hSw; (try dsimp only at hSw); go_simp; try with_reducible rfl)
      refine tk (v := ?_) 7 rfl (by kernel_rfl) (by rfl) ?_ ?_
      rotate_left
      · (intro w hSw; (try dsimp only at hSw); go_simp; try with_reducible rfl)
      refine tk (v := ?_) 8 rfl (by kernel_rfl) (by rfl) ?_ ?_
      rotate_left
      · (intro w hSw; (try dsimp only at hSw); go_simp; try with_reducible rfl)
      refine tk (v := ?_) 9 rfl (by kernel_rfl) (by rfl) ?_ ?_
      rotate_left
      · (intro w hSw; (try dsimp only at hSw); go_simp; try with_reducible rfl)
      refine tk (v := ?_) 10 rfl (by kernel_rfl) (by rfl) ?_ ?_
      rotate_left
      · (intro w hSw; (try dsimp only at hSw); go_simp; try with_reducible rfl)
      refine wpAnyH_done (by kernel_rfl) ?_ _
      have hbw2 := hbx1.trans (HB2.out.mono hbx1.size)
      clear KEEP HOD HUD HDP x0 x1 x2 x3 x4 x5 x6 x7 x8 n6 nlt1 hHeld
      go_wp2_with fail
      go_ret
      have HCH : chaM st q = .inr 5 := by unfold chaM; rw [HOBS.out, HD5.out]
      unfold MacP
      rw [HCH]
      exact ⟨F, rfl, HM.out.on hbw2, Foot.below hbw2 F⟩
    · rw [show errV 3 = Value.iface 58 (.int .i64 3) from rfl]
      refine hK.out _ _ ?_ (fun hHeld => ?_)
      · exact KEEP.out _ HB2.out
      clear hK K_
      refine tk (v := ?_) 6 rfl (by kernel_rfl) (by rfl) ?_ ?_
      rotate_left
      · (intro w hSw; (try dsimp only at hSw); go_simp; try with_reducible rfl)
      refine tk (v := ?_) 7 rfl (by kernel_rfl) (by rfl) ?_ ?_
      rotate_left
      · (intro w hSw; (try dsimp only at hSw); go_simp; try with_reducible rfl)
      refine tk (v := ?_) 8 rfl (by kernel_rfl) (by rfl) ?_ ?_
      rotate_left
      · (intro w hSw; (try dsimp only at hSw); go_simp; try with_reducible rfl)
      refine tk (v := ?_) 9 rfl (by kernel_rfl) (by rfl) ?_ ?_
      rotate_left
      · (intro w hSw; (try dsimp only at hSw); go_simp; try with_reducible rfl)
      refine tk (v := ?_) 10 rfl (by kernel_rfl) (by rfl) ?_ ?_
      rotate_left
      · (intro w hSw; (try dsimp only at hSw); go_simp; try with_reducible rfl)
      refine wpAnyH_done (by kernel_rfl) ?_ _
      have hbw2 := hbx1.trans (HB2.out.mono hbx1.size)
      clear KEEP HOD HUD HDP x0 x1 x2 x3 x4 x5 x6 x7 x8 n6 nlt1 hHeld
      go_wp2_with fail
      go_ret
      have HCH : chaM st q = .inr 3 := by unfold chaM; rw [HOBS.out, HD5.out]
      unfold MacP
      rw [HCH]
      exact ⟨F, rfl, HM.out.on hbw2, Foot.below hbw2 F⟩
end Go.Proofs.YtjmkfcgnadpbaaaDoor
/- Walk of a machine: do. -/
namespace Go.Proofs.YtjmkfcgnadpbaaaDoor
open Go.RowKit Go.Maps

theorem doM_next (qs : List Pq) (s : Ms) (q : Pq) (h : q.kind = 13) : doM qs s q = .inl (nextM s) := by
  unfold doM nextM
  rw [if_neg (by omega), if_neg (by omega), if_neg (by omega), if_neg (by omega), if_pos h]
  split <;> rfl
theorem doM_cha (qs : List Pq) (s : Ms) (q : Pq) (h : q.kind ≠ 1 ∧ q.kind ≠ 10 ∧ q.kind ≠ 11 ∧ q.kind ≠ 12 ∧ q.kind ≠ 13 ∧ q.kind ≠ 14 ∧ q.kind ≠ 15) : doM qs s q = chaM s q := by
  obtain ⟨h1, h2, h3, h4, h5, h6, h7⟩ := h
  unfold doM chaM
  rw [if_neg h1, if_neg h2, if_neg h3, if_neg h4, if_neg h5, if_neg h6, if_neg h7]
  first | done | (cases doO s.obs q <;> rfl)
theorem doM_tell (qs : List Pq) (s : Ms) (q : Pq) (h : q.kind = 11) : doM qs s q = tellM qs s q.a := by
  unfold doM tellM
  rw [if_neg (by omega), if_neg (by omega), if_pos h]
theorem mac_in {B b : Nat} {F : List Nat} {qs : List Pq} {st : Ms} {r : Ms ⊕ Nat} {w w1 : World} {e : Ending} {w' : World} (hb : Below w.heap.size w w1) (h : MacP B b F qs st r w1 e w') : MacP B b F qs st r w e w' := by
  obtain ⟨F', h1, h2, h3⟩ := h
  exact ⟨F', h1, h2, (Foot.below hb F).trans h3⟩

set_option maxHeartbeats 8000000 in
set_option maxRecDepth 100000 in
theorem mdo_any (B b : Nat) (F : List Nat) (qs : List Pq) (st : Ms) (w : World) (HM : Hid (Mac w B b F qs st)) (HBK : Hid (Book qs)) (HW : Hid (Way qs st)) (q : Pq) (u : Value) (HQ : Hid (qs.getD st.pc pq0 = q)) (hpl : q.ps.length ≤ 80) (HU : Hid (RdP w u q.ps)) :
    Calls Tryd.prog 28 #[.pointer (some ⟨b, 0, none⟩), opV q u] w fun e w' => MacP B b F qs st (doM qs st q) w e w' := by
  have HOPC : Hid (opC q = 0) := by rw [← HQ.out]; exact HBK.out.ok _ HW.out.on
  obtain ⟨ua, uc, hu, _, _⟩ := HU.out
  obtain ⟨mu, HMU⟩ : ∃ n, Hid (q.ps.length = n) := ⟨_, (rfl : _ = _)⟩
  rw [HMU.out] at hu
  subst hu
  obtain ⟨kd, qid, qa, qb, qc, qd, qw, qh, qp⟩ := q
  simp only at HU hpl HMU
  have hbx1 : Below w.heap.size w (w.alloc (.cells #[.int .i64 kd, .int .i64 qid, .int .i64 qa, .int .i64 qb, .int .i64 qc, .int .i64 qd, .int .i64 qw, .int .i64 qh, .slice ua mu uc] 51)) := (Below.refl _ _).alloc (Nat.le_refl _) _
  have HM1 : Hid (Mac (w.alloc (.cells #[.int .i64 kd, .int .i64 qid, .int .i64 qa, .int .i64 qb, .int .i64 qc, .int .i64 qd, .int .i64 qw, .int .i64 qh, .slice ua mu uc] 51)) B b F qs st) := HM.out.on hbx1
  have HU1 : Hid (RdP (w.alloc (.cells #[.int .i64 kd, .int .i64 qid, .int .i64 qa, .int .i64 qb, .int .i64 qc, .int .i64 qd, .int .i64 qw, .int .i64 qh, .slice ua mu uc] 51)) (.slice ua mu uc) qp) := HU.out.on hbx1
  obtain ⟨x0, x1, x2, x3, x4, x5, x6, x7, x8, xf0, xf1, xf2, xf3, xf4, xf5, xf6, xf7, xf8, xlt⟩ := nine_start w (.int .i64 kd) (.int .i64 qid) (.int .i64 qa) (.int .i64 qb) (.int .i64 qc) (.int .i64 qd) (.int .i64 qw) (.int .i64 qh) (.slice ua mu uc) 51 w.heap.size rfl
  by_cases k1 : kd = 1
  · subst k1
    have HD : Hid (doM qs st ⟨1, qid, qa, qb, qc, qd, qw, qh, qp⟩ = .inl st) := by unfold Hid doM; rw [if_pos rfl]
    rw [HD.out]
    go_enter Tryd.func28, Tryd.ntmps28
    go_wp2_with fail
    go_ret
    exact ⟨F, rfl, HM1.out, Foot.below hbx1 F⟩
  by_cases k10 : kd = 10
  · subst k10
    have HD : Hid (doM qs st ⟨10, qid, qa, qb, qc, qd, qw, qh, qp⟩ = .inl { st with bv := qa, ba := qb }) := by unfold Hid doM; rw [if_neg (by simp), if_pos rfl]
    rw [HD.out]
    obtain ⟨vo, bm, vr, vb, vk, vf, hm1, hm2, hm3⟩ := HM1.out
    obtain ⟨N, hB⟩ := mac_nine hm1
    obtain ⟨n0, n1, n2, n3, n4, n5, n6, n7, n8, nf0, nf1, nf2, nf3, nf4, nf5, nf6, nf7, nf8, nlt⟩ := N
    have HX1 := hid_of2 hm1
    have HX2 := hid_of2 hm2
    have HX3 := hid_of2 hm3
    have hne : ¬ w.heap.size = b := by
      obtain ⟨_, _, _, _, _, _, y1, _⟩ := HM.out
      have := (mac_nine y1).1.lt
      omega
    clear hm1 hm2 hm3
    go_enter Tryd.func28, Tryd.ntmps28
    go_wp2_with fail
    go_ret
    obtain ⟨a1, a2, a3⟩ := mac_set HX1.out 4 (.int .i64 qa)
    obtain ⟨b1, b2, b3⟩ := mac_set a1 5 (.int .i64 qb)
    have o2 := only_MT1 (a2.trans b2)
    have o3 := only_MT2 o2
    exact ⟨F, rfl, ⟨vo, bm, vr, vb, vk, vf, b1, ⟨HX2.out.ops_only o3, HX2.out.mpl, HX2.out.mp_only o3, own_only HX2.out.rnd (a2.trans b2) (by decide), HX2.out.obs_only o3, HX2.out.kep_only o3, HX2.out.frs_only o2⟩, HX3.out⟩, ((Foot.below hbx1 F).trans (a3 F HX3.out.self)).trans (b3 F HX3.out.self)⟩
  by_cases k11 : kd = 11
  · subst k11
    rw [doM_tell _ _ _ rfl]
    go_enter Tryd.func28, Tryd.ntmps28
    go_wp2_with fail
    refine (mtell_any B b F qs st _ HM1 HBK HW qa).mono ?_
    rintro e w2 h2
    obtain ⟨F', rfl, h3, h4⟩ := mac_in hbx1 h2
    clear h2
    go_wp2_with fail
    go_ret
    exact ⟨F', rfl, h3, h4⟩
  by_cases k12 : kd = 12
  · subst k12
    obtain ⟨l1, l2⟩ := op_loop _ HOPC.out rfl
    simp only at l1 l2
    have hpc : st.pc ≤ 1000 := by have := HW.out.on; have := HBK.out.few; omega
    by_cases ha : qa = 0
    · subst ha
      obtain ⟨j, hj⟩ := clo_ex HBK.out HW.out.on (by rw [HQ.out])
      have HD : Hid (doM qs st ⟨12, qid, 0, qb, qc, qd, qw, qh, qp⟩ = .inl { st with pc := j }) := by unfold Hid doM; rw [if_neg (by simp), if_neg (by simp), if_neg (by simp), if_pos rfl, if_pos rfl, hj.fn]
      rw [HD.out]
      have HJ := hid_of2 hj
      clear hj
      go_enter Tryd.func28, Tryd.ntmps28
      go_wp2_with fail
      refine (ment0_any B b F qs st _ HM1 hpc j HJ).mono ?_
      rintro e w2 ⟨rfl, h3, h4⟩
      go_wp2_with fail
      go_ret
      exact ⟨F, rfl, h3, (Foot.below hbx1 F).trans h4⟩
    · obtain ⟨t, rfl⟩ : ∃ t : Nat, qa = (t : Int) := ⟨_, (Int.toNat_of_nonneg l1).symm⟩
      have ht : 1 ≤ t := by omega
      have HD : Hid (doM qs st ⟨12, qid, (t : Int), qb, qc, qd, qw, qh, qp⟩ = .inl { st with opn := st.opn ++ [(st.pc, t)] }) := by unfold Hid doM; rw [if_neg (by simp), if_neg (by simp), if_neg (by simp), if_pos rfl, if_neg ha]; simp
      rw [HD.out]
      have hol : st.opn.length ≤ 1000 := by
        have h1 := HW.out.deep
        have h2 := HBK.out.high st.pc (by have := HW.out.on; omega)
        omega
      clear ha
      go_enter Tryd.func28, Tryd.ntmps28
      go_wp2_with fail
      refine (ment_any B b F qs st _ HM1 hol t ht).mono ?_
      rintro e w2 ⟨rfl, F', h3, h4⟩
      go_wp2_with fail
      go_ret
      exact ⟨F', rfl, h3, (Foot.below hbx1 F).trans h4⟩
  by_cases k13 : kd = 13
  · subst k13
    rw [doM_next _ _ _ rfl]
    obtain ⟨p1, p2⟩ := open_pos HBK.out HW.out (by rw [HQ.out])
    obtain ⟨c1, c2, c3, c4, c5⟩ := HW.out.inn (st.opn.length - 1) (by omega)
    go_enter Tryd.func28, Tryd.ntmps28
    go_wp2_with fail
    refine (mrep_any B b F qs st _ HM1 p1 (by omega) ⟨c4, c5⟩).mono ?_
    rintro e w2 ⟨rfl, h3, h4⟩
    clear p1 p2 c1 c2 c3 c4 c5
    go_wp2_with fail
    go_ret
    exact ⟨F, rfl, h3, (Foot.below hbx1 F).trans h4⟩
  by_cases k14 : kd = 14
  · subst k14
    have HD : Hid (doM qs st ⟨14, qid, qa, qb, qc, qd, qw, qh, qp⟩ = .inl { st with kept := st.obs }) := by unfold Hid doM; rw [if_neg (by simp), if_neg (by simp), if_neg (by simp), if_neg (by simp), if_neg (by simp), if_pos rfl]
    rw [HD.out]
    obtain ⟨vo, bm, vr, vb, vk, vf, hm1, hm2, hm3⟩ := HM1.out
    obtain ⟨N, hB⟩ := mac_nine hm1
    obtain ⟨n0, n1, n2, n3, n4, n5, n6, n7, n8, nf0, nf1, nf2, nf3, nf4, nf5, nf6, nf7, nf8, nlt⟩ := N
    obtain ⟨ov, hov1, _⟩ := hm2.obs
    obtain ⟨oa, oc, hvb⟩ := own_any hov1.1
    subst hvb
    have HX1 := hid_of2 hm1
    have HX2 := hid_of2 hm2
    have HX3 := hid_of2 hm3
    clear hm1 hm2 hm3 hov1
    go_enter Tryd.func28, Tryd.ntmps28
    go_wp2_with fail
    go_ret
    obtain ⟨a1, a2, a3⟩ := mac_set HX1.out 7 (.slice oa ov.length oc)
    have o2 := only_MT1 a2
    have o3 := only_MT2 o2
    exact ⟨F, rfl, ⟨vo, bm, vr, _, _, vf, a1, ⟨HX2.out.ops_only o3, HX2.out.mpl, HX2.out.mp_only o3, own_only HX2.out.rnd a2 (by decide), HX2.out.obs_only o3, HX2.out.obs_only o3, HX2.out.frs_only o2⟩, HX3.out⟩, (Foot.below hbx1 F).trans (a3 F HX3.out.self)⟩
  by_cases k15 : kd = 15
  · subst k15
    have HD : Hid (doM qs st ⟨15, qid, qa, qb, qc, qd, qw, qh, qp⟩ = .inl { st with obs := st.kept }) := by unfold Hid doM; rw [if_neg (by simp), if_neg (by simp), if_neg (by simp), if_neg (by simp), if_neg (by simp), if_neg (by simp), if_pos rfl]
    rw [HD.out]
    obtain ⟨vo, bm, vr, vb, vk, vf, hm1, hm2, hm3⟩ := HM1.out
    obtain ⟨N, hB⟩ := mac_nine hm1
    obtain ⟨n0, n1, n2, n3, n4, n5, n6, n7, n8, nf0, nf1, nf2, nf3, nf4, nf5, nf6, nf7, nf8, nlt⟩ := N
    obtain ⟨ov, hov1, _⟩ := hm2.kep
    obtain ⟨oa, oc, hvb⟩ := own_any hov1.1
    subst hvb
    have HX1 := hid_of2 hm1
    have HX2 := hid_of2 hm2
    have HX3 := hid_of2 hm3
    clear hm1 hm2 hm3 hov1
    go_enter Tryd.func28, Tryd.ntmps28
    go_wp2_with fail
    go_ret
    obtain ⟨a1, a2, a3⟩ := mac_set HX1.out 6 (.slice oa ov.length oc)
    have o2 := only_MT1 a2
    have o3 := only_MT2 o2
    exact ⟨F, rfl, ⟨vo, bm, vr, _, _, vf, a1, ⟨HX2.out.ops_only o3, HX2.out.mpl, HX2.out.mp_only o3, own_only HX2.out.rnd a2 (by decide), HX2.out.kep_only o3, HX2.out.kep_only o3, HX2.out.frs_only o2⟩, HX3.out⟩, (Foot.below hbx1 F).trans (a3 F HX3.out.self)⟩
  rw [doM_cha _ _ _ ⟨k1, k10, k11, k12, k13, k14, k15⟩]
  have y1 : (kd == 1) = false := by simpa using k1
  have y10 : (kd == 10) = false := by simpa using k10
  have y11 : (kd == 11) = false := by simpa using k11
  have y12 : (kd == 12) = false := by simpa using k12
  have y13 : (kd == 13) = false := by simpa using k13
  have y14 : (kd == 14) = false := by simpa using k14
  have y15 : (kd == 15) = false := by simpa using k15
  clear k1 k10 k11 k12 k13 k14 k15
  have HFO : Hid (FineO st.obs) := HW.out.obs
  have hch := mcha_any B b F qs st (w.alloc (.cells #[.int .i64 kd, .int .i64 qid, .int .i64 qa, .int .i64 qb, .int .i64 qc, .int .i64 qd, .int .i64 qw, .int .i64 qh, .slice ua mu uc] 51)) HM1 HFO ⟨kd, qid, qa, qb, qc, qd, qw, qh, qp⟩ (.slice ua mu uc) HOPC.out hpl HU1
  simp only [opV] at hch
  have HCH := hid_of2 hch
  clear hch
  go_enter Tryd.func28, Tryd.ntmps28
  go_wp2_with fail
  refine HCH.out.mono ?_
  rintro e w2 h2
  obtain ⟨F', rfl, h3, h4⟩ := mac_in hbx1 h2
  clear h2
  go_wp2_with fail
  go_ret
  exact ⟨F', rfl, h3, h4⟩
end Go.Proofs.YtjmkfcgnadpbaaaDoor
/- Walk of a machine: Step. -/
namespace Go.Proofs.YtjmkfcgnadpbaaaDoor
open Go.RowKit Go.Maps

theorem doO_err {os : List Po} {q : Pq} {c : Nat} (h : doO os q = .inr c) : c = 5 ∨ c = 3 := by
  unfold doO at h
  split at h
  · cases h
  split at h
  · obtain rfl := Sum.inr.inj h; exact .inl rfl
  split at h
  · cases h
  split at h
  · obtain rfl := Sum.inr.inj h; exact .inr rfl
  · cases h
theorem doM_err {qs : List Pq} {s : Ms} {q : Pq} {c : Nat} (h : doM qs s q = .inr c) : c = 7 ∨ c = 5 ∨ c = 3 := by
  unfold doM at h
  split at h
  · cases h
  split at h
  · cases h
  split at h
  · split at h
    · obtain rfl := Sum.inr.inj h; exact .inl rfl
    · cases h
  split at h
  · split at h <;> cases h
  split at h
  · split at h <;> cases h
  split at h
  · cases h
  split at h
  · cases h
  split at h
  · cases h
  · rename_i c' hc
    obtain rfl := Sum.inr.inj h
    exact .inr (doO_err hc)
theorem op_ps (q : Pq) (h : opC q = 0) : q.ps.length ≤ 64 := by
  cases hk : kindAt q.kind shps with
  | none => unfold opC at h; rw [hk] at h; simp at h
  | some s =>
    obtain ⟨h1, _, _, h4⟩ := op_shape q h s hk
    by_cases hp : s.pic = true
    · exact check_len _ _ _ (h4 hp)
    · simp [forL, hp] at h1
      rw [h1.2.2.2.2]
      simp
/-- Step, by numbers -/
theorem stepM_not {qs : List Pq} {s : Ms} (h : ¬ (qs.getD s.pc pq0).kind = 16) : stepM qs s = match doM qs s (qs.getD s.pc pq0) with
    | .inl s' => .inl { s' with pc := s'.pc + 1 }
    | .inr c => .inr c := by
  unfold stepM
  rw [if_neg (show ¬ doneM qs s from h)]
  first | done | (cases doM qs s (qs.getD s.pc pq0) <;> rfl)

set_option maxHeartbeats 8000000 in
set_option maxRecDepth 100000 in
theorem mstep_any (B b : Nat) (F : List Nat) (qs : List Pq) (st : Ms) (w : World) (HM : Hid (Mac w B b F qs st)) (HBK : Hid (Book qs)) (HW : Hid (Way qs st)) :
    Calls Tryd.prog 13 #[.pointer (some ⟨b, 0, none⟩)] w fun e w' => MacP B b F qs st (stepM qs st) w e w' := by
  obtain ⟨t, HT⟩ : ∃ t, Hid (decide ((qs.getD st.pc pq0).kind = 16) = t) := ⟨_, (rfl : _ = _)⟩
  go_enter Tryd.func13, Tryd.ntmps13
  go_wp2_with fail
  refine (mdone_any B b F qs st _ HM HW.out.on t HT).mono ?_
  rintro e w1 ⟨rfl, hb1⟩
  have HM1 : Hid (Mac w1 B b F qs st) := HM.out.on hb1
  cases t with
  | true =>
    have hd : stepM qs st = .inl st := by
      unfold stepM
      rw [if_pos (show doneM qs st from of_decide_eq_true HT.out)]
    have HD := hid_of2 hd
    clear hd
    go_wp2_with fail
    go_ret
    rw [HD.out]
    exact ⟨F, rfl, HM1.out, Foot.below hb1 F⟩
  | false =>
    have hd := stepM_not (s := st) (of_decide_eq_false HT.out)
    have hnd : ¬ doneM qs st := of_decide_eq_false HT.out
    obtain ⟨q, HX⟩ : ∃ q, Hid (qs.getD st.pc pq0 = q) := ⟨_, (rfl : _ = _)⟩
    rw [HX.out] at hd
    have HD := hid_of2 hd
    have HND := hid_of2 hnd
    clear hd hnd
    have hopc : opC q = 0 := by rw [← HX.out]; exact HBK.out.ok _ HW.out.on
    have hpl : q.ps.length ≤ 80 := by have := op_ps q hopc; omega
    obtain ⟨vo, bm, vr, vb, vk, vf, hm1, hm2, hm3⟩ := HM1.out
    obtain ⟨N, hB⟩ := mac_nine hm1
    obtain ⟨qv, hq1, hq2⟩ := hm2.ops
    have HRQ : Hid (RdQ w1 vo qs) := by unfold Hid; rw [← hq2]; exact hq1.rd
    obtain ⟨n, HN⟩ : ∃ n, Hid (qs.length = n) := ⟨_, (rfl : _ = _)⟩
    obtain ⟨oa, oc, hvo, hol, hoc⟩ := HRQ.out.shape
    have hpc := HW.out.on
    rw [HN.out] at hvo hol hpc
    subst hvo
    obtain ⟨pc, HPC⟩ : ∃ pc, Hid (st.pc = pc) := ⟨_, (rfl : _ = _)⟩
    rw [HPC.out] at hpc N
    have HX2 : Hid (qs.getD pc pq0 = q) := by rw [← HPC.out]; exact HX
    obtain ⟨g, o, ua, mu, uc, rfl, hg, OC, HU, HMU⟩ := HRQ.out.at hpc HX2
    obtain ⟨x0, x1, x2, x3, x4, x5, x6, x7, x8⟩ := OC
    have hi0 : (0 : Int) ≤ (pc : Int) := by omega
    have hi1 : (pc : Int) < (n : Int) := by omega
    obtain ⟨n0, n1, n2, n3, n4, n5, n6, n7, n8, nf0, nf1, nf2, nf3, nf4, nf5, nf6, nf7, nf8, nlt⟩ := N
    have HUD : Hid (RdP w1.drew (.slice ua mu uc) q.ps) := HU.out.on (Below.refl _ _).drew
    have HMD : Hid (Mac w1.drew B b F qs st) := HM1.out.on (Below.refl _ _).drew
    have hdo := mdo_any B b F qs st w1.drew HMD HBK HW q (.slice ua mu uc) HX hpl HUD
    simp only [opV] at hdo
    have HDO := hid_of2 hdo
    clear hm1 hm2 hm3 hq1 hq2 HRQ hdo hopc HU
    go_wp2_with fail
    go_still_tail 11, (by kernel_rfl)
    go_wp2_with fail
    refine HDO.out.mono ?_
    rintro e w2 ⟨F', rfl, h3, h4⟩
    have hf1 := (Foot.below (hb1.trans ((Below.refl w1.heap.size w1).drew.mono hb1.size)) F).trans h4
    obtain ⟨r, HRR⟩ : ∃ r, Hid (doM qs st q = r) := ⟨_, (rfl : _ = _)⟩
    rw [HRR.out] at h3 ⊢
    have HF1 := hid_of2 hf1
    clear hf1 h4 HDO HMD HUD x0 x1 x2 x3 x4 x5 x6 x7 x8 n0 n1 n2 n3 n4 n5 n6 n7 n8 nf0 nf1 nf2 nf3 nf4 nf5 nf6 nf7 nf8 nlt
    cases r with
    | inr c =>
      have HS : Hid (stepM qs st = .inr c) := by unfold Hid; rw [HD.out, HRR.out]
      have HM3 := hid_of2 h3
      have hc := doM_err HRR.out
      clear h3
      unfold numM
      rcases hc with rfl | rfl | rfl
      · rw [show errV 7 = Value.iface 58 (.int .i64 7) from rfl]
        go_wp2_with fail
        go_ret
        exact ⟨F', by rw [HS.out]; rfl, by rw [HS.out]; exact HM3.out, HF1.out⟩
      · rw [show errV 5 = Value.iface 58 (.int .i64 5) from rfl]
        go_wp2_with fail
        go_ret
        exact ⟨F', by rw [HS.out]; rfl, by rw [HS.out]; exact HM3.out, HF1.out⟩
      · rw [show errV 3 = Value.iface 58 (.int .i64 3) from rfl]
        go_wp2_with fail
        go_ret
        exact ⟨F', by rw [HS.out]; rfl, by rw [HS.out]; exact HM3.out, HF1.out⟩
    | inl s' =>
      have HS : Hid (stepM qs st = .inl { s' with pc := s'.pc + 1 }) := by unfold Hid; rw [HD.out, HRR.out]
      have hw := (step_way HBK.out HW.out HND.out (by rw [HX.out]; exact HRR.out)).on
      have hfew := HBK.out.few
      unfold nxtM at h3
      unfold numM
      rw [show errV 0 = Value.nilIface from rfl]
      obtain ⟨vo', bm', vr', vb', vk', vf', hm1, hm2, hm3⟩ := h3
      obtain ⟨N, hB'⟩ := mac_nine hm1
      obtain ⟨n0, n1, n2, n3, n4, n5, n6, n7, n8, nf0, nf1, nf2, nf3, nf4, nf5, nf6, nf7, nf8, nlt⟩ := N
      have HX1 := hid_of2 hm1
      have HXM := hid_of2 hm2
      have HX3 := hid_of2 hm3
      simp only at hw
      have hpb : s'.pc < 60 := by omega
      clear hm1 hm2 hm3 hw hfew HD HRR
      obtain ⟨pc', HPC'⟩ : ∃ pc', Hid (s'.pc = pc') := ⟨_, (rfl : _ = _)⟩
      rw [HPC'.out] at n2 hpb
      go_wp2_with fail
      go_ret
      obtain ⟨a1, a2, a3⟩ := mac_set HX1.out 2 (.int .i64 ((pc' : Int) + 1))
      have o2 := only_MT1 a2
      have o3 := only_MT2 o2
      refine ⟨F', by rw [HS.out]; rfl, ?_, HF1.out.trans (a3 F' HX3.out.self)⟩
      rw [HS.out]
      refine ⟨vo', bm', vr', vb', vk', vf', ?_, ⟨HXM.out.ops_only o3, HXM.out.mpl, HXM.out.mp_only o3, own_only HXM.out.rnd a2 (by decide), HXM.out.obs_only o3, HXM.out.kep_only o3, HXM.out.frs_only o2⟩, HX3.out⟩
      have e : (((nxtM st (.inl { s' with pc := s'.pc + 1 })).pc : Nat) : Int) = (pc' : Int) + 1 := by rw [← HPC'.out]; simp [nxtM]
      rw [e]
      exact a1
end Go.Proofs.YtjmkfcgnadpbaaaDoor
/- Walk: machine.own. -/
namespace Go.Proofs.YtjmkfcgnadpbaaaDoor
open Go.RowKit Go.Maps

theorem Tryd.infoOp : (Tryd.prog.info? 51).map (fun i => (i.zero, i.size, i.bytes)) = some (some (.agg #[.int .i64 0, .int .i64 0, .int .i64 0, .int .i64 0, .int .i64 0, .int .i64 0, .int .i64 0, .int .i64 0, .slice none 0 0]), 9, 88) := by kernel_rfl
theorem q_one (x : Pq) (u : Value) (hu : u.oneCell' = true) : ∀ v ∈ qCells x u, v.oneCell' = true := by
  intro v hv
  simp only [qCells, List.mem_cons, List.not_mem_nil, or_false] at hv
  rcases hv with rfl | rfl | rfl | rfl | rfl | rfl | rfl | rfl | rfl <;> first | rfl | exact hu

set_option maxHeartbeats 8000000 in
set_option maxRecDepth 100000 in
theorem mown_any (v : Value) (qs : List Pq) (w : World) (hn : qs.length ≤ 100) (hps : ∀ j, j < qs.length → (qs.getD j pq0).ps.length ≤ 100) (HR : Hid (RdQ w v qs)) :
    Calls Tryd.prog 22 #[v] w fun e w' => ∃ v' qv, e = .returned v' ∧ OwnQ w' w.heap.size v' qv ∧ qv.map Prod.fst = qs ∧ Below w.heap.size w w' := by
  obtain ⟨i0, hi, hz0, hz1, hz2⟩ := info_parts Tryd.infoOp
  obtain ⟨a, cap, hv, hl, hcap⟩ := HR.out.shape
  have HPS : Hid (∀ j, j < qs.length → (qs.getD j pq0).ps.length ≤ 100) := hps
  obtain ⟨n, HN⟩ : ∃ n, Hid (qs.length = n) := ⟨_, (rfl : _ = _)⟩
  rw [HN.out] at hv hl hn
  clear hps
  subst hv
  go_enter Tryd.func22, Tryd.ntmps22
  go_wp2_with (at_make; refine wpList_make_own _ rfl _ _ 22 rfl w.heap.size 51 i0 (.agg #[.int .i64 0, .int .i64 0, .int .i64 0, .int .i64 0, .int .i64 0, .int .i64 0, .int .i64 0, .int .i64 0, .slice none 0 0]) 9 Tryd.underlying22 hi hz0 hz1 _ _ _ n rfl rfl ?a1 ?b1 ?b2 ?b3 ?_)
  case a1 => first | rfl | omega
  case b1 => rw [hz2]; omega
  case b2 => unfold maxLen; omega
  case b3 => exact Nat.le_refl _
  intro W0 hown0 hgrow0
  have hb0 : Below w.heap.size w W0 := (Below.refl _ _).grown hgrow0 (Nat.le_refl _) (by intro k hk; cases hk)
  have HO0 : Hid (OwnQ W0 w.heap.size (.slice (some ⟨w.heap.size, 0, none⟩) 0 n) []) := ⟨hown0, by simp⟩
  clear hown0 hgrow0
  go_wp2_with fail
  go_loopw [3, 11] (fun o i wr => ∃ (k : Nat) (qv : List (Pq × Value)) (oa : Option Addr) (oc : Nat), k ≤ n ∧ i = .int .i64 k ∧ o = .slice oa k oc ∧ Hid (qv.length = k) ∧ Hid (OwnQ wr w.heap.size (.slice oa k oc) qv) ∧ Hid (qv.map Prod.fst = qs.take k) ∧ Below w.heap.size w wr) (fun _ i _ => n - (intOf i).toNat)
  case atStart => exact ⟨0, [], _, _, by omega, rfl, rfl, rfl, HO0, (rfl : _ = _), hb0⟩
  case round =>
    obtain ⟨k, qv, oa, oc, hk, rfl, rfl, HLQ, HO, HQ, hbr⟩ := hrel
    by_cases hlt : k < n
    · have hlt' : k < qs.length := by rw [HN.out]; exact hlt
      obtain ⟨q, HX⟩ : ∃ o, Hid (qs.getD k pq0 = o) := ⟨_, (rfl : _ = _)⟩
      have hpl : q.ps.length ≤ 100 := by rw [← HX.out]; exact HPS.out k hlt'
      have HQ2 : Hid (∀ u, (qv ++ [(q, u)]).map Prod.fst = qs.take (k + 1)) := by
        intro u
        rw [List.map_append, HQ.out, List.take_succ_eq_append_getElem hlt', ← HX.out, getD_pq hlt']
        rfl
      obtain ⟨g, p, ua, mu, uc, rfl, hg, OC, HU, HMU⟩ := (HR.out.on hbr).at hlt HX
      obtain ⟨c0, c1, c2, c3, c4, c5, c6, c7, c8⟩ := OC
      obtain ⟨kd, qid, qa, qb, qc, qd, qw, qh, qp⟩ := q
      simp only at c0 c1 c2 c3 c4 c5 c6 c7 c8 HU HMU hpl
      clear hlt' HX
      have hki0 : (0 : Int) ≤ (k : Int) := by omega
      have hki1 : (k : Int) < (n : Int) := by omega
      have hbx : Below wr.heap.size wr (wr.alloc (.cells #[.int .i64 kd, .int .i64 qid, .int .i64 qa, .int .i64 qb, .int .i64 qc, .int .i64 qd, .int .i64 qw, .int .i64 qh, .slice ua mu uc] 51)) := (Below.refl _ _).alloc (Nat.le_refl _) _
      have N0 := nine_start wr (.int .i64 kd) (.int .i64 qid) (.int .i64 qa) (.int .i64 qb) (.int .i64 qc) (.int .i64 qd) (.int .i64 qw) (.int .i64 qh) (.slice ua mu uc) 51 wr.heap.size rfl
      have HUX : Hid (RdP (wr.alloc (.cells #[.int .i64 kd, .int .i64 qid, .int .i64 qa, .int .i64 qb, .int .i64 qc, .int .i64 qd, .int .i64 qw, .int .i64 qh, .slice ua mu uc] 51)) (.slice ua mu uc) qp) := HU.out.on hbx
      have HOX : Hid (OwnQ (wr.alloc (.cells #[.int .i64 kd, .int .i64 qid, .int .i64 qa, .int .i64 qb, .int .i64 qc, .int .i64 qd, .int .i64 qw, .int .i64 qh, .slice ua mu uc] 51)) w.heap.size (.slice oa k oc) qv) := HO.out.on hbx
      have hbX := hbr.trans (hbx.mono hbr.size)
      clear HU
      go_wp2_with fail
      refine (pown_any qw qh _ qp _ hpl HUX).mono ?_
      rintro e w1 ⟨u', rfl, hu, hb1⟩
      rw [HMU.out] at hu
      obtain ⟨va, vc, hu'⟩ := own_any hu
      subst hu'
      have hb3 : Below wr.heap.size wr (((w1.setCell ⟨wr.heap.size, 6, none⟩ (.int .i64 qw)).setCell ⟨wr.heap.size, 7, none⟩ (.int .i64 qh)).setCell ⟨wr.heap.size, 8, none⟩ (.slice va mu vc)) := (((hbx.trans (hb1.mono hbx.size)).setCell (Nat.le_refl _) _).setCell (Nat.le_refl _) _).setCell (Nat.le_refl _) _
      have hbb3 := hbr.trans (hb3.mono hbr.size)
      have hu3 : (((w1.setCell ⟨wr.heap.size, 6, none⟩ (.int .i64 qw)).setCell ⟨wr.heap.size, 7, none⟩ (.int .i64 qh)).setCell ⟨wr.heap.size, 8, none⟩ (.slice va mu vc)).ownsRow ((wr.alloc (.cells #[.int .i64 kd, .int .i64 qid, .int .i64 qa, .int .i64 qb, .int .i64 qc, .int .i64 qd, .int .i64 qw, .int .i64 qh, .slice ua mu uc] 51)).heap.size + 2) 42 2 (.slice va mu vc) mu (pixCells qp) := ownsRow_setCell_below (ownsRow_setCell_below (ownsRow_setCell_below hu (a := ⟨wr.heap.size, 6, none⟩) (by simp; omega) _) (a := ⟨wr.heap.size, 7, none⟩) (by simp; omega) _) (a := ⟨wr.heap.size, 8, none⟩) (by simp; omega) _
      have HU3 : Hid ((((w1.setCell ⟨wr.heap.size, 6, none⟩ (.int .i64 qw)).setCell ⟨wr.heap.size, 7, none⟩ (.int .i64 qh)).setCell ⟨wr.heap.size, 8, none⟩ (.slice va mu vc)).ownsRow w.heap.size 42 2 (.slice va mu vc) mu (pixCells qp)) := own_mono hu3 (by have := hbX.size; omega)
      have HO3 : Hid (OwnQ (((w1.setCell ⟨wr.heap.size, 6, none⟩ (.int .i64 qw)).setCell ⟨wr.heap.size, 7, none⟩ (.int .i64 qh)).setCell ⟨wr.heap.size, 8, none⟩ (.slice va mu vc)) w.heap.size (.slice oa k oc) qv) := HO.out.on hb3
      have hb4 : Below (((w1.setCell ⟨wr.heap.size, 6, none⟩ (.int .i64 qw)).setCell ⟨wr.heap.size, 7, none⟩ (.int .i64 qh)).setCell ⟨wr.heap.size, 8, none⟩ (.slice va mu vc)).heap.size (((w1.setCell ⟨wr.heap.size, 6, none⟩ (.int .i64 qw)).setCell ⟨wr.heap.size, 7, none⟩ (.int .i64 qh)).setCell ⟨wr.heap.size, 8, none⟩ (.slice va mu vc)) ((((w1.setCell ⟨wr.heap.size, 6, none⟩ (.int .i64 qw)).setCell ⟨wr.heap.size, 7, none⟩ (.int .i64 qh)).setCell ⟨wr.heap.size, 8, none⟩ (.slice va mu vc)).alloc (.cells #[.int .i64 kd, .int .i64 qid, .int .i64 qa, .int .i64 qb, .int .i64 qc, .int .i64 qd, .int .i64 qw, .int .i64 qh, .slice va mu vc] 51)) := (Below.refl _ _).alloc (Nat.le_refl _) _
      have HU4 : Hid (((((w1.setCell ⟨wr.heap.size, 6, none⟩ (.int .i64 qw)).setCell ⟨wr.heap.size, 7, none⟩ (.int .i64 qh)).setCell ⟨wr.heap.size, 8, none⟩ (.slice va mu vc)).alloc (.cells #[.int .i64 kd, .int .i64 qid, .int .i64 qa, .int .i64 qb, .int .i64 qc, .int .i64 qd, .int .i64 qw, .int .i64 qh, .slice va mu vc] 51)).ownsRow w.heap.size 42 2 (.slice va mu vc) mu (pixCells qp)) := own_on2 HU3.out hb4
      have HO4 : Hid (OwnQ ((((w1.setCell ⟨wr.heap.size, 6, none⟩ (.int .i64 qw)).setCell ⟨wr.heap.size, 7, none⟩ (.int .i64 qh)).setCell ⟨wr.heap.size, 8, none⟩ (.slice va mu vc)).alloc (.cells #[.int .i64 kd, .int .i64 qid, .int .i64 qa, .int .i64 qb, .int .i64 qc, .int .i64 qd, .int .i64 qw, .int .i64 qh, .slice va mu vc] 51)) w.heap.size (.slice oa k oc) qv) := HO3.out.on hb4
      have HO5 := HO4.out.1
      rw [HLQ.out] at HO5
      have HO6 := hid_of2 HO5
      have hbb4 := hbb3.trans (hb4.mono hbb3.size)
      have hws : w.heap.size ≤ ((((w1.setCell ⟨wr.heap.size, 6, none⟩ (.int .i64 qw)).setCell ⟨wr.heap.size, 7, none⟩ (.int .i64 qh)).setCell ⟨wr.heap.size, 8, none⟩ (.slice va mu vc)).alloc (.cells #[.int .i64 kd, .int .i64 qid, .int .i64 qa, .int .i64 qb, .int .i64 qc, .int .i64 qd, .int .i64 qw, .int .i64 qh, .slice va mu vc] 51)).heap.size := hbb4.size
      have hW3 : (((w1.setCell ⟨wr.heap.size, 6, none⟩ (.int .i64 qw)).setCell ⟨wr.heap.size, 7, none⟩ (.int .i64 qh)).setCell ⟨wr.heap.size, 8, none⟩ (.slice va mu vc)).heap.size = w1.heap.size := by simp
      have HWS := hid_of2 hW3
      obtain ⟨m0, m1, m2, m3, m4, m5, m6, m7, m8, mf0, mf1, mf2, mf3, mf4, mf5, mf6, mf7, mf8, mlt⟩ := N0.on hb1
      clear hb1 HOX HUX hbX N0 hu hu3 HU3 HO3 hb4 HO5 hW3 hbx hb3 hbb3
      go_wp2_with (at_builtin; refine wpList_append_own _ rfl _ _ 22 rfl w.heap.size 51 i0 (.agg #[.int .i64 0, .int .i64 0, .int .i64 0, .int .i64 0, .int .i64 0, .int .i64 0, .int .i64 0, .int .i64 0, .slice none 0 0]) 9 88 Tryd.underlying22 hi hz0 hz1 hz2 rfl (by decide) _ k _ rfl HO6.out ⟨w1.heap.size, 0, none⟩ 1 1 (qCells ⟨kd, qid, qa, qb, qc, qd, qw, qh, qp⟩ (.slice va mu vc)) rfl rfl ?c1 ?c2 ?c3 ?c4 ?c5 ?_)
      case c1 => intro j u hj; rw [← HWS.out]; exact new_cells (((w1.setCell ⟨wr.heap.size, 6, none⟩ (.int .i64 qw)).setCell ⟨wr.heap.size, 7, none⟩ (.int .i64 qh)).setCell ⟨wr.heap.size, 8, none⟩ (.slice va mu vc)) _ _ j u hj
      case c2 => exact q_one _ _ rfl
      case c3 => unfold maxLen; omega
      case c4 => omega
      case c5 => exact hws
      intro v' w5 ho5 hg5 _
      obtain ⟨a', c', hv'⟩ := own_any ho5
      subst hv'
      have HO7 : Hid (OwnQ w5 w.heap.size (.slice a' (k + 1) c') (qv ++ [(⟨kd, qid, qa, qb, qc, qd, qw, qh, qp⟩, .slice va mu vc)])) := HO4.out.app (x := ⟨kd, qid, qa, qb, qc, qd, qw, qh, qp⟩) (by simp only; rw [HMU.out]; exact HU4.out) (by rw [HLQ.out]; exact ho5) hg5
      have hb5 : Below w.heap.size w w5 := hbb4.grown hg5 hbb4.size (fun z hz => (HO6.out.lt z hz).1)
      have HL7 : Hid ((qv ++ [((⟨kd, qid, qa, qb, qc, qd, qw, qh, qp⟩ : Pq), Value.slice va mu vc)]).length = k + 1) := by unfold Hid; rw [List.length_append, HLQ.out]; rfl
      clear ho5 hg5 HO4 HO6 HU4 hbb4 hws HWS m0 m1 m2 m3 m4 m5 m6 m7 m8 mf0 mf1 mf2 mf3 mf4 mf5 mf6 mf7 mf8 mlt c0 c1 c2 c3 c4 c5 c6 c7 c8
      go_wp2_with fail
      go_roundw
      case rel => exact ⟨k + 1, _, _, _, by omega, by go_num, rfl, HL7, HO7, HQ2.out _, hb5⟩
      case measure => simp [intOf]; omega
    · obtain rfl : k = n := by omega
      go_wp2_with fail
      go_ret
      refine ⟨_, qv, rfl, HO.out, ?_, hbr⟩
      rw [HQ.out, List.take_of_length_le (by rw [HN.out]; exact Nat.le_refl _)]
end Go.Proofs.YtjmkfcgnadpbaaaDoor
/- Walks: book.opens, book.Check. -/
namespace Go.Proofs.YtjmkfcgnadpbaaaDoor
open Go.RowKit

set_option maxHeartbeats 2000000 in
set_option maxRecDepth 100000 in
theorem opens_any (q : Pq) (u : Value) (w : World) : Calls Tryd.prog 33 #[opV q u] w fun e w' => e = .returned (.int .i64 (opn q)) ∧ Below w.heap.size w w' := by
  have hb : Below w.heap.size w (w.alloc (.cells #[.int .i64 q.kind, .int .i64 q.id, .int .i64 q.a, .int .i64 q.b, .int .i64 q.c, .int .i64 q.d, .int .i64 q.pw, .int .i64 q.ph, u] 51)) := (Below.refl _ _).alloc (Nat.le_refl _) _
  rcases opn_cases q with ⟨h1, h2⟩ | ⟨h1, h2⟩ | ⟨h1, h3, h2⟩
  · rw [h2]
    have b1 : (q.kind == 12) = true := by simpa using h1
    obtain ⟨kd, qid, qa, qb, qc, qd, qw, qh, qp⟩ := q
    simp only at h1
    subst h1
    clear h2 b1
    go_enter Tryd.func33, Tryd.ntmps33
    go_wp2_with fail
    go_ret
    exact ⟨rfl, hb⟩
  · rw [h2]
    obtain ⟨kd, qid, qa, qb, qc, qd, qw, qh, qp⟩ := q
    simp only at h1
    subst h1
    clear h2
    go_enter Tryd.func33, Tryd.ntmps33
    go_wp2_with fail
    go_ret
    exact ⟨rfl, hb⟩
  · rw [h2]
    have b1 : (q.kind == 12) = false := by simpa using h1
    have b2 : (q.kind == 13) = false := by simpa using h3
    clear h1 h3 h2
    go_enter Tryd.func33, Tryd.ntmps33
    go_wp2_with fail
    go_ret
    exact ⟨rfl, hb⟩

theorem getD_drop (qs : List Pq) (k : Nat) (h : k < qs.length) : qs.drop k = qs.getD k pq0 :: qs.drop (k + 1) := by rw [getD_pq h]; exact (List.getElem_cons_drop h).symm
theorem neq_bb (x y : Bool) : (x == y) = decide (x = y) := by cases x <;> cases y <;> rfl

set_option maxHeartbeats 8000000 in
set_option maxRecDepth 100000 in
theorem bookCheck_any (v : Value) (qs : List Pq) (w : World) (HS : Hid (Shapes w)) (h1 : 0 < w.heap.size) (HR : Hid (RdQ w v qs)) (hps : ∀ j, j < qs.length → (qs.getD j pq0).ps.length ≤ 1000) (hnq : qs.length ≤ 1000) (c : Nat) (HC : Hid (bkC qs = c)) :
    Calls Tryd.prog 21 #[v] w fun e w' => e = .returned (errV c) ∧ Below w.heap.size w w' := by
  obtain ⟨a, cap, hv, hl, hcap⟩ := HR.out.shape
  have HPS : Hid (∀ j, j < qs.length → (qs.getD j pq0).ps.length ≤ 1000) := hps
  obtain ⟨n, HN⟩ : ∃ n, Hid (qs.length = n) := ⟨_, (rfl : _ = _)⟩
  rw [HN.out] at hv hl hnq
  clear hps
  subst hv
  have HC1 := HC
  unfold bkC at HC1
  rw [HN.out] at HC1
  have hbw : Below w.heap.size w w := Below.refl _ _
  by_cases hn2 : n < 2
  · have hc3 : c = 3 := by have := HC1.out; rw [if_pos (.inl hn2)] at this; exact this.symm
    subst hc3
    have hn2i : (n : Int) < 2 := by omega
    clear HC1 HC
    rw [show errV 3 = Value.iface 58 (.int .i64 3) from rfl]
    go_enter Tryd.func21, Tryd.ntmps21
    go_wp2_with fail
    go_ret
    exact ⟨rfl, hbw⟩
  have hn2i : ¬ (n : Int) < 2 := by omega
  obtain ⟨z0, HX0⟩ : ∃ x, Hid (qs.getD 0 pq0 = x) := ⟨_, (rfl : _ = _)⟩
  obtain ⟨zl, HXL⟩ : ∃ x, Hid (qs.getD (n - 1) pq0 = x) := ⟨_, (rfl : _ = _)⟩
  rw [HX0.out, HXL.out] at HC1
  obtain ⟨g, o, _, _, _, ha, hg, OC0, _, _⟩ := HR.out.at (k := 0) (by omega) HX0
  obtain ⟨g', o', _, _, _, ha', _, OCL, _, _⟩ := HR.out.at (k := n - 1) (by omega) HXL
  rw [ha] at ha'
  simp only [Option.some.injEq, Addr.mk.injEq, and_true] at ha'
  obtain ⟨rfl, rfl⟩ := ha'
  subst ha
  have k0 := OC0.c0
  have kl := OCL.c0
  rw [Nat.zero_mul, Nat.add_zero] at k0
  clear OC0 OCL
  have hw1 : IntKind.i64.wrap ((n : Int) - 1) = ((n - 1 : Nat) : Int) := by rw [wrap_s (by omega) (by omega)]; omega
  obtain ⟨m, HM⟩ : ∃ m, Hid (n - 1 = m) := ⟨_, (rfl : _ = _)⟩
  rw [HM.out] at hw1 kl
  have hmn : m < n := by have := HM.out; omega
  have hi1 : (0 : Int) ≤ (m : Int) := by omega
  have hi2 : (m : Int) < (n : Int) := by omega
  have hi3 : (0 : Int) < (n : Int) := by omega
  have hmn1 : Hid (m + 1 = n) := by have := HM.out; unfold Hid; omega
  by_cases hz0 : z0.kind = 1
  case neg =>
    have b0 : (z0.kind != 1) = true := by simpa using hz0
    have hc3 : c = 3 := by have := HC1.out; rw [if_pos (.inr (.inl hz0))] at this; exact this.symm
    subst hc3
    clear HC1 HC hz0
    rw [show errV 3 = Value.iface 58 (.int .i64 3) from rfl]
    go_enter Tryd.func21, Tryd.ntmps21
    go_wp2_with fail
    go_ret
    exact ⟨rfl, hbw⟩
  have b0 : (z0.kind != 1) = false := by simpa using hz0
  by_cases hzl : zl.kind = 16
  case neg =>
    have b1 : (zl.kind != 16) = true := by simpa using hzl
    have hc3 : c = 3 := by have := HC1.out; rw [if_pos (.inr (.inr hzl))] at this; exact this.symm
    subst hc3
    clear HC1 HC hzl hz0
    rw [show errV 3 = Value.iface 58 (.int .i64 3) from rfl]
    go_enter Tryd.func21, Tryd.ntmps21
    go_wp2_with fail
    go_ret
    exact ⟨rfl, hbw⟩
  have b1 : (zl.kind != 16) = false := by simpa using hzl
  rw [if_neg (by omega)] at HC1
  clear hz0 hzl
  by_cases hn60 : 60 < n
  · have hc2 : c = 2 := by have := HC1.out; rw [if_pos hn60] at this; exact this.symm
    subst hc2
    have hn60i : (60 : Int) < (n : Int) := by omega
    clear HC1 HC
    rw [show errV 2 = Value.iface 58 (.int .i64 2) from rfl]
    go_enter Tryd.func21, Tryd.ntmps21
    go_wp2_with fail
    go_ret
    exact ⟨rfl, hbw⟩
  rw [if_neg hn60] at HC1
  have hn60i : ¬ (60 : Int) < (n : Int) := by omega
  have HC2 : Hid (bkR n 0 (dep qs 0) (qs.drop 0) = c) := by unfold Hid; rw [dep_zero]; exact HC1.out
  clear HC1 HC
  have HD : Hid (∀ k, k ≤ n → -60 ≤ dep qs k ∧ dep qs k ≤ 60) := by
    have : ∀ k, k ≤ qs.length → -(k : Int) ≤ dep qs k ∧ dep qs k ≤ k := by
      intro k
      induction k with
      | zero => intro _; rw [dep_zero]; omega
      | succ k ih =>
        intro hk
        have := ih (by omega)
        rw [dep_succ qs k (by omega)]
        rcases opn_cases (qs.getD k pq0) with ⟨_, h2⟩ | ⟨_, h2⟩ | ⟨_, _, h2⟩ <;> omega
    rw [HN.out] at this
    intro k hk
    have := this k hk
    omega
  go_enter Tryd.func21, Tryd.ntmps21
  go_wp2_with fail
  clear k0 kl hi1 hi2 hi3
  go_loopw [4, 36] (fun d i wr => ∃ k : Nat, k ≤ n ∧ i = .int .i64 k ∧ d = .int .i64 (dep qs k) ∧ Hid (bkR n k (dep qs k) (qs.drop k) = c) ∧ Below w.heap.size w wr) (fun _ i _ => n - (intOf i).toNat)
  case atStart => exact ⟨0, by omega, rfl, by rw [dep_zero], HC2, Below.refl _ _⟩
  case round =>
    obtain ⟨k, hk, rfl, rfl, HCK, hbr⟩ := hrel
    by_cases hlt : k < n
    · have hlt' : k < qs.length := by rw [HN.out]; exact hlt
      have hd := HD.out k hk
      have hd1 := HD.out (k + 1) (by omega)
      have hds := dep_succ qs k hlt'
      rw [getD_drop qs k hlt'] at HCK
      obtain ⟨q, HX⟩ : ∃ q, Hid (qs.getD k pq0 = q) := ⟨_, (rfl : _ = _)⟩
      have hpl : q.ps.length ≤ 1000 := by rw [← HX.out]; exact HPS.out k hlt'
      rw [HX.out] at HCK hds
      obtain ⟨d, HDK⟩ : ∃ d, Hid (dep qs k = d) := ⟨_, (rfl : _ = _)⟩
      obtain ⟨d1, HDK1⟩ : ∃ d, Hid (dep qs (k + 1) = d) := ⟨_, (rfl : _ = _)⟩
      rw [HDK.out] at HCK hds hd ⊢
      rw [HDK1.out] at hds hd1
      have HDS : Hid (d1 = d + opn q) := hds
      clear hds
      obtain ⟨g', o', ua, mu, uc, ha', hg', OC, HU, HMU⟩ := (HR.out.on hbr).at hlt HX
      simp only [Option.some.injEq, Addr.mk.injEq, and_true] at ha'
      obtain ⟨rfl, rfl⟩ := ha'
      obtain ⟨kd, qid, qa, qb, qc, qd, qw, qh, qp⟩ := q
      obtain ⟨c0, c1, c2, c3, c4, c5, c6, c7, c8⟩ := OC
      simp only at c0 c1 c2 c3 c4 c5 c6 c7 c8 HU HMU hpl
      have hbx : Below wr.heap.size wr (wr.alloc (.cells #[.int .i64 kd, .int .i64 qid, .int .i64 qa, .int .i64 qb, .int .i64 qc, .int .i64 qd, .int .i64 qw, .int .i64 qh, .slice ua mu uc] 51)) := (Below.refl _ _).alloc (Nat.le_refl _) _
      have N0 := nine_start wr (.int .i64 kd) (.int .i64 qid) (.int .i64 qa) (.int .i64 qb) (.int .i64 qc) (.int .i64 qd) (.int .i64 qw) (.int .i64 qh) (.slice ua mu uc) 51 wr.heap.size rfl
      have HUX : Hid (RdP _ (.slice ua mu uc) qp) := HU.out.on hbx
      have hbX := hbr.trans (hbx.mono hbr.size)
      have HSX : Hid (Shapes _) := HS.out.on h1 hbX
      have h1X := Nat.lt_of_lt_of_le h1 hbX.size
      have hki0 : (0 : Int) ≤ (k : Int) := by omega
      have hki1 : (k : Int) < (n : Int) := by omega
      obtain ⟨cc, HCC⟩ : ∃ cc, Hid (opC ⟨kd, qid, qa, qb, qc, qd, qw, qh, qp⟩ = cc) := ⟨_, (rfl : _ = _)⟩
      clear HU hbx hlt' HX
      go_wp2_with fail
      refine (opCheck_any ⟨kd, qid, qa, qb, qc, qd, qw, qh, qp⟩ _ _ HSX h1X HUX (by simp only; omega) cc HCC).mono ?_
      rintro e w2 ⟨rfl, hb2⟩
      have N2 := N0.on hb2
      have hbb := hbX.trans (hb2.mono hbX.size)
      clear hb2 N0 HUX HSX h1X hbX c0 c1 c2 c3 c4 c5 c6 c7 c8
      have HCK1 := HCK
      unfold bkR at HCK1
      rw [HCC.out] at HCK1
      cases cc with
      | succ cc =>
        have hcc : c = cc + 1 := by have := HCK1.out; rw [if_pos (by omega)] at this; exact this.symm
        subst hcc
        clear HCK HCK1
        rw [show errV (cc + 1) = .iface 58 (.int .i64 ((cc + 1 : Nat) : Int)) from rfl]
        go_wp2_with fail
        go_ret
        exact ⟨rfl, hbb⟩
      | zero =>
        rw [if_neg (by omega)] at HCK1
        rw [show errV 0 = Value.nilIface from rfl]
        simp only at HCK1
        obtain ⟨m0, m1, m2, m3, m4, m5, m6, m7, m8, mf0, mf1, mf2, mf3, mf4, mf5, mf6, mf7, mf8, mlt⟩ := N2
        have e1 : (kd == 1) = decide (kd = 1) := rfl
        have e2 : ((k : Int) == 0) = decide (k = 0) := by rw [Bool.eq_iff_iff]; simp
        have e3 : (kd == 16) = decide (kd = 16) := rfl
        have e4 : ((k : Int) == (m : Int)) = decide (k + 1 = n) := by rw [Bool.eq_iff_iff]; simp; have := hmn1.out; omega
        obtain ⟨x1, f1⟩ : ∃ b, (kd == 1) = b := ⟨_, rfl⟩
        obtain ⟨x2, f2⟩ : ∃ b, ((k : Int) == 0) = b := ⟨_, rfl⟩
        obtain ⟨x3, f3⟩ : ∃ b, (kd == 16) = b := ⟨_, rfl⟩
        obtain ⟨x4, f4⟩ : ∃ b, ((k : Int) == (m : Int)) = b := ⟨_, rfl⟩
        rw [← e1, ← e2, ← e3, ← e4, f1, f2, f3, f4] at HCK1
        by_cases hg : x1 ≠ x2 ∨ x3 ≠ x4
        · have hc3 : c = 3 := by have := HCK1.out; rw [if_pos hg] at this; exact this.symm
          subst hc3
          clear HCK HCK1 e1 e2 e3 e4
          cases x1 <;> cases x2 <;> cases x3 <;> cases x4 <;> first
            | (exfalso; revert hg; decide)
            | (clear hg; go_wp2_with fail; go_ret; exact ⟨rfl, hbb⟩)
        rw [if_neg hg] at HCK1
        obtain rfl : x1 = x2 := by apply Classical.byContradiction; intro h; exact hg (.inl h)
        obtain rfl : x3 = x4 := by apply Classical.byContradiction; intro h; exact hg (.inr h)
        clear hg
        obtain ⟨oq, HOQ⟩ : ∃ oq, Hid (opn ⟨kd, qid, qa, qb, qc, qd, qw, qh, qp⟩ = oq) := ⟨_, (rfl : _ = _)⟩
        have hoq : -1 ≤ oq ∧ oq ≤ 1 := by
          rw [← HOQ.out]
          rcases opn_cases ⟨kd, qid, qa, qb, qc, qd, qw, qh, qp⟩ with ⟨_, h2⟩ | ⟨_, h2⟩ | ⟨_, _, h2⟩ <;> rw [h2] <;> omega
        obtain ⟨ho1, ho2⟩ := hoq
        obtain ⟨hd1l, hd1h⟩ := hd1
        obtain ⟨hdl, hdh⟩ := hd
        have HD1 : Hid (d1 = d + oq) := by rw [← HOQ.out]; exact HDS.out
        have HCK2 : Hid ((if d + oq < 0 then 3 else if 3 < d + oq then 2 else bkR n (k + 1) (d + oq) (qs.drop (k + 1))) = c) := by rw [← HOQ.out]; exact HCK1.out
        clear HCK HCK1 e1 e2 e3 e4 HDS
        cases x1 <;> cases x3
        all_goals
          go_wp2_with fail
          have hop := opens_any ⟨kd, qid, qa, qb, qc, qd, qw, qh, qp⟩ (.slice ua mu uc) w2
          rw [HOQ.out] at hop
          simp only [opV] at hop
          refine hop.mono ?_
          clear hop
          rintro e w3 ⟨rfl, hb3⟩
          have hbb3 := hbb.trans (hb3.mono hbb.size)
          clear hb3 m0 m1 m2 m3 m4 m5 m6 m7 m8 mf0 mf1 mf2 mf3 mf4 mf5 mf6 mf7 mf8 mlt f1 f2 f3 f4
          by_cases hlo : d + oq < 0
          · have hc3 : c = 3 := by have := HCK2.out; rw [if_pos hlo] at this; exact this.symm
            subst hc3
            clear HCK2
            go_wp2_with fail
            go_ret
            exact ⟨rfl, hbb3⟩
          rw [if_neg hlo] at HCK2
          by_cases hhi : 3 < d + oq
          · have hc3 : c = 2 := by have := HCK2.out; rw [if_pos hhi] at this; exact this.symm
            subst hc3
            clear HCK2
            go_wp2_with fail
            go_ret
            exact ⟨rfl, hbb3⟩
          rw [if_neg hhi] at HCK2
          go_wp2_with fail
          go_roundw
          case rel => exact ⟨k + 1, by omega, by go_num, by rw [HDK1.out, HD1.out], by rw [HDK1.out, HD1.out]; exact HCK2, hbb3⟩
          case measure => simp [intOf]; omega
    · obtain rfl : k = n := by omega
      rw [List.drop_of_length_le (by rw [HN.out]; exact Nat.le_refl _)] at HCK
      have HCK1 := HCK
      unfold bkR at HCK1
      obtain ⟨d, HDK⟩ : ∃ d, Hid (dep qs k = d) := ⟨_, (rfl : _ = _)⟩
      rw [HDK.out] at HCK1 ⊢
      by_cases hd0 : 0 < d
      · have hc3 : c = 3 := by have := HCK1.out; rw [if_pos hd0] at this; exact this.symm
        subst hc3
        clear HCK HCK1
        go_wp2_with fail
        go_ret
        exact ⟨rfl, hbr⟩
      · have hc3 : c = 0 := by have := HCK1.out; rw [if_neg hd0] at this; exact this.symm
        subst hc3
        clear HCK HCK1
        go_wp2_with fail
        go_ret
        exact ⟨rfl, hbr⟩
end Go.Proofs.YtjmkfcgnadpbaaaDoor
/- Walk: book.Close. -/
namespace Go.Proofs.YtjmkfcgnadpbaaaDoor
open Go.RowKit Go.Maps

theorem law_int : Keyed Tryd.prog 3 := int_keyed Tryd.underlying3
theorem wf_nat {a : Nat} (h : a ≤ 1000000) : (Lit.int .i64 (a : Int)).wf = true := WalkArith.wf_i64 (by omega)

theorem map_apart {w : World} {B : Nat} {e : TypeId} {s n : Nat} {v : Value} {xs : List Value} {kt : TypeId} {R : Value → Option (DataW Unit × List MemPlace)} {b k : Nat} {D : DataW Unit} (h : w.ownsRow B e s v n xs) (hm : w.ownsMap Tryd.prog kt R b k D) : some b ≠ v.ownBlock := by
  intro he
  obtain ⟨es, clock, hb, _⟩ := hm
  rcases h.2 with ⟨rfl, _⟩ | ⟨g, cap, cur, rfl, _, hg, _⟩
  · simp [Value.ownBlock] at he
  · simp only [Value.ownBlock, Option.some.injEq] at he
    subst he
    rw [hb] at hg
    cases hg
def CloseP (qs : List Pq) (w : World) (e : Ending) (w' : World) : Prop :=
  ∃ bm, e = .returned (.map (some bm)) ∧ w.heap.size ≤ bm ∧ w'.ownsMap Tryd.prog 3 (plainElem Tryd.prog 3) bm qs.length (clD qs qs.length) ∧ Below w.heap.size w w'

set_option maxHeartbeats 8000000 in
set_option maxRecDepth 100000 in
theorem close_any (v : Value) (qs : List Pq) (w : World) (HR : Hid (RdQ w v qs)) (hnq : qs.length ≤ 1000) :
    Calls Tryd.prog 23 #[v] w fun e w' => CloseP qs w e w' := by
  obtain ⟨i0, hi, hz0, hz1, hz2⟩ := info_parts Tryd.infoInt
  obtain ⟨a, cap, hv, hl, hcap⟩ := HR.out.shape
  obtain ⟨n, HN⟩ : ∃ n, Hid (qs.length = n) := ⟨_, (rfl : _ = _)⟩
  rw [HN.out] at hv hl hnq
  subst hv
  have hmm := @run_makeMap Tryd.prog
  have hb0 : Below w.heap.size w (w.alloc (.map #[] 0)) := (Below.refl _ _).alloc (Nat.le_refl _) _
  have hm0 : Hid ((w.alloc (.map #[] 0)).ownsMap Tryd.prog 3 (plainElem Tryd.prog 3) w.heap.size 0 (clD qs 0)) := World.ownsMap_made _ _ _ _
  unfold CloseP
  rw [HN.out]
  go_enter Tryd.func23, Tryd.ntmps23
  go_wp2_with fail
  go_loopw [4, 11] (fun o i wr => ∃ (k : Nat) (oa : Option Addr) (m oc : Nat), k ≤ n ∧ i = .int .i64 k ∧ o = .slice oa m oc ∧ Hid ((stk qs k).length = m) ∧ Hid (wr.ownsRow w.heap.size 3 1 (.slice oa m oc) m (natV (stk qs k))) ∧ Hid (wr.ownsMap Tryd.prog 3 (plainElem Tryd.prog 3) w.heap.size k (clD qs k)) ∧ Below w.heap.size w wr ∧ w.heap.size + 1 ≤ wr.heap.size) (fun _ i _ => n - (intOf i).toNat)
  case atStart => exact ⟨0, none, 0, 0, by omega, rfl, rfl, rfl, World.ownsRow_nil _ _ _ _, hm0, hb0, by simp⟩
  case round =>
    obtain ⟨k, oa, m, oc, hk, rfl, rfl, HM, HO, HD, hbr, hsz⟩ := hrel
    by_cases hlt : k < n
    · have hlt' : k < qs.length := by rw [HN.out]; exact hlt
      have hmk : m ≤ k := by rw [← HM.out]; exact (stk_le qs k).1
      obtain ⟨q, HX⟩ : ∃ q, Hid (qs.getD k pq0 = q) := ⟨_, (rfl : _ = _)⟩
      obtain ⟨g, o, ua, mu, uc, rfl, hg, OC, HU, HMU⟩ := (HR.out.on hbr).at hlt HX
      have HS1 : Hid (q.kind = 12 → stk qs (k + 1) = stk qs k ++ [k] ∧ clD qs (k + 1) = clD qs k) := fun h => ⟨by rw [stk, HX.out, if_pos h], by rw [clD, HX.out, if_neg (by omega)]⟩
      have HS2 : Hid (q.kind = 13 → 0 < m → stk qs (k + 1) = (stk qs k).dropLast ∧ clD qs (k + 1) = (clD qs k).put (.int .i64 (((stk qs k).getD (m - 1) 0 : Nat) : Int)) (.lit (.int .i64 (k : Int)))) := fun h h0 => ⟨by rw [stk, HX.out, if_neg (by omega), if_pos ⟨h, by rw [HM.out]; exact h0⟩], by rw [clD, HX.out, if_pos ⟨h, by rw [HM.out]; exact h0⟩, HM.out]⟩
      have HS3 : Hid (q.kind ≠ 12 → ¬ (q.kind = 13 ∧ 0 < m) → stk qs (k + 1) = stk qs k ∧ clD qs (k + 1) = clD qs k) := fun h h0 => ⟨by rw [stk, HX.out, if_neg h, if_neg (by rw [HM.out]; exact h0)], by rw [clD, HX.out, if_neg (by rw [HM.out]; exact h0)]⟩
      obtain ⟨kd, qid, qa, qb, qc, qd, qw, qh, qp⟩ := q
      obtain ⟨c0, c1, c2, c3, c4, c5, c6, c7, c8⟩ := OC
      simp only at c0 c1 c2 c3 c4 c5 c6 c7 c8 HS1 HS2 HS3
      have hbx : Below wr.heap.size wr (wr.alloc (.cells #[.int .i64 kd, .int .i64 qid, .int .i64 qa, .int .i64 qb, .int .i64 qc, .int .i64 qd, .int .i64 qw, .int .i64 qh, .slice ua mu uc] 51)) := (Below.refl _ _).alloc (Nat.le_refl _) _
      have hbX := hbr.trans (hbx.mono hbr.size)
      have hki0 : (0 : Int) ≤ (k : Int) := by omega
      have hki1 : (k : Int) < (n : Int) := by omega
      have HDX : Hid (World.ownsMap (wr.alloc (.cells #[.int .i64 kd, .int .i64 qid, .int .i64 qa, .int .i64 qb, .int .i64 qc, .int .i64 qd, .int .i64 qw, .int .i64 qh, .slice ua mu uc] 51)) Tryd.prog 3 (plainElem Tryd.prog 3) w.heap.size k (clD qs k)) := HD.out.alloc _
      have HOX := hid_of2 (own_on2 HO.out hbx)
      have hszX : w.heap.size + 1 ≤ (wr.alloc (.cells #[.int .i64 kd, .int .i64 qid, .int .i64 qa, .int .i64 qb, .int .i64 qc, .int .i64 qd, .int .i64 qw, .int .i64 qh, .slice ua mu uc] 51)).heap.size := by simp; omega
      clear HU HX hlt' hbx
      by_cases k12 : kd = 12
      · have b12 : (kd == 12) = true := by simpa using k12
        have hs1 := hid_of2 (HS1.out k12)
        clear HS1 HS2 HS3 k12
        go_wp2_with (at_builtin; refine wpList_append_own _ rfl _ _ 83 rfl w.heap.size 3 i0 (.int .i64 0) 1 8 Tryd.underlying83 hi hz0 hz1 hz2 rfl (by decide) _ _ _ rfl (own_on2 HOX.out ((Below.refl _ _).alloc (Nat.le_refl _) _)) ⟨wr.heap.size + 1, 0, none⟩ 1 1 [.int .i64 (k : Int)] rfl rfl ?c1 ?c2 ?c3 ?c4 ?c5 ?_)
        case c2 => rfl
        case c3 => unfold maxLen; omega
        case c4 => omega
        case c5 => omega
        intro v' w1 ho1 hg1 _
        obtain ⟨a', c', hv'⟩ := own_any ho1
        subst hv'
        have hs1 := hs1.out
        have HM1 : Hid ((stk qs (k + 1)).length = m + 1) := by unfold Hid; rw [hs1.1, List.length_append, HM.out]; rfl
        have HO1 : Hid (w1.ownsRow w.heap.size 3 1 (.slice a' (m + 1) c') (m + 1) (natV (stk qs (k + 1)))) := by unfold Hid; rw [hs1.1, natV_snoc]; exact ho1
        have HD1 : Hid (w1.ownsMap Tryd.prog 3 (plainElem Tryd.prog 3) w.heap.size (k + 1) (clD qs (k + 1))) := by
          unfold Hid; rw [hs1.2]
          exact ((HDX.out.alloc _).kept hg1 (map_apart HOX.out HDX.out)).mono (by omega)
        have hb1 : Below w.heap.size w w1 := (hbX.alloc hbX.size _).grown hg1 (by simp; omega) (fun z hz => (HOX.out.lt z hz).1)
        have hsz1 : w.heap.size + 1 ≤ w1.heap.size := by have := hg1.size; simp at this; omega
        clear ho1 hg1 hs1
        go_wp2_with fail
        go_roundw
        case rel => exact ⟨k + 1, _, _, _, by omega, by go_num, rfl, HM1, HO1, HD1, hb1, hsz1⟩
        case measure => simp [intOf]; omega
      · have b12 : (kd == 12) = false := by simpa using k12
        by_cases k13 : kd = 13
        · have b13 : (kd == 13) = true := by simpa using k13
          by_cases hm0 : 0 < m
          · have hs2 := HS2.out k13 hm0
            have hmi : (0 : Int) < (m : Int) := by omega
            obtain ⟨j, hj⟩ : ∃ j, m = j + 1 := ⟨m - 1, by omega⟩
            subst hj
            have hji : (0 : Int) ≤ (j : Int) := by omega
            have hji2 : (j : Int) < ((j + 1 : Nat) : Int) := by omega
            have hjl : j < (stk qs k).length := by rw [HM.out]; omega
            obtain ⟨p, HP⟩ : ∃ p, Hid ((stk qs k).getD j 0 = p) := ⟨_, (rfl : _ = _)⟩
            rw [show j + 1 - 1 = j by omega, HP.out] at hs2
            have hpk : p < k := by
              rw [← HP.out, List.getD_eq_getElem?_getD, List.getElem?_eq_getElem hjl]
              exact (stk_le qs k).2 _ (List.getElem_mem hjl)
            obtain ⟨gs, os, hoa⟩ : ∃ gs os, oa = some ⟨gs, os, none⟩ := by
              rcases HOX.out.2 with ⟨h, _⟩ | ⟨g, cap, cur, hv, _⟩
              · simp at h
              · simp only [Value.slice.injEq] at hv; exact ⟨g, 0, hv.1⟩
            obtain ⟨gs', rfl⟩ : ∃ gs, oa = some ⟨gs, 0, none⟩ := by
              rcases HOX.out.2 with ⟨h, _⟩ | ⟨g, cap, cur, hv, _⟩
              · simp at h
              · simp only [Value.slice.injEq] at hv; exact ⟨g, hv.1⟩
            clear hoa
            have hcell : (wr.alloc (.cells #[.int .i64 kd, .int .i64 qid, .int .i64 qa, .int .i64 qb, .int .i64 qc, .int .i64 qd, .int .i64 qw, .int .i64 qh, .slice ua mu uc] 51)).cell? ⟨gs', j, none⟩ = some (.int .i64 (p : Int)) := by
              rw [HOX.out.cellAt j (by omega), natV_at _ hjl, HP.out]
            have HM1 : Hid ((stk qs (k + 1)).length = j) := by unfold Hid; rw [hs2.1, List.length_dropLast, HM.out]; rfl
            have HOC : Hid ((wr.alloc (.cells #[.int .i64 kd, .int .i64 qid, .int .i64 qa, .int .i64 qb, .int .i64 qc, .int .i64 qd, .int .i64 qw, .int .i64 qh, .slice ua mu uc] 51)).ownsRow w.heap.size 3 1 (.slice (some ⟨gs', 0, none⟩) j oc) j (natV (stk qs (k + 1)))) := by
              unfold Hid
              rw [hs2.1, natV_drop, HM.out]
              have := own_cut HOX.out (m := j) (by omega) (by omega)
              simpa using this
            have hoc := own_cap HOX.out
            have hoc1 : (j : Int) ≤ (oc : Int) := by omega
            have HS2H := hid_of2 hs2
            clear HS1 HS2 HS3 k12 k13 hs2
            go_wp2_with (at_mapUpdate; refine wpList_mapUpdate_own _ rfl _ _ _ 59 rfl 3 3 law_int Tryd.underlying59 _ w.heap.size k _ rfl HDX.out (by unfold maxLen; omega) _ _ _ rfl rfl (keyOf_int_mk Tryd.underlying3 (wf_nat (a := p) (by omega))) _ [] (plainElem_int Tryd.underlying3 (wf_nat (a := k) (by omega))) ?_)
            intro w1 hm1 hg1
            have HO1 : Hid (w1.ownsRow w.heap.size 3 1 (.slice (some ⟨gs', 0, none⟩) j oc) j (natV (stk qs (k + 1)))) := HOC.out.kept hg1 (.inr (fun e => map_apart HOC.out HDX.out e.symm))
            have HD1 : Hid (w1.ownsMap Tryd.prog 3 (plainElem Tryd.prog 3) w.heap.size (k + 1) (clD qs (k + 1))) := by unfold Hid; rw [HS2H.out.2]; exact hm1
            have hb1 : Below w.heap.size w w1 := hbX.grown hg1 hbX.size (fun z hz => by cases hz; exact Nat.le_refl _)
            have hsz1 : w.heap.size + 1 ≤ w1.heap.size := by have := hg1.size; omega
            clear hm1 hg1 HS2H HOC HOX HDX hcell
            go_wp2_with fail
            go_roundw
            case rel => exact ⟨k + 1, _, _, _, by omega, by go_num, rfl, HM1, HO1, HD1, hb1, hsz1⟩
            case measure => simp [intOf]; omega
          · have hs3 := hid_of2 (HS3.out k12 (fun h => hm0 h.2))
            have hm00 : ¬ (0 : Int) < (m : Int) := by omega
            have HM1 : Hid ((stk qs (k + 1)).length = m) := by unfold Hid; rw [hs3.out.1]; exact HM.out
            have HO1 : Hid ((wr.alloc (.cells #[.int .i64 kd, .int .i64 qid, .int .i64 qa, .int .i64 qb, .int .i64 qc, .int .i64 qd, .int .i64 qw, .int .i64 qh, .slice ua mu uc] 51)).ownsRow w.heap.size 3 1 (.slice oa m oc) m (natV (stk qs (k + 1)))) := by unfold Hid; rw [hs3.out.1]; exact HOX.out
            have HD1 : Hid ((wr.alloc (.cells #[.int .i64 kd, .int .i64 qid, .int .i64 qa, .int .i64 qb, .int .i64 qc, .int .i64 qd, .int .i64 qw, .int .i64 qh, .slice ua mu uc] 51)).ownsMap Tryd.prog 3 (plainElem Tryd.prog 3) w.heap.size (k + 1) (clD qs (k + 1))) := by unfold Hid; rw [hs3.out.2]; exact HDX.out.mono (by omega)
            clear HS1 HS2 HS3 k12 k13 hs3 HOX HDX hm0
            go_wp2_with fail
            go_roundw
            case rel => exact ⟨k + 1, _, _, _, by omega, by go_num, rfl, HM1, HO1, HD1, hbX, hszX⟩
            case measure => simp [intOf]; omega
        · have b13 : (kd == 13) = false := by simpa using k13
          have hs3 := hid_of2 (HS3.out k12 (fun h => k13 h.1))
          have HM1 : Hid ((stk qs (k + 1)).length = m) := by unfold Hid; rw [hs3.out.1]; exact HM.out
          have HO1 : Hid ((wr.alloc (.cells #[.int .i64 kd, .int .i64 qid, .int .i64 qa, .int .i64 qb, .int .i64 qc, .int .i64 qd, .int .i64 qw, .int .i64 qh, .slice ua mu uc] 51)).ownsRow w.heap.size 3 1 (.slice oa m oc) m (natV (stk qs (k + 1)))) := by unfold Hid; rw [hs3.out.1]; exact HOX.out
          have HD1 : Hid ((wr.alloc (.cells #[.int .i64 kd, .int .i64 qid, .int .i64 qa, .int .i64 qb, .int .i64 qc, .int .i64 qd, .int .i64 qw, .int .i64 qh, .slice ua mu uc] 51)).ownsMap Tryd.prog 3 (plainElem Tryd.prog 3) w.heap.size (k + 1) (clD qs (k + 1))) := by unfold Hid; rw [hs3.out.2]; exact HDX.out.mono (by omega)
          clear HS1 HS2 HS3 k12 k13 hs3 HOX HDX
          go_wp2_with fail
          go_roundw
          case rel => exact ⟨k + 1, _, _, _, by omega, by go_num, rfl, HM1, HO1, HD1, hbX, hszX⟩
          case measure => simp [intOf]; omega
    · obtain rfl : k = n := by omega
      go_wp2_with fail
      go_ret
      exact ⟨_, rfl, Nat.le_refl _, HD.out, hbr⟩
end Go.Proofs.YtjmkfcgnadpbaaaDoor
