/- Some of the walks, in one text. -/
import Derived.Test.YtjmkfcgnadpbaaaDoorM3
/- Walks of blend.Add and blend.Put. -/
namespace Go.Proofs.YtjmkfcgnadpbaaaDoor
open Go.RowKit

/-- what holds on the road: the pictures p and q, what is answered -/
structure Gad (w : World) (vp vq : Value) (PW PH QW QH : Nat) (ps qs : List (Int × Int)) (w' : World) : Prop where
  tp : Three w' w.heap.size (.int .i64 (PW : Int)) (.int .i64 (PH : Int)) vp
  tq : Three w' (w.heap.size + 1) (.int .i64 (QW : Int)) (.int .i64 (QH : Int)) vq
  tr : Three w' (w.heap.size + 1 + 1) (.int .i64 0) (.int .i64 0) (.slice none 0 0)
  rp : RdP w' vp ps
  rq : RdP w' vq qs
  bel : Below w.heap.size w w'
theorem Gad.on {w : World} {vp vq : Value} {PW PH QW QH : Nat} {ps qs : List (Int × Int)} {w1 w2 : World} (h : Gad w vp vq PW PH QW QH ps qs w1) (hb : Below w1.heap.size w1 w2) : Gad w vp vq PW PH QW QH ps qs w2 :=
  ⟨h.tp.on hb, h.tq.on hb, h.tr.on hb, h.rp.on hb, h.rq.on hb, h.bel.trans (hb.mono h.bel.size)⟩
theorem Gad.drew {w : World} {vp vq : Value} {PW PH QW QH : Nat} {ps qs : List (Int × Int)} {w1 : World} (h : Gad w vp vq PW PH QW QH ps qs w1) : Gad w vp vq PW PH QW QH ps qs w1.drew :=
  ⟨h.tp.drew, h.tq.drew, h.tr.drew, h.rp, h.rq, h.bel.drew⟩
set_option maxHeartbeats 2000000 in
set_option maxRecDepth 100000 in
theorem add_any (PW PH QW QH : Nat) (vp vq : Value) (ps qs : List (Int × Int)) (x y : Int) (w : World) (HP : Hid (checkL PW PH ps = 0)) (HQ : Hid (checkL QW QH qs = 0)) (RP : Hid (RdP w vp ps)) (RQ : Hid (RdP w vq qs))
    (hx : -20 ≤ x) (hx2 : x ≤ 20) (hy : -20 ≤ y) (hy2 : y ≤ 20) :
    Calls Tryd.prog 72 #[picV PW PH vp, picV QW QH vq, .int .i64 x, .int .i64 y] w
      fun e w' => ∃ v', e = .returned (picV PW PH v') ∧ w'.ownsRow (w.heap.size + 3) 42 2 v' (chL addP PW ps QW QH qs x y 0 0 PW PH).length (pixCells (chL addP PW ps QW QH qs x y 0 0 PW PH)) ∧ Below w.heap.size w w' := by
  obtain ⟨PW', PH', e1, e2, p1, p2, p3, p4, pl, _⟩ := check_zero _ _ _ HP.out
  obtain rfl : PW' = PW := by omega
  obtain rfl : PH' = PH := by omega
  clear e1 e2
  obtain ⟨ap, cp, hvp, hlp, hcp, _⟩ := RP.out
  obtain ⟨aq, cq, hvq, hlq, hcq, _⟩ := RQ.out
  obtain ⟨np, HNP⟩ : ∃ n, Hid (ps.length = n) := ⟨_, (rfl : _ = _)⟩
  obtain ⟨nq, HNQ⟩ : ∃ n, Hid (qs.length = n) := ⟨_, (rfl : _ = _)⟩
  rw [HNP.out] at hvp hlp
  rw [HNQ.out] at hvq hlq
  clear pl
  subst hvp hvq
  unfold picV
  have T0 := ((three_start w (.int .i64 (PW' : Int)) (.int .i64 (PH' : Int)) (.slice ap np cp) 49).alloc (.cells #[.int .i64 (QW : Int), .int .i64 (QH : Int), .slice aq nq cq] 49)).alloc (.cells #[.int .i64 0, .int .i64 0, .slice none 0 0] 49)
  have T1 := (three_begin (w.alloc (.cells #[.int .i64 (PW' : Int), .int .i64 (PH' : Int), .slice ap np cp] 49)) (.int .i64 (QW : Int)) (.int .i64 (QH : Int)) (.slice aq nq cq) 49 (w.heap.size + 1) (by simp)).alloc (.cells #[.int .i64 0, .int .i64 0, .slice none 0 0] 49)
  have T2 := three_begin ((w.alloc (.cells #[.int .i64 (PW' : Int), .int .i64 (PH' : Int), .slice ap np cp] 49)).alloc (.cells #[.int .i64 (QW : Int), .int .i64 (QH : Int), .slice aq nq cq] 49)) (.int .i64 0) (.int .i64 0) (.slice none 0 0) 49 (w.heap.size + 1 + 1) (by simp)
  obtain ⟨W0, HW0⟩ : ∃ W0, Hid (((w.alloc (.cells #[.int .i64 (PW' : Int), .int .i64 (PH' : Int), .slice ap np cp] 49)).alloc (.cells #[.int .i64 (QW : Int), .int .i64 (QH : Int), .slice aq nq cq] 49)).alloc (.cells #[.int .i64 0, .int .i64 0, .slice none 0 0] 49) = W0) := ⟨_, (rfl : _ = _)⟩
  have hb0 : Below w.heap.size w W0 := by rw [← HW0.out]; exact (((Below.refl _ _).alloc (Nat.le_refl _) _).alloc (by simp) _).alloc (by simp; omega) _
  rw [HW0.out] at T0 T1 T2
  have HG0 : Hid (Gad w (.slice ap np cp) (.slice aq nq cq) PW' PH' QW QH ps qs W0) := ⟨T0, T1, T2, RP.out.on hb0, RQ.out.on hb0, hb0⟩
  have HGD : Hid (Gad w (.slice ap np cp) (.slice aq nq cq) PW' PH' QW QH ps qs W0.drew) := HG0.out.drew
  clear T0 T1 T2 hb0 HG0
  have KEEP : Hid (∀ W2, Gad w (.slice ap np cp) (.slice aq nq cq) PW' PH' QW QH ps qs W2 → (W2.cell? ⟨w.heap.size, 0, none⟩ = some (.int .i64 (PW' : Int)) ∧ W2.cell? ⟨w.heap.size, 1, none⟩ = some (.int .i64 (PH' : Int)) ∧ W2.cell? ⟨w.heap.size, 2, none⟩ = some (.slice ap np cp) ∧ W2.cell? ⟨w.heap.size + 1, 0, none⟩ = some (.int .i64 (QW : Int)) ∧ W2.cell? ⟨w.heap.size + 1, 1, none⟩ = some (.int .i64 (QH : Int)) ∧ W2.cell? ⟨w.heap.size + 1, 2, none⟩ = some (.slice aq nq cq))) := fun W2 h => ⟨h.tp.c0, h.tp.c1, h.tp.c2, h.tq.c0, h.tq.c1, h.tq.c2⟩
  go_enter Tryd.func72, Tryd.ntmps72
  go_wp2_with fail
  rw [HW0.out]
  refine wp_region_held_drew (S := (fun w' => w'.cell? ⟨w.heap.size, 0, none⟩ = some (.int .i64 (PW' : Int)) ∧ w'.cell? ⟨w.heap.size, 1, none⟩ = some (.int .i64 (PH' : Int)) ∧ w'.cell? ⟨w.heap.size, 2, none⟩ = some (.slice ap np cp) ∧ w'.cell? ⟨w.heap.size + 1, 0, none⟩ = some (.int .i64 (QW : Int)) ∧ w'.cell? ⟨w.heap.size + 1, 1, none⟩ = some (.int .i64 (QH : Int)) ∧ w'.cell? ⟨w.heap.size + 1, 2, none⟩ = some (.slice aq nq cq))) (by kernel_rfl) ?_ (fun hHeld => ?_)
  · exact KEEP.out _ HGD.out
  refine tk (v := ?_) 0 rfl (by kernel_rfl) (by rfl) ?_ ?_
  rotate_left
  · (intro w hSw; (try dsimp only at hSw); go_simp; try with_reducible rfl)
  refine tk (v := ?_) 1 rfl (by kernel_rfl) (by rfl) ?_ ?_
  rotate_left
  · (intro w hSw; (try dsimp only at hSw); go_simp; try with_reducible rfl)
  refine tk (v := ?_) 2 rfl (by kernel_rfl) (by rfl) ?_ ?_
  rotate_left
  · (intro w hSw; (try dsimp only at hSw); go_simp; try with_reducible rfl)
  refine tk (v := ?_) 3 rfl (by kernel_rfl) (by rfl) ?_ ?_
  rotate_left
  · (intro w hSw; (try dsimp only at hSw); go_simp; try with_reducible rfl)
  refine tk (v := ?_) 4 rfl (by kernel_rfl) (by rfl) ?_ ?_
  rotate_left
  · (intro w hSw; (try dsimp only at hSw); go_simp; try with_reducible rfl)
  refine wpAnyH_ready (rs := [5]) (by kernel_rfl) (by simp) ?_
  refine AllReadyH.cons rfl (fun K_ hK => ?_) AllReadyH.nil
  go_simp
  refine (whole_any (PW' : Int) (PH' : Int) ap np cp _).mono ?_
  unfold rectV
  rintro e w1 ⟨rfl, hb1⟩
  have HG1 : Hid (Gad w (.slice ap np cp) (.slice aq nq cq) PW' PH' QW QH ps qs w1) := HGD.out.on hb1
  clear hb1 HGD
  refine hK.out _ _ ?_ (fun hHeld => ?_)
  · exact KEEP.out _ HG1.out
  clear hK K_
  refine wpAnyH_ready (rs := [6]) (by kernel_rfl) (by simp) ?_
  refine AllReadyH.cons rfl (fun K_ hK => ?_) AllReadyH.nil
  go_simp
  refine (changeA_any PW' PH' QW QH (.slice ap np cp) (.slice aq nq cq) ps qs x y 0 0 (PW' : Int) (PH' : Int) w1 HP HQ HG1.out.rp HG1.out.rq hx hx2 hy hy2 (by omega) (by omega) (by omega) (by omega) (by omega) (by omega) (by omega) (by omega)).mono ?_
  unfold picV
  rintro e w2 ⟨v2, rfl, ho2, hb2⟩
  have HG2 : Hid (Gad w (.slice ap np cp) (.slice aq nq cq) PW' PH' QW QH ps qs w2) := HG1.out.on hb2
  have hsz : w.heap.size + 3 ≤ w1.heap.size + 4 := by have := HG1.out.tr.lt; omega
  have HO2 := hide_own (own_mono ho2 hsz)
  obtain ⟨n2, HN2⟩ : ∃ n, Hid ((chL addP PW' ps QW QH qs x y 0 0 (PW' : Int) (PH' : Int)).length = n) := ⟨_, (rfl : _ = _)⟩
  rw [HN2.out] at HO2
  obtain ⟨a2, c2, hv2⟩ := own_any HO2.out
  subst hv2
  clear ho2 hsz
  obtain ⟨q0, q1, q2, f0, f1, f2, _⟩ := HG2.out.tr
  clear hb2 HG1
  refine hK.out _ _ ?_ (fun hHeld => ?_)
  · exact KEEP.out _ HG2.out
  clear hK K_
  have hb3 : Below (w.heap.size + 1 + 1) w2 (((w2.setCell ⟨w.heap.size + 1 + 1, 0, none⟩ (.int .i64 (PW' : Int))).setCell ⟨w.heap.size + 1 + 1, 1, none⟩ (.int .i64 (PH' : Int))).setCell ⟨w.heap.size + 1 + 1, 2, none⟩ (.slice a2 n2 c2)) := by
    have h0 : Below (w.heap.size + 1 + 1) w2 w2 := Below.refl _ _
    exact ((h0.setCell (show w.heap.size + 1 + 1 ≤ w.heap.size + 1 + 1 by omega) _).setCell (show w.heap.size + 1 + 1 ≤ w.heap.size + 1 + 1 by omega) _).setCell (show w.heap.size + 1 + 1 ≤ w.heap.size + 1 + 1 by omega) _
  have hbf : Below w.heap.size w (((w2.setCell ⟨w.heap.size + 1 + 1, 0, none⟩ (.int .i64 (PW' : Int))).setCell ⟨w.heap.size + 1 + 1, 1, none⟩ (.int .i64 (PH' : Int))).setCell ⟨w.heap.size + 1 + 1, 2, none⟩ (.slice a2 n2 c2)) := HG2.out.bel.trans (hb3.mono (by omega))
  have HR3 : Hid ((((w2.setCell ⟨w.heap.size + 1 + 1, 0, none⟩ (.int .i64 (PW' : Int))).setCell ⟨w.heap.size + 1 + 1, 1, none⟩ (.int .i64 (PH' : Int))).setCell ⟨w.heap.size + 1 + 1, 2, none⟩ (.slice a2 n2 c2)).ownsRow (w.heap.size + 3) 42 2 (.slice a2 n2 c2) n2 (pixCells (chL addP PW' ps QW QH qs x y 0 0 (PW' : Int) (PH' : Int)))) := ownsRow_setCell_below (ownsRow_setCell_below (ownsRow_setCell_below HO2.out (a := ⟨w.heap.size + 1 + 1, 0, none⟩) (show w.heap.size + 1 + 1 < w.heap.size + 3 by omega) _) (a := ⟨w.heap.size + 1 + 1, 1, none⟩) (show w.heap.size + 1 + 1 < w.heap.size + 3 by omega) _) (a := ⟨w.heap.size + 1 + 1, 2, none⟩) (show w.heap.size + 1 + 1 < w.heap.size + 3 by omega) _
  have HK3 : Hid ((((w2.setCell ⟨w.heap.size + 1 + 1, 0, none⟩ (.int .i64 (PW' : Int))).setCell ⟨w.heap.size + 1 + 1, 1, none⟩ (.int .i64 (PH' : Int))).setCell ⟨w.heap.size + 1 + 1, 2, none⟩ (.slice a2 n2 c2)).cell? ⟨w.heap.size, 0, none⟩ = some (.int .i64 (PW' : Int)) ∧ (((w2.setCell ⟨w.heap.size + 1 + 1, 0, none⟩ (.int .i64 (PW' : Int))).setCell ⟨w.heap.size + 1 + 1, 1, none⟩ (.int .i64 (PH' : Int))).setCell ⟨w.heap.size + 1 + 1, 2, none⟩ (.slice a2 n2 c2)).cell? ⟨w.heap.size, 1, none⟩ = some (.int .i64 (PH' : Int)) ∧ (((w2.setCell ⟨w.heap.size + 1 + 1, 0, none⟩ (.int .i64 (PW' : Int))).setCell ⟨w.heap.size + 1 + 1, 1, none⟩ (.int .i64 (PH' : Int))).setCell ⟨w.heap.size + 1 + 1, 2, none⟩ (.slice a2 n2 c2)).cell? ⟨w.heap.size, 2, none⟩ = some (.slice ap np cp) ∧ (((w2.setCell ⟨w.heap.size + 1 + 1, 0, none⟩ (.int .i64 (PW' : Int))).setCell ⟨w.heap.size + 1 + 1, 1, none⟩ (.int .i64 (PH' : Int))).setCell ⟨w.heap.size + 1 + 1, 2, none⟩ (.slice a2 n2 c2)).cell? ⟨w.heap.size + 1, 0, none⟩ = some (.int .i64 (QW : Int)) ∧ (((w2.setCell ⟨w.heap.size + 1 + 1, 0, none⟩ (.int .i64 (PW' : Int))).setCell ⟨w.heap.size + 1 + 1, 1, none⟩ (.int .i64 (PH' : Int))).setCell ⟨w.heap.size + 1 + 1, 2, none⟩ (.slice a2 n2 c2)).cell? ⟨w.heap.size + 1, 1, none⟩ = some (.int .i64 (QH : Int)) ∧ (((w2.setCell ⟨w.heap.size + 1 + 1, 0, none⟩ (.int .i64 (PW' : Int))).setCell ⟨w.heap.size + 1 + 1, 1, none⟩ (.int .i64 (PH' : Int))).setCell ⟨w.heap.size + 1 + 1, 2, none⟩ (.slice a2 n2 c2)).cell? ⟨w.heap.size + 1, 2, none⟩ = some (.slice aq nq cq)) := by
    have h1 := HG2.out.tp.onB hb3 (by omega)
    have h2 := HG2.out.tq.onB hb3 (by omega)
    exact ⟨h1.c0, h1.c1, h1.c2, h2.c0, h2.c1, h2.c2⟩
  refine wpAnyH_ready (rs := [7]) (by kernel_rfl) (by simp) ?_
  refine AllReadyH.cons rfl (fun K_ hK => ?_) AllReadyH.nil
  go_simp
  refine hK.out _ _ ?_ (fun hHeld => ?_)
  · exact HK3.out
  clear hK K_
  refine wpAnyH_done (by kernel_rfl) ?_ _
  go_wp2_with fail
  exact bodyPost_ret (v := .agg #[.int .i64 (PW' : Int), .int .i64 (PH' : Int), .slice a2 n2 c2]) (by simp [results, Tryd.results72, go_sem, q0, q1, q2]) rfl ⟨_, rfl, by rw [HN2.out]; exact HR3.out, hbf⟩

set_option maxHeartbeats 2000000 in
set_option maxRecDepth 100000 in
theorem put_any (PW PH QW QH : Nat) (vp vq : Value) (ps qs : List (Int × Int)) (x y : Int) (w : World) (HP : Hid (checkL PW PH ps = 0)) (HQ : Hid (checkL QW QH qs = 0)) (RP : Hid (RdP w vp ps)) (RQ : Hid (RdP w vq qs))
    (hx : -20 ≤ x) (hx2 : x ≤ 20) (hy : -20 ≤ y) (hy2 : y ≤ 20) :
    Calls Tryd.prog 73 #[picV PW PH vp, picV QW QH vq, .int .i64 x, .int .i64 y] w
      fun e w' => ∃ v', e = .returned (picV PW PH v') ∧ w'.ownsRow (w.heap.size + 3) 42 2 v' (chL (fun _ q => q) PW ps QW QH qs x y 0 0 PW PH).length (pixCells (chL (fun _ q => q) PW ps QW QH qs x y 0 0 PW PH)) ∧ Below w.heap.size w w' := by
  obtain ⟨PW', PH', e1, e2, p1, p2, p3, p4, pl, _⟩ := check_zero _ _ _ HP.out
  obtain rfl : PW' = PW := by omega
  obtain rfl : PH' = PH := by omega
  clear e1 e2
  obtain ⟨ap, cp, hvp, hlp, hcp, _⟩ := RP.out
  obtain ⟨aq, cq, hvq, hlq, hcq, _⟩ := RQ.out
  obtain ⟨np, HNP⟩ : ∃ n, Hid (ps.length = n) := ⟨_, (rfl : _ = _)⟩
  obtain ⟨nq, HNQ⟩ : ∃ n, Hid (qs.length = n) := ⟨_, (rfl : _ = _)⟩
  rw [HNP.out] at hvp hlp
  rw [HNQ.out] at hvq hlq
  clear pl
  subst hvp hvq
  unfold picV
  have T0 := ((three_start w (.int .i64 (PW' : Int)) (.int .i64 (PH' : Int)) (.slice ap np cp) 49).alloc (.cells #[.int .i64 (QW : Int), .int .i64 (QH : Int), .slice aq nq cq] 49)).alloc (.cells #[.int .i64 0, .int .i64 0, .slice none 0 0] 49)
  have T1 := (three_begin (w.alloc (.cells #[.int .i64 (PW' : Int), .int .i64 (PH' : Int), .slice ap np cp] 49)) (.int .i64 (QW : Int)) (.int .i64 (QH : Int)) (.slice aq nq cq) 49 (w.heap.size + 1) (by simp)).alloc (.cells #[.int .i64 0, .int .i64 0, .slice none 0 0] 49)
  have T2 := three_begin ((w.alloc (.cells #[.int .i64 (PW' : Int), .int .i64 (PH' : Int), .slice ap np cp] 49)).alloc (.cells #[.int .i64 (QW : Int), .int .i64 (QH : Int), .slice aq nq cq] 49)) (.int .i64 0) (.int .i64 0) (.slice none 0 0) 49 (w.heap.size + 1 + 1) (by simp)
  obtain ⟨W0, HW0⟩ : ∃ W0, Hid (((w.alloc (.cells #[.int .i64 (PW' : Int), .int .i64 (PH' : Int), .slice ap np cp] 49)).alloc (.cells #[.int .i64 (QW : Int), .int .i64 (QH : Int), .slice aq nq cq] 49)).alloc (.cells #[.int .i64 0, .int .i64 0, .slice none 0 0] 49) = W0) := ⟨_, (rfl : _ = _)⟩
  have hb0 : Below w.heap.size w W0 := by rw [← HW0.out]; exact (((Below.refl _ _).alloc (Nat.le_refl _) _).alloc (by simp) _).alloc (by simp; omega) _
  rw [HW0.out] at T0 T1 T2
  have HG0 : Hid (Gad w (.slice ap np cp) (.slice aq nq cq) PW' PH' QW QH ps qs W0) := ⟨T0, T1, T2, RP.out.on hb0, RQ.out.on hb0, hb0⟩
  have HGD : Hid (Gad w (.slice ap np cp) (.slice aq nq cq) PW' PH' QW QH ps qs W0.drew) := HG0.out.drew
  clear T0 T1 T2 hb0 HG0
  have KEEP : Hid (∀ W2, Gad w (.slice ap np cp) (.slice aq nq cq) PW' PH' QW QH ps qs W2 → (W2.cell? ⟨w.heap.size, 0, none⟩ = some (.int .i64 (PW' : Int)) ∧ W2.cell? ⟨w.heap.size, 1, none⟩ = some (.int .i64 (PH' : Int)) ∧ W2.cell? ⟨w.heap.size, 2, none⟩ = some (.slice ap np cp) ∧ W2.cell? ⟨w.heap.size + 1, 0, none⟩ = some (.int .i64 (QW : Int)) ∧ W2.cell? ⟨w.heap.size + 1, 1, none⟩ = some (.int .i64 (QH : Int)) ∧ W2.cell? ⟨w.heap.size + 1, 2, none⟩ = some (.slice aq nq cq))) := fun W2 h => ⟨h.tp.c0, h.tp.c1, h.tp.c2, h.tq.c0, h.tq.c1, h.tq.c2⟩
  go_enter Tryd.func73, Tryd.ntmps73
  go_wp2_with fail
  rw [HW0.out]
  refine wp_region_held_drew (S := (fun w' => w'.cell? ⟨w.heap.size, 0, none⟩ = some (.int .i64 (PW' : Int)) ∧ w'.cell? ⟨w.heap.size, 1, none⟩ = some (.int .i64 (PH' : Int)) ∧ w'.cell? ⟨w.heap.size, 2, none⟩ = some (.slice ap np cp) ∧ w'.cell? ⟨w.heap.size + 1, 0, none⟩ = some (.int .i64 (QW : Int)) ∧ w'.cell? ⟨w.heap.size + 1, 1, none⟩ = some (.int .i64 (QH : Int)) ∧ w'.cell? ⟨w.heap.size + 1, 2, none⟩ = some (.slice aq nq cq))) (by kernel_rfl) ?_ (fun hHeld => ?_)
  · exact KEEP.out _ HGD.out
  refine tk (v := ?_) 0 rfl (by kernel_rfl) (by rfl) ?_ ?_
  rotate_left
  · (intro w hSw; (try dsimp only at hSw); go_simp; try with_reducible rfl)
  refine tk (v := ?_) 1 rfl (by kernel_rfl) (by rfl) ?_ ?_
  rotate_left
  · (intro w hSw; (try dsimp only at hSw); go_simp; try with_reducible rfl)
  refine tk (v := ?_) 2 rfl (by kernel_rfl) (by rfl) ?_ ?_
  rotate_left
  · (intro w hSw; (try dsimp only at hSw); go_simp; try with_reducible rfl)
  refine tk (v := ?_) 3 rfl (by kernel_rfl) (by rfl) ?_ ?_
  rotate_left
  · (intro w hSw; (try dsimp only at hSw); go_simp; try with_reducible rfl)
  refine tk (v := ?_) 4 rfl (by kernel_rfl) (by rfl) ?_ ?_
  rotate_left
  · (intro w hSw; (try dsimp only at hSw); go_simp; try with_reducible rfl)
  refine wpAnyH_ready (rs := [5]) (by kernel_rfl) (by simp) ?_
  refine AllReadyH.cons rfl (fun K_ hK => ?_) AllReadyH.nil
  go_simp
  refine (whole_any (PW' : Int) (PH' : Int) ap np cp _).mono ?_
  unfold rectV
  rintro e w1 ⟨rfl, hb1⟩
  have HG1 : Hid (Gad w (.slice ap np cp) (.slice aq nq cq) PW' PH' QW QH ps qs w1) := HGD.out.on hb1
  clear hb1 HGD
  refine hK.out _ _ ?_ (fun hHeld => ?_)
  · exact KEEP.out _ HG1.out
  clear hK K_
  refine wpAnyH_ready (rs := [6]) (by kernel_rfl) (by simp) ?_
  refine AllReadyH.cons rfl (fun K_ hK => ?_) AllReadyH.nil
  go_simp
  refine (changeP_any PW' PH' QW QH (.slice ap np cp) (.slice aq nq cq) ps qs x y 0 0 (PW' : Int) (PH' : Int) w1 HP HQ HG1.out.rp HG1.out.rq hx hx2 hy hy2 (by omega) (by omega) (by omega) (by omega) (by omega) (by omega) (by omega) (by omega)).mono ?_
  unfold picV
  rintro e w2 ⟨v2, rfl, ho2, hb2⟩
  have HG2 : Hid (Gad w (.slice ap np cp) (.slice aq nq cq) PW' PH' QW QH ps qs w2) := HG1.out.on hb2
  have hsz : w.heap.size + 3 ≤ w1.heap.size + 4 := by have := HG1.out.tr.lt; omega
  have HO2 := hide_own (own_mono ho2 hsz)
  obtain ⟨n2, HN2⟩ : ∃ n, Hid ((chL (fun _ q => q) PW' ps QW QH qs x y 0 0 (PW' : Int) (PH' : Int)).length = n) := ⟨_, (rfl : _ = _)⟩
  rw [HN2.out] at HO2
  obtain ⟨a2, c2, hv2⟩ := own_any HO2.out
  subst hv2
  clear ho2 hsz
  obtain ⟨q0, q1, q2, f0, f1, f2, _⟩ := HG2.out.tr
  clear hb2 HG1
  refine hK.out _ _ ?_ (fun hHeld => ?_)
  · exact KEEP.out _ HG2.out
  clear hK K_
  have hb3 : Below (w.heap.size + 1 + 1) w2 (((w2.setCell ⟨w.heap.size + 1 + 1, 0, none⟩ (.int .i64 (PW' : Int))).setCell ⟨w.heap.size + 1 + 1, 1, none⟩ (.int .i64 (PH' : Int))).setCell ⟨w.heap.size + 1 + 1, 2, none⟩ (.slice a2 n2 c2)) := by
    have h0 : Below (w.heap.size + 1 + 1) w2 w2 := Below.refl _ _
    exact ((h0.setCell (show w.heap.size + 1 + 1 ≤ w.heap.size + 1 + 1 by omega) _).setCell (show w.heap.size + 1 + 1 ≤ w.heap.size + 1 + 1 by omega) _).setCell (show w.heap.size + 1 + 1 ≤ w.heap.size + 1 + 1 by omega) _
  have hbf : Below w.heap.size w (((w2.setCell ⟨w.heap.size + 1 + 1, 0, none⟩ (.int .i64 (PW' : Int))).setCell ⟨w.heap.size + 1 + 1, 1, none⟩ (.int .i64 (PH' : Int))).setCell ⟨w.heap.size + 1 + 1, 2, none⟩ (.slice a2 n2 c2)) := HG2.out.bel.trans (hb3.mono (by omega))
  have HR3 : Hid ((((w2.setCell ⟨w.heap.size + 1 + 1, 0, none⟩ (.int .i64 (PW' : Int))).setCell ⟨w.heap.size + 1 + 1, 1, none⟩ (.int .i64 (PH' : Int))).setCell ⟨w.heap.size + 1 + 1, 2, none⟩ (.slice a2 n2 c2)).ownsRow (w.heap.size + 3) 42 2 (.slice a2 n2 c2) n2 (pixCells (chL (fun _ q => q) PW' ps QW QH qs x y 0 0 (PW' : Int) (PH' : Int)))) := ownsRow_setCell_below (ownsRow_setCell_below (ownsRow_setCell_below HO2.out (a := ⟨w.heap.size + 1 + 1, 0, none⟩) (show w.heap.size + 1 + 1 < w.heap.size + 3 by omega) _) (a := ⟨w.heap.size + 1 + 1, 1, none⟩) (show w.heap.size + 1 + 1 < w.heap.size + 3 by omega) _) (a := ⟨w.heap.size + 1 + 1, 2, none⟩) (show w.heap.size + 1 + 1 < w.heap.size + 3 by omega) _
  have HK3 : Hid ((((w2.setCell ⟨w.heap.size + 1 + 1, 0, none⟩ (.int .i64 (PW' : Int))).setCell ⟨w.heap.size + 1 + 1, 1, none⟩ (.int .i64 (PH' : Int))).setCell ⟨w.heap.size + 1 + 1, 2, none⟩ (.slice a2 n2 c2)).cell? ⟨w.heap.size, 0, none⟩ = some (.int .i64 (PW' : Int)) ∧ (((w2.setCell ⟨w.heap.size + 1 + 1, 0, none⟩ (.int .i64 (PW' : Int))).setCell ⟨w.heap.size + 1 + 1, 1, none⟩ (.int .i64 (PH' : Int))).setCell ⟨w.heap.size + 1 + 1, 2, none⟩ (.slice a2 n2 c2)).cell? ⟨w.heap.size, 1, none⟩ = some (.int .i64 (PH' : Int)) ∧ (((w2.setCell ⟨w.heap.size + 1 + 1, 0, none⟩ (.int .i64 (PW' : Int))).setCell ⟨w.heap.size + 1 + 1, 1, none⟩ (.int .i64 (PH' : Int))).setCell ⟨w.heap.size + 1 + 1, 2, none⟩ (.slice a2 n2 c2)).cell? ⟨w.heap.size, 2, none⟩ = some (.slice ap np cp) ∧ (((w2.setCell ⟨w.heap.size + 1 + 1, 0, none⟩ (.int .i64 (PW' : Int))).setCell ⟨w.heap.size + 1 + 1, 1, none⟩ (.int .i64 (PH' : Int))).setCell ⟨w.heap.size + 1 + 1, 2, none⟩ (.slice a2 n2 c2)).cell? ⟨w.heap.size + 1, 0, none⟩ = some (.int .i64 (QW : Int)) ∧ (((w2.setCell ⟨w.heap.size + 1 + 1, 0, none⟩ (.int .i64 (PW' : Int))).setCell ⟨w.heap.size + 1 + 1, 1, none⟩ (.int .i64 (PH' : Int))).setCell ⟨w.heap.size + 1 + 1, 2, none⟩ (.slice a2 n2 c2)).cell? ⟨w.heap.size + 1, 1, none⟩ = some (.int .i64 (QH : Int)) ∧ (((w2.setCell ⟨w.heap.size + 1 + 1, 0, none⟩ (.int .i64 (PW' : Int))).setCell ⟨w.heap.size + 1 + 1, 1, none⟩ (.int .i64 (PH' : Int))).setCell ⟨w.heap.size + 1 + 1, 2, none⟩ (.slice a2 n2 c2)).cell? ⟨w.heap.size + 1, 2, none⟩ = some (.slice aq nq cq)) := by
    have h1 := HG2.out.tp.onB hb3 (by omega)
    have h2 := HG2.out.tq.onB hb3 (by omega)
    exact ⟨h1.c0, h1.c1, h1.c2, h2.c0, h2.c1, h2.c2⟩
  refine wpAnyH_ready (rs := [7]) (by kernel_rfl) (by simp) ?_
  refine AllReadyH.cons rfl (fun K_ hK => ?_) AllReadyH.nil
  go_simp
  refine hK.out _ _ ?_ (fun hHeld => ?_)
  · exact HK3.out
  clear hK K_
  refine wpAnyH_done (by kernel_rfl) ?_ _
  go_wp2_with fail
  exact bodyPost_ret (v := .agg #[.int .i64 (PW' : Int), .int .i64 (PH' : Int), .slice a2 n2 c2]) (by simp [results, Tryd.results73, go_sem, q0, q1, q2]) rfl ⟨_, rfl, by rw [HN2.out]; exact HR3.out, hbf⟩
end Go.Proofs.YtjmkfcgnadpbaaaDoor
/- Walk: objects.Do. -/
namespace Go.Proofs.YtjmkfcgnadpbaaaDoor
open Go.RowKit

/-- an op -/
structure Pq where
  kind : Int
  id : Int
  a : Int
  b : Int
  c : Int
  d : Int
  pw : Int
  ph : Int
  ps : List (Int × Int)
@[reducible] def opV (q : Pq) (u : Value) : Value := .agg #[.int .i64 q.kind, .int .i64 q.id, .int .i64 q.a, .int .i64 q.b, .int .i64 q.c, .int .i64 q.d, .int .i64 q.pw, .int .i64 q.ph, u]
/-- a new object of a picture -/
def freshO (q : Pq) : Po := ⟨q.id, 0, 0, q.pw, q.ph, q.ps, 0, 0, 20, 20, true⟩
/-- what an op makes of its object; none: no such kind -/
def actO (q : Pq) (o : Po) : Option Po :=
  if q.kind = 3 then some { o with x := q.a, y := q.b }
  else if q.kind = 4 then some { o with cx := q.a, cy := q.b, cw := q.c, ch := q.d }
  else if q.kind = 5 then some { o with sh := decide (q.a = 1) }
  else if q.kind = 6 then some { o with id := q.a }
  else if q.kind = 8 then some { o with ps := chL addP o.pw.toNat o.ps q.pw.toNat q.ph.toNat q.ps q.a q.b 0 0 o.pw o.ph }
  else if q.kind = 9 then some { o with ps := chL (fun _ z => z) o.pw.toNat o.ps q.pw.toNat q.ph.toNat q.ps q.a q.b 0 0 o.pw o.ph }
  else none
/-- what Do answers: objects, or the number of an error -/
def doO (os : List Po) (q : Pq) : List Po ⊕ Nat :=
  if q.kind = 2 then .inl (setO os (freshO q))
  else match os.find? (fun o => decide (o.id = q.id)) with
    | none => .inr 5
    | some o => if q.kind = 7 then .inl (dropO os q.id) else match actO q o with
      | none => .inr 3
      | some x => .inl (setO os x)
/-- what Do wants -/
structure DoPre (os : List Po) (q : Pq) : Prop where
  few : os.length ≤ 100
  pix : ∀ j, j < os.length → (os.getD j po0).ps.length ≤ 100
  sort : SortO os
  ok : ∀ j, j < os.length → checkL (os.getD j po0).pw (os.getD j po0).ph (os.getD j po0).ps = 0
  qpix : q.ps.length ≤ 100
  pic : q.kind = 8 ∨ q.kind = 9 → checkL q.pw q.ph q.ps = 0 ∧ -20 ≤ q.a ∧ q.a ≤ 20 ∧ -20 ≤ q.b ∧ q.b ≤ 20
def DoP (os : List Po) (q : Pq) (w : World) (e : Ending) (w' : World) : Prop :=
  Below w.heap.size w w' ∧ ((∃ v' qs, doO os q = .inl (qs.map Prod.fst) ∧ e = .returned (.tuple #[v', .nilIface]) ∧ OwnOb w' w.heap.size v' qs) ∨ (∃ c, doO os q = .inr c ∧ (c = 5 ∨ c = 3) ∧ e = .returned (.tuple #[.slice none 0 0, errV c])))

theorem find_at (os : List Po) (t : Int) (hs : SortO os) (i : Nat) (hi : i < os.length) (h : (os.getD i po0).id = t) : os.find? (fun o => decide (o.id = t)) = some (os.getD i po0) := by
  have e : ∀ k (hk : k < os.length), os.getD k po0 = os[k] := fun k hk => by rw [List.getD_eq_getElem?_getD, List.getElem?_eq_getElem hk]; rfl
  rw [List.find?_eq_some_iff_getElem]
  refine ⟨by simpa using h, i, hi, (e i hi).symm, fun j hj => ?_⟩
  have := hs j i hj hi
  rw [e j (by omega)] at this
  simp
  omega
theorem find_no (os : List Po) (t : Int) (h : ∀ j, j < os.length → (os.getD j po0).id ≠ t) : os.find? (fun o => decide (o.id = t)) = none := by
  rw [List.find?_eq_none]
  intro o ho
  obtain ⟨j, hj, e⟩ := List.mem_iff_getElem.1 ho
  have := h j hj
  rw [List.getD_eq_getElem?_getD, List.getElem?_eq_getElem hj] at this
  simp only [Option.getD_some] at this
  rw [e] at this
  simpa using this

set_option maxHeartbeats 8000000 in
set_option maxRecDepth 100000 in
theorem do_any (v : Value) (os : List Po) (q : Pq) (uq : Value) (w : World) (HP : Hid (DoPre os q)) (HR : Hid (RdO w v os)) (HU : Hid (RdP w uq q.ps)) :
    Calls Tryd.prog 55 #[v, opV q uq] w fun e w' => DoP os q w e w' := by
  obtain ⟨kd, qid, qa, qb, qc, qd, qw, qh, qp⟩ := q
  obtain ⟨a, cap, hv, hl, hcap⟩ := HR.out.shape
  obtain ⟨n, HN⟩ : ∃ n, Hid (os.length = n) := ⟨_, (rfl : _ = _)⟩
  rw [HN.out] at hv hl
  simp only [opV] at HU ⊢
  obtain ⟨ap, cp, hvp, _, _, _⟩ := HU.out
  obtain ⟨np, HNP⟩ : ∃ n, Hid (qp.length = n) := ⟨_, (rfl : _ = _)⟩
  rw [HNP.out] at hvp
  subst hvp
  have HPS : Hid (∀ j, j < os.length → (os.getD j po0).ps.length ≤ 100) := HP.out.pix
  have HSO : Hid (SortO os) := HP.out.sort
  have hos : os.length ≤ 100 := HP.out.few
  have hqp : qp.length ≤ 100 := HP.out.qpix
  have hbz : Below w.heap.size w (w.alloc (.cells #[.int .i64 kd, .int .i64 qid, .int .i64 qa, .int .i64 qb, .int .i64 qc, .int .i64 qd, .int .i64 qw, .int .i64 qh, .slice ap np cp] 51)) := (Below.refl _ _).alloc (Nat.le_refl _) _
  have N0 := nine_start w (.int .i64 kd) (.int .i64 qid) (.int .i64 qa) (.int .i64 qb) (.int .i64 qc) (.int .i64 qd) (.int .i64 qw) (.int .i64 qh) (.slice ap np cp) 51 w.heap.size rfl
  have HR0 : Hid (RdO _ v os) := HR.out.on hbz
  have HU0 : Hid (RdP _ _ _) := HU.out.on hbz
  subst hv
  by_cases h2 : kd = 2
  · subst h2
    have HD : Hid (doO os ⟨2, qid, qa, qb, qc, qd, qw, qh, qp⟩ = .inl (setO os (freshO ⟨2, qid, qa, qb, qc, qd, qw, qh, qp⟩))) := by unfold Hid doO; rw [if_pos rfl]
    go_enter Tryd.func55, Tryd.ntmps55
    go_wp2_with fail
    refine (fresh_any qid qw qh _ qp _ hqp HU0).mono ?_
    unfold objV
    rintro e w1 ⟨u1, rfl, ho1, hb1⟩
    have HU1 := hid_of2 (rdP_own ho1)
    have HR1 : Hid (RdO w1 (.slice a n cap) os) := HR0.out.on hb1
    have hbb1 := hbz.trans (hb1.mono hbz.size)
    obtain ⟨a1, c1, hu1⟩ := own_any ho1
    rw [HNP.out] at hu1
    subst hu1
    clear ho1 hb1 hbz N0 HR0 HU0
    go_wp2_with fail
    have hset := set_any (.slice a n cap) os (freshO ⟨2, qid, qa, qb, qc, qd, qw, qh, qp⟩) (.slice a1 np c1) w1 hos HPS.out hqp HSO HR1 HU1
    unfold poV objV freshO at hset
    refine hset.mono ?_
    clear hset
    rintro e w2 ⟨v2, qs, rfl, ho2, hq2, hb2⟩
    have HO2 := hide_ob (ho2.mono hbb1.size)
    have hbb2 := hbb1.trans (hb2.mono hbb1.size)
    have HQ2 := hid_of2 hq2
    obtain ⟨a2, c2, hv2⟩ := own_any ho2.1
    subst hv2
    clear ho2 hb2 hq2
    go_wp2_with fail
    go_ret2
    exact ⟨hbb2, .inl ⟨_, qs, by rw [HD.out, HQ2.out]; rfl, rfl, HO2.out⟩⟩
  have hk2 : (kd == 2) = false := by simpa using h2
  go_enter Tryd.func55, Tryd.ntmps55
  obtain ⟨X0, HX0⟩ : ∃ X0, Hid (w.alloc (.cells #[.int .i64 kd, .int .i64 qid, .int .i64 qa, .int .i64 qb, .int .i64 qc, .int .i64 qd, .int .i64 qw, .int .i64 qh, .slice ap np cp] 51) = X0) := ⟨_, (rfl : _ = _)⟩
  go_wp2_with fail
  rw [HX0.out] at N0 HR0 HU0 hbz ⊢
  refine (get_any _ os qid _ (by omega) HPS.out HSO HR0).mono ?_
  rintro e w5 ⟨hb5, hget⟩
  have N5 := hid_of2 (N0.on hb5)
  have HU5 := hid_of2 (HU0.out.on hb5)
  have HR5 : Hid (RdO w5 (.slice a n cap) os) := HR0.out.on hb5
  have hbb5 := hbz.trans (hb5.mono hbz.size)
  have hX0 : X0.heap.size = w.heap.size + 1 := by rw [← HX0.out]; simp
  have hw5 : w.heap.size + 1 ≤ w5.heap.size := by have := hb5.size; omega
  clear N0 HR0 HU0 hbz HX0
  rcases hget with ⟨i, u, hi, hit, rfl, hou⟩ | ⟨hnone, rfl⟩
  · obtain ⟨ob, HX⟩ : ∃ o, Hid (os.getD i po0 = o) := ⟨_, (rfl : _ = _)⟩
    have HFI : Hid (os.find? (fun o => decide (o.id = qid)) = some ob) := by unfold Hid; rw [← HX.out]; exact find_at os qid HSO.out i hi hit
    have hobp : ob.ps.length ≤ 100 := by rw [← HX.out]; exact HPS.out i hi
    have HOK : Hid (checkL ob.pw ob.ph ob.ps = 0) := by unfold Hid; rw [← HX.out]; exact HP.out.ok i hi
    have HFD : Hid (∃ j, j < os.length ∧ (os.getD j po0).id = qid) := ⟨i, hi, hit⟩
    rw [HX.out] at hou ⊢
    have HUO := hid_of2 (rdP_own hou)
    obtain ⟨mu, HMU⟩ : ∃ mu, Hid (ob.ps.length = mu) := ⟨_, (rfl : _ = _)⟩
    obtain ⟨au, cu, hu⟩ := own_any hou
    rw [HMU.out] at hu
    subst hu
    clear hou hi hit hb5 HX
    have hbx5 : Below w5.heap.size w5 (w5.alloc (.cells #[.int .i64 ob.id, .int .i64 ob.x, .int .i64 ob.y, .int .i64 ob.pw, .int .i64 ob.ph, .slice au mu cu, .int .i64 ob.cx, .int .i64 ob.cy, .int .i64 ob.cw, .int .i64 ob.ch, .bool ob.sh] 80)) := (Below.refl _ _).alloc (Nat.le_refl _) _
    have E5 := hid_of2 (eleven_start w5 (.int .i64 ob.id) (.int .i64 ob.x) (.int .i64 ob.y) (.int .i64 ob.pw) (.int .i64 ob.ph) (.slice au mu cu) (.int .i64 ob.cx) (.int .i64 ob.cy) (.int .i64 ob.cw) (.int .i64 ob.ch) (.bool ob.sh) 80 w5.heap.size rfl)
    have N6 := hid_of2 (N5.out.on hbx5)
    have HU6 := hid_of2 (HU5.out.on hbx5)
    have HUO6 := hid_of2 (HUO.out.on hbx5)
    have HR6 : Hid (RdO _ (.slice a n cap) os) := HR5.out.on hbx5
    have hbb6 := hbb5.trans (hbx5.mono hbb5.size)
    clear HU5 hbx5
    obtain ⟨m0, m1, m2, m3, m4, m5, m6, m7, m8, mf0, mf1, mf2, mf3, mf4, mf5, mf6, mf7, mf8, mlt⟩ := N6.out
    obtain ⟨k0, k1, k2, k3, k4, k5, k6, k7, k8, kf0, kf1, kf2, kf3, kf4, kf5, kf6, kf7, kf8, klt⟩ := N5.out
    unfold poV objV
    by_cases h4 : kd = 4
    · subst h4
      have HD : Hid (doO os ⟨4, qid, qa, qb, qc, qd, qw, qh, qp⟩ = .inl (setO os { ob with cx := qa, cy := qb, cw := qc, ch := qd })) := by
        unfold Hid doO
        rw [if_neg (by simp), HFI.out]
        rfl
      have hbx : Below w5.heap.size w5 (w5.alloc (.cells #[.int .i64 ob.id, .int .i64 ob.x, .int .i64 ob.y, .int .i64 ob.pw, .int .i64 ob.ph, .slice au mu cu, .int .i64 qa, .int .i64 qb, .int .i64 qc, .int .i64 qd, .bool ob.sh] 80)) := (Below.refl _ _).alloc (Nat.le_refl _) _
      have HRX : Hid (RdO _ (.slice a n cap) os) := HR5.out.on hbx
      have HUX := hid_of2 (HUO.out.on hbx)
      have hbbX := hbb5.trans (hbx.mono hbb5.size)
      clear HUO HR5
      go_wp2_with fail
      have hset := set_any (.slice a n cap) os { ob with cx := qa, cy := qb, cw := qc, ch := qd } (.slice au mu cu) _ hos HPS.out (hobp) HSO HRX HUX
      unfold poV objV at hset
      refine hset.mono ?_
      clear hset
      rintro e w8 ⟨v8, qs, rfl, ho8, hq8, hb8⟩
      have HO8 := hide_ob (ho8.mono hbbX.size)
      have hbb8 := hbbX.trans (hb8.mono hbbX.size)
      have HQ8 := hid_of2 hq8
      obtain ⟨a8, c8, hv8⟩ := own_any ho8.1
      subst hv8
      clear ho8 hb8 hq8
      go_wp2_with fail
      go_ret2
      exact ⟨hbb8, .inl ⟨_, qs, by rw [HD.out, HQ8.out], rfl, HO8.out⟩⟩
    by_cases h5 : kd = 5
    · subst h5
      have HD : Hid (doO os ⟨5, qid, qa, qb, qc, qd, qw, qh, qp⟩ = .inl (setO os { ob with sh := decide (qa = 1) })) := by
        unfold Hid doO
        rw [if_neg (by simp), HFI.out]
        rfl
      have hbx : Below w5.heap.size w5 (w5.alloc (.cells #[.int .i64 ob.id, .int .i64 ob.x, .int .i64 ob.y, .int .i64 ob.pw, .int .i64 ob.ph, .slice au mu cu, .int .i64 ob.cx, .int .i64 ob.cy, .int .i64 ob.cw, .int .i64 ob.ch, .bool (qa == 1)] 80)) := (Below.refl _ _).alloc (Nat.le_refl _) _
      have HRX : Hid (RdO _ (.slice a n cap) os) := HR5.out.on hbx
      have HUX := hid_of2 (HUO.out.on hbx)
      have hbbX := hbb5.trans (hbx.mono hbb5.size)
      clear HUO HR5
      go_wp2_with fail
      have hset := set_any (.slice a n cap) os { ob with sh := decide (qa = 1) } (.slice au mu cu) _ hos HPS.out (hobp) HSO HRX HUX
      unfold poV objV at hset
      refine hset.mono ?_
      clear hset
      rintro e w8 ⟨v8, qs, rfl, ho8, hq8, hb8⟩
      have HO8 := hide_ob (ho8.mono hbbX.size)
      have hbb8 := hbbX.trans (hb8.mono hbbX.size)
      have HQ8 := hid_of2 hq8
      obtain ⟨a8, c8, hv8⟩ := own_any ho8.1
      subst hv8
      clear ho8 hb8 hq8
      go_wp2_with fail
      go_ret2
      exact ⟨hbb8, .inl ⟨_, qs, by rw [HD.out, HQ8.out], rfl, HO8.out⟩⟩
    by_cases h6 : kd = 6
    · subst h6
      have HD : Hid (doO os ⟨6, qid, qa, qb, qc, qd, qw, qh, qp⟩ = .inl (setO os { ob with id := qa })) := by
        unfold Hid doO
        rw [if_neg (by simp), HFI.out]
        rfl
      have hbx : Below w5.heap.size w5 (w5.alloc (.cells #[.int .i64 qa, .int .i64 ob.x, .int .i64 ob.y, .int .i64 ob.pw, .int .i64 ob.ph, .slice au mu cu, .int .i64 ob.cx, .int .i64 ob.cy, .int .i64 ob.cw, .int .i64 ob.ch, .bool ob.sh] 80)) := (Below.refl _ _).alloc (Nat.le_refl _) _
      have HRX : Hid (RdO _ (.slice a n cap) os) := HR5.out.on hbx
      have HUX := hid_of2 (HUO.out.on hbx)
      have hbbX := hbb5.trans (hbx.mono hbb5.size)
      clear HUO HR5
      go_wp2_with fail
      have hset := set_any (.slice a n cap) os { ob with id := qa } (.slice au mu cu) _ hos HPS.out (hobp) HSO HRX HUX
      unfold poV objV at hset
      refine hset.mono ?_
      clear hset
      rintro e w8 ⟨v8, qs, rfl, ho8, hq8, hb8⟩
      have HO8 := hide_ob (ho8.mono hbbX.size)
      have hbb8 := hbbX.trans (hb8.mono hbbX.size)
      have HQ8 := hid_of2 hq8
      obtain ⟨a8, c8, hv8⟩ := own_any ho8.1
      subst hv8
      clear ho8 hb8 hq8
      go_wp2_with fail
      go_ret2
      exact ⟨hbb8, .inl ⟨_, qs, by rw [HD.out, HQ8.out], rfl, HO8.out⟩⟩
    by_cases h3 : kd = 3
    · subst h3
      have HD : Hid (doO os ⟨3, qid, qa, qb, qc, qd, qw, qh, qp⟩ = .inl (setO os { ob with x := qa, y := qb })) := by
        unfold Hid doO
        rw [if_neg (by simp), HFI.out]
        rfl
      have hbx : Below w5.heap.size w5 (w5.alloc (.cells #[.int .i64 ob.id, .int .i64 qa, .int .i64 qb, .int .i64 ob.pw, .int .i64 ob.ph, .slice au mu cu, .int .i64 ob.cx, .int .i64 ob.cy, .int .i64 ob.cw, .int .i64 ob.ch, .bool ob.sh] 80)).drew := ((Below.refl _ _).alloc (Nat.le_refl _) _).drew
      have HRX : Hid (RdO _ (.slice a n cap) os) := HR5.out.on hbx
      have HUX := hid_of2 (HUO.out.on hbx)
      have hbbX := hbb5.trans (hbx.mono hbb5.size)
      go_wp2_with fail
      refine wp_region_held_drew (S := (fun w' => w'.cell? ⟨w.heap.size, 2, none⟩ = some (.int .i64 qa) ∧ w'.cell? ⟨w.heap.size, 3, none⟩ = some (.int .i64 qb))) (by kernel_rfl) ?_ (fun hHeld => ?_)
      · exact ⟨m2, m3⟩
      refine wpAnyH_take (i := 0) (oi := ({ dst := some 33, op := Op.fieldAddr 51 (Operand.tmp 3) 2, type := 0, pos := "objects.go:71", after := #[], guard := none } : Oper)) (v := ?_) rfl (by kernel_rfl) (by kernel_rfl) (by kernel_rfl) (fun _ _ _ h => h) (Or.inl ⟨by rfl, ?_⟩) (by assumption) ?_
      rotate_left
      · (intro w hSw; (try dsimp only at hSw); go_simp; try with_reducible rfl)
      try simp only [Act.put, List.setIfInBounds_toArray, List.set_cons_zero, List.set_cons_succ]
      refine wpAnyH_take (i := 1) (oi := ({ dst := some 34, op := Op.load 3 (Operand.tmp 33), type := 3, pos := "objects.go:71", after := #[{ on := 0, ground := Ground.data }], guard := none } : Oper)) (v := ?_) rfl (by kernel_rfl) (by kernel_rfl) (by kernel_rfl) (fun _ _ _ h => h) (Or.inl ⟨by rfl, ?_⟩) (by assumption) ?_
      rotate_left
      · (intro w hSw; (try dsimp only at hSw); go_simp; try with_reducible rfl)
      try simp only [Act.put, List.setIfInBounds_toArray, List.set_cons_zero, List.set_cons_succ]
      refine wpAnyH_take (i := 2) (oi := ({ dst := some 35, op := Op.fieldAddr 51 (Operand.tmp 3) 3, type := 0, pos := "objects.go:71", after := #[{ on := 5, ground := Ground.gcOnly Departure.lateStores }], guard := none } : Oper)) (v := ?_) rfl (by kernel_rfl) (by kernel_rfl) (by kernel_rfl) (fun _ _ _ h => h) (Or.inl ⟨by rfl, ?_⟩) (by assumption) ?_
      rotate_left
      · (intro w hSw; (try dsimp only at hSw); go_simp; try with_reducible rfl)
      try simp only [Act.put, List.setIfInBounds_toArray, List.set_cons_zero, List.set_cons_succ]
      refine wpAnyH_take (i := 3) (oi := ({ dst := some 36, op := Op.load 3 (Operand.tmp 35), type := 3, pos := "objects.go:71", after := #[{ on := 2, ground := Ground.data }, { on := 5, ground := Ground.gcOnly Departure.lateStores }], guard := none } : Oper)) (v := ?_) rfl (by kernel_rfl) (by kernel_rfl) (by kernel_rfl) (fun _ _ _ h => h) (Or.inl ⟨by rfl, ?_⟩) (by assumption) ?_
      rotate_left
      · (intro w hSw; (try dsimp only at hSw); go_simp; try with_reducible rfl)
      try simp only [Act.put, List.setIfInBounds_toArray, List.set_cons_zero, List.set_cons_succ]
      refine wpAnyH_take (i := 4) (oi := ({ dst := some 37, op := Op.fieldAddr 80 (Operand.tmp 6) 1, type := 0, pos := "objects.go:71", after := #[{ on := 0, ground := Ground.phase }, { on := 1, ground := Ground.phase }, { on := 2, ground := Ground.textOnly Departure.lateStores }, { on := 3, ground := Ground.textOnly Departure.lateStores }], guard := none } : Oper)) (v := ?_) rfl (by kernel_rfl) (by kernel_rfl) (by kernel_rfl) (fun _ _ _ h => h) (Or.inl ⟨by rfl, ?_⟩) (by assumption) ?_
      rotate_left
      · (intro w hSw; (try dsimp only at hSw); go_simp; try with_reducible rfl)
      try simp only [Act.put, List.setIfInBounds_toArray, List.set_cons_zero, List.set_cons_succ]
      refine wpAnyH_ready (rs := [5]) (by kernel_rfl) (by simp) ?_
      refine AllReadyH.cons (o := ({ dst := none, op := Op.store 3 (Operand.tmp 37) (Operand.tmp 34), type := 0, pos := "objects.go:71", after := #[{ on := 4, ground := Ground.data }, { on := 1, ground := Ground.data }, { on := 0, ground := Ground.phase }, { on := 1, ground := Ground.phase }, { on := 2, ground := Ground.textOnly Departure.lateStores }, { on := 3, ground := Ground.textOnly Departure.lateStores }], guard := none } : Oper)) rfl (fun K_ hK => ?_) AllReadyH.nil
      go_simp
      refine hK.out _ _ ?_ (fun hHeld => ?_)
      · exact ⟨(cell_old w5 _ w.heap.size 2 klt).trans k2, (cell_old w5 _ w.heap.size 3 klt).trans k3⟩
      clear hK K_
      try simp only [Act.put, List.setIfInBounds_toArray, List.set_cons_zero, List.set_cons_succ]
      refine wpAnyH_take (i := 6) (oi := ({ dst := some 38, op := Op.fieldAddr 80 (Operand.tmp 6) 2, type := 0, pos := "objects.go:71", after := #[{ on := 0, ground := Ground.phase }, { on := 1, ground := Ground.phase }, { on := 2, ground := Ground.phase }, { on := 3, ground := Ground.phase }, { on := 4, ground := Ground.phase }, { on := 5, ground := Ground.phase }], guard := none } : Oper)) (v := ?_) rfl (by kernel_rfl) (by kernel_rfl) (by kernel_rfl) (fun _ _ _ h => h) (Or.inl ⟨by rfl, ?_⟩) (by assumption) ?_
      rotate_left
      · (intro w hSw; (try dsimp only at hSw); go_simp; try with_reducible rfl)
      try simp only [Act.put, List.setIfInBounds_toArray, List.set_cons_zero, List.set_cons_succ]
      refine wpAnyH_ready (rs := [7]) (by kernel_rfl) (by simp) ?_
      refine AllReadyH.cons (o := ({ dst := none, op := Op.store 3 (Operand.tmp 38) (Operand.tmp 36), type := 0, pos := "objects.go:71", after := #[{ on := 6, ground := Ground.data }, { on := 3, ground := Ground.data }, { on := 5, ground := Ground.chain }, { on := 0, ground := Ground.phase }, { on := 1, ground := Ground.phase }, { on := 2, ground := Ground.phase }, { on := 3, ground := Ground.phase }, { on := 4, ground := Ground.phase }, { on := 5, ground := Ground.phase }], guard := none } : Oper)) rfl (fun K_ hK => ?_) AllReadyH.nil
      go_simp
      refine hK.out _ _ ?_ (fun hHeld => ?_)
      · exact ⟨(cell_old w5 _ w.heap.size 2 klt).trans k2, (cell_old w5 _ w.heap.size 3 klt).trans k3⟩
      clear hK K_
      try simp only [Act.put, List.setIfInBounds_toArray, List.set_cons_zero, List.set_cons_succ]
      refine wpAnyH_done (by kernel_rfl) ?_ _
      go_wp2_with fail
      have hset := set_any (.slice a n cap) os { ob with x := qa, y := qb } (.slice au mu cu) _ hos HPS.out (hobp) HSO HRX HUX
      unfold poV objV at hset
      refine hset.mono ?_
      clear hset
      rintro e w8 ⟨v8, qs, rfl, ho8, hq8, hb8⟩
      have HO8 := hide_ob (ho8.mono hbbX.size)
      have hbb8 := hbbX.trans (hb8.mono hbbX.size)
      have HQ8 := hid_of2 hq8
      obtain ⟨a8, c8, hv8⟩ := own_any ho8.1
      subst hv8
      clear ho8 hb8 hq8
      go_wp2_with fail
      go_ret2
      exact ⟨hbb8, .inl ⟨_, qs, by rw [HD.out, HQ8.out], rfl, HO8.out⟩⟩
    by_cases h8 : kd = 8
    · subst h8
      obtain ⟨zc, z1, z2, z3, z4⟩ := HP.out.pic (by simp)
      simp only at zc z1 z2 z3 z4
      have hok := HOK.out
      obtain ⟨QW, QH, e1, e2, i1, i2, i3, i4, i5, _⟩ := check_zero _ _ _ HOK.out
      obtain ⟨ZW, ZH, e3, e4, _⟩ := check_zero _ _ _ zc
      subst e3 e4
      rw [e1, e2] at hok
      have HCP := hid_of2 hok
      have HCQ := hid_of2 zc
      have hlen : (chL addP QW ob.ps ZW ZH qp qa qb 0 0 QW QH).length = ob.ps.length := by simp [chL, grid_len]
      have HD : Hid (doO os ⟨8, qid, qa, qb, qc, qd, (ZW : Int), (ZH : Int), qp⟩ = .inl (setO os { ob with ps := chL addP QW ob.ps ZW ZH qp qa qb 0 0 QW QH })) := by
        unfold Hid doO
        rw [if_neg (by simp), HFI.out]
        simp only [actO]
        rw [if_neg (by simp), if_neg (by simp), if_neg (by simp), if_neg (by simp), if_neg (by simp), if_pos trivial, e1, e2]
        simp
      simp only [e1, e2] at E5 HUO6 HU6 HR6 hbb6 m0 m1 m2 m3 m4 m5 m6 m7 m8 mf0 mf1 mf2 mf3 mf4 mf5 mf6 mf7 mf8 mlt
      clear hok zc
      go_wp2_with fail
      refine (add_any QW QH ZW ZH _ _ ob.ps qp qa qb _ HCP HCQ HUO6 HU6 z1 z2 z3 z4).mono ?_
      unfold picV
      rintro e w7 ⟨u7, rfl, ho7, hb7⟩
      have HO7 := hide_own (own_mono ho7 (show w5.heap.size + 1 ≤ _ by simp))
      obtain ⟨a7, c7, hu7⟩ := own_any ho7
      rw [hlen, HMU.out] at hu7
      subst hu7
      have E7 := E5.out.on hb7
      have hbb7 := hbb6.trans (hb7.mono hbb6.size)
      obtain ⟨s0, s1, s2, s3, s4, s5, s6, s7, s8, s9, s10, sf0, sf1, sf2, sf3, sf4, sf5, sf6, sf7, sf8, sf9, sf10, slt⟩ := E7
      have HUX := hid_of2 (rdP_own (ownsRow_setCell_below (ownsRow_setCell_below (ownsRow_setCell_below HO7.out (a := ⟨w5.heap.size, 3, none⟩) (show w5.heap.size < w5.heap.size + 1 by omega) (.int .i64 (QW : Int))) (a := ⟨w5.heap.size, 4, none⟩) (show w5.heap.size < w5.heap.size + 1 by omega) (.int .i64 (QH : Int))) (a := ⟨w5.heap.size, 5, none⟩) (show w5.heap.size < w5.heap.size + 1 by omega) (.slice a7 mu c7)))
      have hbbX : Below w.heap.size w (((w7.setCell ⟨w5.heap.size, 3, none⟩ (.int .i64 (QW : Int))).setCell ⟨w5.heap.size, 4, none⟩ (.int .i64 (QH : Int))).setCell ⟨w5.heap.size, 5, none⟩ (.slice a7 mu c7)) := ((hbb7.setCell (show w.heap.size ≤ w5.heap.size by omega) _).setCell (show w.heap.size ≤ w5.heap.size by omega) _).setCell (show w.heap.size ≤ w5.heap.size by omega) _
      have HRX : Hid (RdO _ (.slice a n cap) os) := HR.out.on hbbX
      have hnl : (chL addP QW ob.ps ZW ZH qp qa qb 0 0 QW QH).length ≤ 100 := by rw [hlen]; exact hobp
      clear ho7 hb7 HO7 hbb7 HUO6 HU6 HR6 m0 m1 m2 m3 m4 m5 m6 m7 m8 mf0 mf1 mf2 mf3 mf4 mf5 mf6 mf7 mf8 mlt
      go_wp2_with fail
      have hset := set_any (.slice a n cap) os { ob with ps := chL addP QW ob.ps ZW ZH qp qa qb 0 0 QW QH } (.slice a7 mu c7) _ hos HPS.out (hnl) HSO HRX HUX
      unfold poV objV at hset
      simp only [e1, e2] at hset
      refine hset.mono ?_
      clear hset
      rintro e w8 ⟨v8, qs, rfl, ho8, hq8, hb8⟩
      have HO8 := hide_ob (ho8.mono hbbX.size)
      have hbb8 := hbbX.trans (hb8.mono hbbX.size)
      have HQ8 := hid_of2 hq8
      obtain ⟨a8, c8, hv8⟩ := own_any ho8.1
      subst hv8
      clear ho8 hb8 hq8
      go_wp2_with fail
      go_ret2
      exact ⟨hbb8, .inl ⟨_, qs, by rw [HD.out, HQ8.out]; simp only [e1, e2], rfl, HO8.out⟩⟩
    by_cases h9 : kd = 9
    · subst h9
      obtain ⟨zc, z1, z2, z3, z4⟩ := HP.out.pic (by simp)
      simp only at zc z1 z2 z3 z4
      have hok := HOK.out
      obtain ⟨QW, QH, e1, e2, i1, i2, i3, i4, i5, _⟩ := check_zero _ _ _ HOK.out
      obtain ⟨ZW, ZH, e3, e4, _⟩ := check_zero _ _ _ zc
      subst e3 e4
      rw [e1, e2] at hok
      have HCP := hid_of2 hok
      have HCQ := hid_of2 zc
      have hlen : (chL (fun _ z => z) QW ob.ps ZW ZH qp qa qb 0 0 QW QH).length = ob.ps.length := by simp [chL, grid_len]
      have HD : Hid (doO os ⟨9, qid, qa, qb, qc, qd, (ZW : Int), (ZH : Int), qp⟩ = .inl (setO os { ob with ps := chL (fun _ z => z) QW ob.ps ZW ZH qp qa qb 0 0 QW QH })) := by
        unfold Hid doO
        rw [if_neg (by simp), HFI.out]
        simp only [actO]
        rw [if_neg (by simp), if_neg (by simp), if_neg (by simp), if_neg (by simp), if_neg (by simp), if_neg (by simp), if_pos trivial, e1, e2]
        simp
      simp only [e1, e2] at E5 HUO6 HU6 HR6 hbb6 m0 m1 m2 m3 m4 m5 m6 m7 m8 mf0 mf1 mf2 mf3 mf4 mf5 mf6 mf7 mf8 mlt
      clear hok zc
      go_wp2_with fail
      refine (put_any QW QH ZW ZH _ _ ob.ps qp qa qb _ HCP HCQ HUO6 HU6 z1 z2 z3 z4).mono ?_
      unfold picV
      rintro e w7 ⟨u7, rfl, ho7, hb7⟩
      have HO7 := hide_own (own_mono ho7 (show w5.heap.size + 1 ≤ _ by simp))
      obtain ⟨a7, c7, hu7⟩ := own_any ho7
      rw [hlen, HMU.out] at hu7
      subst hu7
      have E7 := E5.out.on hb7
      have hbb7 := hbb6.trans (hb7.mono hbb6.size)
      obtain ⟨s0, s1, s2, s3, s4, s5, s6, s7, s8, s9, s10, sf0, sf1, sf2, sf3, sf4, sf5, sf6, sf7, sf8, sf9, sf10, slt⟩ := E7
      have HUX := hid_of2 (rdP_own (ownsRow_setCell_below (ownsRow_setCell_below (ownsRow_setCell_below HO7.out (a := ⟨w5.heap.size, 3, none⟩) (show w5.heap.size < w5.heap.size + 1 by omega) (.int .i64 (QW : Int))) (a := ⟨w5.heap.size, 4, none⟩) (show w5.heap.size < w5.heap.size + 1 by omega) (.int .i64 (QH : Int))) (a := ⟨w5.heap.size, 5, none⟩) (show w5.heap.size < w5.heap.size + 1 by omega) (.slice a7 mu c7)))
      have hbbX : Below w.heap.size w (((w7.setCell ⟨w5.heap.size, 3, none⟩ (.int .i64 (QW : Int))).setCell ⟨w5.heap.size, 4, none⟩ (.int .i64 (QH : Int))).setCell ⟨w5.heap.size, 5, none⟩ (.slice a7 mu c7)) := ((hbb7.setCell (show w.heap.size ≤ w5.heap.size by omega) _).setCell (show w.heap.size ≤ w5.heap.size by omega) _).setCell (show w.heap.size ≤ w5.heap.size by omega) _
      have HRX : Hid (RdO _ (.slice a n cap) os) := HR.out.on hbbX
      have hnl : (chL (fun _ z => z) QW ob.ps ZW ZH qp qa qb 0 0 QW QH).length ≤ 100 := by rw [hlen]; exact hobp
      clear ho7 hb7 HO7 hbb7 HUO6 HU6 HR6 m0 m1 m2 m3 m4 m5 m6 m7 m8 mf0 mf1 mf2 mf3 mf4 mf5 mf6 mf7 mf8 mlt
      go_wp2_with fail
      have hset := set_any (.slice a n cap) os { ob with ps := chL (fun _ z => z) QW ob.ps ZW ZH qp qa qb 0 0 QW QH } (.slice a7 mu c7) _ hos HPS.out (hnl) HSO HRX HUX
      unfold poV objV at hset
      simp only [e1, e2] at hset
      refine hset.mono ?_
      clear hset
      rintro e w8 ⟨v8, qs, rfl, ho8, hq8, hb8⟩
      have HO8 := hide_ob (ho8.mono hbbX.size)
      have hbb8 := hbbX.trans (hb8.mono hbbX.size)
      have HQ8 := hid_of2 hq8
      obtain ⟨a8, c8, hv8⟩ := own_any ho8.1
      subst hv8
      clear ho8 hb8 hq8
      go_wp2_with fail
      go_ret2
      exact ⟨hbb8, .inl ⟨_, qs, by rw [HD.out, HQ8.out]; simp only [e1, e2], rfl, HO8.out⟩⟩
    by_cases h7 : kd = 7
    · subst h7
      have HD : Hid (doO os ⟨7, qid, qa, qb, qc, qd, qw, qh, qp⟩ = .inl (dropO os qid)) := by
        unfold Hid doO
        rw [if_neg (by simp), HFI.out]
        rfl
      go_wp2_with fail
      refine (drop_any _ os qid _ hos HPS.out HSO HR6 HFD).mono ?_
      rintro e w8 ⟨v8, qs, rfl, ho8, hq8, hb8⟩
      have HO8 := hide_ob (ho8.mono hbb6.size)
      have hbb8 := hbb6.trans (hb8.mono hbb6.size)
      have HQ8 := hid_of2 hq8
      obtain ⟨a8, c8, hv8⟩ := own_any ho8.1
      subst hv8
      clear ho8 hb8 hq8
      go_wp2_with fail
      go_ret2
      exact ⟨hbb8, .inl ⟨_, qs, by rw [HD.out, HQ8.out], rfl, HO8.out⟩⟩
    have HD : Hid (doO os ⟨kd, qid, qa, qb, qc, qd, qw, qh, qp⟩ = .inr 3) := by
      unfold Hid doO
      rw [if_neg (by simpa using h2), HFI.out]
      simp only [actO]
      rw [if_neg h7, if_neg h3, if_neg h4, if_neg h5, if_neg h6, if_neg h8, if_neg h9]
    have x3 : (kd == 3) = false := by simpa using h3
    have x4 : (kd == 4) = false := by simpa using h4
    have x5 : (kd == 5) = false := by simpa using h5
    have x6 : (kd == 6) = false := by simpa using h6
    have x8 : (kd == 8) = false := by simpa using h8
    have x9 : (kd == 9) = false := by simpa using h9
    have x7 : (kd == 7) = false := by simpa using h7
    go_wp2_with fail
    go_ret2
    exact ⟨hbb6, .inr ⟨3, HD.out, .inr rfl, rfl⟩⟩
  · have HD : Hid (doO os ⟨kd, qid, qa, qb, qc, qd, qw, qh, qp⟩ = .inr 5) := by
      unfold Hid doO
      rw [if_neg (by simpa using h2), find_no os qid hnone]
    have hbx5 : Below w.heap.size w (w5.alloc (.cells #[.int .i64 0, .int .i64 0, .int .i64 0, .int .i64 0, .int .i64 0, .slice none 0 0, .int .i64 0, .int .i64 0, .int .i64 0, .int .i64 0, .bool false] 80)) := hbb5.alloc hbb5.size _
    unfold poV objV
    clear hnone
    go_wp2_with fail
    go_ret2
    exact ⟨hbx5, .inr ⟨5, HD.out, .inl rfl, rfl⟩⟩
end Go.Proofs.YtjmkfcgnadpbaaaDoor
/- Pictures as lists: what is added and put. -/
namespace Go.Proofs.YtjmkfcgnadpbaaaDoor
open Go.RowKit

theorem ch_len (f : Int × Int → Int × Int → Int × Int) (PW : Nat) (ps : List (Int × Int)) (QW QH : Nat) (qs : List (Int × Int)) (x y a b c d : Int) : (chL f PW ps QW QH qs x y a b c d).length = ps.length := grid_len _ _ _ _ _
theorem ch_getD (f : Int × Int → Int × Int → Int × Int) (PW : Nat) (ps : List (Int × Int)) (QW QH : Nat) (qs : List (Int × Int)) (x y a b c d : Int) (k : Nat) (hk : k < ps.length) :
    (chL f PW ps QW QH qs x y a b c d).getD k (0, 0) = if (hasB a b c d ((k % PW : Nat) : Int) ((k / PW : Nat) : Int) && hasB x y (QW : Int) (QH : Int) ((k % PW : Nat) : Int) ((k / PW : Nat) : Int)) = true then gq f PW ps QW qs x y k else ps.getD k (0, 0) := grid_getD _ _ _ _ _ _ hk
theorem getD_ok (ps : List (Int × Int)) (h : ∀ k, k < ps.length → pixOk (ps.getD k (0, 0))) (k : Nat) : pixOk (ps.getD k (0, 0)) := by
  by_cases hk : k < ps.length
  · exact h k hk
  · rw [List.getD_eq_getElem?_getD, List.getElem?_eq_none (by omega)]
    unfold pixOk; simp
theorem check_of (PW PH : Nat) (ps : List (Int × Int)) (h1 : 1 ≤ PW) (h2 : PW ≤ 8) (h3 : 1 ≤ PH) (h4 : PH ≤ 8) (hl : ps.length = PW * PH) (hok : ∀ k, k < ps.length → pixOk (ps.getD k (0, 0))) : checkL (PW : Int) (PH : Int) ps = 0 := by
  unfold checkL
  have hw : sideB (PW : Int) = true := by unfold sideB; simp; omega
  have hh : sideB (PH : Int) = true := by unfold sideB; simp; omega
  rw [if_neg (by simp [hw, hh]), if_neg (by rw [hl]; simp)]
  rw [if_pos]
  rw [List.all_eq_true]
  intro p hp
  obtain ⟨k, hk, he⟩ := List.getElem_of_mem hp
  have := hok k hk
  rw [List.getD_eq_getElem?_getD, List.getElem?_eq_getElem hk, Option.getD_some, he] at this
  unfold okPix shadeB
  unfold pixOk at this
  simp only [Bool.and_eq_true, decide_eq_true_eq]
  omega
theorem ch_check (f : Int × Int → Int × Int → Int × Int) (hf : ∀ p q, pixOk p → pixOk q → pixOk (f p q)) (PW PH : Nat) (ps : List (Int × Int)) (QW QH : Nat) (qs : List (Int × Int)) (x y a b c d : Int) (hp : checkL (PW : Int) (PH : Int) ps = 0) (hq : checkL (QW : Int) (QH : Int) qs = 0) :
    checkL (PW : Int) (PH : Int) (chL f PW ps QW QH qs x y a b c d) = 0 := by
  obtain ⟨PW', PH', e1, e2, h1, h2, h3, h4, hl, hok⟩ := check_zero _ _ _ hp
  obtain rfl : PW' = PW := by omega
  obtain rfl : PH' = PH := by omega
  obtain ⟨_, _, _, _, _, _, _, _, _, qok⟩ := check_zero _ _ _ hq
  refine check_of _ _ _ h1 h2 h3 h4 (by rw [ch_len]; exact hl) (fun k hk => ?_)
  rw [ch_len] at hk
  rw [ch_getD _ _ _ _ _ _ _ _ _ _ _ _ _ hk]
  split
  · exact hf _ _ (hok k hk) (getD_ok qs qok _)
  · exact hok k hk
theorem add_ok (p q : Int × Int) (_ : pixOk p) (_ : pixOk q) : pixOk (addP p q) := by unfold addP pixOk; simp only; omega
theorem put_ok (p q : Int × Int) (_ : pixOk p) (h : pixOk q) : pixOk ((fun (_ q : Int × Int) => q) p q) := h

theorem list_ext (a b : List (Int × Int)) (hl : a.length = b.length) (h : ∀ k, k < a.length → a.getD k (0, 0) = b.getD k (0, 0)) : a = b := by
  apply List.ext_getElem?
  intro k
  by_cases hk : k < a.length
  · have := h k hk
    rw [List.getD_eq_getElem?_getD, List.getD_eq_getElem?_getD, List.getElem?_eq_getElem hk, List.getElem?_eq_getElem (show k < b.length by omega)] at this
    rw [List.getElem?_eq_getElem hk, List.getElem?_eq_getElem (show k < b.length by omega)]
    exact congrArg some this
  · rw [List.getElem?_eq_none (by omega), List.getElem?_eq_none (by omega)]

theorem add_swap (p q r : Int × Int) : addP (addP p q) r = addP (addP p r) q := by
  unfold addP; simp only [Prod.mk.injEq]; omega
theorem chadd_swap (PW : Nat) (ps : List (Int × Int)) (QW QH : Nat) (qs : List (Int × Int)) (x y : Int) (RW RH : Nat) (rs : List (Int × Int)) (i j a b c d : Int) :
    chL addP PW (chL addP PW ps QW QH qs x y a b c d) RW RH rs i j a b c d = chL addP PW (chL addP PW ps RW RH rs i j a b c d) QW QH qs x y a b c d := by
  apply list_ext
  · simp only [ch_len]
  · intro k hk
    simp only [ch_len] at hk
    have A := ch_getD addP PW (chL addP PW ps QW QH qs x y a b c d) RW RH rs i j a b c d k (by rw [ch_len]; exact hk)
    have B := ch_getD addP PW (chL addP PW ps RW RH rs i j a b c d) QW QH qs x y a b c d k (by rw [ch_len]; exact hk)
    have C := ch_getD addP PW ps QW QH qs x y a b c d k hk
    have D := ch_getD addP PW ps RW RH rs i j a b c d k hk
    unfold gq at A B C D
    rw [A, B, C, D]
    generalize (hasB a b c d ((k % PW : Nat) : Int) ((k / PW : Nat) : Int) && hasB i j (RW : Int) (RH : Int) ((k % PW : Nat) : Int) ((k / PW : Nat) : Int)) = c1
    generalize (hasB a b c d ((k % PW : Nat) : Int) ((k / PW : Nat) : Int) && hasB x y (QW : Int) (QH : Int) ((k % PW : Nat) : Int) ((k / PW : Nat) : Int)) = c2
    cases c1 <;> cases c2 <;> simp [add_swap]

/-- so often added -/
def tmsL (n : Nat) (PW : Nat) (ps : List (Int × Int)) (QW QH : Nat) (qs : List (Int × Int)) (x y a b c d : Int) : List (Int × Int) :=
  chL (fun p q => ((p.1 + (n : Int) * q.1) % 256, (p.2 + (n : Int) * q.2) % 256)) PW ps QW QH qs x y a b c d
theorem tms_add (n : Nat) (p q : Int × Int) : addP ((p.1 + (n : Int) * q.1) % 256, (p.2 + (n : Int) * q.2) % 256) q = ((p.1 + ((n + 1 : Nat) : Int) * q.1) % 256, (p.2 + ((n + 1 : Nat) : Int) * q.2) % 256) := by
  have e : ∀ z : Int, ((n + 1 : Nat) : Int) * z = (n : Int) * z + z := by intro z; rw [Int.natCast_add, Int.add_mul]; simp
  rw [e, e]
  unfold addP
  simp only [Prod.mk.injEq]
  generalize (n : Int) * q.1 = t1
  generalize (n : Int) * q.2 = t2
  omega
theorem tms_step (n : Nat) (PW : Nat) (ps : List (Int × Int)) (QW QH : Nat) (qs : List (Int × Int)) (x y a b c d : Int) :
    chL addP PW (tmsL n PW ps QW QH qs x y a b c d) QW QH qs x y a b c d = tmsL (n + 1) PW ps QW QH qs x y a b c d := by
  apply list_ext
  · simp only [tmsL, ch_len]
  · intro k hk
    simp only [tmsL, ch_len] at hk
    have A := ch_getD addP PW (tmsL n PW ps QW QH qs x y a b c d) QW QH qs x y a b c d k (by unfold tmsL; rw [ch_len]; exact hk)
    have B := ch_getD (fun p q => ((p.1 + (n : Int) * q.1) % 256, (p.2 + (n : Int) * q.2) % 256)) PW ps QW QH qs x y a b c d k hk
    have C := ch_getD (fun p q => ((p.1 + ((n + 1 : Nat) : Int) * q.1) % 256, (p.2 + ((n + 1 : Nat) : Int) * q.2) % 256)) PW ps QW QH qs x y a b c d k hk
    unfold gq at A B C
    rw [A]
    unfold tmsL
    rw [B, C]
    generalize (hasB a b c d ((k % PW : Nat) : Int) ((k / PW : Nat) : Int) && hasB x y (QW : Int) (QH : Int) ((k % PW : Nat) : Int) ((k / PW : Nat) : Int)) = c2
    cases c2
    · simp
    · simp only [if_true]
      exact tms_add n _ _
theorem tms_end (n : Nat) (hn : n = 0 ∨ n = 256) (PW : Nat) (ps : List (Int × Int)) (QW QH : Nat) (qs : List (Int × Int)) (x y a b c d : Int) (hok : ∀ k, k < ps.length → pixOk (ps.getD k (0, 0))) : tmsL n PW ps QW QH qs x y a b c d = ps := by
  apply list_ext
  · simp only [tmsL, ch_len]
  · intro k hk
    simp only [tmsL, ch_len] at hk ⊢
    rw [ch_getD _ _ _ _ _ _ _ _ _ _ _ _ _ hk]
    split
    · have h := hok k hk
      unfold gq
      generalize qs.getD _ (0, 0) = q
      generalize ps.getD k (0, 0) = p at h ⊢
      obtain ⟨p1, p2⟩ := p
      obtain ⟨q1, q2⟩ := q
      unfold pixOk at h
      simp only [Prod.mk.injEq] at h ⊢
      rcases hn with rfl | rfl
      · simp; omega
      · have e : ∀ z : Int, ((256 : Nat) : Int) * z = 256 * z := fun z => rfl
        rw [e, e]
        omega
    · rfl
theorem tms_check (n : Nat) (PW PH : Nat) (ps : List (Int × Int)) (QW QH : Nat) (qs : List (Int × Int)) (x y a b c d : Int) (hp : checkL (PW : Int) (PH : Int) ps = 0) (hq : checkL (QW : Int) (QH : Int) qs = 0) :
    checkL (PW : Int) (PH : Int) (tmsL n PW ps QW QH qs x y a b c d) = 0 :=
  ch_check _ (fun p q _ _ => by
    unfold pixOk; simp only
    generalize (n : Int) * q.1 = t1
    generalize (n : Int) * q.2 = t2
    omega) _ _ _ _ _ _ _ _ _ _ _ _ hp hq
/-- put twice is put once -/
theorem chput_twice (PW : Nat) (ps : List (Int × Int)) (QW QH : Nat) (qs : List (Int × Int)) (x y a b c d : Int) :
    chL (fun _ q => q) PW (chL (fun _ q => q) PW ps QW QH qs x y a b c d) QW QH qs x y a b c d = chL (fun _ q => q) PW ps QW QH qs x y a b c d := by
  apply list_ext
  · simp only [ch_len]
  · intro k hk
    simp only [ch_len] at hk
    have A := ch_getD (fun _ q => q) PW (chL (fun _ q => q) PW ps QW QH qs x y a b c d) QW QH qs x y a b c d k (by rw [ch_len]; exact hk)
    have C := ch_getD (fun _ q => q) PW ps QW QH qs x y a b c d k hk
    unfold gq at A C
    rw [A, C]
    generalize (hasB a b c d ((k % PW : Nat) : Int) ((k / PW : Nat) : Int) && hasB x y (QW : Int) (QH : Int) ((k % PW : Nat) : Int) ((k / PW : Nat) : Int)) = c2
    cases c2 <;> simp
end Go.Proofs.YtjmkfcgnadpbaaaDoor
/- Walk of blend.change, with the closure of Lay. -/
namespace Go.Proofs.YtjmkfcgnadpbaaaDoor
open Go.RowKit

set_option maxHeartbeats 4000000 in
set_option maxRecDepth 100000 in
theorem changeL_any (PW PH QW QH : Nat) (vp vq : Value) (ps qs : List (Int × Int)) (x y a b c d : Int) (w : World) (HP : Hid (checkL PW PH ps = 0)) (HQ : Hid (checkL QW QH qs = 0)) (RP : Hid (RdP w vp ps)) (RQ : Hid (RdP w vq qs))
    (hx : -20 ≤ x) (hx2 : x ≤ 20) (hy : -20 ≤ y) (hy2 : y ≤ 20) (ha : -20 ≤ a) (ha2 : a ≤ 20) (hb : -20 ≤ b) (hb2 : b ≤ 20) (hc : 0 ≤ c) (hc2 : c ≤ 20) (hd : 0 ≤ d) (hd2 : d ≤ 20) :
    Calls Tryd.prog 79 #[picV PW PH vp, picV QW QH vq, .int .i64 x, .int .i64 y, rectV a b c d, .func (.func 80) #[] #[]] w
      fun e w' => ∃ v', e = .returned (picV PW PH v') ∧ w'.ownsRow (w.heap.size + 4) 42 2 v' (chL (fun p q => Fb.overL q.1 q.2 p.1 p.2) PW ps QW QH qs x y a b c d).length (pixCells (chL (fun p q => Fb.overL q.1 q.2 p.1 p.2) PW ps QW QH qs x y a b c d)) ∧ Below w.heap.size w w' := by
  obtain ⟨PW', PH', e1, e2, p1, p2, p3, p4, pl, pok⟩ := check_zero _ _ _ HP.out
  obtain ⟨QW', QH', e3, e4, q1, q2, q3, q4, ql, qok⟩ := check_zero _ _ _ HQ.out
  obtain rfl : PW' = PW := by omega
  obtain rfl : PH' = PH := by omega
  obtain rfl : QW' = QW := by omega
  obtain rfl : QH' = QH := by omega
  clear e1 e2 e3 e4
  have POK : Hid (∀ k, k < ps.length → pixOk (ps.getD k (0, 0))) := pok
  have QOK : Hid (∀ k, k < qs.length → pixOk (qs.getD k (0, 0))) := qok
  clear pok qok
  have hm1 : PW' * PH' ≤ 8 * 8 := Nat.mul_le_mul p2 p4
  have hm2 : 1 * 1 ≤ PW' * PH' := Nat.mul_le_mul p1 p3
  have hm3 : QW' * QH' ≤ 8 * 8 := Nat.mul_le_mul q2 q4
  have hqne : qs ≠ [] := by
    intro e; rw [e] at ql
    have : 1 * 1 ≤ QW' * QH' := Nat.mul_le_mul q1 q3
    simp at ql; omega
  have hne : ps ≠ [] := by intro e; rw [e] at pl; simp at pl; omega
  obtain ⟨ap, cp, hvp, hlp, hcp, _⟩ := RP.out
  obtain ⟨aq, cq, hvq, hlq, hcq, _⟩ := RQ.out
  obtain ⟨np, HNP⟩ : ∃ n, Hid (ps.length = n) := ⟨_, (rfl : _ = _)⟩
  obtain ⟨nq, HNQ⟩ : ∃ n, Hid (qs.length = n) := ⟨_, (rfl : _ = _)⟩
  rw [HNP.out] at hvp hlp pl
  rw [HNQ.out] at hvq hlq ql
  subst hvp hvq
  have hnp : np ≤ 64 := by omega
  have hnp1 : 1 ≤ np := by omega
  have hnq : nq ≤ 64 := by omega
  have HPL : Hid (np = PW' * PH') := pl
  have HQL : Hid (nq = QW' * QH') := ql
  clear pl ql hm1 hm2 hm3
  unfold picV rectV
  have T0 := (((three_start w (.int .i64 (PW' : Int)) (.int .i64 (PH' : Int)) (.slice ap np cp) 49).alloc (.cells #[.int .i64 (QW' : Int), .int .i64 (QH' : Int), .slice aq nq cq] 49)).alloc (.cells #[.int .i64 a, .int .i64 b, .int .i64 c, .int .i64 d] 78)).alloc (.cells #[.int .i64 0, .int .i64 0, .slice none 0 0] 49)
  have T1 := ((three_begin (w.alloc (.cells #[.int .i64 (PW' : Int), .int .i64 (PH' : Int), .slice ap np cp] 49)) (.int .i64 (QW' : Int)) (.int .i64 (QH' : Int)) (.slice aq nq cq) 49 (w.heap.size + 1) (by simp)).alloc (.cells #[.int .i64 a, .int .i64 b, .int .i64 c, .int .i64 d] 78)).alloc (.cells #[.int .i64 0, .int .i64 0, .slice none 0 0] 49)
  have T2 := (four_start ((w.alloc (.cells #[.int .i64 (PW' : Int), .int .i64 (PH' : Int), .slice ap np cp] 49)).alloc (.cells #[.int .i64 (QW' : Int), .int .i64 (QH' : Int), .slice aq nq cq] 49)) (.int .i64 a) (.int .i64 b) (.int .i64 c) (.int .i64 d) 78 (w.heap.size + 1 + 1) (by simp)).alloc (.cells #[.int .i64 0, .int .i64 0, .slice none 0 0] 49)
  have T3 := three_begin (((w.alloc (.cells #[.int .i64 (PW' : Int), .int .i64 (PH' : Int), .slice ap np cp] 49)).alloc (.cells #[.int .i64 (QW' : Int), .int .i64 (QH' : Int), .slice aq nq cq] 49)).alloc (.cells #[.int .i64 a, .int .i64 b, .int .i64 c, .int .i64 d] 78)) (.int .i64 0) (.int .i64 0) (.slice none 0 0) 49 (w.heap.size + 1 + 1 + 1) (by simp)
  obtain ⟨W0, HW0⟩ : ∃ W0, Hid ((((w.alloc (.cells #[.int .i64 (PW' : Int), .int .i64 (PH' : Int), .slice ap np cp] 49)).alloc (.cells #[.int .i64 (QW' : Int), .int .i64 (QH' : Int), .slice aq nq cq] 49)).alloc (.cells #[.int .i64 a, .int .i64 b, .int .i64 c, .int .i64 d] 78)).alloc (.cells #[.int .i64 0, .int .i64 0, .slice none 0 0] 49) = W0) := ⟨_, (rfl : _ = _)⟩
  have hb0 : Below w.heap.size w W0 := by rw [← HW0.out]; exact ((((Below.refl _ _).alloc (Nat.le_refl _) _).alloc (by simp) _).alloc (by simp; omega) _).alloc (by simp; omega) _
  have hs0 : W0.heap.size = w.heap.size + 4 := by rw [← HW0.out]; simp
  rw [HW0.out] at T0 T1 T2 T3
  have RP0 : Hid (RdP W0 (.slice ap np cp) ps) := RP.out.on hb0
  have RQ0 : Hid (RdP W0 (.slice aq nq cq) qs) := RQ.out.on hb0
  go_enter Tryd.func79, Tryd.ntmps79
  go_wp2_with fail
  rw [HW0.out]
  refine (bown_any (PW' : Int) (PH' : Int) _ ps W0 (by rw [HNP.out]; omega) hne RP0).mono ?_
  unfold picV
  rintro e w1 ⟨v1, rfl, ho1, hb1⟩
  rw [hs0] at ho1
  replace ho1 := own_mono ho1 (show w.heap.size + 4 ≤ w.heap.size + 4 + 2 by omega)
  have HO1 := hide_own ho1
  clear ho1
  rw [HNP.out] at HO1
  obtain ⟨g, co, hv1, hgB, hlo, hco⟩ := own_shape HO1.out (by omega)
  subst hv1
  have hgb : g < w1.heap.size := (HO1.out.lt g rfl).2
  have hbw1 := hb0.trans (hb1.mono hb0.size)
  have hlt1 : w.heap.size + 4 ≤ w1.heap.size := by have := hb1.size; omega
  have U0 := T0.on hb1
  have U1 := T1.on hb1
  have U2 := T2.on hb1
  have U3 := T3.on hb1
  have RP1 : Hid (RdP w1 (.slice ap np cp) ps) := RP0.out.on hb1
  have RQ1 : Hid (RdP w1 (.slice aq nq cq) qs) := RQ0.out.on hb1
  clear T0 T1 T2 T3 RP0 RQ0 hb0 hb1
  -- the copy is laid in a block of its own
  obtain ⟨W1, HW1⟩ : ∃ W1, Hid (w1.alloc (.cells #[.int .i64 (PW' : Int), .int .i64 (PH' : Int), .slice (some ⟨g, 0, none⟩) np co] 49) = W1) := ⟨_, (rfl : _ = _)⟩
  have hbx : Below w1.heap.size w1 W1 := by rw [← HW1.out]; exact (Below.refl _ _).alloc (Nat.le_refl _) _
  have TO : Three W1 w1.heap.size (.int .i64 (PW' : Int)) (.int .i64 (PH' : Int)) (.slice (some ⟨g, 0, none⟩) np co) := by rw [← HW1.out]; exact three_start w1 _ _ _ _
  have HG1 : Hid (Gch w (.slice ap np cp) (.slice aq nq cq) (.slice (some ⟨g, 0, none⟩) np co) PW' PH' QW' QH' w1.heap.size ps qs ps W1) :=
    ⟨U0.on hbx, U1.on hbx, U3.on hbx, TO, RP1.out.on hbx, RQ1.out.on hbx, hbw1.trans (hbx.mono hbw1.size), by rw [HNP.out]; exact own_on2 HO1.out hbx⟩
  have U2x := U2.on hbx
  obtain ⟨bo, HBO⟩ : ∃ b, Hid (w1.heap.size = b) := ⟨_, (rfl : _ = _)⟩
  rw [HBO.out] at HG1 hlt1 hgb
  clear U0 U1 U2 U3 RP1 RQ1 hbw1 hbx TO HO1
  obtain ⟨c0, c1, c2, _, _, _, _⟩ := HG1.out.tp
  rw [← HW1.out] at c0 c1 c2
  go_wp2_with fail
  rw [HW1.out, HBO.out]
  refine (check_nil _ _ _ ps _ (by rw [HNP.out]; omega) HG1.out.rp HP).mono ?_
  rintro e w2 ⟨rfl, hb2⟩
  have HG2 : Hid (Gch w (.slice ap np cp) (.slice aq nq cq) (.slice (some ⟨g, 0, none⟩) np co) PW' PH' QW' QH' bo ps qs ps w2) := HG1.out.on hb2
  have U2y := U2x.on hb2
  clear HG1 c0 c1 c2 hb2 U2x HW1
  obtain ⟨d0, d1, d2, _, _, _, _⟩ := HG2.out.tq
  go_wp2_with fail
  refine (check_nil _ _ _ qs _ (by rw [HNQ.out]; omega) HG2.out.rq HQ).mono ?_
  rintro e w3 ⟨rfl, hb3⟩
  have HG3 : Hid (Gch w (.slice ap np cp) (.slice aq nq cq) (.slice (some ⟨g, 0, none⟩) np co) PW' PH' QW' QH' bo ps qs ps w3) := HG2.out.on hb3
  have U2z := U2y.on hb3
  clear HG2 d0 d1 d2 hb3 U2y
  obtain ⟨c0, c1, c2, _, _, _, _⟩ := HG3.out.tp
  obtain ⟨d0, d1, d2, _, _, _, _⟩ := HG3.out.tq
  obtain ⟨e0, e1, e2, e3, _, _, _, _, lt2⟩ := U2z
  have hbl3 := HG3.out.bel
  have hq0 := HG3.out.tp.lt
  have hq1 := HG3.out.tq.lt
  have hq2 := lt2
  have KEEP : Hid (∀ W2, Below w3.heap.size w3 W2 → (W2.cell? ⟨w.heap.size, 0, none⟩ = some (.int .i64 (PW' : Int)) ∧ W2.cell? ⟨w.heap.size, 1, none⟩ = some (.int .i64 (PH' : Int)) ∧ W2.cell? ⟨w.heap.size, 2, none⟩ = some (.slice ap np cp) ∧ W2.cell? ⟨w.heap.size + 1, 0, none⟩ = some (.int .i64 (QW' : Int)) ∧ W2.cell? ⟨w.heap.size + 1, 1, none⟩ = some (.int .i64 (QH' : Int)) ∧ W2.cell? ⟨w.heap.size + 1 + 1, 0, none⟩ = some (.int .i64 a) ∧ W2.cell? ⟨w.heap.size + 1 + 1, 1, none⟩ = some (.int .i64 b) ∧ W2.cell? ⟨w.heap.size + 1 + 1, 2, none⟩ = some (.int .i64 c) ∧ W2.cell? ⟨w.heap.size + 1 + 1, 3, none⟩ = some (.int .i64 d) ∧ Hid (Below w3.heap.size w3 W2))) := fun W2 h2 =>
    ⟨(h2.cell (p := ⟨w.heap.size, 0, none⟩) hq0).trans c0, (h2.cell (p := ⟨w.heap.size, 1, none⟩) hq0).trans c1, (h2.cell (p := ⟨w.heap.size, 2, none⟩) hq0).trans c2, (h2.cell (p := ⟨w.heap.size + 1, 0, none⟩) hq1).trans d0, (h2.cell (p := ⟨w.heap.size + 1, 1, none⟩) hq1).trans d1,
      (h2.cell (p := ⟨w.heap.size + 1 + 1, 0, none⟩) hq2).trans e0, (h2.cell (p := ⟨w.heap.size + 1 + 1, 1, none⟩) hq2).trans e1, (h2.cell (p := ⟨w.heap.size + 1 + 1, 2, none⟩) hq2).trans e2, (h2.cell (p := ⟨w.heap.size + 1 + 1, 3, none⟩) hq2).trans e3, h2⟩
  have GON : Hid (∀ W1 W2, (W1.cell? ⟨w.heap.size, 0, none⟩ = some (.int .i64 (PW' : Int)) ∧ W1.cell? ⟨w.heap.size, 1, none⟩ = some (.int .i64 (PH' : Int)) ∧ W1.cell? ⟨w.heap.size, 2, none⟩ = some (.slice ap np cp) ∧ W1.cell? ⟨w.heap.size + 1, 0, none⟩ = some (.int .i64 (QW' : Int)) ∧ W1.cell? ⟨w.heap.size + 1, 1, none⟩ = some (.int .i64 (QH' : Int)) ∧ W1.cell? ⟨w.heap.size + 1 + 1, 0, none⟩ = some (.int .i64 a) ∧ W1.cell? ⟨w.heap.size + 1 + 1, 1, none⟩ = some (.int .i64 b) ∧ W1.cell? ⟨w.heap.size + 1 + 1, 2, none⟩ = some (.int .i64 c) ∧ W1.cell? ⟨w.heap.size + 1 + 1, 3, none⟩ = some (.int .i64 d) ∧ Hid (Below w3.heap.size w3 W1)) → Below W1.heap.size W1 W2 → Hid (Below w3.heap.size w3 W2)) := fun W1 W2 h1 h2 => by
    have h := h1.2.2.2.2.2.2.2.2.2.out
    exact h.trans (h2.mono h.size)
  have KALL : Hid (∀ W1 o, (W1.cell? ⟨w.heap.size, 0, none⟩ = some (.int .i64 (PW' : Int)) ∧ W1.cell? ⟨w.heap.size, 1, none⟩ = some (.int .i64 (PH' : Int)) ∧ W1.cell? ⟨w.heap.size, 2, none⟩ = some (.slice ap np cp) ∧ W1.cell? ⟨w.heap.size + 1, 0, none⟩ = some (.int .i64 (QW' : Int)) ∧ W1.cell? ⟨w.heap.size + 1, 1, none⟩ = some (.int .i64 (QH' : Int)) ∧ W1.cell? ⟨w.heap.size + 1 + 1, 0, none⟩ = some (.int .i64 a) ∧ W1.cell? ⟨w.heap.size + 1 + 1, 1, none⟩ = some (.int .i64 b) ∧ W1.cell? ⟨w.heap.size + 1 + 1, 2, none⟩ = some (.int .i64 c) ∧ W1.cell? ⟨w.heap.size + 1 + 1, 3, none⟩ = some (.int .i64 d) ∧ Hid (Below w3.heap.size w3 W1)) → ((W1.alloc o).cell? ⟨w.heap.size, 0, none⟩ = some (.int .i64 (PW' : Int)) ∧ (W1.alloc o).cell? ⟨w.heap.size, 1, none⟩ = some (.int .i64 (PH' : Int)) ∧ (W1.alloc o).cell? ⟨w.heap.size, 2, none⟩ = some (.slice ap np cp) ∧ (W1.alloc o).cell? ⟨w.heap.size + 1, 0, none⟩ = some (.int .i64 (QW' : Int)) ∧ (W1.alloc o).cell? ⟨w.heap.size + 1, 1, none⟩ = some (.int .i64 (QH' : Int)) ∧ (W1.alloc o).cell? ⟨w.heap.size + 1 + 1, 0, none⟩ = some (.int .i64 a) ∧ (W1.alloc o).cell? ⟨w.heap.size + 1 + 1, 1, none⟩ = some (.int .i64 b) ∧ (W1.alloc o).cell? ⟨w.heap.size + 1 + 1, 2, none⟩ = some (.int .i64 c) ∧ (W1.alloc o).cell? ⟨w.heap.size + 1 + 1, 3, none⟩ = some (.int .i64 d) ∧ Hid (Below w3.heap.size w3 (W1.alloc o)))) := fun W1 o h1 => by
    have h := h1.2.2.2.2.2.2.2.2.2.out
    exact KEEP.out _ (h.alloc h.size o)
  obtain ⟨r1, HR1⟩ : ∃ r, Hid (bothL 0 0 PW' PH' x y QW' QH' = r) := ⟨_, (rfl : _ = _)⟩
  obtain ⟨n0, n1, n2, n3, n4, n5, n6, n7⟩ := both_bounds 0 0 PW' PH' x y QW' QH' 20 (by omega) (by omega) (by omega) (by omega) (by omega) (by omega) (by omega) (by omega) (by omega) (by omega) (by omega) (by omega) (by omega) (by omega) (by omega) (by omega) r1 HR1.out
  obtain ⟨r2, HR2⟩ : ∃ r, Hid (bothL a b c d r1.1 r1.2.1 r1.2.2.1 r1.2.2.2 = r) := ⟨_, (rfl : _ = _)⟩
  obtain ⟨r1a, r1b, r1c, r1d⟩ := r1
  simp only at n0 n1 n2 n3 n4 n5 n6 n7 HR2
  obtain ⟨rx, ry, rw_, rh⟩ := r2
  clear c0 c1 c2 d0 d1 e0 e1 e2 e3
  go_wp2_with fail
  go_cut [14] from 41 (fun s14 wc => ∃ br, s14 = .pointer (some ⟨br, 0, none⟩) ∧ Four wc br (.int .i64 rx) (.int .i64 ry) (.int .i64 rw_) (.int .i64 rh) ∧ Below w3.heap.size w3 wc ∧ w3.heap.size ≤ br)
  case first =>
    have HB0 : Hid (Below w3.heap.size w3 w3.drew) := Below.drew (Below.refl _ _)
    refine wp_region_held_drew (S := (fun w' => w'.cell? ⟨w.heap.size, 0, none⟩ = some (.int .i64 (PW' : Int)) ∧ w'.cell? ⟨w.heap.size, 1, none⟩ = some (.int .i64 (PH' : Int)) ∧ w'.cell? ⟨w.heap.size, 2, none⟩ = some (.slice ap np cp) ∧ w'.cell? ⟨w.heap.size + 1, 0, none⟩ = some (.int .i64 (QW' : Int)) ∧ w'.cell? ⟨w.heap.size + 1, 1, none⟩ = some (.int .i64 (QH' : Int)) ∧ w'.cell? ⟨w.heap.size + 1 + 1, 0, none⟩ = some (.int .i64 a) ∧ w'.cell? ⟨w.heap.size + 1 + 1, 1, none⟩ = some (.int .i64 b) ∧ w'.cell? ⟨w.heap.size + 1 + 1, 2, none⟩ = some (.int .i64 c) ∧ w'.cell? ⟨w.heap.size + 1 + 1, 3, none⟩ = some (.int .i64 d) ∧ Hid (Below w3.heap.size w3 w'))) (by kernel_rfl) ?_ (fun hHeld => ?_)
    · exact KEEP.out _ HB0.out
    refine tk (v := ?_) 0 rfl (by kernel_rfl) (by rfl) ?_ ?_
    rotate_left
    · (intro w hSw; (try dsimp only at hSw); go_simp; try with_reducible rfl)
    refine tk (v := ?_) 1 rfl (by kernel_rfl) (by rfl) ?_ ?_
    rotate_left
    · (intro w hSw; (try dsimp only at hSw); go_simp; try with_reducible rfl)
    refine tk (v := ?_) 3 rfl (by kernel_rfl) (by rfl) ?_ ?_
    rotate_left
    · (intro w hSw; (try dsimp only at hSw); go_simp; try with_reducible rfl)
    refine tk (v := ?_) 4 rfl (by kernel_rfl) (by rfl) ?_ ?_
    rotate_left
    · (intro w hSw; (try dsimp only at hSw); go_simp; try with_reducible rfl)
    refine tk (v := ?_) 5 rfl (by kernel_rfl) (by rfl) ?_ ?_
    rotate_left
    · (intro w hSw; (try dsimp only at hSw); go_simp; try with_reducible rfl)
    refine tk (v := ?_) 6 rfl (by kernel_rfl) (by rfl) ?_ ?_
    rotate_left
    · (intro w hSw; (try dsimp only at hSw); go_simp; try with_reducible rfl)
    refine tk (v := ?_) 7 rfl (by kernel_rfl) (by rfl) ?_ ?_
    rotate_left
    · (intro w hSw; (try dsimp only at hSw); go_simp; try with_reducible rfl)
    refine tk (v := ?_) 8 rfl (by kernel_rfl) (by rfl) ?_ ?_
    rotate_left
    · (intro w hSw; (try dsimp only at hSw); go_simp; try with_reducible rfl)
    refine tk (v := ?_) 9 rfl (by kernel_rfl) (by rfl) ?_ ?_
    rotate_left
    · (intro w hSw; (try dsimp only at hSw); go_simp; try with_reducible rfl)
    refine wpAnyH_ready (rs := [2, 12]) (by kernel_rfl) (by simp) ?_
    refine AllReadyH.cons rfl (fun K hK => ?_) (AllReadyH.cons rfl (fun K hK => ?_) AllReadyH.nil)
    · go_simp
      refine (whole_any PW' PH' ap np cp _).mono ?_
      unfold rectV
      try simp only
      rintro e wx1 ⟨rfl, hbx1⟩
      have HB1 : Hid (Below w3.heap.size w3 wx1) := HB0.out.trans (hbx1.mono HB0.out.size)
      clear hbx1
      refine hK.out _ _ ?_ (fun hHeld => ?_)
      · exact KEEP.out _ HB1.out
      clear hK K
      refine wpAnyH_ready (rs := [10, 12]) (by kernel_rfl) (by simp) ?_
      refine AllReadyH.cons rfl (fun K hK => ?_) (AllReadyH.cons rfl (fun K hK => ?_) AllReadyH.nil)
      · go_simp
        refine (both_any 0 0 PW' PH' x y QW' QH' _ (by omega) (by omega) (by omega) (by omega) (by omega) (by omega) (by omega) (by omega) (by omega) (by omega) (by omega) (by omega) (by omega) (by omega) (by omega) (by omega) (r1a, r1b, r1c, r1d) HR1).mono ?_
        unfold ratV rectV
        try simp only
        rintro e wx2 ⟨rfl, hbx2⟩
        have HB2 : Hid (Below w3.heap.size w3 wx2) := HB1.out.trans (hbx2.mono HB1.out.size)
        clear hbx2
        refine hK.out _ _ ?_ (fun hHeld => ?_)
        · exact KEEP.out _ HB2.out
        clear hK K
        refine wpAnyH_ready (rs := [11, 12]) (by kernel_rfl) (by simp) ?_
        refine AllReadyH.cons rfl (fun K hK => ?_) (AllReadyH.cons rfl (fun K hK => ?_) AllReadyH.nil)
        · go_simp
          refine (both_any a b c d r1a r1b r1c r1d _ (by omega) (by omega) (by omega) (by omega) (by omega) (by omega) (by omega) (by omega) (by omega) (by omega) (by omega) (by omega) (by omega) (by omega) (by omega) (by omega) (rx, ry, rw_, rh) HR2).mono ?_
          unfold ratV rectV
          try simp only
          rintro e wx3 ⟨rfl, hbx3⟩
          have HB3 : Hid (Below w3.heap.size w3 wx3) := HB2.out.trans (hbx3.mono HB2.out.size)
          clear hbx3
          refine hK.out _ _ ?_ (fun hHeld => ?_)
          · exact KEEP.out _ HB3.out
          clear hK K
          refine wpAnyH_ready (rs := [12]) (by kernel_rfl) (by simp) ?_
          refine AllReadyH.cons rfl (fun K hK => ?_) AllReadyH.nil
          go_simp
          have HBA : Hid (Below w3.heap.size w3 (wx3.alloc (.cells #[.int .i64 0, .int .i64 0, .int .i64 0, .int .i64 0] 78))) := HB3.out.alloc HB3.out.size _
          refine hK.out _ _ ?_ (fun hHeld => ?_)
          · exact KEEP.out _ HBA.out
          clear hK K
          refine wpAnyH_ready (rs := [13]) (by kernel_rfl) (by simp) ?_
          refine AllReadyH.cons rfl (fun K hK => ?_) AllReadyH.nil
          go_simp
          refine hK.out _ _ ?_ (fun hHeld => ?_)
          · exact KEEP.out _ (HB3.out.alloc HB3.out.size (.cells #[.int .i64 rx, .int .i64 ry, .int .i64 rw_, .int .i64 rh] 78))
          clear hK K
          refine wpAnyH_done (by kernel_rfl) ?_ _
          go_wp2_with fail
          go_meet
          exact ⟨_, rfl, four_start _ _ _ _ _ _ _ rfl, (HB3.out.alloc HB3.out.size (.cells #[.int .i64 rx, .int .i64 ry, .int .i64 rw_, .int .i64 rh] 78)), HB3.out.size⟩
        · go_simp
          have HBA : Hid (Below w3.heap.size w3 (wx2.alloc (.cells #[.int .i64 0, .int .i64 0, .int .i64 0, .int .i64 0] 78))) := HB2.out.alloc HB2.out.size _
          have FA : Hid (Four (wx2.alloc (.cells #[.int .i64 0, .int .i64 0, .int .i64 0, .int .i64 0] 78)) wx2.heap.size (.int .i64 0) (.int .i64 0) (.int .i64 0) (.int .i64 0)) := four_start _ _ _ _ _ _ _ rfl
          refine hK.out _ _ ?_ (fun hHeld => ?_)
          · exact KEEP.out _ HBA.out
          clear hK K
          refine wpAnyH_ready (rs := [11]) (by kernel_rfl) (by simp) ?_
          refine AllReadyH.cons rfl (fun K hK => ?_) AllReadyH.nil
          go_simp
          refine (both_any a b c d r1a r1b r1c r1d _ (by omega) (by omega) (by omega) (by omega) (by omega) (by omega) (by omega) (by omega) (by omega) (by omega) (by omega) (by omega) (by omega) (by omega) (by omega) (by omega) (rx, ry, rw_, rh) HR2).mono ?_
          unfold ratV rectV
          try simp only
          rintro e wx3 ⟨rfl, hbx3⟩
          have HB3 : Hid (Below w3.heap.size w3 wx3) := HBA.out.trans (hbx3.mono HBA.out.size)
          have F3 : Hid (Four wx3 wx2.heap.size (.int .i64 0) (.int .i64 0) (.int .i64 0) (.int .i64 0)) := Four.on FA.out hbx3
          clear hbx3
          refine hK.out _ _ ?_ (fun hHeld => ?_)
          · exact KEEP.out _ HB3.out
          clear hK K
          refine wpAnyH_ready (rs := [13]) (by kernel_rfl) (by simp) ?_
          refine AllReadyH.cons rfl (fun K hK => ?_) AllReadyH.nil
          obtain ⟨_, _, _, _, _, _, _, _, _⟩ := F3.out
          go_simp
          refine hK.out _ _ ?_ (fun hHeld => ?_)
          · exact KEEP.out _ ((((HB3.out.setCell (HB2.out.size) _).setCell (HB2.out.size) _).setCell (HB2.out.size) _).setCell (HB2.out.size) _)
          clear hK K
          refine wpAnyH_done (by kernel_rfl) ?_ _
          go_wp2_with fail
          go_meet
          exact ⟨_, rfl, Four.set_all F3.out _ _ _ _, ((((HB3.out.setCell (HB2.out.size) _).setCell (HB2.out.size) _).setCell (HB2.out.size) _).setCell (HB2.out.size) _), HB2.out.size⟩
      · go_simp
        have HBA : Hid (Below w3.heap.size w3 (wx1.alloc (.cells #[.int .i64 0, .int .i64 0, .int .i64 0, .int .i64 0] 78))) := HB1.out.alloc HB1.out.size _
        have FA : Hid (Four (wx1.alloc (.cells #[.int .i64 0, .int .i64 0, .int .i64 0, .int .i64 0] 78)) wx1.heap.size (.int .i64 0) (.int .i64 0) (.int .i64 0) (.int .i64 0)) := four_start _ _ _ _ _ _ _ rfl
        refine hK.out _ _ ?_ (fun hHeld => ?_)
        · exact KEEP.out _ HBA.out
        clear hK K
        refine wpAnyH_ready (rs := [10]) (by kernel_rfl) (by simp) ?_
        refine AllReadyH.cons rfl (fun K hK => ?_) AllReadyH.nil
        go_simp
        refine (both_any 0 0 PW' PH' x y QW' QH' _ (by omega) (by omega) (by omega) (by omega) (by omega) (by omega) (by omega) (by omega) (by omega) (by omega) (by omega) (by omega) (by omega) (by omega) (by omega) (by omega) (r1a, r1b, r1c, r1d) HR1).mono ?_
        unfold ratV rectV
        try simp only
        rintro e wx2 ⟨rfl, hbx2⟩
        have HB2 : Hid (Below w3.heap.size w3 wx2) := HBA.out.trans (hbx2.mono HBA.out.size)
        have F2 : Hid (Four wx2 wx1.heap.size (.int .i64 0) (.int .i64 0) (.int .i64 0) (.int .i64 0)) := Four.on FA.out hbx2
        clear hbx2
        refine hK.out _ _ ?_ (fun hHeld => ?_)
        · exact KEEP.out _ HB2.out
        clear hK K
        refine wpAnyH_ready (rs := [11]) (by kernel_rfl) (by simp) ?_
        refine AllReadyH.cons rfl (fun K hK => ?_) AllReadyH.nil
        go_simp
        refine (both_any a b c d r1a r1b r1c r1d _ (by omega) (by omega) (by omega) (by omega) (by omega) (by omega) (by omega) (by omega) (by omega) (by omega) (by omega) (by omega) (by omega) (by omega) (by omega) (by omega) (rx, ry, rw_, rh) HR2).mono ?_
        unfold ratV rectV
        try simp only
        rintro e wx3 ⟨rfl, hbx3⟩
        have HB3 : Hid (Below w3.heap.size w3 wx3) := HB2.out.trans (hbx3.mono HB2.out.size)
        have F3 : Hid (Four wx3 wx1.heap.size (.int .i64 0) (.int .i64 0) (.int .i64 0) (.int .i64 0)) := Four.on F2.out hbx3
        clear hbx3
        refine hK.out _ _ ?_ (fun hHeld => ?_)
        · exact KEEP.out _ HB3.out
        clear hK K
        refine wpAnyH_ready (rs := [13]) (by kernel_rfl) (by simp) ?_
        refine AllReadyH.cons rfl (fun K hK => ?_) AllReadyH.nil
        obtain ⟨_, _, _, _, _, _, _, _, _⟩ := F3.out
        go_simp
        refine hK.out _ _ ?_ (fun hHeld => ?_)
        · exact KEEP.out _ ((((HB3.out.setCell (HB1.out.size) _).setCell (HB1.out.size) _).setCell (HB1.out.size) _).setCell (HB1.out.size) _)
        clear hK K
        refine wpAnyH_done (by kernel_rfl) ?_ _
        go_wp2_with fail
        go_meet
        exact ⟨_, rfl, Four.set_all F3.out _ _ _ _, ((((HB3.out.setCell (HB1.out.size) _).setCell (HB1.out.size) _).setCell (HB1.out.size) _).setCell (HB1.out.size) _), HB1.out.size⟩
    · go_simp
      have HBA : Hid (Below w3.heap.size w3 (w3.drew.alloc (.cells #[.int .i64 0, .int .i64 0, .int .i64 0, .int .i64 0] 78))) := HB0.out.alloc HB0.out.size _
      have FA : Hid (Four (w3.drew.alloc (.cells #[.int .i64 0, .int .i64 0, .int .i64 0, .int .i64 0] 78)) w3.heap.size (.int .i64 0) (.int .i64 0) (.int .i64 0) (.int .i64 0)) := four_start _ _ _ _ _ _ _ rfl
      refine hK.out _ _ ?_ (fun hHeld => ?_)
      · exact KEEP.out _ HBA.out
      clear hK K
      refine wpAnyH_ready (rs := [2]) (by kernel_rfl) (by simp) ?_
      refine AllReadyH.cons rfl (fun K hK => ?_) AllReadyH.nil
      go_simp
      refine (whole_any PW' PH' ap np cp _).mono ?_
      unfold rectV
      try simp only
      rintro e wx1 ⟨rfl, hbx1⟩
      have HB1 : Hid (Below w3.heap.size w3 wx1) := HBA.out.trans (hbx1.mono HBA.out.size)
      have F1 : Hid (Four wx1 w3.heap.size (.int .i64 0) (.int .i64 0) (.int .i64 0) (.int .i64 0)) := Four.on FA.out hbx1
      clear hbx1
      refine hK.out _ _ ?_ (fun hHeld => ?_)
      · exact KEEP.out _ HB1.out
      clear hK K
      refine wpAnyH_ready (rs := [10]) (by kernel_rfl) (by simp) ?_
      refine AllReadyH.cons rfl (fun K hK => ?_) AllReadyH.nil
      go_simp
      refine (both_any 0 0 PW' PH' x y QW' QH' _ (by omega) (by omega) (by omega) (by omega) (by omega) (by omega) (by omega) (by omega) (by omega) (by omega) (by omega) (by omega) (by omega) (by omega) (by omega) (by omega) (r1a, r1b, r1c, r1d) HR1).mono ?_
      unfold ratV rectV
      try simp only
      rintro e wx2 ⟨rfl, hbx2⟩
      have HB2 : Hid (Below w3.heap.size w3 wx2) := HB1.out.trans (hbx2.mono HB1.out.size)
      have F2 : Hid (Four wx2 w3.heap.size (.int .i64 0) (.int .i64 0) (.int .i64 0) (.int .i64 0)) := Four.on F1.out hbx2
      clear hbx2
      refine hK.out _ _ ?_ (fun hHeld => ?_)
      · exact KEEP.out _ HB2.out
      clear hK K
      refine wpAnyH_ready (rs := [11]) (by kernel_rfl) (by simp) ?_
      refine AllReadyH.cons rfl (fun K hK => ?_) AllReadyH.nil
      go_simp
      refine (both_any a b c d r1a r1b r1c r1d _ (by omega) (by omega) (by omega) (by omega) (by omega) (by omega) (by omega) (by omega) (by omega) (by omega) (by omega) (by omega) (by omega) (by omega) (by omega) (by omega) (rx, ry, rw_, rh) HR2).mono ?_
      unfold ratV rectV
      try simp only
      rintro e wx3 ⟨rfl, hbx3⟩
      have HB3 : Hid (Below w3.heap.size w3 wx3) := HB2.out.trans (hbx3.mono HB2.out.size)
      have F3 : Hid (Four wx3 w3.heap.size (.int .i64 0) (.int .i64 0) (.int .i64 0) (.int .i64 0)) := Four.on F2.out hbx3
      clear hbx3
      refine hK.out _ _ ?_ (fun hHeld => ?_)
      · exact KEEP.out _ HB3.out
      clear hK K
      refine wpAnyH_ready (rs := [13]) (by kernel_rfl) (by simp) ?_
      refine AllReadyH.cons rfl (fun K hK => ?_) AllReadyH.nil
      obtain ⟨_, _, _, _, _, _, _, _, _⟩ := F3.out
      go_simp
      refine hK.out _ _ ?_ (fun hHeld => ?_)
      · exact KEEP.out _ ((((HB3.out.setCell (Nat.le_refl _) _).setCell (Nat.le_refl _) _).setCell (Nat.le_refl _) _).setCell (Nat.le_refl _) _)
      clear hK K
      refine wpAnyH_done (by kernel_rfl) ?_ _
      go_wp2_with fail
      go_meet
      exact ⟨_, rfl, Four.set_all F3.out _ _ _ _, ((((HB3.out.setCell (Nat.le_refl _) _).setCell (Nat.le_refl _) _).setCell (Nat.le_refl _) _).setCell (Nat.le_refl _) _), Nat.le_refl _⟩
  case rest =>
    obtain ⟨br, rfl, FR, hb4, hbr⟩ := hcut
    have HG4 : Hid (Gch w (.slice ap np cp) (.slice aq nq cq) (.slice (some ⟨g, 0, none⟩) np co) PW' PH' QW' QH' bo ps qs ps wc) := HG3.out.on hb4
    have hn2 := both_bounds a b c d r1a r1b r1c r1d 20 ha ha2 hb hb2 hc hc2 hd hd2 n0 n1 n2 n3 n4 n5 n6 n7 _ HR2.out
    simp only at hn2
    obtain ⟨m0, m1, m2, m3, m4, m5, m6, m7⟩ := hn2
    obtain ⟨r0, rr1, rr2, rr3, _, _, _, _, _⟩ := FR
    have FRc : Hid (Four wc br (.int .i64 rx) (.int .i64 ry) (.int .i64 rw_) (.int .i64 rh)) := ⟨r0, rr1, rr2, rr3, ‹_›, ‹_›, ‹_›, ‹_›, ‹_›⟩
    have hgr : g < w3.heap.size := (HG3.out.own.lt g rfl).2
    clear KEEP GON KALL HG3 hb4
    obtain ⟨gp, op, rfl, hgp, RPC⟩ := rd_some RP.out hne
    obtain ⟨gq_, oq, rfl, hgq, RQC⟩ := rd_some RQ.out hqne
    have HRPC := hid_of RPC
    have HRQC := hid_of RQC
    clear RPC RQC
    go_wp2_with fail
    go_loopw [15] (fun rv wr => ∃ R : Int, rv = .int .i64 R ∧ ry ≤ R ∧ R ≤ ry + rh ∧ Hid (Four wr br (.int .i64 rx) (.int .i64 ry) (.int .i64 rw_) (.int .i64 rh)) ∧
      Hid (Gch w (.slice (some ⟨gp, op, none⟩) np cp) (.slice (some ⟨gq_, oq, none⟩) nq cq) (.slice (some ⟨g, 0, none⟩) np co) PW' PH' QW' QH' bo ps qs (gridL PW' (PW' * PH') (upto rx ry rw_ rh R rx) (gq (fun p q => Fb.overL q.1 q.2 p.1 p.2) PW' ps QW' qs x y) ps) wr)) (fun rv _ => (ry + rh - intOf rv).toNat)
    case atStart =>
      refine ⟨ry, rfl, by omega, by omega, FRc, ?_⟩
      unfold Hid
      rw [upto_start PW' PH' _ ps rx ry rw_ rh (by rw [HNP.out]; exact HPL.out)]
      exact HG4.out
    case round =>
      obtain ⟨R, rfl, R0, R1, HFR, HG⟩ := hrel
      obtain ⟨r0, rr1, rr2, rr3, _, _, _, _, _⟩ := HFR.out
      by_cases hR : R < ry + rh
      · go_wp2_with fail
        go_loopw [16] (fun cv wr => ∃ C : Int, cv = .int .i64 C ∧ rx ≤ C ∧ C ≤ rx + rw_ ∧ Hid (Four wr br (.int .i64 rx) (.int .i64 ry) (.int .i64 rw_) (.int .i64 rh)) ∧
          Hid (Gch w (.slice (some ⟨gp, op, none⟩) np cp) (.slice (some ⟨gq_, oq, none⟩) nq cq) (.slice (some ⟨g, 0, none⟩) np co) PW' PH' QW' QH' bo ps qs (gridL PW' (PW' * PH') (upto rx ry rw_ rh R C) (gq (fun p q => Fb.overL q.1 q.2 p.1 p.2) PW' ps QW' qs x y) ps) wr)) (fun cv _ => (rx + rw_ - intOf cv).toNat)
        case atStart => exact ⟨rx, rfl, by omega, by omega, HFR, HG⟩
        case round =>
          obtain ⟨C, rfl, C0, C1, HFR2, HG2⟩ := hrel
          clear r0 rr1 rr2 rr3
          obtain ⟨r0, rr1, rr2, rr3, _, _, _, _, _⟩ := HFR2.out
          by_cases hC : C < rx + rw_
          · have hin := both_has a b c d r1a r1b r1c r1d C R _ HR2.out
            have hin1 := both_has 0 0 PW' PH' x y QW' QH' C R _ HR1.out
            simp only at hin hin1
            rw [(hasB_iff rx ry rw_ rh C R).2 ⟨C0, hC, R0, hR⟩] at hin
            have hin2 : hasB r1a r1b r1c r1d C R = true := by
              rw [hin1] at hin ⊢; revert hin; cases hasB a b c d C R <;> simp
            rw [hin2] at hin1
            have hin3 : hasB 0 0 PW' PH' C R = true ∧ hasB x y QW' QH' C R = true := by
              revert hin1; cases hasB 0 0 PW' PH' C R <;> simp
            obtain ⟨i0, i1, i2, i3⟩ := (hasB_iff _ _ _ _ _ _).1 hin3.1
            obtain ⟨j0, j1, j2, j3⟩ := (hasB_iff _ _ _ _ _ _).1 hin3.2
            clear hin hin1 hin2 hin3
            obtain ⟨Rn, rfl⟩ : ∃ n : Nat, R = (n : Int) := ⟨R.toNat, by omega⟩
            obtain ⟨Cn, rfl⟩ : ∃ n : Nat, C = (n : Int) := ⟨C.toNat, by omega⟩
            obtain ⟨K, HK⟩ : ∃ K, Hid (Rn * PW' + Cn = K) := ⟨_, (rfl : _ = _)⟩
            have hRP : (Rn + 1) * PW' ≤ PH' * PW' := Nat.mul_le_mul_right _ (by omega)
            have hKn : K < np := by
              have h1 := HK.out; have h2 := HPL.out
              rw [Nat.mul_comm] at h2; rw [Nat.add_mul] at hRP; omega
            obtain ⟨M, HM⟩ : ∃ M, Hid (Rn * PW' = M) := ⟨_, (rfl : _ = _)⟩
            have hM : (Rn : Int) * (PW' : Int) = (M : Int) := by rw [← HM.out]; exact (Int.natCast_mul _ _).symm
            have hMK : M + Cn = K := by rw [← HM.out]; exact HK.out
            obtain ⟨Ry, HRy⟩ : ∃ n : Nat, Hid ((Rn : Int) - y = (n : Int)) := ⟨((Rn : Int) - y).toNat, by unfold Hid; omega⟩
            obtain ⟨Cx, HCx⟩ : ∃ n : Nat, Hid ((Cn : Int) - x = (n : Int)) := ⟨((Cn : Int) - x).toNat, by unfold Hid; omega⟩
            obtain ⟨M2, HM2⟩ : ∃ M, Hid (Ry * QW' = M) := ⟨_, (rfl : _ = _)⟩
            have hRy := HRy.out
            have hM2 : (Ry : Int) * (QW' : Int) = (M2 : Int) := by rw [← HM2.out]; exact (Int.natCast_mul _ _).symm
            have hRQ : (Ry + 1) * QW' ≤ QH' * QW' := Nat.mul_le_mul_right _ (by omega)
            have hM2n : M2 + Cx < nq := by
              have h1 := HM2.out; have h2 := HQL.out; have h3 := HCx.out
              rw [Nat.mul_comm] at h2; rw [Nat.add_mul] at hRQ; omega
            have hJ : (M2 : Int) + (Cn : Int) - x = ((M2 + Cx : Nat) : Int) := by have := HCx.out; omega
            obtain ⟨J, HJ⟩ : ∃ J, Hid (M2 + Cx = J) := ⟨_, (rfl : _ = _)⟩
            rw [HJ.out] at hJ hM2n
            clear hRP hRQ
            have HGQ : Hid (gq (fun p q => Fb.overL q.1 q.2 p.1 p.2) PW' ps QW' qs x y K = Fb.overL (qs.getD J (0, 0)).1 (qs.getD J (0, 0)).2 (ps.getD K (0, 0)).1 (ps.getD K (0, 0)).2) := by
              have e1 : K / PW' = Rn := by rw [← HK.out, Nat.add_comm, Nat.add_mul_div_right _ _ (by omega), Nat.div_eq_of_lt (by omega), Nat.zero_add]
              have e2 : K % PW' = Cn := by rw [← HK.out, Nat.add_comm, Nat.add_mul_mod_self_right, Nat.mod_eq_of_lt (by omega)]
              unfold Hid gq
              rw [e1, e2, hRy, hM2, hJ, Int.toNat_natCast]
            obtain ⟨hpc0, hpc1⟩ := HRPC.out _ HG2.out.bel K (by rw [HNP.out]; exact hKn)
            obtain ⟨hqc0, hqc1⟩ := HRQC.out _ HG2.out.bel J (by rw [HNQ.out]; exact hM2n)
            have hpk := POK.out K (by rw [HNP.out]; exact hKn)
            have hqk := QOK.out J (by rw [HNQ.out]; exact hM2n)
            obtain ⟨pp, HPP⟩ : ∃ p, Hid (ps.getD K (0, 0) = p) := ⟨_, (rfl : _ = _)⟩
            obtain ⟨qq, HQQ⟩ : ∃ p, Hid (qs.getD J (0, 0) = p) := ⟨_, (rfl : _ = _)⟩
            rw [HPP.out] at hpc0 hpc1 hpk
            rw [HQQ.out] at hqc0 hqc1 hqk
            obtain ⟨pv, pa⟩ := pp
            obtain ⟨qv, qa⟩ := qq
            obtain ⟨⟨nv, na⟩, HNV⟩ : ∃ r, Hid (Fb.overL qv qa pv pa = r) := ⟨_, (rfl : _ = _)⟩
            obtain ⟨a0, a1, a2, _, _, _, _⟩ := HG2.out.tp
            obtain ⟨b0, b1, b2_, _, _, _, _⟩ := HG2.out.tq
            obtain ⟨o0, o1, o2, _, _, _, _⟩ := HG2.out.to
            simp only at hpc0 hpc1 hqc0 hqc1
            have hMK2 : (M : Int) + (Cn : Int) = (K : Int) := by omega
            go_wp2_with fail
            -- REGION
            have KEEP : Hid (∀ W2 cur', Gch w (.slice (some ⟨gp, op, none⟩) np cp) (.slice (some ⟨gq_, oq, none⟩) nq cq) (.slice (some ⟨g, 0, none⟩) np co) PW' PH' QW' QH' bo ps qs cur' W2 → (W2.cell? ⟨w.heap.size, 2, none⟩ = some (.slice (some ⟨gp, op, none⟩) np cp) ∧ W2.cell? ⟨w.heap.size + 1, 0, none⟩ = some (.int .i64 (QW' : Int)) ∧ W2.cell? ⟨w.heap.size + 1, 2, none⟩ = some (.slice (some ⟨gq_, oq, none⟩) nq cq) ∧ W2.cell? ⟨bo, 2, none⟩ = some (.slice (some ⟨g, 0, none⟩) np co) ∧ W2.cell? ⟨gp, op + K * 2, none⟩ = some (.int .i64 pv) ∧ W2.cell? ⟨gp, op + K * 2 + 1, none⟩ = some (.int .i64 pa) ∧ W2.cell? ⟨gq_, oq + J * 2, none⟩ = some (.int .i64 qv) ∧ W2.cell? ⟨gq_, oq + J * 2 + 1, none⟩ = some (.int .i64 qa))) := fun W2 cur' h2 => by
              obtain ⟨k0, k1⟩ := HRPC.out _ h2.bel K (by rw [HNP.out]; exact hKn)
              obtain ⟨k2, k3⟩ := HRQC.out _ h2.bel J (by rw [HNQ.out]; exact hM2n)
              rw [HPP.out] at k0 k1
              rw [HQQ.out] at k2 k3
              exact ⟨h2.tp.c2, h2.tq.c0, h2.tq.c2, h2.to.c2, k0, k1, k2, k3⟩
            clear hpc0 hpc1 hqc0 hqc1 a0 a1 a2 b0 b1 b2_ o0 o1 o2 r0 rr1 rr2 rr3
            have hKi : (K : Int) < (np : Int) := by omega
            have hJi : (J : Int) < (nq : Int) := by omega
            have hw1 : IntKind.i64.wrap ((Rn : Int) - y) = (Ry : Int) := by rw [hRy, IntKind.wrap_i64]; omega
            have hw2 : IntKind.i64.wrap ((Ry : Int) * (QW' : Int)) = (M2 : Int) := by rw [hM2, IntKind.wrap_i64]; omega
            have hw3 : IntKind.i64.wrap ((M2 : Int) + (Cn : Int)) = (M2 : Int) + (Cn : Int) := by rw [IntKind.wrap_i64]; omega
            have hw4 : IntKind.i64.wrap ((M2 : Int) + (Cn : Int) - x) = (J : Int) := by rw [hJ, IntKind.wrap_i64]; omega
            have hw5 : IntKind.i64.wrap (Ry : Int) = (Ry : Int) := by rw [IntKind.wrap_i64]; omega
            have hw6 : IntKind.i64.wrap (M2 : Int) = (M2 : Int) := by rw [IntKind.wrap_i64]; omega
            have hw7 : IntKind.i64.wrap (J : Int) = (J : Int) := by rw [IntKind.wrap_i64]; omega
            have HGD : Hid (Gch w (.slice (some ⟨gp, op, none⟩) np cp) (.slice (some ⟨gq_, oq, none⟩) nq cq) (.slice (some ⟨g, 0, none⟩) np co) PW' PH' QW' QH' bo ps qs _ wr.drew) := HG2.out.drew
            refine wp_region_held_drew (S := (fun w' => w'.cell? ⟨w.heap.size, 2, none⟩ = some (.slice (some ⟨gp, op, none⟩) np cp) ∧ w'.cell? ⟨w.heap.size + 1, 0, none⟩ = some (.int .i64 (QW' : Int)) ∧ w'.cell? ⟨w.heap.size + 1, 2, none⟩ = some (.slice (some ⟨gq_, oq, none⟩) nq cq) ∧ w'.cell? ⟨bo, 2, none⟩ = some (.slice (some ⟨g, 0, none⟩) np co) ∧ w'.cell? ⟨gp, op + K * 2, none⟩ = some (.int .i64 pv) ∧ w'.cell? ⟨gp, op + K * 2 + 1, none⟩ = some (.int .i64 pa) ∧ w'.cell? ⟨gq_, oq + J * 2, none⟩ = some (.int .i64 qv) ∧ w'.cell? ⟨gq_, oq + J * 2 + 1, none⟩ = some (.int .i64 qa))) (by kernel_rfl) ?_ (fun hHeld => ?_)
            · exact KEEP.out _ _ HGD.out
            refine tk (v := ?_) 0 rfl (by kernel_rfl) (by rfl) ?_ ?_
            rotate_left
            · (intro w hSw; (try dsimp only at hSw); go_simp; try with_reducible rfl)
            refine tk (v := ?_) 1 rfl (by kernel_rfl) (by rfl) ?_ ?_
            rotate_left
            · (intro w hSw; (try dsimp only at hSw); go_simp; try with_reducible rfl)
            refine tk (v := ?_) 2 rfl (by kernel_rfl) (by rfl) ?_ ?_
            rotate_left
            · (intro w hSw; (try dsimp only at hSw); go_simp; try with_reducible rfl)
            refine tk (v := ?_) 3 rfl (by kernel_rfl) (by rfl) ?_ ?_
            rotate_left
            · (intro w hSw; (try dsimp only at hSw); go_simp; try with_reducible rfl)
            refine tk (v := ?_) 4 rfl (by kernel_rfl) (by rfl) ?_ ?_
            rotate_left
            · (intro w hSw; (try dsimp only at hSw); go_simp; try with_reducible rfl)
            refine tk (v := ?_) 5 rfl (by kernel_rfl) (by rfl) ?_ ?_
            rotate_left
            · (intro w hSw; (try dsimp only at hSw); go_simp; try with_reducible rfl)
            refine tk (v := ?_) 6 rfl (by kernel_rfl) (by rfl) ?_ ?_
            rotate_left
            · (intro w hSw; (try dsimp only at hSw); go_simp; try with_reducible rfl)
            refine tk (v := ?_) 7 rfl (by kernel_rfl) (by rfl) ?_ ?_
            rotate_left
            · (intro w hSw; (try dsimp only at hSw); go_simp; try with_reducible rfl)
            refine tk (v := ?_) 8 rfl (by kernel_rfl) (by rfl) ?_ ?_
            rotate_left
            · (intro w hSw; (try dsimp only at hSw); go_simp; try with_reducible rfl)
            refine tk (v := ?_) 9 rfl (by kernel_rfl) (by rfl) ?_ ?_
            rotate_left
            · (intro w hSw; (try dsimp only at hSw); go_simp; try with_reducible rfl)
            refine tk (v := ?_) 10 rfl (by kernel_rfl) (by rfl) ?_ ?_
            rotate_left
            · (intro w hSw; (try dsimp only at hSw); go_simp; try with_reducible rfl)
            refine tk (v := ?_) 11 rfl (by kernel_rfl) (by rfl) ?_ ?_
            rotate_left
            · (intro w hSw; (try dsimp only at hSw); go_simp; try with_reducible rfl)
            refine tk (v := ?_) 12 rfl (by kernel_rfl) (by rfl) ?_ ?_
            rotate_left
            · (intro w hSw; (try dsimp only at hSw); go_simp; try with_reducible rfl)
            refine tk (v := ?_) 13 rfl (by kernel_rfl) (by rfl) ?_ ?_
            rotate_left
            · (intro w hSw; (try dsimp only at hSw); go_simp; try with_reducible rfl)
            refine tk (v := ?_) 14 rfl (by kernel_rfl) (by rfl) ?_ ?_
            rotate_left
            · (intro w hSw; (try dsimp only at hSw); go_simp; try with_reducible rfl)
            refine tk (v := ?_) 15 rfl (by kernel_rfl) (by rfl) ?_ ?_
            rotate_left
            · (intro w hSw; (try dsimp only at hSw); go_simp; try with_reducible rfl)
            refine tk (v := ?_) 16 rfl (by kernel_rfl) (by rfl) ?_ ?_
            rotate_left
            · (intro w hSw; (try dsimp only at hSw); go_simp; try with_reducible rfl)
            refine tk (v := ?_) 17 rfl (by kernel_rfl) (by rfl) ?_ ?_
            rotate_left
            · (intro w hSw; (try dsimp only at hSw); go_simp; try with_reducible rfl)
            refine tk (v := ?_) 18 rfl (by kernel_rfl) (by rfl) ?_ ?_
            rotate_left
            · (intro w hSw; (try dsimp only at hSw); go_simp; try with_reducible rfl)
            refine tk (v := ?_) 19 rfl (by kernel_rfl) (by rfl) ?_ ?_
            rotate_left
            · (intro w hSw; (try dsimp only at hSw); go_simp; try with_reducible rfl)
            refine tk (v := ?_) 20 rfl (by kernel_rfl) (by rfl) ?_ ?_
            rotate_left
            · (intro w hSw; (try dsimp only at hSw); go_simp; try with_reducible rfl)
            refine tk (v := ?_) 21 rfl (by kernel_rfl) (by rfl) ?_ ?_
            rotate_left
            · (intro w hSw; (try dsimp only at hSw); go_simp; try with_reducible rfl)
            refine tk (v := ?_) 22 rfl (by kernel_rfl) (by rfl) ?_ ?_
            rotate_left
            · (intro w hSw; (try dsimp only at hSw); go_simp; try with_reducible rfl)
            refine wpAnyH_ready (rs := [23]) (by kernel_rfl) (by simp) ?_
            refine AllReadyH.cons rfl (fun K_ hK => ?_) AllReadyH.nil
            go_simp
            refine (becL_any (pv, pa) (qv, qa) (nv, na) hpk hqk HNV _).mono ?_
            unfold pixV
            try simp only
            rintro e wx ⟨rfl, hbx⟩
            have HGx : Hid (Gch w (.slice (some ⟨gp, op, none⟩) np cp) (.slice (some ⟨gq_, oq, none⟩) nq cq) (.slice (some ⟨g, 0, none⟩) np co) PW' PH' QW' QH' bo ps qs (gridL PW' (PW' * PH') (upto rx ry rw_ rh (Rn : Int) (Cn : Int)) (gq (fun p q => Fb.overL q.1 q.2 p.1 p.2) PW' ps QW' qs x y) ps) wx) := HGD.out.on hbx
            have HFx : Hid (Four wx br (.int .i64 rx) (.int .i64 ry) (.int .i64 rw_) (.int .i64 rh)) := HFR2.out.drew.on hbx
            clear hbx
            have hlen : (gridL PW' (PW' * PH') (upto rx ry rw_ rh (Rn : Int) (Cn : Int)) (gq (fun p q => Fb.overL q.1 q.2 p.1 p.2) PW' ps QW' qs x y) ps).length = np := by rw [grid_len]; exact HPL.out.symm
            have HKL : Hid (K < (gridL PW' (PW' * PH') (upto rx ry rw_ rh (Rn : Int) (Cn : Int)) (gq (fun p q => Fb.overL q.1 q.2 p.1 p.2) PW' ps QW' qs x y) ps).length) := by unfold Hid; rw [hlen]; exact hKn
            have hown : Hid (wx.ownsRow (w.heap.size + 4) 42 2 (.slice (some ⟨g, 0, none⟩) np co) np (pixCells (gridL PW' (PW' * PH') (upto rx ry rw_ rh (Rn : Int) (Cn : Int)) (gq (fun p q => Fb.overL q.1 q.2 p.1 p.2) PW' ps QW' qs x y) ps))) := by have h := HGx.out.own; rw [hlen] at h; exact h
            obtain ⟨u0, hu0⟩ : ∃ u, wx.cell? ⟨g, K * 2, none⟩ = some u := by
              exact ⟨_, (hown.out.cellAt (K * 2) (by omega)).trans (pixCells_at _ K HKL.out).1⟩
            obtain ⟨u1, hu1⟩ : ∃ u, wx.cell? ⟨g, K * 2 + 1, none⟩ = some u := by
              exact ⟨_, (hown.out.cellAt (K * 2 + 1) (by omega)).trans (pixCells_at _ K HKL.out).2⟩
            have hf0 : wx.frozen? ⟨g, K * 2, none⟩ = false := hown.out.frozenAt _
            have hf1 : wx.frozen? ⟨g, K * 2 + 1, none⟩ = false := hown.out.frozenAt _
            have HGs : Hid (Gch w (.slice (some ⟨gp, op, none⟩) np cp) (.slice (some ⟨gq_, oq, none⟩) nq cq) (.slice (some ⟨g, 0, none⟩) np co) PW' PH' QW' QH' bo ps qs ((gridL PW' (PW' * PH') (upto rx ry rw_ rh (Rn : Int) (Cn : Int)) (gq (fun p q => Fb.overL q.1 q.2 p.1 p.2) PW' ps QW' qs x y) ps).set K (nv, na)) ((wx.setCell ⟨g, K * 2, none⟩ (.int .i64 nv)).setCell ⟨g, K * 2 + 1, none⟩ (.int .i64 na))) := HGx.out.store RP.out RQ.out hgB hgb hlen nv na
            have HFs : Hid (Four ((wx.setCell ⟨g, K * 2, none⟩ (.int .i64 nv)).setCell ⟨g, K * 2 + 1, none⟩ (.int .i64 na)) br (.int .i64 rx) (.int .i64 ry) (.int .i64 rw_) (.int .i64 rh)) := (HFx.out.other (by omega)).other (by omega)
            have HGn : Hid ((gridL PW' (PW' * PH') (upto rx ry rw_ rh (Rn : Int) (Cn : Int)) (gq (fun p q => Fb.overL q.1 q.2 p.1 p.2) PW' ps QW' qs x y) ps).set K (nv, na) = gridL PW' (PW' * PH') (upto rx ry rw_ rh (Rn : Int) ((Cn : Int) + 1)) (gq (fun p q => Fb.overL q.1 q.2 p.1 p.2) PW' ps QW' qs x y) ps) := by
              unfold Hid
              rw [← upto_step PW' PH' Rn Cn _ ps rx ry rw_ rh (by omega) (by omega) C0 hC R0 hR, HK.out, HGQ.out, HPP.out, HQQ.out]
              rw [show Fb.overL qv qa pv pa = (nv, na) from HNV.out]
            rw [HGn.out] at HGs
            clear HGn hlen HKL hown
            refine hK.out _ _ ?_ (fun hHeld => ?_)
            · exact KEEP.out _ _ HGx.out
            clear hK K_
            refine tk (v := ?_) 24 rfl (by kernel_rfl) (by rfl) ?_ ?_
            rotate_left
            · (intro w hSw; (try dsimp only at hSw); go_simp; try with_reducible rfl)
            refine wpAnyH_ready (rs := [25]) (by kernel_rfl) (by simp) ?_
            refine AllReadyH.cons rfl (fun K_ hK => ?_) AllReadyH.nil
            go_simp
            refine hK.out _ _ ?_ (fun hHeld => ?_)
            · exact KEEP.out _ _ HGs.out
            clear hK K_
            refine wpAnyH_done (by kernel_rfl) ?_ _
            go_wp2_with fail
            go_roundw
            case rel => exact ⟨(Cn : Int) + 1, by go_num, by omega, by omega, HFs, HGs⟩
            case measure => simp [intOf]; omega
            -- END
          · have hC41 : C = rx + rw_ := by omega
            subst hC41
            rw [upto_row] at HG2
            go_wp2_with fail
            go_roundw
            case rel => exact ⟨R + 1, by go_num, by omega, by omega, HFR2, HG2⟩
            case measure => simp [intOf]; omega
      · have hR41 : R = ry + rh := by omega
        subst hR41
        have hend := upto_end (fun p q => Fb.overL q.1 q.2 p.1 p.2) PW' PH' ps QW' QH' qs x y a b c d (r1a, r1b, r1c, r1d) (rx, ry, rw_, rh) (by omega) (by rw [HNP.out]; exact HPL.out) HR1.out HR2.out
        simp only at hend
        have HG9 := HG
        rw [hend] at HG9
        obtain ⟨o0, o1, o2, _, _, _, _⟩ := HG9.out.to
        obtain ⟨q0, q1, q2, f0, f1, f2, _⟩ := HG9.out.tr
        go_wp2_with fail
        refine bodyPost_ret (v := .agg #[.int .i64 (PW' : Int), .int .i64 (PH' : Int), .slice (some ⟨g, 0, none⟩) np co]) (by simp [results, Tryd.results79, go_sem, q0, q1, q2]) rfl ⟨_, rfl, ownsRow_setCell_below (ownsRow_setCell_below (ownsRow_setCell_below HG9.out.own (a := ⟨w.heap.size + 1 + 1 + 1, 0, none⟩) (show w.heap.size + 1 + 1 + 1 < w.heap.size + 4 by omega) _) (a := ⟨w.heap.size + 1 + 1 + 1, 1, none⟩) (show w.heap.size + 1 + 1 + 1 < w.heap.size + 4 by omega) _) (a := ⟨w.heap.size + 1 + 1 + 1, 2, none⟩) (show w.heap.size + 1 + 1 + 1 < w.heap.size + 4 by omega) _, ?_⟩
        exact ((HG9.out.bel.setCell (show w.heap.size ≤ w.heap.size + 1 + 1 + 1 by omega) _).setCell (show w.heap.size ≤ w.heap.size + 1 + 1 + 1 by omega) _).setCell (show w.heap.size ≤ w.heap.size + 1 + 1 + 1 by omega) _
end Go.Proofs.YtjmkfcgnadpbaaaDoor
