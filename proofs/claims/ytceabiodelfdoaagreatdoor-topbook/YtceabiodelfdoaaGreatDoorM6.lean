/- Some of the walks, in one text. -/
import Derived.Test.YtceabiodelfdoaaGreatDoorM5
/- Walks of blend.Add and blend.Put. -/
namespace Go.Proofs.YtceabiodelfdoaaGreatDoor
open Go.RowKit

/-- what holds on the road: the pictures p and q, what is answered -/
structure Gad (w : World) (vp vq : Value) (PW PH QW QH : Nat) (ps qs : List (Int × Int)) (w' : World) : Prop where
  tp : Three w' w.heap.size (.int .i64 (PW : Int)) (.int .i64 (PH : Int)) vp
  tq : Three w' (w.heap.size + 1) (.int .i64 (QW : Int)) (.int .i64 (QH : Int)) vq
  tr : Three w' (w.heap.size + 1 + 1) (.int .i64 0) (.int .i64 0) (.slice none 0 0)
  rp : RdP w' vp ps
  rq : RdP w' vq qs
  bel : Below w.heap.size w w'
theorem Gad.on {w : World} {vp vq : Value} {PW PH QW QH : Nat} {ps qs : List (Int × Int)} {w1 w2 : World} (h : Gad w vp vq PW PH QW QH ps qs w1) (hb : Below w1.heap.size w1 w2) : Gad w vp vq PW PH QW QH ps qs w2 :=
  ⟨h.tp.on hb, h.tq.on hb, h.tr.on hb, h.rp.on hb, h.rq.on hb, h.bel.trans (hb.mono h.bel.size)⟩
theorem Gad.drew {w : World} {vp vq : Value} {PW PH QW QH : Nat} {ps qs : List (Int × Int)} {w1 : World} (h : Gad w vp vq PW PH QW QH ps qs w1) : Gad w vp vq PW PH QW QH ps qs w1.drew :=
  ⟨h.tp.drew, h.tq.drew, h.tr.drew, h.rp, h.rq, h.bel.drew⟩
set_option maxHeartbeats 2000000 in
set_option maxRecDepth 100000 in
theorem add_any (PW PH QW QH : Nat) (vp vq : Value) (ps qs : List (Int × Int)) (x y : Int) (w : World) (HP : Hid (checkL PW PH ps = 0)) (HQ : Hid (checkL QW QH qs = 0)) (RP : Hid (RdP w vp ps)) (RQ : Hid (RdP w vq qs))
    (hx : -20 ≤ x) (hx2 : x ≤ 20) (hy : -20 ≤ y) (hy2 : y ≤ 20) :
    Calls Tryz.prog 94 #[picV PW PH vp, picV QW QH vq, .int .i64 x, .int .i64 y] w
      fun e w' => ∃ v', e = .returned (picV PW PH v') ∧ w'.ownsRow (w.heap.size + 3) 52 2 v' (chL addP PW ps QW QH qs x y 0 0 PW PH).length (pixCells (chL addP PW ps QW QH qs x y 0 0 PW PH)) ∧ Below w.heap.size w w' := by
  obtain ⟨PW', PH', e1, e2, p1, p2, p3, p4, pl, _⟩ := check_zero _ _ _ HP.out
  obtain rfl : PW' = PW := by omega
  obtain rfl : PH' = PH := by omega
  clear e1 e2
  obtain ⟨ap, cp, hvp, hlp, hcp, _⟩ := RP.out
  obtain ⟨aq, cq, hvq, hlq, hcq, _⟩ := RQ.out
  obtain ⟨np, HNP⟩ : ∃ n, Hid (ps.length = n) := ⟨_, (rfl : _ = _)⟩
  obtain ⟨nq, HNQ⟩ : ∃ n, Hid (qs.length = n) := ⟨_, (rfl : _ = _)⟩
  rw [HNP.out] at hvp hlp
  rw [HNQ.out] at hvq hlq
  clear pl
  subst hvp hvq
  unfold picV
  have T0 := ((three_start w (.int .i64 (PW' : Int)) (.int .i64 (PH' : Int)) (.slice ap np cp) 46).alloc (.cells #[.int .i64 (QW : Int), .int .i64 (QH : Int), .slice aq nq cq] 46)).alloc (.cells #[.int .i64 0, .int .i64 0, .slice none 0 0] 46)
  have T1 := (three_begin (w.alloc (.cells #[.int .i64 (PW' : Int), .int .i64 (PH' : Int), .slice ap np cp] 46)) (.int .i64 (QW : Int)) (.int .i64 (QH : Int)) (.slice aq nq cq) 46 (w.heap.size + 1) (by simp)).alloc (.cells #[.int .i64 0, .int .i64 0, .slice none 0 0] 46)
  have T2 := three_begin ((w.alloc (.cells #[.int .i64 (PW' : Int), .int .i64 (PH' : Int), .slice ap np cp] 46)).alloc (.cells #[.int .i64 (QW : Int), .int .i64 (QH : Int), .slice aq nq cq] 46)) (.int .i64 0) (.int .i64 0) (.slice none 0 0) 46 (w.heap.size + 1 + 1) (by simp)
  obtain ⟨W0, HW0⟩ : ∃ W0, Hid (((w.alloc (.cells #[.int .i64 (PW' : Int), .int .i64 (PH' : Int), .slice ap np cp] 46)).alloc (.cells #[.int .i64 (QW : Int), .int .i64 (QH : Int), .slice aq nq cq] 46)).alloc (.cells #[.int .i64 0, .int .i64 0, .slice none 0 0] 46) = W0) := ⟨_, (rfl : _ = _)⟩
  have hb0 : Below w.heap.size w W0 := by rw [← HW0.out]; exact (((Below.refl _ _).alloc (Nat.le_refl _) _).alloc (by simp) _).alloc (by simp; omega) _
  rw [HW0.out] at T0 T1 T2
  have HG0 : Hid (Gad w (.slice ap np cp) (.slice aq nq cq) PW' PH' QW QH ps qs W0) := ⟨T0, T1, T2, RP.out.on hb0, RQ.out.on hb0, hb0⟩
  have HGD : Hid (Gad w (.slice ap np cp) (.slice aq nq cq) PW' PH' QW QH ps qs W0.drew) := HG0.out.drew
  clear T0 T1 T2 hb0 HG0
  have KEEP : Hid (∀ W2, Gad w (.slice ap np cp) (.slice aq nq cq) PW' PH' QW QH ps qs W2 → (W2.cell? ⟨w.heap.size, 0, none⟩ = some (.int .i64 (PW' : Int)) ∧ W2.cell? ⟨w.heap.size, 1, none⟩ = some (.int .i64 (PH' : Int)) ∧ W2.cell? ⟨w.heap.size, 2, none⟩ = some (.slice ap np cp) ∧ W2.cell? ⟨w.heap.size + 1, 0, none⟩ = some (.int .i64 (QW : Int)) ∧ W2.cell? ⟨w.heap.size + 1, 1, none⟩ = some (.int .i64 (QH : Int)) ∧ W2.cell? ⟨w.heap.size + 1, 2, none⟩ = some (.slice aq nq cq))) := fun W2 h => ⟨h.tp.c0, h.tp.c1, h.tp.c2, h.tq.c0, h.tq.c1, h.tq.c2⟩
  go_enter Tryz.func94, Tryz.ntmps94
  go_wp2_with fail
  rw [HW0.out]
  refine wp_region_held_drew (S := (fun w' => w'.cell? ⟨w.heap.size, 0, none⟩ = some (.int .i64 (PW' : Int)) ∧ w'.cell? ⟨w.heap.size, 1, none⟩ = some (.int .i64 (PH' : Int)) ∧ w'.cell? ⟨w.heap.size, 2, none⟩ = some (.slice ap np cp) ∧ w'.cell? ⟨w.heap.size + 1, 0, none⟩ = some (.int .i64 (QW : Int)) ∧ w'.cell? ⟨w.heap.size + 1, 1, none⟩ = some (.int .i64 (QH : Int)) ∧ w'.cell? ⟨w.heap.size + 1, 2, none⟩ = some (.slice aq nq cq))) (by kernel_rfl) ?_ (fun hHeld => ?_)
  · exact KEEP.out _ HGD.out
  refine tk (v := ?_) 0 rfl (by kernel_rfl) (by rfl) ?_ ?_
  rotate_left
  · (intro w hSw; (try dsimp only at hSw); go_simp; try with_reducible rfl)
  refine tk (v := ?_) 1 rfl (by kernel_rfl) (by rfl) ?_ ?_
  rotate_left
  · (intro w hSw; (try dsimp only at hSw); go_simp; try with_reducible rfl)
  refine tk (v := ?_) 2 rfl (by kernel_rfl) (by rfl) ?_ ?_
  rotate_left
  · (intro w hSw; (try dsimp only at hSw); go_simp; try with_reducible rfl)
  refine tk (v := ?_) 3 rfl (by kernel_rfl) (by rfl) ?_ ?_
  rotate_left
  · (intro w hSw; (try dsimp only at hSw); go_simp; try with_reducible rfl)
  refine tk (v := ?_) 4 rfl (by kernel_rfl) (by rfl) ?_ ?_
  rotate_left
  · (intro w hSw; (try dsimp only at hSw); go_simp; try with_reducible rfl)
  refine wpAnyH_ready (rs := [5]) (by kernel_rfl) (by simp) ?_
  refine AllReadyH.cons rfl (fun K_ hK => ?_) AllReadyH.nil
  go_simp
  refine (whole_any (PW' : Int) (PH' : Int) ap np cp _).mono ?_
  unfold rectV
  rintro e w1 ⟨rfl, hb1⟩
  have HG1 : Hid (Gad w (.slice ap np cp) (.slice aq nq cq) PW' PH' QW QH ps qs w1) := HGD.out.on hb1
  clear hb1 HGD
  refine hK.out _ _ ?_ (fun hHeld => ?_)
  · exact KEEP.out _ HG1.out
  clear hK K_
  refine wpAnyH_ready (rs := [6]) (by kernel_rfl) (by simp) ?_
  refine AllReadyH.cons rfl (fun K_ hK => ?_) AllReadyH.nil
  go_simp
  refine (changeA_any PW' PH' QW QH (.slice ap np cp) (.slice aq nq cq) ps qs x y 0 0 (PW' : Int) (PH' : Int) w1 HP HQ HG1.out.rp HG1.out.rq hx hx2 hy hy2 (by omega) (by omega) (by omega) (by omega) (by omega) (by omega) (by omega) (by omega)).mono ?_
  unfold picV
  rintro e w2 ⟨v2, rfl, ho2, hb2⟩
  have HG2 : Hid (Gad w (.slice ap np cp) (.slice aq nq cq) PW' PH' QW QH ps qs w2) := HG1.out.on hb2
  have hsz : w.heap.size + 3 ≤ w1.heap.size + 4 := by have := HG1.out.tr.lt; omega
  have HO2 := hide_own (own_mono ho2 hsz)
  obtain ⟨n2, HN2⟩ : ∃ n, Hid ((chL addP PW' ps QW QH qs x y 0 0 (PW' : Int) (PH' : Int)).length = n) := ⟨_, (rfl : _ = _)⟩
  rw [HN2.out] at HO2
  obtain ⟨a2, c2, hv2⟩ := own_any HO2.out
  subst hv2
  clear ho2 hsz
  obtain ⟨q0, q1, q2, f0, f1, f2, _⟩ := HG2.out.tr
  clear hb2 HG1
  refine hK.out _ _ ?_ (fun hHeld => ?_)
  · exact KEEP.out _ HG2.out
  clear hK K_
  have hb3 : Below (w.heap.size + 1 + 1) w2 (((w2.setCell ⟨w.heap.size + 1 + 1, 0, none⟩ (.int .i64 (PW' : Int))).setCell ⟨w.heap.size + 1 + 1, 1, none⟩ (.int .i64 (PH' : Int))).setCell ⟨w.heap.size + 1 + 1, 2, none⟩ (.slice a2 n2 c2)) := by
    have h0 : Below (w.heap.size + 1 + 1) w2 w2 := Below.refl _ _
    exact ((h0.setCell (show w.heap.size + 1 + 1 ≤ w.heap.size + 1 + 1 by omega) _).setCell (show w.heap.size + 1 + 1 ≤ w.heap.size + 1 + 1 by omega) _).setCell (show w.heap.size + 1 + 1 ≤ w.heap.size + 1 + 1 by omega) _
  have hbf : Below w.heap.size w (((w2.setCell ⟨w.heap.size + 1 + 1, 0, none⟩ (.int .i64 (PW' : Int))).setCell ⟨w.heap.size + 1 + 1, 1, none⟩ (.int .i64 (PH' : Int))).setCell ⟨w.heap.size + 1 + 1, 2, none⟩ (.slice a2 n2 c2)) := HG2.out.bel.trans (hb3.mono (by omega))
  have HR3 : Hid ((((w2.setCell ⟨w.heap.size + 1 + 1, 0, none⟩ (.int .i64 (PW' : Int))).setCell ⟨w.heap.size + 1 + 1, 1, none⟩ (.int .i64 (PH' : Int))).setCell ⟨w.heap.size + 1 + 1, 2, none⟩ (.slice a2 n2 c2)).ownsRow (w.heap.size + 3) 52 2 (.slice a2 n2 c2) n2 (pixCells (chL addP PW' ps QW QH qs x y 0 0 (PW' : Int) (PH' : Int)))) := ownsRow_setCell_below (ownsRow_setCell_below (ownsRow_setCell_below HO2.out (a := ⟨w.heap.size + 1 + 1, 0, none⟩) (show w.heap.size + 1 + 1 < w.heap.size + 3 by omega) _) (a := ⟨w.heap.size + 1 + 1, 1, none⟩) (show w.heap.size + 1 + 1 < w.heap.size + 3 by omega) _) (a := ⟨w.heap.size + 1 + 1, 2, none⟩) (show w.heap.size + 1 + 1 < w.heap.size + 3 by omega) _
  have HK3 : Hid ((((w2.setCell ⟨w.heap.size + 1 + 1, 0, none⟩ (.int .i64 (PW' : Int))).setCell ⟨w.heap.size + 1 + 1, 1, none⟩ (.int .i64 (PH' : Int))).setCell ⟨w.heap.size + 1 + 1, 2, none⟩ (.slice a2 n2 c2)).cell? ⟨w.heap.size, 0, none⟩ = some (.int .i64 (PW' : Int)) ∧ (((w2.setCell ⟨w.heap.size + 1 + 1, 0, none⟩ (.int .i64 (PW' : Int))).setCell ⟨w.heap.size + 1 + 1, 1, none⟩ (.int .i64 (PH' : Int))).setCell ⟨w.heap.size + 1 + 1, 2, none⟩ (.slice a2 n2 c2)).cell? ⟨w.heap.size, 1, none⟩ = some (.int .i64 (PH' : Int)) ∧ (((w2.setCell ⟨w.heap.size + 1 + 1, 0, none⟩ (.int .i64 (PW' : Int))).setCell ⟨w.heap.size + 1 + 1, 1, none⟩ (.int .i64 (PH' : Int))).setCell ⟨w.heap.size + 1 + 1, 2, none⟩ (.slice a2 n2 c2)).cell? ⟨w.heap.size, 2, none⟩ = some (.slice ap np cp) ∧ (((w2.setCell ⟨w.heap.size + 1 + 1, 0, none⟩ (.int .i64 (PW' : Int))).setCell ⟨w.heap.size + 1 + 1, 1, none⟩ (.int .i64 (PH' : Int))).setCell ⟨w.heap.size + 1 + 1, 2, none⟩ (.slice a2 n2 c2)).cell? ⟨w.heap.size + 1, 0, none⟩ = some (.int .i64 (QW : Int)) ∧ (((w2.setCell ⟨w.heap.size + 1 + 1, 0, none⟩ (.int .i64 (PW' : Int))).setCell ⟨w.heap.size + 1 + 1, 1, none⟩ (.int .i64 (PH' : Int))).setCell ⟨w.heap.size + 1 + 1, 2, none⟩ (.slice a2 n2 c2)).cell? ⟨w.heap.size + 1, 1, none⟩ = some (.int .i64 (QH : Int)) ∧ (((w2.setCell ⟨w.heap.size + 1 + 1, 0, none⟩ (.int .i64 (PW' : Int))).setCell ⟨w.heap.size + 1 + 1, 1, none⟩ (.int .i64 (PH' : Int))).setCell ⟨w.heap.size + 1 + 1, 2, none⟩ (.slice a2 n2 c2)).cell? ⟨w.heap.size + 1, 2, none⟩ = some (.slice aq nq cq)) := by
    have h1 := HG2.out.tp.onB hb3 (by omega)
    have h2 := HG2.out.tq.onB hb3 (by omega)
    exact ⟨h1.c0, h1.c1, h1.c2, h2.c0, h2.c1, h2.c2⟩
  refine wpAnyH_ready (rs := [7]) (by kernel_rfl) (by simp) ?_
  refine AllReadyH.cons rfl (fun K_ hK => ?_) AllReadyH.nil
  go_simp
  refine hK.out _ _ ?_ (fun hHeld => ?_)
  · exact HK3.out
  clear hK K_
  refine wpAnyH_done (by kernel_rfl) ?_ _
  go_wp2_with fail
  exact bodyPost_ret (v := .agg #[.int .i64 (PW' : Int), .int .i64 (PH' : Int), .slice a2 n2 c2]) (by simp [results, Tryz.results94, go_sem, q0, q1, q2]) rfl ⟨_, rfl, by rw [HN2.out]; exact HR3.out, hbf⟩

set_option maxHeartbeats 2000000 in
set_option maxRecDepth 100000 in
theorem put_any (PW PH QW QH : Nat) (vp vq : Value) (ps qs : List (Int × Int)) (x y : Int) (w : World) (HP : Hid (checkL PW PH ps = 0)) (HQ : Hid (checkL QW QH qs = 0)) (RP : Hid (RdP w vp ps)) (RQ : Hid (RdP w vq qs))
    (hx : -20 ≤ x) (hx2 : x ≤ 20) (hy : -20 ≤ y) (hy2 : y ≤ 20) :
    Calls Tryz.prog 95 #[picV PW PH vp, picV QW QH vq, .int .i64 x, .int .i64 y] w
      fun e w' => ∃ v', e = .returned (picV PW PH v') ∧ w'.ownsRow (w.heap.size + 3) 52 2 v' (chL (fun _ q => q) PW ps QW QH qs x y 0 0 PW PH).length (pixCells (chL (fun _ q => q) PW ps QW QH qs x y 0 0 PW PH)) ∧ Below w.heap.size w w' := by
  obtain ⟨PW', PH', e1, e2, p1, p2, p3, p4, pl, _⟩ := check_zero _ _ _ HP.out
  obtain rfl : PW' = PW := by omega
  obtain rfl : PH' = PH := by omega
  clear e1 e2
  obtain ⟨ap, cp, hvp, hlp, hcp, _⟩ := RP.out
  obtain ⟨aq, cq, hvq, hlq, hcq, _⟩ := RQ.out
  obtain ⟨np, HNP⟩ : ∃ n, Hid (ps.length = n) := ⟨_, (rfl : _ = _)⟩
  obtain ⟨nq, HNQ⟩ : ∃ n, Hid (qs.length = n) := ⟨_, (rfl : _ = _)⟩
  rw [HNP.out] at hvp hlp
  rw [HNQ.out] at hvq hlq
  clear pl
  subst hvp hvq
  unfold picV
  have T0 := ((three_start w (.int .i64 (PW' : Int)) (.int .i64 (PH' : Int)) (.slice ap np cp) 46).alloc (.cells #[.int .i64 (QW : Int), .int .i64 (QH : Int), .slice aq nq cq] 46)).alloc (.cells #[.int .i64 0, .int .i64 0, .slice none 0 0] 46)
  have T1 := (three_begin (w.alloc (.cells #[.int .i64 (PW' : Int), .int .i64 (PH' : Int), .slice ap np cp] 46)) (.int .i64 (QW : Int)) (.int .i64 (QH : Int)) (.slice aq nq cq) 46 (w.heap.size + 1) (by simp)).alloc (.cells #[.int .i64 0, .int .i64 0, .slice none 0 0] 46)
  have T2 := three_begin ((w.alloc (.cells #[.int .i64 (PW' : Int), .int .i64 (PH' : Int), .slice ap np cp] 46)).alloc (.cells #[.int .i64 (QW : Int), .int .i64 (QH : Int), .slice aq nq cq] 46)) (.int .i64 0) (.int .i64 0) (.slice none 0 0) 46 (w.heap.size + 1 + 1) (by simp)
  obtain ⟨W0, HW0⟩ : ∃ W0, Hid (((w.alloc (.cells #[.int .i64 (PW' : Int), .int .i64 (PH' : Int), .slice ap np cp] 46)).alloc (.cells #[.int .i64 (QW : Int), .int .i64 (QH : Int), .slice aq nq cq] 46)).alloc (.cells #[.int .i64 0, .int .i64 0, .slice none 0 0] 46) = W0) := ⟨_, (rfl : _ = _)⟩
  have hb0 : Below w.heap.size w W0 := by rw [← HW0.out]; exact (((Below.refl _ _).alloc (Nat.le_refl _) _).alloc (by simp) _).alloc (by simp; omega) _
  rw [HW0.out] at T0 T1 T2
  have HG0 : Hid (Gad w (.slice ap np cp) (.slice aq nq cq) PW' PH' QW QH ps qs W0) := ⟨T0, T1, T2, RP.out.on hb0, RQ.out.on hb0, hb0⟩
  have HGD : Hid (Gad w (.slice ap np cp) (.slice aq nq cq) PW' PH' QW QH ps qs W0.drew) := HG0.out.drew
  clear T0 T1 T2 hb0 HG0
  have KEEP : Hid (∀ W2, Gad w (.slice ap np cp) (.slice aq nq cq) PW' PH' QW QH ps qs W2 → (W2.cell? ⟨w.heap.size, 0, none⟩ = some (.int .i64 (PW' : Int)) ∧ W2.cell? ⟨w.heap.size, 1, none⟩ = some (.int .i64 (PH' : Int)) ∧ W2.cell? ⟨w.heap.size, 2, none⟩ = some (.slice ap np cp) ∧ W2.cell? ⟨w.heap.size + 1, 0, none⟩ = some (.int .i64 (QW : Int)) ∧ W2.cell? ⟨w.heap.size + 1, 1, none⟩ = some (.int .i64 (QH : Int)) ∧ W2.cell? ⟨w.heap.size + 1, 2, none⟩ = some (.slice aq nq cq))) := fun W2 h => ⟨h.tp.c0, h.tp.c1, h.tp.c2, h.tq.c0, h.tq.c1, h.tq.c2⟩
  go_enter Tryz.func95, Tryz.ntmps95
  go_wp2_with fail
  rw [HW0.out]
  refine wp_region_held_drew (S := (fun w' => w'.cell? ⟨w.heap.size, 0, none⟩ = some (.int .i64 (PW' : Int)) ∧ w'.cell? ⟨w.heap.size, 1, none⟩ = some (.int .i64 (PH' : Int)) ∧ w'.cell? ⟨w.heap.size, 2, none⟩ = some (.slice ap np cp) ∧ w'.cell? ⟨w.heap.size + 1, 0, none⟩ = some (.int .i64 (QW : Int)) ∧ w'.cell? ⟨w.heap.size + 1, 1, none⟩ = some (.int .i64 (QH : Int)) ∧ w'.cell? ⟨w.heap.size + 1, 2, none⟩ = some (.slice aq nq cq))) (by kernel_rfl) ?_ (fun hHeld => ?_)
  · exact KEEP.out _ HGD.out
  refine tk (v := ?_) 0 rfl (by kernel_rfl) (by rfl) ?_ ?_
  rotate_left
  · (intro w hSw; (try dsimp only at hSw); go_simp; try with_reducible rfl)
  refine tk (v := ?_) 1 rfl (by kernel_rfl) (by rfl) ?_ ?_
  rotate_left
  · (intro w hSw; (try dsimp only at hSw); go_simp; try with_reducible rfl)
  refine tk (v := ?_) 2 rfl (by kernel_rfl) (by rfl) ?_ ?_
  rotate_left
  · (intro w hSw; (try dsimp only at hSw); go_simp; try with_reducible rfl)
  refine tk (v := ?_) 3 rfl (by kernel_rfl) (by rfl) ?_ ?_
  rotate_left
  · (intro w hSw; (try dsimp only at hSw); go_simp; try with_reducible rfl)
  refine tk (v := ?_) 4 rfl (by kernel_rfl) (by rfl) ?_ ?_
  rotate_left
  · (intro w hSw; (try dsimp only at hSw); go_simp; try with_reducible rfl)
  refine wpAnyH_ready (rs := [5]) (by kernel_rfl) (by simp) ?_
  refine AllReadyH.cons rfl (fun K_ hK => ?_) AllReadyH.nil
  go_simp
  refine (whole_any (PW' : Int) (PH' : Int) ap np cp _).mono ?_
  unfold rectV
  rintro e w1 ⟨rfl, hb1⟩
  have HG1 : Hid (Gad w (.slice ap np cp) (.slice aq nq cq) PW' PH' QW QH ps qs w1) := HGD.out.on hb1
  clear hb1 HGD
  refine hK.out _ _ ?_ (fun hHeld => ?_)
  · exact KEEP.out _ HG1.out
  clear hK K_
  refine wpAnyH_ready (rs := [6]) (by kernel_rfl) (by simp) ?_
  refine AllReadyH.cons rfl (fun K_ hK => ?_) AllReadyH.nil
  go_simp
  refine (changeP_any PW' PH' QW QH (.slice ap np cp) (.slice aq nq cq) ps qs x y 0 0 (PW' : Int) (PH' : Int) w1 HP HQ HG1.out.rp HG1.out.rq hx hx2 hy hy2 (by omega) (by omega) (by omega) (by omega) (by omega) (by omega) (by omega) (by omega)).mono ?_
  unfold picV
  rintro e w2 ⟨v2, rfl, ho2, hb2⟩
  have HG2 : Hid (Gad w (.slice ap np cp) (.slice aq nq cq) PW' PH' QW QH ps qs w2) := HG1.out.on hb2
  have hsz : w.heap.size + 3 ≤ w1.heap.size + 4 := by have := HG1.out.tr.lt; omega
  have HO2 := hide_own (own_mono ho2 hsz)
  obtain ⟨n2, HN2⟩ : ∃ n, Hid ((chL (fun _ q => q) PW' ps QW QH qs x y 0 0 (PW' : Int) (PH' : Int)).length = n) := ⟨_, (rfl : _ = _)⟩
  rw [HN2.out] at HO2
  obtain ⟨a2, c2, hv2⟩ := own_any HO2.out
  subst hv2
  clear ho2 hsz
  obtain ⟨q0, q1, q2, f0, f1, f2, _⟩ := HG2.out.tr
  clear hb2 HG1
  refine hK.out _ _ ?_ (fun hHeld => ?_)
  · exact KEEP.out _ HG2.out
  clear hK K_
  have hb3 : Below (w.heap.size + 1 + 1) w2 (((w2.setCell ⟨w.heap.size + 1 + 1, 0, none⟩ (.int .i64 (PW' : Int))).setCell ⟨w.heap.size + 1 + 1, 1, none⟩ (.int .i64 (PH' : Int))).setCell ⟨w.heap.size + 1 + 1, 2, none⟩ (.slice a2 n2 c2)) := by
    have h0 : Below (w.heap.size + 1 + 1) w2 w2 := Below.refl _ _
    exact ((h0.setCell (show w.heap.size + 1 + 1 ≤ w.heap.size + 1 + 1 by omega) _).setCell (show w.heap.size + 1 + 1 ≤ w.heap.size + 1 + 1 by omega) _).setCell (show w.heap.size + 1 + 1 ≤ w.heap.size + 1 + 1 by omega) _
  have hbf : Below w.heap.size w (((w2.setCell ⟨w.heap.size + 1 + 1, 0, none⟩ (.int .i64 (PW' : Int))).setCell ⟨w.heap.size + 1 + 1, 1, none⟩ (.int .i64 (PH' : Int))).setCell ⟨w.heap.size + 1 + 1, 2, none⟩ (.slice a2 n2 c2)) := HG2.out.bel.trans (hb3.mono (by omega))
  have HR3 : Hid ((((w2.setCell ⟨w.heap.size + 1 + 1, 0, none⟩ (.int .i64 (PW' : Int))).setCell ⟨w.heap.size + 1 + 1, 1, none⟩ (.int .i64 (PH' : Int))).setCell ⟨w.heap.size + 1 + 1, 2, none⟩ (.slice a2 n2 c2)).ownsRow (w.heap.size + 3) 52 2 (.slice a2 n2 c2) n2 (pixCells (chL (fun _ q => q) PW' ps QW QH qs x y 0 0 (PW' : Int) (PH' : Int)))) := ownsRow_setCell_below (ownsRow_setCell_below (ownsRow_setCell_below HO2.out (a := ⟨w.heap.size + 1 + 1, 0, none⟩) (show w.heap.size + 1 + 1 < w.heap.size + 3 by omega) _) (a := ⟨w.heap.size + 1 + 1, 1, none⟩) (show w.heap.size + 1 + 1 < w.heap.size + 3 by omega) _) (a := ⟨w.heap.size + 1 + 1, 2, none⟩) (show w.heap.size + 1 + 1 < w.heap.size + 3 by omega) _
  have HK3 : Hid ((((w2.setCell ⟨w.heap.size + 1 + 1, 0, none⟩ (.int .i64 (PW' : Int))).setCell ⟨w.heap.size + 1 + 1, 1, none⟩ (.int .i64 (PH' : Int))).setCell ⟨w.heap.size + 1 + 1, 2, none⟩ (.slice a2 n2 c2)).cell? ⟨w.heap.size, 0, none⟩ = some (.int .i64 (PW' : Int)) ∧ (((w2.setCell ⟨w.heap.size + 1 + 1, 0, none⟩ (.int .i64 (PW' : Int))).setCell ⟨w.heap.size + 1 + 1, 1, none⟩ (.int .i64 (PH' : Int))).setCell ⟨w.heap.size + 1 + 1, 2, none⟩ (.slice a2 n2 c2)).cell? ⟨w.heap.size, 1, none⟩ = some (.int .i64 (PH' : Int)) ∧ (((w2.setCell ⟨w.heap.size + 1 + 1, 0, none⟩ (.int .i64 (PW' : Int))).setCell ⟨w.heap.size + 1 + 1, 1, none⟩ (.int .i64 (PH' : Int))).setCell ⟨w.heap.size + 1 + 1, 2, none⟩ (.slice a2 n2 c2)).cell? ⟨w.heap.size, 2, none⟩ = some (.slice ap np cp) ∧ (((w2.setCell ⟨w.heap.size + 1 + 1, 0, none⟩ (.int .i64 (PW' : Int))).setCell ⟨w.heap.size + 1 + 1, 1, none⟩ (.int .i64 (PH' : Int))).setCell ⟨w.heap.size + 1 + 1, 2, none⟩ (.slice a2 n2 c2)).cell? ⟨w.heap.size + 1, 0, none⟩ = some (.int .i64 (QW : Int)) ∧ (((w2.setCell ⟨w.heap.size + 1 + 1, 0, none⟩ (.int .i64 (PW' : Int))).setCell ⟨w.heap.size + 1 + 1, 1, none⟩ (.int .i64 (PH' : Int))).setCell ⟨w.heap.size + 1 + 1, 2, none⟩ (.slice a2 n2 c2)).cell? ⟨w.heap.size + 1, 1, none⟩ = some (.int .i64 (QH : Int)) ∧ (((w2.setCell ⟨w.heap.size + 1 + 1, 0, none⟩ (.int .i64 (PW' : Int))).setCell ⟨w.heap.size + 1 + 1, 1, none⟩ (.int .i64 (PH' : Int))).setCell ⟨w.heap.size + 1 + 1, 2, none⟩ (.slice a2 n2 c2)).cell? ⟨w.heap.size + 1, 2, none⟩ = some (.slice aq nq cq)) := by
    have h1 := HG2.out.tp.onB hb3 (by omega)
    have h2 := HG2.out.tq.onB hb3 (by omega)
    exact ⟨h1.c0, h1.c1, h1.c2, h2.c0, h2.c1, h2.c2⟩
  refine wpAnyH_ready (rs := [7]) (by kernel_rfl) (by simp) ?_
  refine AllReadyH.cons rfl (fun K_ hK => ?_) AllReadyH.nil
  go_simp
  refine hK.out _ _ ?_ (fun hHeld => ?_)
  · exact HK3.out
  clear hK K_
  refine wpAnyH_done (by kernel_rfl) ?_ _
  go_wp2_with fail
  exact bodyPost_ret (v := .agg #[.int .i64 (PW' : Int), .int .i64 (PH' : Int), .slice a2 n2 c2]) (by simp [results, Tryz.results95, go_sem, q0, q1, q2]) rfl ⟨_, rfl, by rw [HN2.out]; exact HR3.out, hbf⟩
end Go.Proofs.YtceabiodelfdoaaGreatDoor
/- Walk: objects.Do. -/
namespace Go.Proofs.YtceabiodelfdoaaGreatDoor
open Go.RowKit

/-- an op -/
structure Pq where
  kind : Int
  id : Int
  a : Int
  b : Int
  c : Int
  d : Int
  pw : Int
  ph : Int
  ps : List (Int × Int)
@[reducible] def opV (q : Pq) (u : Value) : Value := .agg #[.int .i64 q.kind, .int .i64 q.id, .int .i64 q.a, .int .i64 q.b, .int .i64 q.c, .int .i64 q.d, .int .i64 q.pw, .int .i64 q.ph, u]
/-- a new object of a picture -/
def freshO (q : Pq) : Po := ⟨q.id, 0, 0, q.pw, q.ph, q.ps, 0, 0, 20, 20, true⟩
/-- what an op makes of its object; none: no such kind -/
def actO (q : Pq) (o : Po) : Option Po :=
  if q.kind = 3 then some { o with x := q.a, y := q.b }
  else if q.kind = 4 then some { o with cx := q.a, cy := q.b, cw := q.c, ch := q.d }
  else if q.kind = 5 then some { o with sh := decide (q.a = 1) }
  else if q.kind = 6 then some { o with id := q.a }
  else if q.kind = 8 then some { o with ps := chL addP o.pw.toNat o.ps q.pw.toNat q.ph.toNat q.ps q.a q.b 0 0 o.pw o.ph }
  else if q.kind = 9 then some { o with ps := chL (fun _ z => z) o.pw.toNat o.ps q.pw.toNat q.ph.toNat q.ps q.a q.b 0 0 o.pw o.ph }
  else none
/-- what Do answers: objects, or the number of an error -/
def doO (os : List Po) (q : Pq) : List Po ⊕ Nat :=
  if q.kind = 2 then .inl (setO os (freshO q))
  else match os.find? (fun o => decide (o.id = q.id)) with
    | none => .inr 5
    | some o => if q.kind = 7 then .inl (dropO os q.id) else match actO q o with
      | none => .inr 3
      | some x => .inl (setO os x)
/-- what Do wants -/
structure DoPre (os : List Po) (q : Pq) : Prop where
  few : os.length ≤ 100
  pix : ∀ j, j < os.length → (os.getD j po0).ps.length ≤ 100
  sort : SortO os
  ok : ∀ j, j < os.length → checkL (os.getD j po0).pw (os.getD j po0).ph (os.getD j po0).ps = 0
  qpix : q.ps.length ≤ 100
  pic : q.kind = 8 ∨ q.kind = 9 → checkL q.pw q.ph q.ps = 0 ∧ -20 ≤ q.a ∧ q.a ≤ 20 ∧ -20 ≤ q.b ∧ q.b ≤ 20
def DoP (os : List Po) (q : Pq) (w : World) (e : Ending) (w' : World) : Prop :=
  Below w.heap.size w w' ∧ ((∃ v' qs, doO os q = .inl (qs.map Prod.fst) ∧ e = .returned (.tuple #[v', .nilIface]) ∧ OwnOb w' w.heap.size v' qs) ∨ (∃ c, doO os q = .inr c ∧ (c = 5 ∨ c = 3) ∧ e = .returned (.tuple #[.slice none 0 0, errV c])))

theorem find_at (os : List Po) (t : Int) (hs : SortO os) (i : Nat) (hi : i < os.length) (h : (os.getD i po0).id = t) : os.find? (fun o => decide (o.id = t)) = some (os.getD i po0) := by
  have e : ∀ k (hk : k < os.length), os.getD k po0 = os[k] := fun k hk => by rw [List.getD_eq_getElem?_getD, List.getElem?_eq_getElem hk]; rfl
  rw [List.find?_eq_some_iff_getElem]
  refine ⟨by simpa using h, i, hi, (e i hi).symm, fun j hj => ?_⟩
  have := hs j i hj hi
  rw [e j (by omega)] at this
  simp
  omega
theorem find_no (os : List Po) (t : Int) (h : ∀ j, j < os.length → (os.getD j po0).id ≠ t) : os.find? (fun o => decide (o.id = t)) = none := by
  rw [List.find?_eq_none]
  intro o ho
  obtain ⟨j, hj, e⟩ := List.mem_iff_getElem.1 ho
  have := h j hj
  rw [List.getD_eq_getElem?_getD, List.getElem?_eq_getElem hj] at this
  simp only [Option.getD_some] at this
  rw [e] at this
  simpa using this

set_option maxHeartbeats 8000000 in
set_option maxRecDepth 100000 in
theorem do_any (v : Value) (os : List Po) (q : Pq) (uq : Value) (w : World) (HP : Hid (DoPre os q)) (HR : Hid (RdO w v os)) (HU : Hid (RdP w uq q.ps)) :
    Calls Tryz.prog 80 #[v, opV q uq] w fun e w' => DoP os q w e w' := by
  obtain ⟨kd, qid, qa, qb, qc, qd, qw, qh, qp⟩ := q
  obtain ⟨a, cap, hv, hl, hcap⟩ := HR.out.shape
  obtain ⟨n, HN⟩ : ∃ n, Hid (os.length = n) := ⟨_, (rfl : _ = _)⟩
  rw [HN.out] at hv hl
  simp only [opV] at HU ⊢
  obtain ⟨ap, cp, hvp, _, _, _⟩ := HU.out
  obtain ⟨np, HNP⟩ : ∃ n, Hid (qp.length = n) := ⟨_, (rfl : _ = _)⟩
  rw [HNP.out] at hvp
  subst hvp
  have HPS : Hid (∀ j, j < os.length → (os.getD j po0).ps.length ≤ 100) := HP.out.pix
  have HSO : Hid (SortO os) := HP.out.sort
  have hos : os.length ≤ 100 := HP.out.few
  have hqp : qp.length ≤ 100 := HP.out.qpix
  have hbz : Below w.heap.size w (w.alloc (.cells #[.int .i64 kd, .int .i64 qid, .int .i64 qa, .int .i64 qb, .int .i64 qc, .int .i64 qd, .int .i64 qw, .int .i64 qh, .slice ap np cp] 48)) := (Below.refl _ _).alloc (Nat.le_refl _) _
  have N0 := nine_start w (.int .i64 kd) (.int .i64 qid) (.int .i64 qa) (.int .i64 qb) (.int .i64 qc) (.int .i64 qd) (.int .i64 qw) (.int .i64 qh) (.slice ap np cp) 48 w.heap.size rfl
  have HR0 : Hid (RdO _ v os) := HR.out.on hbz
  have HU0 : Hid (RdP _ _ _) := HU.out.on hbz
  subst hv
  by_cases h2 : kd = 2
  · subst h2
    have HD : Hid (doO os ⟨2, qid, qa, qb, qc, qd, qw, qh, qp⟩ = .inl (setO os (freshO ⟨2, qid, qa, qb, qc, qd, qw, qh, qp⟩))) := by unfold Hid doO; rw [if_pos rfl]
    go_enter Tryz.func80, Tryz.ntmps80
    go_wp2_with fail
    refine (fresh_any qid qw qh _ qp _ hqp HU0).mono ?_
    unfold objV
    rintro e w1 ⟨u1, rfl, ho1, hb1⟩
    have HU1 := hid_of2 (rdP_own ho1)
    have HR1 : Hid (RdO w1 (.slice a n cap) os) := HR0.out.on hb1
    have hbb1 := hbz.trans (hb1.mono hbz.size)
    obtain ⟨a1, c1, hu1⟩ := own_any ho1
    rw [HNP.out] at hu1
    subst hu1
    clear ho1 hb1 hbz N0 HR0 HU0
    go_wp2_with fail
    have hset := set_any (.slice a n cap) os (freshO ⟨2, qid, qa, qb, qc, qd, qw, qh, qp⟩) (.slice a1 np c1) w1 hos HPS.out hqp HSO HR1 HU1
    unfold poV objV freshO at hset
    refine hset.mono ?_
    clear hset
    rintro e w2 ⟨v2, qs, rfl, ho2, hq2, hb2⟩
    have HO2 := hide_ob (ho2.mono hbb1.size)
    have hbb2 := hbb1.trans (hb2.mono hbb1.size)
    have HQ2 := hid_of2 hq2
    obtain ⟨a2, c2, hv2⟩ := own_any ho2.1
    subst hv2
    clear ho2 hb2 hq2
    go_wp2_with fail
    go_ret2
    exact ⟨hbb2, .inl ⟨_, qs, by rw [HD.out, HQ2.out]; rfl, rfl, HO2.out⟩⟩
  have hk2 : (kd == 2) = false := by simpa using h2
  go_enter Tryz.func80, Tryz.ntmps80
  obtain ⟨X0, HX0⟩ : ∃ X0, Hid (w.alloc (.cells #[.int .i64 kd, .int .i64 qid, .int .i64 qa, .int .i64 qb, .int .i64 qc, .int .i64 qd, .int .i64 qw, .int .i64 qh, .slice ap np cp] 48) = X0) := ⟨_, (rfl : _ = _)⟩
  go_wp2_with fail
  rw [HX0.out] at N0 HR0 HU0 hbz ⊢
  refine (get_any _ os qid _ (by omega) HPS.out HSO HR0).mono ?_
  rintro e w5 ⟨hb5, hget⟩
  have N5 := hid_of2 (N0.on hb5)
  have HU5 := hid_of2 (HU0.out.on hb5)
  have HR5 : Hid (RdO w5 (.slice a n cap) os) := HR0.out.on hb5
  have hbb5 := hbz.trans (hb5.mono hbz.size)
  have hX0 : X0.heap.size = w.heap.size + 1 := by rw [← HX0.out]; simp
  have hw5 : w.heap.size + 1 ≤ w5.heap.size := by have := hb5.size; omega
  clear N0 HR0 HU0 hbz HX0
  rcases hget with ⟨i, u, hi, hit, rfl, hou⟩ | ⟨hnone, rfl⟩
  · obtain ⟨ob, HX⟩ : ∃ o, Hid (os.getD i po0 = o) := ⟨_, (rfl : _ = _)⟩
    have HFI : Hid (os.find? (fun o => decide (o.id = qid)) = some ob) := by unfold Hid; rw [← HX.out]; exact find_at os qid HSO.out i hi hit
    have hobp : ob.ps.length ≤ 100 := by rw [← HX.out]; exact HPS.out i hi
    have HOK : Hid (checkL ob.pw ob.ph ob.ps = 0) := by unfold Hid; rw [← HX.out]; exact HP.out.ok i hi
    have HFD : Hid (∃ j, j < os.length ∧ (os.getD j po0).id = qid) := ⟨i, hi, hit⟩
    rw [HX.out] at hou ⊢
    have HUO := hid_of2 (rdP_own hou)
    obtain ⟨mu, HMU⟩ : ∃ mu, Hid (ob.ps.length = mu) := ⟨_, (rfl : _ = _)⟩
    obtain ⟨au, cu, hu⟩ := own_any hou
    rw [HMU.out] at hu
    subst hu
    clear hou hi hit hb5 HX
    have hbx5 : Below w5.heap.size w5 (w5.alloc (.cells #[.int .i64 ob.id, .int .i64 ob.x, .int .i64 ob.y, .int .i64 ob.pw, .int .i64 ob.ph, .slice au mu cu, .int .i64 ob.cx, .int .i64 ob.cy, .int .i64 ob.cw, .int .i64 ob.ch, .bool ob.sh] 141)) := (Below.refl _ _).alloc (Nat.le_refl _) _
    have E5 := hid_of2 (eleven_start w5 (.int .i64 ob.id) (.int .i64 ob.x) (.int .i64 ob.y) (.int .i64 ob.pw) (.int .i64 ob.ph) (.slice au mu cu) (.int .i64 ob.cx) (.int .i64 ob.cy) (.int .i64 ob.cw) (.int .i64 ob.ch) (.bool ob.sh) 141 w5.heap.size rfl)
    have N6 := hid_of2 (N5.out.on hbx5)
    have HU6 := hid_of2 (HU5.out.on hbx5)
    have HUO6 := hid_of2 (HUO.out.on hbx5)
    have HR6 : Hid (RdO _ (.slice a n cap) os) := HR5.out.on hbx5
    have hbb6 := hbb5.trans (hbx5.mono hbb5.size)
    clear HU5 hbx5
    obtain ⟨m0, m1, m2, m3, m4, m5, m6, m7, m8, mf0, mf1, mf2, mf3, mf4, mf5, mf6, mf7, mf8, mlt⟩ := N6.out
    obtain ⟨k0, k1, k2, k3, k4, k5, k6, k7, k8, kf0, kf1, kf2, kf3, kf4, kf5, kf6, kf7, kf8, klt⟩ := N5.out
    unfold poV objV
    by_cases h4 : kd = 4
    · subst h4
      have HD : Hid (doO os ⟨4, qid, qa, qb, qc, qd, qw, qh, qp⟩ = .inl (setO os { ob with cx := qa, cy := qb, cw := qc, ch := qd })) := by
        unfold Hid doO
        rw [if_neg (by simp), HFI.out]
        rfl
      have hbx : Below w5.heap.size w5 (w5.alloc (.cells #[.int .i64 ob.id, .int .i64 ob.x, .int .i64 ob.y, .int .i64 ob.pw, .int .i64 ob.ph, .slice au mu cu, .int .i64 qa, .int .i64 qb, .int .i64 qc, .int .i64 qd, .bool ob.sh] 141)) := (Below.refl _ _).alloc (Nat.le_refl _) _
      have HRX : Hid (RdO _ (.slice a n cap) os) := HR5.out.on hbx
      have HUX := hid_of2 (HUO.out.on hbx)
      have hbbX := hbb5.trans (hbx.mono hbb5.size)
      clear HUO HR5
      go_wp2_with fail
      have hset := set_any (.slice a n cap) os { ob with cx := qa, cy := qb, cw := qc, ch := qd } (.slice au mu cu) _ hos HPS.out (hobp) HSO HRX HUX
      unfold poV objV at hset
      refine hset.mono ?_
      clear hset
      rintro e w8 ⟨v8, qs, rfl, ho8, hq8, hb8⟩
      have HO8 := hide_ob (ho8.mono hbbX.size)
      have hbb8 := hbbX.trans (hb8.mono hbbX.size)
      have HQ8 := hid_of2 hq8
      obtain ⟨a8, c8, hv8⟩ := own_any ho8.1
      subst hv8
      clear ho8 hb8 hq8
      go_wp2_with fail
      go_ret2
      exact ⟨hbb8, .inl ⟨_, qs, by rw [HD.out, HQ8.out], rfl, HO8.out⟩⟩
    by_cases h5 : kd = 5
    · subst h5
      have HD : Hid (doO os ⟨5, qid, qa, qb, qc, qd, qw, qh, qp⟩ = .inl (setO os { ob with sh := decide (qa = 1) })) := by
        unfold Hid doO
        rw [if_neg (by simp), HFI.out]
        rfl
      have hbx : Below w5.heap.size w5 (w5.alloc (.cells #[.int .i64 ob.id, .int .i64 ob.x, .int .i64 ob.y, .int .i64 ob.pw, .int .i64 ob.ph, .slice au mu cu, .int .i64 ob.cx, .int .i64 ob.cy, .int .i64 ob.cw, .int .i64 ob.ch, .bool (qa == 1)] 141)) := (Below.refl _ _).alloc (Nat.le_refl _) _
      have HRX : Hid (RdO _ (.slice a n cap) os) := HR5.out.on hbx
      have HUX := hid_of2 (HUO.out.on hbx)
      have hbbX := hbb5.trans (hbx.mono hbb5.size)
      clear HUO HR5
      go_wp2_with fail
      have hset := set_any (.slice a n cap) os { ob with sh := decide (qa = 1) } (.slice au mu cu) _ hos HPS.out (hobp) HSO HRX HUX
      unfold poV objV at hset
      refine hset.mono ?_
      clear hset
      rintro e w8 ⟨v8, qs, rfl, ho8, hq8, hb8⟩
      have HO8 := hide_ob (ho8.mono hbbX.size)
      have hbb8 := hbbX.trans (hb8.mono hbbX.size)
      have HQ8 := hid_of2 hq8
      obtain ⟨a8, c8, hv8⟩ := own_any ho8.1
      subst hv8
      clear ho8 hb8 hq8
      go_wp2_with fail
      go_ret2
      exact ⟨hbb8, .inl ⟨_, qs, by rw [HD.out, HQ8.out], rfl, HO8.out⟩⟩
    by_cases h6 : kd = 6
    · subst h6
      have HD : Hid (doO os ⟨6, qid, qa, qb, qc, qd, qw, qh, qp⟩ = .inl (setO os { ob with id := qa })) := by
        unfold Hid doO
        rw [if_neg (by simp), HFI.out]
        rfl
      have hbx : Below w5.heap.size w5 (w5.alloc (.cells #[.int .i64 qa, .int .i64 ob.x, .int .i64 ob.y, .int .i64 ob.pw, .int .i64 ob.ph, .slice au mu cu, .int .i64 ob.cx, .int .i64 ob.cy, .int .i64 ob.cw, .int .i64 ob.ch, .bool ob.sh] 141)) := (Below.refl _ _).alloc (Nat.le_refl _) _
      have HRX : Hid (RdO _ (.slice a n cap) os) := HR5.out.on hbx
      have HUX := hid_of2 (HUO.out.on hbx)
      have hbbX := hbb5.trans (hbx.mono hbb5.size)
      clear HUO HR5
      go_wp2_with fail
      have hset := set_any (.slice a n cap) os { ob with id := qa } (.slice au mu cu) _ hos HPS.out (hobp) HSO HRX HUX
      unfold poV objV at hset
      refine hset.mono ?_
      clear hset
      rintro e w8 ⟨v8, qs, rfl, ho8, hq8, hb8⟩
      have HO8 := hide_ob (ho8.mono hbbX.size)
      have hbb8 := hbbX.trans (hb8.mono hbbX.size)
      have HQ8 := hid_of2 hq8
      obtain ⟨a8, c8, hv8⟩ := own_any ho8.1
      subst hv8
      clear ho8 hb8 hq8
      go_wp2_with fail
      go_ret2
      exact ⟨hbb8, .inl ⟨_, qs, by rw [HD.out, HQ8.out], rfl, HO8.out⟩⟩
    by_cases h3 : kd = 3
    · subst h3
      have HD : Hid (doO os ⟨3, qid, qa, qb, qc, qd, qw, qh, qp⟩ = .inl (setO os { ob with x := qa, y := qb })) := by
        unfold Hid doO
        rw [if_neg (by simp), HFI.out]
        rfl
      have hbx : Below w5.heap.size w5 (w5.alloc (.cells #[.int .i64 ob.id, .int .i64 qa, .int .i64 qb, .int .i64 ob.pw, .int .i64 ob.ph, .slice au mu cu, .int .i64 ob.cx, .int .i64 ob.cy, .int .i64 ob.cw, .int .i64 ob.ch, .bool ob.sh] 141)).drew := ((Below.refl _ _).alloc (Nat.le_refl _) _).drew
      have HRX : Hid (RdO _ (.slice a n cap) os) := HR5.out.on hbx
      have HUX := hid_of2 (HUO.out.on hbx)
      have hbbX := hbb5.trans (hbx.mono hbb5.size)
      go_wp2_with fail
      refine wp_region_held_drew (S := (fun w' => w'.cell? ⟨w.heap.size, 2, none⟩ = some (.int .i64 qa) ∧ w'.cell? ⟨w.heap.size, 3, none⟩ = some (.int .i64 qb))) (by kernel_rfl) ?_ (fun hHeld => ?_)
      · exact ⟨m2, m3⟩
      refine wpAnyH_take (i := 0) (oi := ({ dst := some 33, op := Op.fieldAddr 48 (Operand.tmp 3) 2, type := 0, pos := "objects.go:71", after := #[], guard := none } : Oper)) (v := ?_) rfl (by kernel_rfl) (by kernel_rfl) (by kernel_rfl) (fun _ _ _ h => h) (Or.inl ⟨by rfl, ?_⟩) (by assumption) ?_
      rotate_left
      · (intro w hSw; (try dsimp only at hSw); go_simp; try with_reducible rfl)
      try simp only [Act.put, List.setIfInBounds_toArray, List.set_cons_zero, List.set_cons_succ]
      refine wpAnyH_take (i := 1) (oi := ({ dst := some 34, op := Op.load 3 (Operand.tmp 33), type := 3, pos := "objects.go:71", after := #[{ on := 0, ground := Ground.data }], guard := none } : Oper)) (v := ?_) rfl (by kernel_rfl) (by kernel_rfl) (by kernel_rfl) (fun _ _ _ h => h) (Or.inl ⟨by rfl, ?_⟩) (by assumption) ?_
      rotate_left
      · (intro w hSw; (try dsimp only at hSw); go_simp; try with_reducible rfl)
      try simp only [Act.put, List.setIfInBounds_toArray, List.set_cons_zero, List.set_cons_succ]
      refine wpAnyH_take (i := 2) (oi := ({ dst := some 35, op := Op.fieldAddr 48 (Operand.tmp 3) 3, type := 0, pos := "objects.go:71", after := #[{ on := 5, ground := Ground.gcOnly Departure.lateStores }], guard := none } : Oper)) (v := ?_) rfl (by kernel_rfl) (by kernel_rfl) (by kernel_rfl) (fun _ _ _ h => h) (Or.inl ⟨by rfl, ?_⟩) (by assumption) ?_
      rotate_left
      · (intro w hSw; (try dsimp only at hSw); go_simp; try with_reducible rfl)
      try simp only [Act.put, List.setIfInBounds_toArray, List.set_cons_zero, List.set_cons_succ]
      refine wpAnyH_take (i := 3) (oi := ({ dst := some 36, op := Op.load 3 (Operand.tmp 35), type := 3, pos := "objects.go:71", after := #[{ on := 2, ground := Ground.data }, { on := 5, ground := Ground.gcOnly Departure.lateStores }], guard := none } : Oper)) (v := ?_) rfl (by kernel_rfl) (by kernel_rfl) (by kernel_rfl) (fun _ _ _ h => h) (Or.inl ⟨by rfl, ?_⟩) (by assumption) ?_
      rotate_left
      · (intro w hSw; (try dsimp only at hSw); go_simp; try with_reducible rfl)
      try simp only [Act.put, List.setIfInBounds_toArray, List.set_cons_zero, List.set_cons_succ]
      refine wpAnyH_take (i := 4) (oi := ({ dst := some 37, op := Op.fieldAddr 141 (Operand.tmp 6) 1, type := 0, pos := "objects.go:71", after := #[{ on := 0, ground := Ground.phase }, { on := 1, ground := Ground.phase }, { on := 2, ground := Ground.textOnly Departure.lateStores }, { on := 3, ground := Ground.textOnly Departure.lateStores }], guard := none } : Oper)) (v := ?_) rfl (by kernel_rfl) (by kernel_rfl) (by kernel_rfl) (fun _ _ _ h => h) (Or.inl ⟨by rfl, ?_⟩) (by assumption) ?_
      rotate_left
      · (intro w hSw; (try dsimp only at hSw); go_simp; try with_reducible rfl)
      try simp only [Act.put, List.setIfInBounds_toArray, List.set_cons_zero, List.set_cons_succ]
      refine wpAnyH_ready (rs := [5]) (by kernel_rfl) (by simp) ?_
      refine AllReadyH.cons (o := ({ dst := none, op := Op.store 3 (Operand.tmp 37) (Operand.tmp 34), type := 0, pos := "objects.go:71", after := #[{ on := 4, ground := Ground.data }, { on := 1, ground := Ground.data }, { on := 0, ground := Ground.phase }, { on := 1, ground := Ground.phase }, { on := 2, ground := Ground.textOnly Departure.lateStores }, { on := 3, ground := Ground.textOnly Departure.lateStores }], guard := none } : Oper)) rfl (fun K_ hK => ?_) AllReadyH.nil
      go_simp
      refine hK.out _ _ ?_ (fun hHeld => ?_)
      · exact ⟨(cell_old w5 _ w.heap.size 2 klt).trans k2, (cell_old w5 _ w.heap.size 3 klt).trans k3⟩
      clear hK K_
      try simp only [Act.put, List.setIfInBounds_toArray, List.set_cons_zero, List.set_cons_succ]
      refine wpAnyH_take (i := 6) (oi := ({ dst := some 38, op := Op.fieldAddr 141 (Operand.tmp 6) 2, type := 0, pos := "objects.go:71", after := #[{ on := 0, ground := Ground.phase }, { on := 1, ground := Ground.phase }, { on := 2, ground := Ground.phase }, { on := 3, ground := Ground.phase }, { on := 4, ground := Ground.phase }, { on := 5, ground := Ground.phase }], guard := none } : Oper)) (v := ?_) rfl (by kernel_rfl) (by kernel_rfl) (by kernel_rfl) (fun _ _ _ h => h) (Or.inl ⟨by rfl, ?_⟩) (by assumption) ?_
      rotate_left
      · (intro w hSw; (try dsimp only at hSw); go_simp; try with_reducible rfl)
      try simp only [Act.put, List.setIfInBounds_toArray, List.set_cons_zero, List.set_cons_succ]
      refine wpAnyH_ready (rs := [7]) (by kernel_rfl) (by simp) ?_
      refine AllReadyH.cons (o := ({ dst := none, op := Op.store 3 (Operand.tmp 38) (Operand.tmp 36), type := 0, pos := "objects.go:71", after := #[{ on := 6, ground := Ground.data }, { on := 3, ground := Ground.data }, { on := 5, ground := Ground.chain }, { on := 0, ground := Ground.phase }, { on := 1, ground := Ground.phase }, { on := 2, ground := Ground.phase }, { on := 3, ground := Ground.phase }, { on := 4, ground := Ground.phase }, { on := 5, ground := Ground.phase }], guard := none } : Oper)) rfl (fun K_ hK => ?_) AllReadyH.nil
      go_simp
      refine hK.out _ _ ?_ (fun hHeld => ?_)
      · exact ⟨(cell_old w5 _ w.heap.size 2 klt).trans k2, (cell_old w5 _ w.heap.size 3 klt).trans k3⟩
      clear hK K_
      try simp only [Act.put, List.setIfInBounds_toArray, List.set_cons_zero, List.set_cons_succ]
      refine wpAnyH_done (by kernel_rfl) ?_ _
      go_wp2_with fail
      have hset := set_any (.slice a n cap) os { ob with x := qa, y := qb } (.slice au mu cu) _ hos HPS.out (hobp) HSO HRX HUX
      unfold poV objV at hset
      refine hset.mono ?_
      clear hset
      rintro e w8 ⟨v8, qs, rfl, ho8, hq8, hb8⟩
      have HO8 := hide_ob (ho8.mono hbbX.size)
      have hbb8 := hbbX.trans (hb8.mono hbbX.size)
      have HQ8 := hid_of2 hq8
      obtain ⟨a8, c8, hv8⟩ := own_any ho8.1
      subst hv8
      clear ho8 hb8 hq8
      go_wp2_with fail
      go_ret2
      exact ⟨hbb8, .inl ⟨_, qs, by rw [HD.out, HQ8.out], rfl, HO8.out⟩⟩
    by_cases h8 : kd = 8
    · subst h8
      obtain ⟨zc, z1, z2, z3, z4⟩ := HP.out.pic (by simp)
      simp only at zc z1 z2 z3 z4
      have hok := HOK.out
      obtain ⟨QW, QH, e1, e2, i1, i2, i3, i4, i5, _⟩ := check_zero _ _ _ HOK.out
      obtain ⟨ZW, ZH, e3, e4, _⟩ := check_zero _ _ _ zc
      subst e3 e4
      rw [e1, e2] at hok
      have HCP := hid_of2 hok
      have HCQ := hid_of2 zc
      have hlen : (chL addP QW ob.ps ZW ZH qp qa qb 0 0 QW QH).length = ob.ps.length := by simp [chL, grid_len]
      have HD : Hid (doO os ⟨8, qid, qa, qb, qc, qd, (ZW : Int), (ZH : Int), qp⟩ = .inl (setO os { ob with ps := chL addP QW ob.ps ZW ZH qp qa qb 0 0 QW QH })) := by
        unfold Hid doO
        rw [if_neg (by simp), HFI.out]
        simp only [actO]
        rw [if_neg (by simp), if_neg (by simp), if_neg (by simp), if_neg (by simp), if_neg (by simp), if_pos trivial, e1, e2]
        simp
      simp only [e1, e2] at E5 HUO6 HU6 HR6 hbb6 m0 m1 m2 m3 m4 m5 m6 m7 m8 mf0 mf1 mf2 mf3 mf4 mf5 mf6 mf7 mf8 mlt
      clear hok zc
      go_wp2_with fail
      refine (add_any QW QH ZW ZH _ _ ob.ps qp qa qb _ HCP HCQ HUO6 HU6 z1 z2 z3 z4).mono ?_
      unfold picV
      rintro e w7 ⟨u7, rfl, ho7, hb7⟩
      have HO7 := hide_own (own_mono ho7 (show w5.heap.size + 1 ≤ _ by simp))
      obtain ⟨a7, c7, hu7⟩ := own_any ho7
      rw [hlen, HMU.out] at hu7
      subst hu7
      have E7 := E5.out.on hb7
      have hbb7 := hbb6.trans (hb7.mono hbb6.size)
      obtain ⟨s0, s1, s2, s3, s4, s5, s6, s7, s8, s9, s10, sf0, sf1, sf2, sf3, sf4, sf5, sf6, sf7, sf8, sf9, sf10, slt⟩ := E7
      have HUX := hid_of2 (rdP_own (ownsRow_setCell_below (ownsRow_setCell_below (ownsRow_setCell_below HO7.out (a := ⟨w5.heap.size, 3, none⟩) (show w5.heap.size < w5.heap.size + 1 by omega) (.int .i64 (QW : Int))) (a := ⟨w5.heap.size, 4, none⟩) (show w5.heap.size < w5.heap.size + 1 by omega) (.int .i64 (QH : Int))) (a := ⟨w5.heap.size, 5, none⟩) (show w5.heap.size < w5.heap.size + 1 by omega) (.slice a7 mu c7)))
      have hbbX : Below w.heap.size w (((w7.setCell ⟨w5.heap.size, 3, none⟩ (.int .i64 (QW : Int))).setCell ⟨w5.heap.size, 4, none⟩ (.int .i64 (QH : Int))).setCell ⟨w5.heap.size, 5, none⟩ (.slice a7 mu c7)) := ((hbb7.setCell (show w.heap.size ≤ w5.heap.size by omega) _).setCell (show w.heap.size ≤ w5.heap.size by omega) _).setCell (show w.heap.size ≤ w5.heap.size by omega) _
      have HRX : Hid (RdO _ (.slice a n cap) os) := HR.out.on hbbX
      have hnl : (chL addP QW ob.ps ZW ZH qp qa qb 0 0 QW QH).length ≤ 100 := by rw [hlen]; exact hobp
      clear ho7 hb7 HO7 hbb7 HUO6 HU6 HR6 m0 m1 m2 m3 m4 m5 m6 m7 m8 mf0 mf1 mf2 mf3 mf4 mf5 mf6 mf7 mf8 mlt
      go_wp2_with fail
      have hset := set_any (.slice a n cap) os { ob with ps := chL addP QW ob.ps ZW ZH qp qa qb 0 0 QW QH } (.slice a7 mu c7) _ hos HPS.out (hnl) HSO HRX HUX
      unfold poV objV at hset
      simp only [e1, e2] at hset
      refine hset.mono ?_
      clear hset
      rintro e w8 ⟨v8, qs, rfl, ho8, hq8, hb8⟩
      have HO8 := hide_ob (ho8.mono hbbX.size)
      have hbb8 := hbbX.trans (hb8.mono hbbX.size)
      have HQ8 := hid_of2 hq8
      obtain ⟨a8, c8, hv8⟩ := own_any ho8.1
      subst hv8
      clear ho8 hb8 hq8
      go_wp2_with fail
      go_ret2
      exact ⟨hbb8, .inl ⟨_, qs, by rw [HD.out, HQ8.out]; simp only [e1, e2], rfl, HO8.out⟩⟩
    by_cases h9 : kd = 9
    · subst h9
      obtain ⟨zc, z1, z2, z3, z4⟩ := HP.out.pic (by simp)
      simp only at zc z1 z2 z3 z4
      have hok := HOK.out
      obtain ⟨QW, QH, e1, e2, i1, i2, i3, i4, i5, _⟩ := check_zero _ _ _ HOK.out
      obtain ⟨ZW, ZH, e3, e4, _⟩ := check_zero _ _ _ zc
      subst e3 e4
      rw [e1, e2] at hok
      have HCP := hid_of2 hok
      have HCQ := hid_of2 zc
      have hlen : (chL (fun _ z => z) QW ob.ps ZW ZH qp qa qb 0 0 QW QH).length = ob.ps.length := by simp [chL, grid_len]
      have HD : Hid (doO os ⟨9, qid, qa, qb, qc, qd, (ZW : Int), (ZH : Int), qp⟩ = .inl (setO os { ob with ps := chL (fun _ z => z) QW ob.ps ZW ZH qp qa qb 0 0 QW QH })) := by
        unfold Hid doO
        rw [if_neg (by simp), HFI.out]
        simp only [actO]
        rw [if_neg (by simp), if_neg (by simp), if_neg (by simp), if_neg (by simp), if_neg (by simp), if_neg (by simp), if_pos trivial, e1, e2]
        simp
      simp only [e1, e2] at E5 HUO6 HU6 HR6 hbb6 m0 m1 m2 m3 m4 m5 m6 m7 m8 mf0 mf1 mf2 mf3 mf4 mf5 mf6 mf7 mf8 mlt
      clear hok zc
      go_wp2_with fail
      refine (put_any QW QH ZW ZH _ _ ob.ps qp qa qb _ HCP HCQ HUO6 HU6 z1 z2 z3 z4).mono ?_
      unfold picV
      rintro e w7 ⟨u7, rfl, ho7, hb7⟩
      have HO7 := hide_own (own_mono ho7 (show w5.heap.size + 1 ≤ _ by simp))
      obtain ⟨a7, c7, hu7⟩ := own_any ho7
      rw [hlen, HMU.out] at hu7
      subst hu7
      have E7 := E5.out.on hb7
      have hbb7 := hbb6.trans (hb7.mono hbb6.size)
      obtain ⟨s0, s1, s2, s3, s4, s5, s6, s7, s8, s9, s10, sf0, sf1, sf2, sf3, sf4, sf5, sf6, sf7, sf8, sf9, sf10, slt⟩ := E7
      have HUX := hid_of2 (rdP_own (ownsRow_setCell_below (ownsRow_setCell_below (ownsRow_setCell_below HO7.out (a := ⟨w5.heap.size, 3, none⟩) (show w5.heap.size < w5.heap.size + 1 by omega) (.int .i64 (QW : Int))) (a := ⟨w5.heap.size, 4, none⟩) (show w5.heap.size < w5.heap.size + 1 by omega) (.int .i64 (QH : Int))) (a := ⟨w5.heap.size, 5, none⟩) (show w5.heap.size < w5.heap.size + 1 by omega) (.slice a7 mu c7)))
      have hbbX : Below w.heap.size w (((w7.setCell ⟨w5.heap.size, 3, none⟩ (.int .i64 (QW : Int))).setCell ⟨w5.heap.size, 4, none⟩ (.int .i64 (QH : Int))).setCell ⟨w5.heap.size, 5, none⟩ (.slice a7 mu c7)) := ((hbb7.setCell (show w.heap.size ≤ w5.heap.size by omega) _).setCell (show w.heap.size ≤ w5.heap.size by omega) _).setCell (show w.heap.size ≤ w5.heap.size by omega) _
      have HRX : Hid (RdO _ (.slice a n cap) os) := HR.out.on hbbX
      have hnl : (chL (fun _ z => z) QW ob.ps ZW ZH qp qa qb 0 0 QW QH).length ≤ 100 := by rw [hlen]; exact hobp
      clear ho7 hb7 HO7 hbb7 HUO6 HU6 HR6 m0 m1 m2 m3 m4 m5 m6 m7 m8 mf0 mf1 mf2 mf3 mf4 mf5 mf6 mf7 mf8 mlt
      go_wp2_with fail
      have hset := set_any (.slice a n cap) os { ob with ps := chL (fun _ z => z) QW ob.ps ZW ZH qp qa qb 0 0 QW QH } (.slice a7 mu c7) _ hos HPS.out (hnl) HSO HRX HUX
      unfold poV objV at hset
      simp only [e1, e2] at hset
      refine hset.mono ?_
      clear hset
      rintro e w8 ⟨v8, qs, rfl, ho8, hq8, hb8⟩
      have HO8 := hide_ob (ho8.mono hbbX.size)
      have hbb8 := hbbX.trans (hb8.mono hbbX.size)
      have HQ8 := hid_of2 hq8
      obtain ⟨a8, c8, hv8⟩ := own_any ho8.1
      subst hv8
      clear ho8 hb8 hq8
      go_wp2_with fail
      go_ret2
      exact ⟨hbb8, .inl ⟨_, qs, by rw [HD.out, HQ8.out]; simp only [e1, e2], rfl, HO8.out⟩⟩
    by_cases h7 : kd = 7
    · subst h7
      have HD : Hid (doO os ⟨7, qid, qa, qb, qc, qd, qw, qh, qp⟩ = .inl (dropO os qid)) := by
        unfold Hid doO
        rw [if_neg (by simp), HFI.out]
        rfl
      go_wp2_with fail
      refine (drop_any _ os qid _ hos HPS.out HSO HR6 HFD).mono ?_
      rintro e w8 ⟨v8, qs, rfl, ho8, hq8, hb8⟩
      have HO8 := hide_ob (ho8.mono hbb6.size)
      have hbb8 := hbb6.trans (hb8.mono hbb6.size)
      have HQ8 := hid_of2 hq8
      obtain ⟨a8, c8, hv8⟩ := own_any ho8.1
      subst hv8
      clear ho8 hb8 hq8
      go_wp2_with fail
      go_ret2
      exact ⟨hbb8, .inl ⟨_, qs, by rw [HD.out, HQ8.out], rfl, HO8.out⟩⟩
    have HD : Hid (doO os ⟨kd, qid, qa, qb, qc, qd, qw, qh, qp⟩ = .inr 3) := by
      unfold Hid doO
      rw [if_neg (by simpa using h2), HFI.out]
      simp only [actO]
      rw [if_neg h7, if_neg h3, if_neg h4, if_neg h5, if_neg h6, if_neg h8, if_neg h9]
    have x3 : (kd == 3) = false := by simpa using h3
    have x4 : (kd == 4) = false := by simpa using h4
    have x5 : (kd == 5) = false := by simpa using h5
    have x6 : (kd == 6) = false := by simpa using h6
    have x8 : (kd == 8) = false := by simpa using h8
    have x9 : (kd == 9) = false := by simpa using h9
    have x7 : (kd == 7) = false := by simpa using h7
    go_wp2_with fail
    go_ret2
    exact ⟨hbb6, .inr ⟨3, HD.out, .inr rfl, rfl⟩⟩
  · have HD : Hid (doO os ⟨kd, qid, qa, qb, qc, qd, qw, qh, qp⟩ = .inr 5) := by
      unfold Hid doO
      rw [if_neg (by simpa using h2), find_no os qid hnone]
    have hbx5 : Below w.heap.size w (w5.alloc (.cells #[.int .i64 0, .int .i64 0, .int .i64 0, .int .i64 0, .int .i64 0, .slice none 0 0, .int .i64 0, .int .i64 0, .int .i64 0, .int .i64 0, .bool false] 141)) := hbb5.alloc hbb5.size _
    unfold poV objV
    clear hnone
    go_wp2_with fail
    go_ret2
    exact ⟨hbx5, .inr ⟨5, HD.out, .inl rfl, rfl⟩⟩
end Go.Proofs.YtceabiodelfdoaaGreatDoor
/- Lists of numbers; op.numbers; slices.ContainsFunc over numbers. -/
namespace Go.Proofs.YtceabiodelfdoaaGreatDoor
open Go.RowKit

/-- a list of numbers -/
def RdI (w : World) (v : Value) (ns : List Int) : Prop :=
  ∃ a cap, v = .slice a ns.length cap ∧ ns.length ≤ cap ∧ cap ≤ 9223372036854775807 ∧ (ns ≠ [] → ∃ g off, a = some ⟨g, off, none⟩ ∧ g < w.heap.size ∧ ∀ j, j < ns.length → w.cell? ⟨g, off + j, none⟩ = some (.int .i64 (ns.getD j 0)))
theorem RdI.on {w w' : World} {v : Value} {ns : List Int} (h : RdI w v ns) (hb : Below w.heap.size w w') : RdI w' v ns := by
  obtain ⟨a, cap, hv, hl, hc, hh⟩ := h
  refine ⟨a, cap, hv, hl, hc, fun hne => ?_⟩
  obtain ⟨g, off, ha, hg, hcell⟩ := hh hne
  refine ⟨g, off, ha, Nat.lt_of_lt_of_le hg hb.size, fun j hj => ?_⟩
  rw [hb.cell (p := ⟨g, off + j, none⟩) hg]
  exact hcell j hj
theorem RdI.at {w : World} {a : Option Addr} {n cap : Nat} {ns : List Int} (h : RdI w (.slice a n cap) ns) {k : Nat} (hk : k < n) (HN : Hid (ns.length = n)) {x : Int} (HX : Hid (ns.getD k 0 = x)) :
    ∃ g o, a = some ⟨g, o, none⟩ ∧ g < w.heap.size ∧ w.cell? ⟨g, o + k, none⟩ = some (.int .i64 x) := by
  obtain ⟨a', cap', hv, hl, hc, hh⟩ := h
  simp only [Value.slice.injEq] at hv
  obtain ⟨rfl, _, rfl⟩ := hv
  obtain ⟨g, o, ha, hg, hcell⟩ := hh (by intro e; rw [e] at HN; have := HN.out; simp at this; omega)
  have := hcell k (by rw [HN.out]; exact hk)
  rw [HX.out] at this
  exact ⟨g, o, ha, hg, this⟩

set_option maxRecDepth 100000 in
theorem isNot0_any (n : Int) (w : World) (t : Bool) (HT : Hid (decide (n ≠ 0) = t)) : Calls Tryz.prog 40 #[.int .i64 n] w fun e w' => e = .returned (.bool t) ∧ Below w.heap.size w w' := by
  have hbz : Below w.heap.size w w := Below.refl _ _
  have ht : (n != 0) = t := by rw [← HT.out]; by_cases h : n = 0 <;> simp [h]
  go_enter Tryz.func40, Tryz.ntmps40
  go_wp2_with fail
  go_ret
  exact ⟨rfl, hbz⟩

set_option maxRecDepth 100000 in
theorem isOut_any (n lo hi : Int) (b : Nat) (w : World) (h4 : w.cell? ⟨b, 4, none⟩ = some (.int .i64 lo)) (h5 : w.cell? ⟨b, 5, none⟩ = some (.int .i64 hi)) (t : Bool) (HT : Hid ((decide (n < lo) || decide (hi < n)) = t)) : Calls Tryz.prog 60 #[.int .i64 n, .pointer (some ⟨b, 0, none⟩)] w fun e w' => e = .returned (.bool t) ∧ Below w.heap.size w w' := by
  have hbz : Below w.heap.size w w := Below.refl _ _
  have ht := HT.out
  clear HT
  by_cases h1 : n < lo
  · have : t = true := by rw [← ht]; simp [h1]
    subst this
    clear ht
    go_enter Tryz.func60, Tryz.ntmps60
    go_wp2_with fail
    go_ret
    exact ⟨rfl, hbz⟩
  · by_cases h2 : hi < n
    · have : t = true := by rw [← ht]; simp [h2]
      subst this
      clear ht
      go_enter Tryz.func60, Tryz.ntmps60
      go_wp2_with fail
      go_ret
      exact ⟨rfl, hbz⟩
    · have : t = false := by rw [← ht]; simp [h1, h2]
      subst this
      clear ht
      go_enter Tryz.func60, Tryz.ntmps60
      go_wp2_with fail
      go_ret
      exact ⟨rfl, hbz⟩

set_option maxRecDepth 100000 in
theorem numbers_any (q : Pq) (u : Value) (w : World) : Calls Tryz.prog 54 #[opV q u] w fun e w' => ∃ g, e = .returned (.slice (some ⟨g, 0, none⟩) 4 4) ∧ w.heap.size ≤ g ∧ w'.heap[g]? = some (.cells #[.int .i64 q.a, .int .i64 q.b, .int .i64 q.c, .int .i64 q.d] 3 (0, 0)) ∧ Below w.heap.size w w' := by
  have hbz : Below w.heap.size w ((w.alloc (.cells #[.int .i64 q.kind, .int .i64 q.id, .int .i64 q.a, .int .i64 q.b, .int .i64 q.c, .int .i64 q.d, .int .i64 q.pw, .int .i64 q.ph, u] 48)).alloc (.cells #[.int .i64 q.a, .int .i64 q.b, .int .i64 q.c, .int .i64 q.d] 3)) := ((Below.refl _ _).alloc (Nat.le_refl _) _).alloc (by simp) _
  have hn := heap_alloc_new (w.alloc (.cells #[.int .i64 q.kind, .int .i64 q.id, .int .i64 q.a, .int .i64 q.b, .int .i64 q.c, .int .i64 q.d, .int .i64 q.pw, .int .i64 q.ph, u] 48)) (.cells #[.int .i64 q.a, .int .i64 q.b, .int .i64 q.c, .int .i64 q.d] 3)
  unfold opV
  go_enter Tryz.func54, Tryz.ntmps54
  go_wp2_with fail
  go_ret
  exact ⟨_, rfl, by simp, by simpa using hn, hbz⟩

set_option maxHeartbeats 2000000 in
set_option maxRecDepth 100000 in
theorem indexN_any (v : Value) (ns : List Int)  (w : World) (hns : ns.length ≤ 1000) (HR : Hid (RdI w v ns))  :
    Calls Tryz.prog 58 #[v, .func (.func 40) #[] #[]] w fun e w' => ∃ r : Int, e = .returned (.int .i64 r) ∧ Hid (decide (0 ≤ r) = ns.any (fun n => decide (n ≠ 0))) ∧ Below w.heap.size w w' := by
  obtain ⟨a, cap, hv, hl, hcap, hh⟩ := HR.out
  obtain ⟨n, HN⟩ : ∃ n, Hid (ns.length = n) := ⟨_, (rfl : _ = _)⟩
  rw [HN.out] at hv hl hns
  clear hh
  subst hv
  have hbz : Below w.heap.size w w := Below.refl _ _
  go_enter Tryz.func58, Tryz.ntmps58
  go_wp2_with fail
  go_loopw [8] (fun i wr => ∃ k : Nat, k ≤ n ∧ i = .int .i64 k ∧ Hid (ns.any (fun n => decide (n ≠ 0)) = (ns.drop k).any (fun n => decide (n ≠ 0))) ∧ Below w.heap.size w wr) (fun i _ => n - (intOf i).toNat)
  case atStart => exact ⟨0, by omega, rfl, (rfl : _ = _), hbz⟩
  case round =>
    obtain ⟨k, hk, rfl, HA, hbr⟩ := hrel
    by_cases hlt : k < n
    · have hlt' : k < ns.length := by rw [HN.out]; exact hlt
      obtain ⟨m, HM⟩ : ∃ m, Hid (ns.getD k 0 = m) := ⟨_, (rfl : _ = _)⟩
      have HD : Hid ((ns.drop k).any (fun n => decide (n ≠ 0)) = ((fun n : Int => decide (n ≠ 0)) m || (ns.drop (k + 1)).any (fun n => decide (n ≠ 0)))) := by
        unfold Hid
        rw [List.drop_eq_getElem_cons hlt', List.any_cons, ← HM.out, List.getD_eq_getElem?_getD, List.getElem?_eq_getElem hlt']
        rfl
      obtain ⟨g, p, ha, hg, hc⟩ := HR.out.at hlt HN HM
      subst ha
      have hc2 := (hbr.cell (p := ⟨g, p + k, none⟩) hg).trans hc
      have hki0 : (0 : Int) ≤ (k : Int) := by omega
      have hki1 : (k : Int) < (n : Int) := by omega
      clear hlt' hc HM
      go_wp2_with fail
      cases hp : (decide (m ≠ 0)) with
      | true =>
        rw [hp] at HD
        refine (isNot0_any m _ true hp).mono ?_
        rintro e w1 ⟨rfl, hb1⟩
        have hbw1 := hbr.trans (hb1.mono hbr.size)
        clear hb1
        go_wp2_with fail
        go_ret
        exact ⟨(k : Int), rfl, by unfold Hid; rw [HA.out, HD.out]; simp, hbw1⟩
      | false =>
        rw [hp] at HD
        refine (isNot0_any m _ false hp).mono ?_
        rintro e w1 ⟨rfl, hb1⟩
        have hbw1 := hbr.trans (hb1.mono hbr.size)
        clear hb1
        go_wp2_with fail
        go_roundw
        case rel => exact ⟨k + 1, by omega, by go_num, by unfold Hid; rw [HA.out, HD.out]; simp, hbw1⟩
        case measure => simp [intOf]; omega
    · obtain rfl : k = n := by omega
      have HE : Hid (ns.any (fun n => decide (n ≠ 0)) = false) := by unfold Hid; rw [HA.out, List.drop_of_length_le (by rw [HN.out]; exact Nat.le_refl _)]; rfl
      go_wp2_with fail
      go_ret
      exact ⟨-1, rfl, by unfold Hid; rw [HE.out]; rfl, hbr⟩

set_option maxRecDepth 100000 in
theorem containsN_any (v : Value) (ns : List Int)  (w : World) (hns : ns.length ≤ 1000) (HR : Hid (RdI w v ns))  (t : Bool) (HT : Hid (ns.any (fun n => decide (n ≠ 0)) = t)) :
    Calls Tryz.prog 38 #[v, .func (.func 40) #[] #[]] w fun e w' => e = .returned (.bool t) ∧ Below w.heap.size w w' := by
  have HR2 := HR
  obtain ⟨a, cap, hv, _, _, hh⟩ := HR.out
  clear hh
  subst hv
  go_enter Tryz.func38, Tryz.ntmps38
  go_wp2_with fail
  refine (indexN_any _ ns  _ hns HR2 ).mono ?_
  rintro e w1 ⟨r, rfl, HB, hb1⟩
  rw [HT.out] at HB
  have hd : decide (0 ≤ r) = t := HB.out
  clear HB
  go_wp2_with fail
  go_ret
  exact ⟨rfl, hb1⟩

set_option maxHeartbeats 2000000 in
set_option maxRecDepth 100000 in
theorem indexB_any (v : Value) (ns : List Int) (lo hi : Int) (b : Nat) (w : World) (hns : ns.length ≤ 1000) (HR : Hid (RdI w v ns)) (hb : b < w.heap.size) (h4 : w.cell? ⟨b, 4, none⟩ = some (.int .i64 lo)) (h5 : w.cell? ⟨b, 5, none⟩ = some (.int .i64 hi)) :
    Calls Tryz.prog 58 #[v, .func (.func 60) #[] #[.pointer (some ⟨b, 0, none⟩)]] w fun e w' => ∃ r : Int, e = .returned (.int .i64 r) ∧ Hid (decide (0 ≤ r) = ns.any (fun n => (decide (n < lo) || decide (hi < n)))) ∧ Below w.heap.size w w' := by
  obtain ⟨a, cap, hv, hl, hcap, hh⟩ := HR.out
  obtain ⟨n, HN⟩ : ∃ n, Hid (ns.length = n) := ⟨_, (rfl : _ = _)⟩
  rw [HN.out] at hv hl hns
  clear hh
  subst hv
  have hbz : Below w.heap.size w w := Below.refl _ _
  go_enter Tryz.func58, Tryz.ntmps58
  go_wp2_with fail
  go_loopw [8] (fun i wr => ∃ k : Nat, k ≤ n ∧ i = .int .i64 k ∧ Hid (ns.any (fun n => (decide (n < lo) || decide (hi < n))) = (ns.drop k).any (fun n => (decide (n < lo) || decide (hi < n)))) ∧ Below w.heap.size w wr) (fun i _ => n - (intOf i).toNat)
  case atStart => exact ⟨0, by omega, rfl, (rfl : _ = _), hbz⟩
  case round =>
    obtain ⟨k, hk, rfl, HA, hbr⟩ := hrel
    by_cases hlt : k < n
    · have hlt' : k < ns.length := by rw [HN.out]; exact hlt
      obtain ⟨m, HM⟩ : ∃ m, Hid (ns.getD k 0 = m) := ⟨_, (rfl : _ = _)⟩
      have HD : Hid ((ns.drop k).any (fun n => (decide (n < lo) || decide (hi < n))) = ((fun n : Int => (decide (n < lo) || decide (hi < n))) m || (ns.drop (k + 1)).any (fun n => (decide (n < lo) || decide (hi < n))))) := by
        unfold Hid
        rw [List.drop_eq_getElem_cons hlt', List.any_cons, ← HM.out, List.getD_eq_getElem?_getD, List.getElem?_eq_getElem hlt']
        rfl
      obtain ⟨g, p, ha, hg, hc⟩ := HR.out.at hlt HN HM
      subst ha
      have hc2 := (hbr.cell (p := ⟨g, p + k, none⟩) hg).trans hc
      have hki0 : (0 : Int) ≤ (k : Int) := by omega
      have hki1 : (k : Int) < (n : Int) := by omega
      clear hlt' hc HM
      go_wp2_with fail
      cases hp : ((decide (m < lo) || decide (hi < m))) with
      | true =>
        rw [hp] at HD
        refine (isOut_any m lo hi b _ ((hbr.cell (p := ⟨b, 4, none⟩) hb).trans h4) ((hbr.cell (p := ⟨b, 5, none⟩) hb).trans h5) true hp).mono ?_
        rintro e w1 ⟨rfl, hb1⟩
        have hbw1 := hbr.trans (hb1.mono hbr.size)
        clear hb1
        go_wp2_with fail
        go_ret
        exact ⟨(k : Int), rfl, by unfold Hid; rw [HA.out, HD.out]; simp, hbw1⟩
      | false =>
        rw [hp] at HD
        refine (isOut_any m lo hi b _ ((hbr.cell (p := ⟨b, 4, none⟩) hb).trans h4) ((hbr.cell (p := ⟨b, 5, none⟩) hb).trans h5) false hp).mono ?_
        rintro e w1 ⟨rfl, hb1⟩
        have hbw1 := hbr.trans (hb1.mono hbr.size)
        clear hb1
        go_wp2_with fail
        go_roundw
        case rel => exact ⟨k + 1, by omega, by go_num, by unfold Hid; rw [HA.out, HD.out]; simp, hbw1⟩
        case measure => simp [intOf]; omega
    · obtain rfl : k = n := by omega
      have HE : Hid (ns.any (fun n => (decide (n < lo) || decide (hi < n))) = false) := by unfold Hid; rw [HA.out, List.drop_of_length_le (by rw [HN.out]; exact Nat.le_refl _)]; rfl
      go_wp2_with fail
      go_ret
      exact ⟨-1, rfl, by unfold Hid; rw [HE.out]; rfl, hbr⟩

set_option maxRecDepth 100000 in
theorem containsB_any (v : Value) (ns : List Int) (lo hi : Int) (b : Nat) (w : World) (hns : ns.length ≤ 1000) (HR : Hid (RdI w v ns)) (hb : b < w.heap.size) (h4 : w.cell? ⟨b, 4, none⟩ = some (.int .i64 lo)) (h5 : w.cell? ⟨b, 5, none⟩ = some (.int .i64 hi)) (t : Bool) (HT : Hid (ns.any (fun n => (decide (n < lo) || decide (hi < n))) = t)) :
    Calls Tryz.prog 38 #[v, .func (.func 60) #[] #[.pointer (some ⟨b, 0, none⟩)]] w fun e w' => e = .returned (.bool t) ∧ Below w.heap.size w w' := by
  have HR2 := HR
  obtain ⟨a, cap, hv, _, _, hh⟩ := HR.out
  clear hh
  subst hv
  go_enter Tryz.func38, Tryz.ntmps38
  go_wp2_with fail
  refine (indexB_any _ ns lo hi b _ hns HR2 hb h4 h5).mono ?_
  rintro e w1 ⟨r, rfl, HB, hb1⟩
  rw [HT.out] at HB
  have hd : decide (0 ≤ r) = t := HB.out
  clear HB
  go_wp2_with fail
  go_ret
  exact ⟨rfl, hb1⟩
end Go.Proofs.YtceabiodelfdoaaGreatDoor
/- Walks of the reference's RectFault and Has. -/
namespace Go.Proofs.YtceabiodelfdoaaGreatDoor
open Go.RowKit

end Go.Proofs.YtceabiodelfdoaaGreatDoor
/- Walk of objects.Check. -/
namespace Go.Proofs.YtceabiodelfdoaaGreatDoor
open Go.RowKit

/-- the number of the error of an object -/
def objC (id x y pw ph : Int) (ps : List (Int × Int)) (cx cy cw ch : Int) : Nat :=
  if id < 1 ∨ 6 < id then 1 else if rectC x y 0 0 = 1 then 1 else if rectC cx cy cw ch = 1 then 1 else checkL pw ph ps

theorem rectC_cases (x y w h : Int) : rectC x y w h = 0 ∨ rectC x y w h = 1 := by unfold rectC; split <;> simp

theorem objC_zero (id x y pw ph : Int) (ps : List (Int × Int)) (cx cy cw ch : Int) (h : objC id x y pw ph ps cx cy cw ch = 0) :
    1 ≤ id ∧ id ≤ 6 ∧ -20 ≤ x ∧ x ≤ 20 ∧ -20 ≤ y ∧ y ≤ 20 ∧ -20 ≤ cx ∧ cx ≤ 20 ∧ -20 ≤ cy ∧ cy ≤ 20 ∧ 0 ≤ cw ∧ cw ≤ 20 ∧ 0 ≤ ch ∧ ch ≤ 20 ∧ checkL pw ph ps = 0 := by
  unfold objC at h
  split at h
  · omega
  split at h
  · omega
  split at h
  · omega
  have r1 : rectC x y 0 0 = 0 := by rcases rectC_cases x y 0 0 with h | h <;> omega
  have r2 : rectC cx cy cw ch = 0 := by rcases rectC_cases cx cy cw ch with h | h <;> omega
  rw [rectC_zero] at r1 r2
  omega

set_option maxHeartbeats 2000000 in
set_option maxRecDepth 100000 in
theorem ocheck_any (id x y pw ph : Int) (u : Value) (ps : List (Int × Int)) (cx cy cw ch : Int) (sh : Bool) (w : World) (hps : ps.length ≤ 1000000000) (HR : Hid (RdP w u ps)) (c : Nat) (HC : Hid (objC id x y pw ph ps cx cy cw ch = c)) :
    Calls Tryz.prog 89 #[objV id x y pw ph u cx cy cw ch sh] w fun e w' => e = .returned (errV c) ∧ Below w.heap.size w w' := by
  unfold objV
  obtain ⟨au, cu, hvu, hlu, hcu, _⟩ := HR.out
  obtain ⟨nu, HNU⟩ : ∃ n, Hid (ps.length = n) := ⟨_, (rfl : _ = _)⟩
  rw [HNU.out] at hvu
  subst hvu
  clear hlu hcu
  have E0 := eleven_start w (.int .i64 id) (.int .i64 x) (.int .i64 y) (.int .i64 pw) (.int .i64 ph) (.slice au nu cu) (.int .i64 cx) (.int .i64 cy) (.int .i64 cw) (.int .i64 ch) (.bool sh) 141 w.heap.size rfl
  obtain ⟨W0, HW0⟩ : ∃ W0, Hid (w.alloc (.cells #[.int .i64 id, .int .i64 x, .int .i64 y, .int .i64 pw, .int .i64 ph, .slice au nu cu, .int .i64 cx, .int .i64 cy, .int .i64 cw, .int .i64 ch, .bool sh] 141) = W0) := ⟨_, (rfl : _ = _)⟩
  have hb0 : Below w.heap.size w W0 := by rw [← HW0.out]; exact (Below.refl _ _).alloc (Nat.le_refl _) _
  rw [HW0.out] at E0
  have HE0 : Hid (Eleven W0 w.heap.size (.int .i64 id) (.int .i64 x) (.int .i64 y) (.int .i64 pw) (.int .i64 ph) (.slice au nu cu) (.int .i64 cx) (.int .i64 cy) (.int .i64 cw) (.int .i64 ch) (.bool sh)) := E0
  have HR0 : Hid (RdP W0 (.slice au nu cu) ps) := HR.out.on hb0
  clear E0
  go_enter Tryz.func89, Tryz.ntmps89
  have k0 := HE0.out.c0
  rw [← HW0.out] at k0
  by_cases h1 : id < 1
  · obtain rfl : 1 = c := by rw [← HC.out]; unfold objC; simp [h1]
    go_wp2_with fail
    rw [HW0.out]
    exact bodyPost_ret (v := errV 1) (by unfold errV; simp [results, Tryz.results89, go_sem]) rfl ⟨rfl, hb0⟩
  by_cases h2 : 6 < id
  · obtain rfl : 1 = c := by rw [← HC.out]; unfold objC; simp [h2]
    go_wp2_with fail
    rw [HW0.out]
    exact bodyPost_ret (v := errV 1) (by unfold errV; simp [results, Tryz.results89, go_sem]) rfl ⟨rfl, hb0⟩
  have k1 := HE0.out.c1
  have k2 := HE0.out.c2
  rw [← HW0.out] at k1 k2
  go_wp2_with fail
  rw [HW0.out]
  clear k0 k1 k2
  rcases rectC_cases x y 0 0 with r1 | r1
  case inr =>
    obtain rfl : 1 = c := by rw [← HC.out]; unfold objC; rw [if_neg (by omega), if_pos r1]
    refine (rcheck_at x y 0 0 _ 1 r1 (.iface 62 (.int .i64 1)) rfl).mono ?_
    rintro e w1 ⟨rfl, hb1⟩
    go_wp2_with fail
    exact bodyPost_ret (v := errV 1) (by unfold errV; simp [results, Tryz.results89, go_sem]) rfl ⟨rfl, hb0.trans (hb1.mono hb0.size)⟩
  refine (rcheck_at x y 0 0 _ 0 r1 .nilIface rfl).mono ?_
  rintro e w1 ⟨rfl, hb1⟩
  have HE1 : Hid (Eleven w1 w.heap.size (.int .i64 id) (.int .i64 x) (.int .i64 y) (.int .i64 pw) (.int .i64 ph) (.slice au nu cu) (.int .i64 cx) (.int .i64 cy) (.int .i64 cw) (.int .i64 ch) (.bool sh)) := HE0.out.on hb1
  have HR1 : Hid (RdP w1 (.slice au nu cu) ps) := HR0.out.on hb1
  replace hb1 := hb0.trans (hb1.mono hb0.size)
  clear HE0 HR0 HW0 hb0
  obtain ⟨_, _, _, k3, k4, k5, k6, k7, k8, k9, _, _, _, _, _, _, _, _, _, _, _, _, _⟩ := HE1.out
  go_wp2_with fail
  clear k6 k7 k8 k9 k3 k4 k5
  rcases rectC_cases cx cy cw ch with r2 | r2
  case inr =>
    obtain rfl : 1 = c := by rw [← HC.out]; unfold objC; rw [if_neg (by omega), if_neg (by omega), if_pos r2]
    refine (rcheck_at cx cy cw ch _ 1 r2 (.iface 62 (.int .i64 1)) rfl).mono ?_
    rintro e w2 ⟨rfl, hb2⟩
    go_wp2_with fail
    exact bodyPost_ret (v := errV 1) (by unfold errV; simp [results, Tryz.results89, go_sem]) rfl ⟨rfl, hb1.trans (hb2.mono hb1.size)⟩
  refine (rcheck_at cx cy cw ch _ 0 r2 .nilIface rfl).mono ?_
  rintro e w2 ⟨rfl, hb2⟩
  have HE2 : Hid (Eleven w2 w.heap.size (.int .i64 id) (.int .i64 x) (.int .i64 y) (.int .i64 pw) (.int .i64 ph) (.slice au nu cu) (.int .i64 cx) (.int .i64 cy) (.int .i64 cw) (.int .i64 ch) (.bool sh)) := HE1.out.on hb2
  have HR2 : Hid (RdP w2 (.slice au nu cu) ps) := HR1.out.on hb2
  replace hb2 := hb1.trans (hb2.mono hb1.size)
  clear HE1 HR1 hb1
  obtain ⟨_, _, _, k3, k4, k5, k6, k7, k8, k9, _, _, _, _, _, _, _, _, _, _, _, _, _⟩ := HE2.out
  go_wp2_with fail
  have HC2 : Hid (checkL pw ph ps = c) := by show _ = _; rw [← HC.out]; unfold objC; rw [if_neg (by omega), if_neg (by omega), if_neg (by omega)]
  refine (check_any pw ph _ ps _ (by omega) HR2 c HC2).mono ?_
  rintro e w3 ⟨rfl, hb3⟩
  go_wp2_with fail
  exact bodyPost_ret (v := errV c) (by simp [results, Tryz.results89, go_sem]) rfl ⟨rfl, hb2.trans (hb3.mono hb2.size)⟩
end Go.Proofs.YtceabiodelfdoaaGreatDoor
/- Walks: op.inBounds, op.foreign. -/
namespace Go.Proofs.YtceabiodelfdoaaGreatDoor
open Go.RowKit

def intCells (ns : List Int) : List Value := ns.map (fun n => .int .i64 n)
theorem Tryz.infoInt : (Tryz.prog.info? 3).map (fun i => (i.zero, i.size, i.bytes)) = some (some (.int .i64 0), 1, 8) := by kernel_rfl
theorem intCells_at (ns : List Int) (j : Nat) (h : j < ns.length) : (intCells ns)[j]? = some (.int .i64 (ns.getD j 0)) := by
  unfold intCells
  rw [List.getElem?_map, List.getD_eq_getElem?_getD, List.getElem?_eq_getElem h]
  rfl
theorem intCells_one (ns : List Int) : ∀ v ∈ intCells ns, v.oneCell' = true := by
  intro v hv
  obtain ⟨n, _, rfl⟩ := List.mem_map.1 hv
  rfl
theorem rdI_own {w : World} {B : Nat} {v : Value} {ns : List Int} {n : Nat} (h : w.ownsRow B 3 1 v n (intCells ns)) (hn : ns.length = n) : RdI w v ns := by
  subst hn
  rcases h.2 with ⟨rfl, h0⟩ | ⟨g, cap, cur, rfl, hb, hg, hn, hm, hs, ht⟩
  · have : ns = [] := List.length_eq_zero_iff.1 h0
    subst this
    exact ⟨none, 0, rfl, by simp, by omega, fun h => absurd rfl h⟩
  · unfold maxLen at hm
    refine ⟨some ⟨g, 0, none⟩, cap, by simp, by simpa using hn, by omega, fun hne => ⟨g, 0, rfl, ?_, fun j hj => ?_⟩⟩
    · rcases Nat.lt_or_ge g w.heap.size with h1 | h1
      · exact h1
      · rw [Array.getElem?_eq_none h1] at hg; cases hg
    · rw [Nat.zero_add, h.cellAt j (by omega)]
      exact intCells_at ns j hj
/-- the four numbers of an op, from a place on, or up to it -/
def nums4 (q : Pq) : List Int := [q.a, q.b, q.c, q.d]
theorem four_take {w : World} {g : Nat} (q : Pq) (h : w.heap[g]? = some (.cells #[.int .i64 q.a, .int .i64 q.b, .int .i64 q.c, .int .i64 q.d] 3 (0, 0))) (n : Nat) (hn : n ≤ 4) : RdI w (.slice (some ⟨g, 0, none⟩) n 4) ((nums4 q).take n) := by
  refine ⟨some ⟨g, 0, none⟩, 4, by simp [nums4, Nat.min_eq_left hn], by simp [nums4]; omega, by omega, fun _ => ⟨g, 0, rfl, (Array.getElem?_eq_some_iff.1 h).1, fun j hj => ?_⟩⟩
  have hj2 : j < n := by simp [nums4] at hj; omega
  rw [cell_of_row w g (0 + j) _ _ _ h]
  have : j = 0 ∨ j = 1 ∨ j = 2 ∨ j = 3 := by omega
  rw [List.getD_eq_getElem?_getD, List.getElem?_take, if_pos hj2]
  rcases this with rfl | rfl | rfl | rfl <;> rfl
theorem four_cells {w : World} {g : Nat} (q : Pq) (h : w.heap[g]? = some (.cells #[.int .i64 q.a, .int .i64 q.b, .int .i64 q.c, .int .i64 q.d] 3 (0, 0))) (n : Nat) : ∀ j v, (intCells ((nums4 q).drop n))[j]? = some v → w.cell? ((⟨g, n, none⟩ : Addr).add j) = some v := by
  intro j v hj
  have e : (⟨g, n, none⟩ : Addr).add j = ⟨g, n + j, none⟩ := by unfold Addr.add; split <;> simp_all
  rw [e, cell_of_row w g (n + j) _ _ _ h]
  unfold intCells at hj
  rw [List.getElem?_map, List.getElem?_drop] at hj
  have hl : n + j < 4 := by
    rcases Nat.lt_or_ge (n + j) 4 with h1 | h1
    · exact h1
    · rw [List.getElem?_eq_none (by simpa [nums4] using h1)] at hj; cases hj
  have : n + j = 0 ∨ n + j = 1 ∨ n + j = 2 ∨ n + j = 3 := by omega
  rcases this with h | h | h | h <;> (rw [h] at hj ⊢; exact hj)
/-- append onto a list that is full -/
theorem run_append_full (w : World) (ns ms : List Int) (b : Addr) (n : Nat) (hn : ns.length = n) (hcell : ∀ j v, (intCells ns)[j]? = some v → w.cell? (b.add j) = some v) (a : Addr) (m c : Nat) (hm : ms.length = m) (hm1 : 1 ≤ m) (hmc : ∀ j v, (intCells ms)[j]? = some v → w.cell? (a.add j) = some v) (hlim : n + m ≤ 1000) (ty : TypeId) :
    ∃ v' w', (Builtin.append_ #[96, 96] ty #[.slice (some b) n n, .slice (some a) m c]).run Tryz.prog w = .ok v' w' ∧ w'.ownsRow w.heap.size 3 1 v' (n + m) (intCells (ns ++ ms)) ∧ Below w.heap.size w w' := by
  obtain ⟨i0, hi, hz0, hz1, hz2⟩ := info_parts Tryz.infoInt
  have hr := run_append_grow (P := Tryz.prog) w 96 ty 3 i0 (.int .i64 0) Tryz.underlying96 hi hz0 b n n (intCells ns) (by rw [hz1]; simp [intCells, hn]) hcell a m c (intCells ms) (by rw [hz1]; simp [intCells, hm]) hmc (by omega) (by omega) (growslice_fits (by omega) (by rw [hz2]; omega))
  refine ⟨_, _, hr, ⟨by simp [intCells, hn, hm], .inr ⟨w.heap.size, _, _, rfl, Nat.le_refl _, heap_alloc_new w.drew _, grownCap_ge _ _ _ _, grownCap_le_maxLen _ _ _ _ (by unfold maxLen; omega), ?_, ?_⟩⟩, (Below.refl _ _).drew.alloc (Nat.le_refl _) _⟩
  · have := grownCap_ge w (n + m) n 3
    simp [size_zeroCells, intCells, hn, hm, Value.cells]
    omega
  · have e : intCells (ns ++ ms) = intCells ns ++ intCells ms := by simp [intCells]
    have hl : (intCells ns ++ intCells ms).length = (n + m) * 1 := by simp [intCells, hn, hm]
    rw [e]
    simp only [Array.toList_append, List.append_assoc]
    rw [← List.append_assoc, ← hl]
    exact List.take_left
/-- are the numbers as the kind has them? -/
def inB (q : Pq) (s : Shp) : Bool := if s.kind = 4 then decide (rectC q.a q.b q.c q.d = 0) else !((nums4 q).take s.nums).any (fun n => (decide (n < s.low) || decide (s.high < n)))
/-- the numbers that are 0 -/
def forL (q : Pq) (s : Shp) : List Int := (nums4 q).drop s.nums ++ (if s.id then [] else [q.id]) ++ (if s.pic then [] else [q.pw, q.ph, (q.ps.length : Int)])

set_option maxHeartbeats 4000000 in
set_option maxRecDepth 100000 in
theorem inBounds_any (q : Pq) (s : Shp) (ap : Option Addr) (np cp : Nat) (w : World) (hnums : s.nums ≤ 4) (t : Bool) (HT : Hid (inB q s = t)) :
    Calls Tryz.prog 41 #[opV q (.slice ap np cp), s.val] w fun e w' => e = .returned (.bool t) ∧ Below w.heap.size w w' := by
  obtain ⟨X0, HX0⟩ : ∃ X0, Hid (((w.alloc (.cells #[.int .i64 q.kind, .int .i64 q.id, .int .i64 q.a, .int .i64 q.b, .int .i64 q.c, .int .i64 q.d, .int .i64 q.pw, .int .i64 q.ph, .slice ap np cp] 48)).alloc (.cells #[.int .i64 (s.kind : Int), .string s.bytes, .bool s.id, .int .i64 (s.nums : Int), .int .i64 s.low, .int .i64 s.high, .bool s.pic] 92)) = X0) := ⟨_, (rfl : _ = _)⟩
  have hbz : Below w.heap.size w X0 := by rw [← HX0.out]; exact ((Below.refl _ _).alloc (Nat.le_refl _) _).alloc (by simp) _
  have N0 : Hid (Nine X0 w.heap.size (.int .i64 q.kind) (.int .i64 q.id) (.int .i64 q.a) (.int .i64 q.b) (.int .i64 q.c) (.int .i64 q.d) (.int .i64 q.pw) (.int .i64 q.ph) (.slice ap np cp)) := by rw [← HX0.out]; exact (nine_start w _ _ _ _ _ _ _ _ _ 48 w.heap.size rfl).alloc _
  have S0 : Hid (Seven X0 (w.heap.size + 1) (.int .i64 (s.kind : Int)) (.string s.bytes) (.bool s.id) (.int .i64 (s.nums : Int)) (.int .i64 s.low) (.int .i64 s.high) (.bool s.pic)) := by rw [← HX0.out]; exact seven_start _ _ _ _ _ _ _ _ 92 (w.heap.size + 1) (by simp)
  unfold Shp.val
  have ht := HT.out
  unfold inB at ht
  by_cases h4 : s.kind = 4
  · rw [if_pos h4] at ht
    have hk : ((s.kind : Int) == 4) = true := by simp [h4]
    clear h4
    go_enter Tryz.func41, Tryz.ntmps41
    go_wp2_with fail
    rw [HX0.out]
    obtain ⟨c, HC⟩ : ∃ c, Hid (rectC q.a q.b q.c q.d = c) := ⟨_, (rfl : _ = _)⟩
    rw [HC.out] at ht
    have hc := rectC_cases q.a q.b q.c q.d
    rw [HC.out] at hc
    refine (rcheck_any q.a q.b q.c q.d _ c HC).mono ?_
    rintro e w1 ⟨rfl, hb1⟩
    have hbb1 := hbz.trans (hb1.mono hbz.size)
    clear hb1
    rcases hc with rfl | rfl
    · rw [show errV 0 = Value.nilIface from rfl]
      have : t = true := by rw [← ht]; rfl
      subst this
      go_wp2_with fail
      go_ret
      exact ⟨rfl, hbb1⟩
    · rw [errV_one]
      have : t = false := by rw [← ht]; rfl
      subst this
      go_wp2_with fail
      go_ret
      exact ⟨rfl, hbb1⟩
  · rw [if_neg h4] at ht
    have hk : ((s.kind : Int) == 4) = false := by simp; omega
    obtain ⟨t0, HT0⟩ : ∃ t0, Hid (((nums4 q).take s.nums).any (fun n => (decide (n < s.low) || decide (s.high < n))) = t0) := ⟨_, (rfl : _ = _)⟩
    rw [HT0.out] at ht
    subst ht
    have hi1 : (0 : Int) ≤ (s.nums : Int) := by omega
    have hi2 : (s.nums : Int) ≤ 4 := by omega
    have hi3 : IntKind.i64.wrap (s.nums : Int) = (s.nums : Int) := by rw [IntKind.wrap_i64]; omega
    have KEEP : Hid (∀ w', Below X0.heap.size X0 w' → (w'.cell? ⟨w.heap.size + 1, 3, none⟩ = some (.int .i64 (s.nums : Int)) ∧ w'.cell? ⟨w.heap.size, 0, none⟩ = some (.int .i64 q.kind) ∧ w'.cell? ⟨w.heap.size, 1, none⟩ = some (.int .i64 q.id) ∧ w'.cell? ⟨w.heap.size, 2, none⟩ = some (.int .i64 q.a) ∧ w'.cell? ⟨w.heap.size, 3, none⟩ = some (.int .i64 q.b) ∧ w'.cell? ⟨w.heap.size, 4, none⟩ = some (.int .i64 q.c) ∧ w'.cell? ⟨w.heap.size, 5, none⟩ = some (.int .i64 q.d) ∧ w'.cell? ⟨w.heap.size, 6, none⟩ = some (.int .i64 q.pw) ∧ w'.cell? ⟨w.heap.size, 7, none⟩ = some (.int .i64 q.ph) ∧ w'.cell? ⟨w.heap.size, 8, none⟩ = some (.slice ap np cp))) := by
      intro w' h
      obtain ⟨m0, m1, m2, m3, m4, m5, m6, m7, m8, mf0, mf1, mf2, mf3, mf4, mf5, mf6, mf7, mf8, mlt⟩ := N0.out.on h
      exact ⟨(S0.out.on h).c3, m0, m1, m2, m3, m4, m5, m6, m7, m8⟩
    clear h4
    go_enter Tryz.func41, Tryz.ntmps41
    go_wp2_with fail
    rw [HX0.out]
    clear HX0
    refine wp_region_held_drew (S := (fun w' => w'.cell? ⟨w.heap.size + 1, 3, none⟩ = some (.int .i64 (s.nums : Int)) ∧ w'.cell? ⟨w.heap.size, 0, none⟩ = some (.int .i64 q.kind) ∧ w'.cell? ⟨w.heap.size, 1, none⟩ = some (.int .i64 q.id) ∧ w'.cell? ⟨w.heap.size, 2, none⟩ = some (.int .i64 q.a) ∧ w'.cell? ⟨w.heap.size, 3, none⟩ = some (.int .i64 q.b) ∧ w'.cell? ⟨w.heap.size, 4, none⟩ = some (.int .i64 q.c) ∧ w'.cell? ⟨w.heap.size, 5, none⟩ = some (.int .i64 q.d) ∧ w'.cell? ⟨w.heap.size, 6, none⟩ = some (.int .i64 q.pw) ∧ w'.cell? ⟨w.heap.size, 7, none⟩ = some (.int .i64 q.ph) ∧ w'.cell? ⟨w.heap.size, 8, none⟩ = some (.slice ap np cp))) (by kernel_rfl) ?_ (fun hHeld => ?_)
    · exact KEEP.out _ (Below.refl _ _).drew
    refine wpAnyH_take (i := 0) (oi := ({ dst := some 19, op := Op.load 48 (Operand.tmp 2), type := 48, pos := "op.go:151", after := #[], guard := none } : Oper)) (v := ?_) rfl (by kernel_rfl) (by kernel_rfl) (by kernel_rfl) (fun _ _ _ h => h) (Or.inl ⟨by rfl, ?_⟩) (by assumption) ?_
    rotate_left
    · (intro w hSw; (try dsimp only at hSw); go_simp; try with_reducible rfl)
    try simp only [Act.put, List.setIfInBounds_toArray, List.set_cons_zero, List.set_cons_succ]
    refine wpAnyH_take (i := 2) (oi := ({ dst := some 21, op := Op.fieldAddr 92 (Operand.tmp 3) 3, type := 0, pos := "op.go:151", after := #[], guard := none } : Oper)) (v := ?_) rfl (by kernel_rfl) (by kernel_rfl) (by kernel_rfl) (fun _ _ _ h => h) (Or.inl ⟨by rfl, ?_⟩) (by assumption) ?_
    rotate_left
    · (intro w hSw; (try dsimp only at hSw); go_simp; try with_reducible rfl)
    try simp only [Act.put, List.setIfInBounds_toArray, List.set_cons_zero, List.set_cons_succ]
    refine wpAnyH_take (i := 3) (oi := ({ dst := some 22, op := Op.load 3 (Operand.tmp 21), type := 3, pos := "op.go:151", after := #[{ on := 2, ground := Ground.data }], guard := none } : Oper)) (v := ?_) rfl (by kernel_rfl) (by kernel_rfl) (by kernel_rfl) (fun _ _ _ h => h) (Or.inl ⟨by rfl, ?_⟩) (by assumption) ?_
    rotate_left
    · (intro w hSw; (try dsimp only at hSw); go_simp; try with_reducible rfl)
    try simp only [Act.put, List.setIfInBounds_toArray, List.set_cons_zero, List.set_cons_succ]
    refine wpAnyH_take (i := 5) (oi := ({ dst := some 24, op := Op.makeFunc (Fn.func 60) #[] #[Operand.tmp 3], type := 98, pos := "op.go:151", after := #[], guard := none } : Oper)) (v := ?_) rfl (by kernel_rfl) (by kernel_rfl) (by kernel_rfl) (fun _ _ _ h => h) (Or.inl ⟨by rfl, ?_⟩) (by assumption) ?_
    rotate_left
    · (intro w hSw; (try dsimp only at hSw); go_simp; try with_reducible rfl)
    try simp only [Act.put, List.setIfInBounds_toArray, List.set_cons_zero, List.set_cons_succ]
    refine wpAnyH_ready (rs := [1]) (by kernel_rfl) (by simp) ?_
    refine AllReadyH.cons (o := ({ dst := some 20, op := Op.call { callee := Callee.value (Operand.func 54), args := #[Operand.tmp 19], argTypes := #[48] }, type := 96, pos := "op.go:151", after := #[{ on := 0, ground := Ground.data }], guard := none } : Oper)) rfl (fun K_ hK => ?_) AllReadyH.nil
    go_simp
    refine (numbers_any q (.slice ap np cp) X0.drew).mono ?_
    rintro e w1 ⟨g1, rfl, hg1, hh1, hb1⟩
    have HB1 : Hid (Below X0.heap.size X0 w1) := ⟨hb1.os, hb1.tape, hb1.output, hb1.size, hb1.block⟩
    have HRI := hid_of3 (four_take q hh1 s.nums hnums)
    clear hh1 hb1
    refine hK.out _ _ ?_ (fun hHeld => ?_)
    · exact KEEP.out _ HB1.out
    clear hK K_
    try simp only [Act.put, List.setIfInBounds_toArray, List.set_cons_zero, List.set_cons_succ]
    refine wpAnyH_take (i := 4) (oi := ({ dst := some 23, op := Op.slice 96 (Operand.tmp 20) none (some (Operand.tmp 22)) none, type := 96, pos := "op.go:151", after := #[{ on := 1, ground := Ground.data }, { on := 3, ground := Ground.data }], guard := none } : Oper)) (v := ?_) rfl (by kernel_rfl) (by kernel_rfl) (by kernel_rfl) (fun _ _ _ h => h) (Or.inl ⟨by rfl, ?_⟩) (by assumption) ?_
    rotate_left
    · (intro w hSw; (try dsimp only at hSw); go_simp; try with_reducible rfl)
    try simp only [Act.put, List.setIfInBounds_toArray, List.set_cons_zero, List.set_cons_succ]
    refine wpAnyH_ready (rs := [6]) (by kernel_rfl) (by simp) ?_
    refine AllReadyH.cons (o := ({ dst := some 25, op := Op.call { callee := Callee.value (Operand.func 38), args := #[Operand.tmp 23, Operand.tmp 24], argTypes := #[96, 98] }, type := 4, pos := "op.go:151", after := #[{ on := 4, ground := Ground.data }, { on := 5, ground := Ground.data }, { on := 1, ground := Ground.chain }], guard := none } : Oper)) rfl (fun K_ hK => ?_) AllReadyH.nil
    go_simp
    refine (containsB_any _ ((nums4 q).take s.nums) s.low s.high (w.heap.size + 1) w1 (by simp [nums4]; omega) HRI ((S0.out.on HB1.out).lt) ((S0.out.on HB1.out).c4) ((S0.out.on HB1.out).c5) t0 HT0).mono ?_
    rintro e w2 ⟨rfl, hb2⟩
    have HB2 : Hid (Below X0.heap.size X0 w2) := HB1.out.trans (hb2.mono HB1.out.size)
    clear hb2
    refine hK.out _ _ ?_ (fun hHeld => ?_)
    · exact KEEP.out _ HB2.out
    clear hK K_
    try simp only [Act.put, List.setIfInBounds_toArray, List.set_cons_zero, List.set_cons_succ]
    refine wpAnyH_take (i := 7) (oi := ({ dst := some 26, op := Op.unOp UnOp.not 4 (Operand.tmp 25), type := 4, pos := "op.go:151", after := #[{ on := 6, ground := Ground.data }], guard := none } : Oper)) (v := ?_) rfl (by kernel_rfl) (by kernel_rfl) (by kernel_rfl) (fun _ _ _ h => h) (Or.inl ⟨by rfl, ?_⟩) (by assumption) ?_
    rotate_left
    · (intro w hSw; (try dsimp only at hSw); go_simp; try with_reducible rfl)
    try simp only [Act.put, List.setIfInBounds_toArray, List.set_cons_zero, List.set_cons_succ]
    refine wpAnyH_take (i := 8) (oi := ({ dst := some 4, op := Op.assign (Operand.tmp 26), type := 4, pos := "op.go:151", after := #[{ on := 7, ground := Ground.data }, { on := 6, ground := Ground.chain }, { on := 0, ground := Ground.phase }, { on := 1, ground := Ground.phase }, { on := 2, ground := Ground.phase }, { on := 3, ground := Ground.phase }, { on := 4, ground := Ground.phase }, { on := 5, ground := Ground.phase }, { on := 6, ground := Ground.phase }, { on := 7, ground := Ground.phase }], guard := none } : Oper)) (v := ?_) rfl (by kernel_rfl) (by kernel_rfl) (by kernel_rfl) (fun _ _ _ h => h) (Or.inl ⟨by rfl, ?_⟩) (by assumption) ?_
    rotate_left
    · (intro w hSw; (try dsimp only at hSw); go_simp; try with_reducible rfl)
    try simp only [Act.put, List.setIfInBounds_toArray, List.set_cons_zero, List.set_cons_succ]
    refine wpAnyH_done (by kernel_rfl) ?_ _
    go_wp2_with fail
    go_ret
    exact ⟨rfl, hbz.trans (HB2.out.mono hbz.size)⟩
end Go.Proofs.YtceabiodelfdoaaGreatDoor
/- Walk: op.foreign. -/
namespace Go.Proofs.YtceabiodelfdoaaGreatDoor
open Go.RowKit

set_option maxHeartbeats 8000000 in
set_option maxRecDepth 100000 in
theorem foreign4_any (q : Pq) (s : Shp) (ap : Option Addr) (np cp : Nat) (w : World) (HN4 : Hid (s.nums = 4)) (hip : s.id = false → s.pic = false) (HNP : Hid (q.ps.length = np)) (_ : np ≤ 9223372036854775807) :
    Calls Tryz.prog 39 #[opV q (.slice ap np cp), .agg #[.int .i64 (s.kind : Int), .string s.bytes, .bool s.id, .int .i64 4, .int .i64 s.low, .int .i64 s.high, .bool s.pic]] w fun e w' => ∃ v', e = .returned v' ∧ RdI w' v' (forL q s) ∧ Below w.heap.size w w' := by
  obtain ⟨X0, HX0⟩ : ∃ X0, Hid (((w.alloc (.cells #[.int .i64 q.kind, .int .i64 q.id, .int .i64 q.a, .int .i64 q.b, .int .i64 q.c, .int .i64 q.d, .int .i64 q.pw, .int .i64 q.ph, .slice ap np cp] 48)).alloc (.cells #[.int .i64 (s.kind : Int), .string s.bytes, .bool s.id, .int .i64 4, .int .i64 s.low, .int .i64 s.high, .bool s.pic] 92)) = X0) := ⟨_, (rfl : _ = _)⟩
  have hbz : Below w.heap.size w X0 := by rw [← HX0.out]; exact ((Below.refl _ _).alloc (Nat.le_refl _) _).alloc (by simp) _
  have N0 : Hid (Nine X0 w.heap.size (.int .i64 q.kind) (.int .i64 q.id) (.int .i64 q.a) (.int .i64 q.b) (.int .i64 q.c) (.int .i64 q.d) (.int .i64 q.pw) (.int .i64 q.ph) (.slice ap np cp)) := by rw [← HX0.out]; exact (nine_start w _ _ _ _ _ _ _ _ _ 48 w.heap.size rfl).alloc _
  have S0 : Hid (Seven X0 (w.heap.size + 1) (.int .i64 (s.kind : Int)) (.string s.bytes) (.bool s.id) (.int .i64 4) (.int .i64 s.low) (.int .i64 s.high) (.bool s.pic)) := by rw [← HX0.out]; exact seven_start _ _ _ _ _ _ _ _ 92 (w.heap.size + 1) (by simp)
  have KEEP : Hid (∀ w', Below X0.heap.size X0 w' → (w'.cell? ⟨w.heap.size + 1, 3, none⟩ = some (.int .i64 4) ∧ w'.cell? ⟨w.heap.size, 0, none⟩ = some (.int .i64 q.kind) ∧ w'.cell? ⟨w.heap.size, 1, none⟩ = some (.int .i64 q.id) ∧ w'.cell? ⟨w.heap.size, 2, none⟩ = some (.int .i64 q.a) ∧ w'.cell? ⟨w.heap.size, 3, none⟩ = some (.int .i64 q.b) ∧ w'.cell? ⟨w.heap.size, 4, none⟩ = some (.int .i64 q.c) ∧ w'.cell? ⟨w.heap.size, 5, none⟩ = some (.int .i64 q.d) ∧ w'.cell? ⟨w.heap.size, 6, none⟩ = some (.int .i64 q.pw) ∧ w'.cell? ⟨w.heap.size, 7, none⟩ = some (.int .i64 q.ph) ∧ w'.cell? ⟨w.heap.size, 8, none⟩ = some (.slice ap np cp))) := by
    intro w' h
    obtain ⟨m0, m1, m2, m3, m4, m5, m6, m7, m8, mf0, mf1, mf2, mf3, mf4, mf5, mf6, mf7, mf8, mlt⟩ := N0.out.on h
    exact ⟨(S0.out.on h).c3, m0, m1, m2, m3, m4, m5, m6, m7, m8⟩
  go_enter Tryz.func39, Tryz.ntmps39
  go_wp2_with fail
  rw [HX0.out]
  clear HX0
  refine wp_region_held_drew (S := (fun w' => w'.cell? ⟨w.heap.size + 1, 3, none⟩ = some (.int .i64 4) ∧ w'.cell? ⟨w.heap.size, 0, none⟩ = some (.int .i64 q.kind) ∧ w'.cell? ⟨w.heap.size, 1, none⟩ = some (.int .i64 q.id) ∧ w'.cell? ⟨w.heap.size, 2, none⟩ = some (.int .i64 q.a) ∧ w'.cell? ⟨w.heap.size, 3, none⟩ = some (.int .i64 q.b) ∧ w'.cell? ⟨w.heap.size, 4, none⟩ = some (.int .i64 q.c) ∧ w'.cell? ⟨w.heap.size, 5, none⟩ = some (.int .i64 q.d) ∧ w'.cell? ⟨w.heap.size, 6, none⟩ = some (.int .i64 q.pw) ∧ w'.cell? ⟨w.heap.size, 7, none⟩ = some (.int .i64 q.ph) ∧ w'.cell? ⟨w.heap.size, 8, none⟩ = some (.slice ap np cp))) (by kernel_rfl) ?_ (fun hHeld => ?_)
  · exact KEEP.out _ (Below.refl _ _).drew
  refine wpAnyH_take (i := 0) (oi := ({ dst := some 6, op := Op.load 48 (Operand.tmp 2), type := 48, pos := "op.go:136", after := #[], guard := none } : Oper)) (v := ?_) rfl (by kernel_rfl) (by kernel_rfl) (by kernel_rfl) (fun _ _ _ h => h) (Or.inl ⟨by rfl, ?_⟩) (by assumption) ?_
  rotate_left
  · (intro w hSw; (try dsimp only at hSw); go_simp; try with_reducible rfl)
  try simp only [Act.put, List.setIfInBounds_toArray, List.set_cons_zero, List.set_cons_succ]
  refine wpAnyH_take (i := 2) (oi := ({ dst := some 8, op := Op.fieldAddr 92 (Operand.tmp 3) 3, type := 0, pos := "op.go:136", after := #[], guard := none } : Oper)) (v := ?_) rfl (by kernel_rfl) (by kernel_rfl) (by kernel_rfl) (fun _ _ _ h => h) (Or.inl ⟨by rfl, ?_⟩) (by assumption) ?_
  rotate_left
  · (intro w hSw; (try dsimp only at hSw); go_simp; try with_reducible rfl)
  try simp only [Act.put, List.setIfInBounds_toArray, List.set_cons_zero, List.set_cons_succ]
  refine wpAnyH_take (i := 3) (oi := ({ dst := some 9, op := Op.load 3 (Operand.tmp 8), type := 3, pos := "op.go:136", after := #[{ on := 2, ground := Ground.data }], guard := none } : Oper)) (v := ?_) rfl (by kernel_rfl) (by kernel_rfl) (by kernel_rfl) (fun _ _ _ h => h) (Or.inl ⟨by rfl, ?_⟩) (by assumption) ?_
  rotate_left
  · (intro w hSw; (try dsimp only at hSw); go_simp; try with_reducible rfl)
  try simp only [Act.put, List.setIfInBounds_toArray, List.set_cons_zero, List.set_cons_succ]
  refine wpAnyH_ready (rs := [1]) (by kernel_rfl) (by simp) ?_
  refine AllReadyH.cons (o := ({ dst := some 7, op := Op.call { callee := Callee.value (Operand.func 54), args := #[Operand.tmp 6], argTypes := #[48] }, type := 96, pos := "op.go:136", after := #[{ on := 0, ground := Ground.data }], guard := none } : Oper)) rfl (fun K_ hK => ?_) AllReadyH.nil
  go_simp
  refine (numbers_any q (.slice ap np cp) X0.drew).mono ?_
  rintro e w1 ⟨g1, rfl, hg1, hh1, hb1⟩
  have HB1 : Hid (Below X0.heap.size X0 w1) := ⟨hb1.os, hb1.tape, hb1.output, hb1.size, hb1.block⟩
  have HCE : Hid (∀ j v, (intCells ((nums4 q).drop 4))[j]? = some v → w1.cell? ((⟨g1, 0, none⟩ : Addr).add j) = some v) := (by intro j v hj; simp [nums4, intCells] at hj)
  have hg1l : g1 < w1.heap.size := (Array.getElem?_eq_some_iff.1 hh1).1
  clear hh1 hb1
  refine hK.out _ _ ?_ (fun hHeld => ?_)
  · exact KEEP.out _ HB1.out
  clear hK K_
  try simp only [Act.put, List.setIfInBounds_toArray, List.set_cons_zero, List.set_cons_succ]
  refine wpAnyH_take (i := 4) (oi := ({ dst := some 10, op := Op.slice 96 (Operand.tmp 7) (some (Operand.tmp 9)) none none, type := 96, pos := "op.go:136", after := #[{ on := 1, ground := Ground.data }, { on := 3, ground := Ground.data }], guard := none } : Oper)) (v := ?_) rfl (by kernel_rfl) (by kernel_rfl) (by kernel_rfl) (fun _ _ _ h => h) (Or.inl ⟨by rfl, ?_⟩) (by assumption) ?_
  rotate_left
  · (intro w hSw; (try dsimp only at hSw); go_simp; try with_reducible rfl)
  try simp only [Act.put, List.setIfInBounds_toArray, List.set_cons_zero, List.set_cons_succ]
  refine wpAnyH_take (i := 5) (oi := ({ dst := some 5, op := Op.assign (Operand.tmp 10), type := 96, pos := "op.go:136", after := #[{ on := 4, ground := Ground.data }, { on := 1, ground := Ground.chain }, { on := 0, ground := Ground.phase }, { on := 1, ground := Ground.phase }, { on := 2, ground := Ground.phase }, { on := 3, ground := Ground.phase }, { on := 4, ground := Ground.phase }], guard := none } : Oper)) (v := ?_) rfl (by kernel_rfl) (by kernel_rfl) (by kernel_rfl) (fun _ _ _ h => h) (Or.inl ⟨by rfl, ?_⟩) (by assumption) ?_
  rotate_left
  · (intro w hSw; (try dsimp only at hSw); go_simp; try with_reducible rfl)
  try simp only [Act.put, List.setIfInBounds_toArray, List.set_cons_zero, List.set_cons_succ]
  refine wpAnyH_done (by kernel_rfl) ?_ _
  have hln : ((nums4 q).drop 4).length = 0 := by simp [nums4]
  have N1 := N0.out.on HB1.out
  have S1 := S0.out.on HB1.out
  obtain ⟨m0, m1, m2, m3, m4, m5, m6, m7, m8, mf0, mf1, mf2, mf3, mf4, mf5, mf6, mf7, mf8, mlt⟩ := N1
  obtain ⟨s0, s1, s2, s3, s4, s5, s6, sf0, sf1, sf2, sf3, sf4, sf5, sf6, slt⟩ := S1
  have hbb1 := hbz.trans (HB1.out.mono hbz.size)
  clear KEEP
  cases hsp : s.pic with
  | true =>
    have hid : s.id = true := by
      cases h : s.id with
      | true => rfl
      | false => have := hip h; rw [hsp] at this; cases this
    rw [hsp] at s6
    rw [hid] at s2
    have HF : Hid (forL q s = (nums4 q).drop 4) := by unfold Hid forL; rw [HN4.out, hid, hsp]; simp
    clear hsp hid
    go_wp2_with fail
    go_ret
    refine ⟨.slice (some ⟨g1, 0, none⟩) 0 0, rfl, ?_, hbb1⟩
    rw [HF.out]
    exact ⟨some ⟨g1, 0, none⟩, 0, by rw [hln], by rw [hln]; exact Nat.le_refl _, by omega, fun hne => ⟨g1, 0, rfl, hg1l, fun j hj => by have := HCE.out j _ (intCells_at _ j hj); rw [show (⟨g1, 0, none⟩ : Addr).add j = ⟨g1, 0 + j, none⟩ by unfold Addr.add; split <;> simp_all] at this; exact this⟩⟩
  | false =>
    rw [hsp] at s6
    cases hid : s.id with
    | true =>
      rw [hid] at s2
      have HF : Hid (forL q s = (nums4 q).drop 4 ++ [q.pw, q.ph, (np : Int)]) := by unfold Hid forL; rw [HN4.out, hid, hsp, HNP.out]; simp
      clear hsp hid
      have hbx : Below w1.heap.size w1 (w1.alloc (.cells #[.int .i64 q.pw, .int .i64 q.ph, .int .i64 (np : Int)] 3)) := (Below.refl _ _).alloc (Nat.le_refl _) _
      obtain ⟨v', w3, hr, ho, hb3⟩ := run_append_full (w1.alloc (.cells #[.int .i64 q.pw, .int .i64 q.ph, .int .i64 (np : Int)] 3)) ((nums4 q).drop 4) [q.pw, q.ph, (np : Int)] ⟨g1, 0, none⟩ 0 hln (fun j v hj => by have := HCE.out j v hj; rw [show (⟨g1, 0, none⟩ : Addr).add j = ⟨g1, 0 + j, none⟩ by unfold Addr.add; split <;> simp_all] at this ⊢; exact (hbx.cell (p := ⟨g1, 0 + j, none⟩) hg1l).trans this) ⟨w1.heap.size, 0, none⟩ 3 3 rfl (by omega) (new_cells w1 _ 3) (by omega) 96
      have hbb3 := (hbb1.trans (hbx.mono hbb1.size)).trans (hb3.mono (hbb1.trans (hbx.mono hbb1.size)).size)
      have HRI := hid_of3 (rdI_own ho (by rw [List.length_append, hln]; rfl))
      obtain ⟨a', c', hv'⟩ := own_any ho
      subst hv'
      clear ho hb3 hbx
      go_wp2_with (at_builtin; refine Lib.wpList_append_run _ rfl _ _ _ _ rfl _ _ rfl rfl _ _ hr ?_)
      go_ret
      exact ⟨_, rfl, by rw [HF.out]; exact HRI.out, hbb3⟩
    | false =>
      rw [hid] at s2
      have HSP := hid_of3 hsp
      have HF : Hid (forL q s = ((nums4 q).drop 4 ++ [q.id]) ++ [q.pw, q.ph, (np : Int)]) := by unfold Hid forL; rw [HN4.out, hid, hsp, HNP.out]; simp
      clear hsp hid
      have hbx : Below w1.heap.size w1 (w1.alloc (.cells #[.int .i64 q.id] 3)) := (Below.refl _ _).alloc (Nat.le_refl _) _
      obtain ⟨v', w3, hr, ho, hb3⟩ := run_append_full (w1.alloc (.cells #[.int .i64 q.id] 3)) ((nums4 q).drop 4) [q.id] ⟨g1, 0, none⟩ 0 hln (fun j v hj => by have := HCE.out j v hj; rw [show (⟨g1, 0, none⟩ : Addr).add j = ⟨g1, 0 + j, none⟩ by unfold Addr.add; split <;> simp_all] at this ⊢; exact (hbx.cell (p := ⟨g1, 0 + j, none⟩) hg1l).trans this) ⟨w1.heap.size, 0, none⟩ 1 1 rfl (by omega) (new_cells w1 _ 3) (by omega) 96
      have hbb2 := hbb1.trans (hbx.mono hbb1.size)
      have hbb3 := hbb2.trans (hb3.mono hbb2.size)
      have HO3 := hide_own (own_mono ho hbb2.size)
      obtain ⟨a', c', hv'⟩ := own_any ho
      subst hv'
      have S3 := ((S0.out.on HB1.out).on hbx).on hb3
      have N3 := ((N0.out.on HB1.out).on hbx).on hb3
      obtain ⟨x0, x1, x2, x3, x4, x5, x6, xf0, xf1, xf2, xf3, xf4, xf5, xf6, xlt⟩ := S3
      obtain ⟨y0, y1, y2, y3, y4, y5, y6, y7, y8, yf0, yf1, yf2, yf3, yf4, yf5, yf6, yf7, yf8, ylt⟩ := N3
      rw [HSP.out] at x6
      obtain ⟨i0, hi, hz0, hz1, hz2⟩ := info_parts Tryz.infoInt
      have hbx3 : Below w3.heap.size w3 (w3.alloc (.cells #[.int .i64 q.pw, .int .i64 q.ph, .int .i64 (np : Int)] 3)) := (Below.refl _ _).alloc (Nat.le_refl _) _
      have HO4 := own_on2 HO3.out hbx3
      have hbb4 := hbb3.trans (hbx3.mono hbb3.size)
      obtain ⟨v5, w5, hr5, ho5, hg5, _⟩ := run_append_own (P := Tryz.prog) _ w.heap.size 96 96 3 i0 (.int .i64 0) 1 8 Tryz.underlying96 hi hz0 hz1 hz2 rfl (by decide) _ _ _ HO4 ⟨w3.heap.size, 0, none⟩ 3 3 (intCells [q.pw, q.ph, (np : Int)]) rfl (new_cells w3 _ 3) (intCells_one _) (by unfold maxLen; omega) (by omega) hbb4.size
      have hbb5 : Below w.heap.size w w5 := hbb4.grown hg5 hbb4.size (fun z hz => (HO4.lt z hz).1)
      have e5 : intCells ((nums4 q).drop 4 ++ [q.id]) ++ intCells [q.pw, q.ph, (np : Int)] = intCells (((nums4 q).drop 4 ++ [q.id]) ++ [q.pw, q.ph, (np : Int)]) := by simp [intCells]
      rw [e5] at ho5
      have HRI := hid_of3 (rdI_own ho5 (by rw [List.length_append, List.length_append, hln]; rfl))
      obtain ⟨a5, c5, hv5⟩ := own_any ho5
      subst hv5
      clear ho hb3 hbx ho5 hg5 e5 hbx3 HO4 HO3
      go_wp2_with (at_builtin; first | refine Lib.wpList_append_run _ rfl _ _ _ _ rfl _ _ rfl rfl _ _ hr ?_ | refine Lib.wpList_append_run _ rfl _ _ _ _ rfl _ _ rfl rfl _ _ hr5 ?_)
      go_ret
      exact ⟨_, rfl, by rw [HF.out]; exact HRI.out, hbb5⟩

set_option maxHeartbeats 8000000 in
set_option maxRecDepth 100000 in
theorem foreign_any (q : Pq) (s : Shp) (ap : Option Addr) (np cp : Nat) (w : World) (hnums : s.nums ≤ 4) (hip : s.id = false → s.pic = false) (HNP : Hid (q.ps.length = np)) (hnp : np ≤ 9223372036854775807) :
    Calls Tryz.prog 39 #[opV q (.slice ap np cp), s.val] w fun e w' => ∃ v', e = .returned v' ∧ RdI w' v' (forL q s) ∧ Below w.heap.size w w' := by
  by_cases hnn : s.nums = 4
  · have h := foreign4_any q s ap np cp w hnn hip HNP hnp
    have e : s.val = .agg #[.int .i64 (s.kind : Int), .string s.bytes, .bool s.id, .int .i64 4, .int .i64 s.low, .int .i64 s.high, .bool s.pic] := by unfold Shp.val; rw [hnn]; rfl
    rw [e]
    exact h
  obtain ⟨X0, HX0⟩ : ∃ X0, Hid (((w.alloc (.cells #[.int .i64 q.kind, .int .i64 q.id, .int .i64 q.a, .int .i64 q.b, .int .i64 q.c, .int .i64 q.d, .int .i64 q.pw, .int .i64 q.ph, .slice ap np cp] 48)).alloc (.cells #[.int .i64 (s.kind : Int), .string s.bytes, .bool s.id, .int .i64 (s.nums : Int), .int .i64 s.low, .int .i64 s.high, .bool s.pic] 92)) = X0) := ⟨_, (rfl : _ = _)⟩
  have hbz : Below w.heap.size w X0 := by rw [← HX0.out]; exact ((Below.refl _ _).alloc (Nat.le_refl _) _).alloc (by simp) _
  have N0 : Hid (Nine X0 w.heap.size (.int .i64 q.kind) (.int .i64 q.id) (.int .i64 q.a) (.int .i64 q.b) (.int .i64 q.c) (.int .i64 q.d) (.int .i64 q.pw) (.int .i64 q.ph) (.slice ap np cp)) := by rw [← HX0.out]; exact (nine_start w _ _ _ _ _ _ _ _ _ 48 w.heap.size rfl).alloc _
  have S0 : Hid (Seven X0 (w.heap.size + 1) (.int .i64 (s.kind : Int)) (.string s.bytes) (.bool s.id) (.int .i64 (s.nums : Int)) (.int .i64 s.low) (.int .i64 s.high) (.bool s.pic)) := by rw [← HX0.out]; exact seven_start _ _ _ _ _ _ _ _ 92 (w.heap.size + 1) (by simp)
  have KEEP : Hid (∀ w', Below X0.heap.size X0 w' → (w'.cell? ⟨w.heap.size + 1, 3, none⟩ = some (.int .i64 (s.nums : Int)) ∧ w'.cell? ⟨w.heap.size, 0, none⟩ = some (.int .i64 q.kind) ∧ w'.cell? ⟨w.heap.size, 1, none⟩ = some (.int .i64 q.id) ∧ w'.cell? ⟨w.heap.size, 2, none⟩ = some (.int .i64 q.a) ∧ w'.cell? ⟨w.heap.size, 3, none⟩ = some (.int .i64 q.b) ∧ w'.cell? ⟨w.heap.size, 4, none⟩ = some (.int .i64 q.c) ∧ w'.cell? ⟨w.heap.size, 5, none⟩ = some (.int .i64 q.d) ∧ w'.cell? ⟨w.heap.size, 6, none⟩ = some (.int .i64 q.pw) ∧ w'.cell? ⟨w.heap.size, 7, none⟩ = some (.int .i64 q.ph) ∧ w'.cell? ⟨w.heap.size, 8, none⟩ = some (.slice ap np cp))) := by
    intro w' h
    obtain ⟨m0, m1, m2, m3, m4, m5, m6, m7, m8, mf0, mf1, mf2, mf3, mf4, mf5, mf6, mf7, mf8, mlt⟩ := N0.out.on h
    exact ⟨(S0.out.on h).c3, m0, m1, m2, m3, m4, m5, m6, m7, m8⟩
  unfold Shp.val
  have hi1 : (0 : Int) ≤ (s.nums : Int) := by omega
  have hi2 : (s.nums : Int) ≤ 4 := by omega
  have hi3 : IntKind.i64.wrap (s.nums : Int) = (s.nums : Int) := by rw [IntKind.wrap_i64]; omega
  have hi4 : ¬ 4 = s.nums := fun h => hnn h.symm
  go_enter Tryz.func39, Tryz.ntmps39
  go_wp2_with fail
  rw [HX0.out]
  clear HX0
  refine wp_region_held_drew (S := (fun w' => w'.cell? ⟨w.heap.size + 1, 3, none⟩ = some (.int .i64 (s.nums : Int)) ∧ w'.cell? ⟨w.heap.size, 0, none⟩ = some (.int .i64 q.kind) ∧ w'.cell? ⟨w.heap.size, 1, none⟩ = some (.int .i64 q.id) ∧ w'.cell? ⟨w.heap.size, 2, none⟩ = some (.int .i64 q.a) ∧ w'.cell? ⟨w.heap.size, 3, none⟩ = some (.int .i64 q.b) ∧ w'.cell? ⟨w.heap.size, 4, none⟩ = some (.int .i64 q.c) ∧ w'.cell? ⟨w.heap.size, 5, none⟩ = some (.int .i64 q.d) ∧ w'.cell? ⟨w.heap.size, 6, none⟩ = some (.int .i64 q.pw) ∧ w'.cell? ⟨w.heap.size, 7, none⟩ = some (.int .i64 q.ph) ∧ w'.cell? ⟨w.heap.size, 8, none⟩ = some (.slice ap np cp))) (by kernel_rfl) ?_ (fun hHeld => ?_)
  · exact KEEP.out _ (Below.refl _ _).drew
  refine wpAnyH_take (i := 0) (oi := ({ dst := some 6, op := Op.load 48 (Operand.tmp 2), type := 48, pos := "op.go:136", after := #[], guard := none } : Oper)) (v := ?_) rfl (by kernel_rfl) (by kernel_rfl) (by kernel_rfl) (fun _ _ _ h => h) (Or.inl ⟨by rfl, ?_⟩) (by assumption) ?_
  rotate_left
  · (intro w hSw; (try dsimp only at hSw); go_simp; try with_reducible rfl)
  try simp only [Act.put, List.setIfInBounds_toArray, List.set_cons_zero, List.set_cons_succ]
  refine wpAnyH_take (i := 2) (oi := ({ dst := some 8, op := Op.fieldAddr 92 (Operand.tmp 3) 3, type := 0, pos := "op.go:136", after := #[], guard := none } : Oper)) (v := ?_) rfl (by kernel_rfl) (by kernel_rfl) (by kernel_rfl) (fun _ _ _ h => h) (Or.inl ⟨by rfl, ?_⟩) (by assumption) ?_
  rotate_left
  · (intro w hSw; (try dsimp only at hSw); go_simp; try with_reducible rfl)
  try simp only [Act.put, List.setIfInBounds_toArray, List.set_cons_zero, List.set_cons_succ]
  refine wpAnyH_take (i := 3) (oi := ({ dst := some 9, op := Op.load 3 (Operand.tmp 8), type := 3, pos := "op.go:136", after := #[{ on := 2, ground := Ground.data }], guard := none } : Oper)) (v := ?_) rfl (by kernel_rfl) (by kernel_rfl) (by kernel_rfl) (fun _ _ _ h => h) (Or.inl ⟨by rfl, ?_⟩) (by assumption) ?_
  rotate_left
  · (intro w hSw; (try dsimp only at hSw); go_simp; try with_reducible rfl)
  try simp only [Act.put, List.setIfInBounds_toArray, List.set_cons_zero, List.set_cons_succ]
  refine wpAnyH_ready (rs := [1]) (by kernel_rfl) (by simp) ?_
  refine AllReadyH.cons (o := ({ dst := some 7, op := Op.call { callee := Callee.value (Operand.func 54), args := #[Operand.tmp 6], argTypes := #[48] }, type := 96, pos := "op.go:136", after := #[{ on := 0, ground := Ground.data }], guard := none } : Oper)) rfl (fun K_ hK => ?_) AllReadyH.nil
  go_simp
  refine (numbers_any q (.slice ap np cp) X0.drew).mono ?_
  rintro e w1 ⟨g1, rfl, hg1, hh1, hb1⟩
  have HB1 : Hid (Below X0.heap.size X0 w1) := ⟨hb1.os, hb1.tape, hb1.output, hb1.size, hb1.block⟩
  have HCE : Hid (∀ j v, (intCells ((nums4 q).drop s.nums))[j]? = some v → w1.cell? ((⟨g1, s.nums, none⟩ : Addr).add j) = some v) := four_cells q hh1 s.nums
  have hg1l : g1 < w1.heap.size := (Array.getElem?_eq_some_iff.1 hh1).1
  clear hh1 hb1
  refine hK.out _ _ ?_ (fun hHeld => ?_)
  · exact KEEP.out _ HB1.out
  clear hK K_
  try simp only [Act.put, List.setIfInBounds_toArray, List.set_cons_zero, List.set_cons_succ]
  refine wpAnyH_take (i := 4) (oi := ({ dst := some 10, op := Op.slice 96 (Operand.tmp 7) (some (Operand.tmp 9)) none none, type := 96, pos := "op.go:136", after := #[{ on := 1, ground := Ground.data }, { on := 3, ground := Ground.data }], guard := none } : Oper)) (v := ?_) rfl (by kernel_rfl) (by kernel_rfl) (by kernel_rfl) (fun _ _ _ h => h) (Or.inl ⟨by rfl, ?_⟩) (by assumption) ?_
  rotate_left
  · (intro w hSw; (try dsimp only at hSw); go_simp; try with_reducible rfl)
  try simp only [Act.put, List.setIfInBounds_toArray, List.set_cons_zero, List.set_cons_succ]
  refine wpAnyH_take (i := 5) (oi := ({ dst := some 5, op := Op.assign (Operand.tmp 10), type := 96, pos := "op.go:136", after := #[{ on := 4, ground := Ground.data }, { on := 1, ground := Ground.chain }, { on := 0, ground := Ground.phase }, { on := 1, ground := Ground.phase }, { on := 2, ground := Ground.phase }, { on := 3, ground := Ground.phase }, { on := 4, ground := Ground.phase }], guard := none } : Oper)) (v := ?_) rfl (by kernel_rfl) (by kernel_rfl) (by kernel_rfl) (fun _ _ _ h => h) (Or.inl ⟨by rfl, ?_⟩) (by assumption) ?_
  rotate_left
  · (intro w hSw; (try dsimp only at hSw); go_simp; try with_reducible rfl)
  try simp only [Act.put, List.setIfInBounds_toArray, List.set_cons_zero, List.set_cons_succ]
  refine wpAnyH_done (by kernel_rfl) ?_ _
  have hln : ((nums4 q).drop s.nums).length = (4 - s.nums) := by simp [nums4]
  have N1 := N0.out.on HB1.out
  have S1 := S0.out.on HB1.out
  obtain ⟨m0, m1, m2, m3, m4, m5, m6, m7, m8, mf0, mf1, mf2, mf3, mf4, mf5, mf6, mf7, mf8, mlt⟩ := N1
  obtain ⟨s0, s1, s2, s3, s4, s5, s6, sf0, sf1, sf2, sf3, sf4, sf5, sf6, slt⟩ := S1
  have hbb1 := hbz.trans (HB1.out.mono hbz.size)
  clear KEEP
  cases hsp : s.pic with
  | true =>
    have hid : s.id = true := by
      cases h : s.id with
      | true => rfl
      | false => have := hip h; rw [hsp] at this; cases this
    rw [hsp] at s6
    rw [hid] at s2
    have HF : Hid (forL q s = (nums4 q).drop s.nums) := by unfold Hid forL; rw [hid, hsp]; simp
    clear hsp hid
    go_wp2_with fail
    go_ret
    refine ⟨.slice (some ⟨g1, s.nums, none⟩) (4 - s.nums) (4 - s.nums), rfl, ?_, hbb1⟩
    rw [HF.out]
    exact ⟨some ⟨g1, s.nums, none⟩, (4 - s.nums), by rw [hln], by rw [hln]; exact Nat.le_refl _, by omega, fun hne => ⟨g1, s.nums, rfl, hg1l, fun j hj => by have := HCE.out j _ (intCells_at _ j hj); rw [show (⟨g1, s.nums, none⟩ : Addr).add j = ⟨g1, s.nums + j, none⟩ by unfold Addr.add; split <;> simp_all] at this; exact this⟩⟩
  | false =>
    rw [hsp] at s6
    cases hid : s.id with
    | true =>
      rw [hid] at s2
      have HF : Hid (forL q s = (nums4 q).drop s.nums ++ [q.pw, q.ph, (np : Int)]) := by unfold Hid forL; rw [hid, hsp, HNP.out]; simp
      clear hsp hid
      have hbx : Below w1.heap.size w1 (w1.alloc (.cells #[.int .i64 q.pw, .int .i64 q.ph, .int .i64 (np : Int)] 3)) := (Below.refl _ _).alloc (Nat.le_refl _) _
      obtain ⟨v', w3, hr, ho, hb3⟩ := run_append_full (w1.alloc (.cells #[.int .i64 q.pw, .int .i64 q.ph, .int .i64 (np : Int)] 3)) ((nums4 q).drop s.nums) [q.pw, q.ph, (np : Int)] ⟨g1, s.nums, none⟩ (4 - s.nums) hln (fun j v hj => by have := HCE.out j v hj; rw [show (⟨g1, s.nums, none⟩ : Addr).add j = ⟨g1, s.nums + j, none⟩ by unfold Addr.add; split <;> simp_all] at this ⊢; exact (hbx.cell (p := ⟨g1, s.nums + j, none⟩) hg1l).trans this) ⟨w1.heap.size, 0, none⟩ 3 3 rfl (by omega) (new_cells w1 _ 3) (by omega) 96
      have hbb3 := (hbb1.trans (hbx.mono hbb1.size)).trans (hb3.mono (hbb1.trans (hbx.mono hbb1.size)).size)
      have HRI := hid_of3 (rdI_own ho (by rw [List.length_append, hln]; rfl))
      obtain ⟨a', c', hv'⟩ := own_any ho
      subst hv'
      clear ho hb3 hbx
      go_wp2_with (at_builtin; refine Lib.wpList_append_run _ rfl _ _ _ _ rfl _ _ rfl rfl _ _ hr ?_)
      go_ret
      exact ⟨_, rfl, by rw [HF.out]; exact HRI.out, hbb3⟩
    | false =>
      rw [hid] at s2
      have HSP := hid_of3 hsp
      have HF : Hid (forL q s = ((nums4 q).drop s.nums ++ [q.id]) ++ [q.pw, q.ph, (np : Int)]) := by unfold Hid forL; rw [hid, hsp, HNP.out]; simp
      clear hsp hid
      have hbx : Below w1.heap.size w1 (w1.alloc (.cells #[.int .i64 q.id] 3)) := (Below.refl _ _).alloc (Nat.le_refl _) _
      obtain ⟨v', w3, hr, ho, hb3⟩ := run_append_full (w1.alloc (.cells #[.int .i64 q.id] 3)) ((nums4 q).drop s.nums) [q.id] ⟨g1, s.nums, none⟩ (4 - s.nums) hln (fun j v hj => by have := HCE.out j v hj; rw [show (⟨g1, s.nums, none⟩ : Addr).add j = ⟨g1, s.nums + j, none⟩ by unfold Addr.add; split <;> simp_all] at this ⊢; exact (hbx.cell (p := ⟨g1, s.nums + j, none⟩) hg1l).trans this) ⟨w1.heap.size, 0, none⟩ 1 1 rfl (by omega) (new_cells w1 _ 3) (by omega) 96
      have hbb2 := hbb1.trans (hbx.mono hbb1.size)
      have hbb3 := hbb2.trans (hb3.mono hbb2.size)
      have HO3 := hide_own (own_mono ho hbb2.size)
      obtain ⟨a', c', hv'⟩ := own_any ho
      subst hv'
      have S3 := ((S0.out.on HB1.out).on hbx).on hb3
      have N3 := ((N0.out.on HB1.out).on hbx).on hb3
      obtain ⟨x0, x1, x2, x3, x4, x5, x6, xf0, xf1, xf2, xf3, xf4, xf5, xf6, xlt⟩ := S3
      obtain ⟨y0, y1, y2, y3, y4, y5, y6, y7, y8, yf0, yf1, yf2, yf3, yf4, yf5, yf6, yf7, yf8, ylt⟩ := N3
      rw [HSP.out] at x6
      obtain ⟨i0, hi, hz0, hz1, hz2⟩ := info_parts Tryz.infoInt
      have hbx3 : Below w3.heap.size w3 (w3.alloc (.cells #[.int .i64 q.pw, .int .i64 q.ph, .int .i64 (np : Int)] 3)) := (Below.refl _ _).alloc (Nat.le_refl _) _
      have HO4 := own_on2 HO3.out hbx3
      have hbb4 := hbb3.trans (hbx3.mono hbb3.size)
      obtain ⟨v5, w5, hr5, ho5, hg5, _⟩ := run_append_own (P := Tryz.prog) _ w.heap.size 96 96 3 i0 (.int .i64 0) 1 8 Tryz.underlying96 hi hz0 hz1 hz2 rfl (by decide) _ _ _ HO4 ⟨w3.heap.size, 0, none⟩ 3 3 (intCells [q.pw, q.ph, (np : Int)]) rfl (new_cells w3 _ 3) (intCells_one _) (by unfold maxLen; omega) (by omega) hbb4.size
      have hbb5 : Below w.heap.size w w5 := hbb4.grown hg5 hbb4.size (fun z hz => (HO4.lt z hz).1)
      have e5 : intCells ((nums4 q).drop s.nums ++ [q.id]) ++ intCells [q.pw, q.ph, (np : Int)] = intCells (((nums4 q).drop s.nums ++ [q.id]) ++ [q.pw, q.ph, (np : Int)]) := by simp [intCells]
      rw [e5] at ho5
      have HRI := hid_of3 (rdI_own ho5 (by rw [List.length_append, List.length_append, hln]; rfl))
      obtain ⟨a5, c5, hv5⟩ := own_any ho5
      subst hv5
      clear ho hb3 hbx ho5 hg5 e5 hbx3 HO4 HO3
      go_wp2_with (at_builtin; first | refine Lib.wpList_append_run _ rfl _ _ _ _ rfl _ _ rfl rfl _ _ hr ?_ | refine Lib.wpList_append_run _ rfl _ _ _ _ rfl _ _ rfl rfl _ _ hr5 ?_)
      go_ret
      exact ⟨_, rfl, by rw [HF.out]; exact HRI.out, hbb5⟩
end Go.Proofs.YtceabiodelfdoaaGreatDoor
