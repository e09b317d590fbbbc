/- Some of the walks, in one text. -/
import Derived.Test.YtceabiodelfdoaaGreatDoorM4
/- Walk of blend.change, with the closure of Add. -/
namespace Go.Proofs.YtceabiodelfdoaaGreatDoor
open Go.RowKit

set_option maxHeartbeats 4000000 in
set_option maxRecDepth 100000 in
theorem changeA_any (PW PH QW QH : Nat) (vp vq : Value) (ps qs : List (Int × Int)) (x y a b c d : Int) (w : World) (HP : Hid (checkL PW PH ps = 0)) (HQ : Hid (checkL QW QH qs = 0)) (RP : Hid (RdP w vp ps)) (RQ : Hid (RdP w vq qs))
    (hx : -20 ≤ x) (hx2 : x ≤ 20) (hy : -20 ≤ y) (hy2 : y ≤ 20) (ha : -20 ≤ a) (ha2 : a ≤ 20) (hb : -20 ≤ b) (hb2 : b ≤ 20) (hc : 0 ≤ c) (hc2 : c ≤ 20) (hd : 0 ≤ d) (hd2 : d ≤ 20) :
    Calls Tryz.prog 99 #[picV PW PH vp, picV QW QH vq, .int .i64 x, .int .i64 y, rectV a b c d, .func (.func 107) #[] #[]] w
      fun e w' => ∃ v', e = .returned (picV PW PH v') ∧ w'.ownsRow (w.heap.size + 4) 52 2 v' (chL addP PW ps QW QH qs x y a b c d).length (pixCells (chL addP PW ps QW QH qs x y a b c d)) ∧ Below w.heap.size w w' := by
  obtain ⟨PW', PH', e1, e2, p1, p2, p3, p4, pl, pok⟩ := check_zero _ _ _ HP.out
  obtain ⟨QW', QH', e3, e4, q1, q2, q3, q4, ql, qok⟩ := check_zero _ _ _ HQ.out
  obtain rfl : PW' = PW := by omega
  obtain rfl : PH' = PH := by omega
  obtain rfl : QW' = QW := by omega
  obtain rfl : QH' = QH := by omega
  clear e1 e2 e3 e4
  have POK : Hid (∀ k, k < ps.length → pixOk (ps.getD k (0, 0))) := pok
  have QOK : Hid (∀ k, k < qs.length → pixOk (qs.getD k (0, 0))) := qok
  clear pok qok
  have hm1 : PW' * PH' ≤ 8 * 8 := Nat.mul_le_mul p2 p4
  have hm2 : 1 * 1 ≤ PW' * PH' := Nat.mul_le_mul p1 p3
  have hm3 : QW' * QH' ≤ 8 * 8 := Nat.mul_le_mul q2 q4
  have hqne : qs ≠ [] := by
    intro e; rw [e] at ql
    have : 1 * 1 ≤ QW' * QH' := Nat.mul_le_mul q1 q3
    simp at ql; omega
  have hne : ps ≠ [] := by intro e; rw [e] at pl; simp at pl; omega
  obtain ⟨ap, cp, hvp, hlp, hcp, _⟩ := RP.out
  obtain ⟨aq, cq, hvq, hlq, hcq, _⟩ := RQ.out
  obtain ⟨np, HNP⟩ : ∃ n, Hid (ps.length = n) := ⟨_, (rfl : _ = _)⟩
  obtain ⟨nq, HNQ⟩ : ∃ n, Hid (qs.length = n) := ⟨_, (rfl : _ = _)⟩
  rw [HNP.out] at hvp hlp pl
  rw [HNQ.out] at hvq hlq ql
  subst hvp hvq
  have hnp : np ≤ 64 := by omega
  have hnp1 : 1 ≤ np := by omega
  have hnq : nq ≤ 64 := by omega
  have HPL : Hid (np = PW' * PH') := pl
  have HQL : Hid (nq = QW' * QH') := ql
  clear pl ql hm1 hm2 hm3
  unfold picV rectV
  have T0 := (((three_start w (.int .i64 (PW' : Int)) (.int .i64 (PH' : Int)) (.slice ap np cp) 46).alloc (.cells #[.int .i64 (QW' : Int), .int .i64 (QH' : Int), .slice aq nq cq] 46)).alloc (.cells #[.int .i64 a, .int .i64 b, .int .i64 c, .int .i64 d] 117)).alloc (.cells #[.int .i64 0, .int .i64 0, .slice none 0 0] 46)
  have T1 := ((three_begin (w.alloc (.cells #[.int .i64 (PW' : Int), .int .i64 (PH' : Int), .slice ap np cp] 46)) (.int .i64 (QW' : Int)) (.int .i64 (QH' : Int)) (.slice aq nq cq) 46 (w.heap.size + 1) (by simp)).alloc (.cells #[.int .i64 a, .int .i64 b, .int .i64 c, .int .i64 d] 117)).alloc (.cells #[.int .i64 0, .int .i64 0, .slice none 0 0] 46)
  have T2 := (four_start ((w.alloc (.cells #[.int .i64 (PW' : Int), .int .i64 (PH' : Int), .slice ap np cp] 46)).alloc (.cells #[.int .i64 (QW' : Int), .int .i64 (QH' : Int), .slice aq nq cq] 46)) (.int .i64 a) (.int .i64 b) (.int .i64 c) (.int .i64 d) 117 (w.heap.size + 1 + 1) (by simp)).alloc (.cells #[.int .i64 0, .int .i64 0, .slice none 0 0] 46)
  have T3 := three_begin (((w.alloc (.cells #[.int .i64 (PW' : Int), .int .i64 (PH' : Int), .slice ap np cp] 46)).alloc (.cells #[.int .i64 (QW' : Int), .int .i64 (QH' : Int), .slice aq nq cq] 46)).alloc (.cells #[.int .i64 a, .int .i64 b, .int .i64 c, .int .i64 d] 117)) (.int .i64 0) (.int .i64 0) (.slice none 0 0) 46 (w.heap.size + 1 + 1 + 1) (by simp)
  obtain ⟨W0, HW0⟩ : ∃ W0, Hid ((((w.alloc (.cells #[.int .i64 (PW' : Int), .int .i64 (PH' : Int), .slice ap np cp] 46)).alloc (.cells #[.int .i64 (QW' : Int), .int .i64 (QH' : Int), .slice aq nq cq] 46)).alloc (.cells #[.int .i64 a, .int .i64 b, .int .i64 c, .int .i64 d] 117)).alloc (.cells #[.int .i64 0, .int .i64 0, .slice none 0 0] 46) = W0) := ⟨_, (rfl : _ = _)⟩
  have hb0 : Below w.heap.size w W0 := by rw [← HW0.out]; exact ((((Below.refl _ _).alloc (Nat.le_refl _) _).alloc (by simp) _).alloc (by simp; omega) _).alloc (by simp; omega) _
  have hs0 : W0.heap.size = w.heap.size + 4 := by rw [← HW0.out]; simp
  rw [HW0.out] at T0 T1 T2 T3
  have RP0 : Hid (RdP W0 (.slice ap np cp) ps) := RP.out.on hb0
  have RQ0 : Hid (RdP W0 (.slice aq nq cq) qs) := RQ.out.on hb0
  go_enter Tryz.func99, Tryz.ntmps99
  go_wp2_with fail
  rw [HW0.out]
  refine (bown_any (PW' : Int) (PH' : Int) _ ps W0 (by rw [HNP.out]; omega) hne RP0).mono ?_
  unfold picV
  rintro e w1 ⟨v1, rfl, ho1, hb1⟩
  rw [hs0] at ho1
  replace ho1 := own_mono ho1 (show w.heap.size + 4 ≤ w.heap.size + 4 + 2 by omega)
  have HO1 := hide_own ho1
  clear ho1
  rw [HNP.out] at HO1
  obtain ⟨g, co, hv1, hgB, hlo, hco⟩ := own_shape HO1.out (by omega)
  subst hv1
  have hgb : g < w1.heap.size := (HO1.out.lt g rfl).2
  have hbw1 := hb0.trans (hb1.mono hb0.size)
  have hlt1 : w.heap.size + 4 ≤ w1.heap.size := by have := hb1.size; omega
  have U0 := T0.on hb1
  have U1 := T1.on hb1
  have U2 := T2.on hb1
  have U3 := T3.on hb1
  have RP1 : Hid (RdP w1 (.slice ap np cp) ps) := RP0.out.on hb1
  have RQ1 : Hid (RdP w1 (.slice aq nq cq) qs) := RQ0.out.on hb1
  clear T0 T1 T2 T3 RP0 RQ0 hb0 hb1
  -- the copy is laid in a block of its own
  obtain ⟨W1, HW1⟩ : ∃ W1, Hid (w1.alloc (.cells #[.int .i64 (PW' : Int), .int .i64 (PH' : Int), .slice (some ⟨g, 0, none⟩) np co] 46) = W1) := ⟨_, (rfl : _ = _)⟩
  have hbx : Below w1.heap.size w1 W1 := by rw [← HW1.out]; exact (Below.refl _ _).alloc (Nat.le_refl _) _
  have TO : Three W1 w1.heap.size (.int .i64 (PW' : Int)) (.int .i64 (PH' : Int)) (.slice (some ⟨g, 0, none⟩) np co) := by rw [← HW1.out]; exact three_start w1 _ _ _ _
  have HG1 : Hid (Gch w (.slice ap np cp) (.slice aq nq cq) (.slice (some ⟨g, 0, none⟩) np co) PW' PH' QW' QH' w1.heap.size ps qs ps W1) :=
    ⟨U0.on hbx, U1.on hbx, U3.on hbx, TO, RP1.out.on hbx, RQ1.out.on hbx, hbw1.trans (hbx.mono hbw1.size), by rw [HNP.out]; exact own_on2 HO1.out hbx⟩
  have U2x := U2.on hbx
  obtain ⟨bo, HBO⟩ : ∃ b, Hid (w1.heap.size = b) := ⟨_, (rfl : _ = _)⟩
  rw [HBO.out] at HG1 hlt1 hgb
  clear U0 U1 U2 U3 RP1 RQ1 hbw1 hbx TO HO1
  obtain ⟨c0, c1, c2, _, _, _, _⟩ := HG1.out.tp
  rw [← HW1.out] at c0 c1 c2
  go_wp2_with fail
  rw [HW1.out, HBO.out]
  refine (check_nil _ _ _ ps _ (by rw [HNP.out]; omega) HG1.out.rp HP).mono ?_
  rintro e w2 ⟨rfl, hb2⟩
  have HG2 : Hid (Gch w (.slice ap np cp) (.slice aq nq cq) (.slice (some ⟨g, 0, none⟩) np co) PW' PH' QW' QH' bo ps qs ps w2) := HG1.out.on hb2
  have U2y := U2x.on hb2
  clear HG1 c0 c1 c2 hb2 U2x HW1
  obtain ⟨d0, d1, d2, _, _, _, _⟩ := HG2.out.tq
  go_wp2_with fail
  refine (check_nil _ _ _ qs _ (by rw [HNQ.out]; omega) HG2.out.rq HQ).mono ?_
  rintro e w3 ⟨rfl, hb3⟩
  have HG3 : Hid (Gch w (.slice ap np cp) (.slice aq nq cq) (.slice (some ⟨g, 0, none⟩) np co) PW' PH' QW' QH' bo ps qs ps w3) := HG2.out.on hb3
  have U2z := U2y.on hb3
  clear HG2 d0 d1 d2 hb3 U2y
  obtain ⟨c0, c1, c2, _, _, _, _⟩ := HG3.out.tp
  obtain ⟨d0, d1, d2, _, _, _, _⟩ := HG3.out.tq
  obtain ⟨e0, e1, e2, e3, _, _, _, _, lt2⟩ := U2z
  have hbl3 := HG3.out.bel
  have hq0 := HG3.out.tp.lt
  have hq1 := HG3.out.tq.lt
  have hq2 := lt2
  have KEEP : Hid (∀ W2, Below w3.heap.size w3 W2 → (W2.cell? ⟨w.heap.size, 0, none⟩ = some (.int .i64 (PW' : Int)) ∧ W2.cell? ⟨w.heap.size, 1, none⟩ = some (.int .i64 (PH' : Int)) ∧ W2.cell? ⟨w.heap.size, 2, none⟩ = some (.slice ap np cp) ∧ W2.cell? ⟨w.heap.size + 1, 0, none⟩ = some (.int .i64 (QW' : Int)) ∧ W2.cell? ⟨w.heap.size + 1, 1, none⟩ = some (.int .i64 (QH' : Int)) ∧ W2.cell? ⟨w.heap.size + 1 + 1, 0, none⟩ = some (.int .i64 a) ∧ W2.cell? ⟨w.heap.size + 1 + 1, 1, none⟩ = some (.int .i64 b) ∧ W2.cell? ⟨w.heap.size + 1 + 1, 2, none⟩ = some (.int .i64 c) ∧ W2.cell? ⟨w.heap.size + 1 + 1, 3, none⟩ = some (.int .i64 d) ∧ Hid (Below w3.heap.size w3 W2))) := fun W2 h2 =>
    ⟨(h2.cell (p := ⟨w.heap.size, 0, none⟩) hq0).trans c0, (h2.cell (p := ⟨w.heap.size, 1, none⟩) hq0).trans c1, (h2.cell (p := ⟨w.heap.size, 2, none⟩) hq0).trans c2, (h2.cell (p := ⟨w.heap.size + 1, 0, none⟩) hq1).trans d0, (h2.cell (p := ⟨w.heap.size + 1, 1, none⟩) hq1).trans d1,
      (h2.cell (p := ⟨w.heap.size + 1 + 1, 0, none⟩) hq2).trans e0, (h2.cell (p := ⟨w.heap.size + 1 + 1, 1, none⟩) hq2).trans e1, (h2.cell (p := ⟨w.heap.size + 1 + 1, 2, none⟩) hq2).trans e2, (h2.cell (p := ⟨w.heap.size + 1 + 1, 3, none⟩) hq2).trans e3, h2⟩
  have GON : Hid (∀ W1 W2, (W1.cell? ⟨w.heap.size, 0, none⟩ = some (.int .i64 (PW' : Int)) ∧ W1.cell? ⟨w.heap.size, 1, none⟩ = some (.int .i64 (PH' : Int)) ∧ W1.cell? ⟨w.heap.size, 2, none⟩ = some (.slice ap np cp) ∧ W1.cell? ⟨w.heap.size + 1, 0, none⟩ = some (.int .i64 (QW' : Int)) ∧ W1.cell? ⟨w.heap.size + 1, 1, none⟩ = some (.int .i64 (QH' : Int)) ∧ W1.cell? ⟨w.heap.size + 1 + 1, 0, none⟩ = some (.int .i64 a) ∧ W1.cell? ⟨w.heap.size + 1 + 1, 1, none⟩ = some (.int .i64 b) ∧ W1.cell? ⟨w.heap.size + 1 + 1, 2, none⟩ = some (.int .i64 c) ∧ W1.cell? ⟨w.heap.size + 1 + 1, 3, none⟩ = some (.int .i64 d) ∧ Hid (Below w3.heap.size w3 W1)) → Below W1.heap.size W1 W2 → Hid (Below w3.heap.size w3 W2)) := fun W1 W2 h1 h2 => by
    have h := h1.2.2.2.2.2.2.2.2.2.out
    exact h.trans (h2.mono h.size)
  have KALL : Hid (∀ W1 o, (W1.cell? ⟨w.heap.size, 0, none⟩ = some (.int .i64 (PW' : Int)) ∧ W1.cell? ⟨w.heap.size, 1, none⟩ = some (.int .i64 (PH' : Int)) ∧ W1.cell? ⟨w.heap.size, 2, none⟩ = some (.slice ap np cp) ∧ W1.cell? ⟨w.heap.size + 1, 0, none⟩ = some (.int .i64 (QW' : Int)) ∧ W1.cell? ⟨w.heap.size + 1, 1, none⟩ = some (.int .i64 (QH' : Int)) ∧ W1.cell? ⟨w.heap.size + 1 + 1, 0, none⟩ = some (.int .i64 a) ∧ W1.cell? ⟨w.heap.size + 1 + 1, 1, none⟩ = some (.int .i64 b) ∧ W1.cell? ⟨w.heap.size + 1 + 1, 2, none⟩ = some (.int .i64 c) ∧ W1.cell? ⟨w.heap.size + 1 + 1, 3, none⟩ = some (.int .i64 d) ∧ Hid (Below w3.heap.size w3 W1)) → ((W1.alloc o).cell? ⟨w.heap.size, 0, none⟩ = some (.int .i64 (PW' : Int)) ∧ (W1.alloc o).cell? ⟨w.heap.size, 1, none⟩ = some (.int .i64 (PH' : Int)) ∧ (W1.alloc o).cell? ⟨w.heap.size, 2, none⟩ = some (.slice ap np cp) ∧ (W1.alloc o).cell? ⟨w.heap.size + 1, 0, none⟩ = some (.int .i64 (QW' : Int)) ∧ (W1.alloc o).cell? ⟨w.heap.size + 1, 1, none⟩ = some (.int .i64 (QH' : Int)) ∧ (W1.alloc o).cell? ⟨w.heap.size + 1 + 1, 0, none⟩ = some (.int .i64 a) ∧ (W1.alloc o).cell? ⟨w.heap.size + 1 + 1, 1, none⟩ = some (.int .i64 b) ∧ (W1.alloc o).cell? ⟨w.heap.size + 1 + 1, 2, none⟩ = some (.int .i64 c) ∧ (W1.alloc o).cell? ⟨w.heap.size + 1 + 1, 3, none⟩ = some (.int .i64 d) ∧ Hid (Below w3.heap.size w3 (W1.alloc o)))) := fun W1 o h1 => by
    have h := h1.2.2.2.2.2.2.2.2.2.out
    exact KEEP.out _ (h.alloc h.size o)
  obtain ⟨r1, HR1⟩ : ∃ r, Hid (bothL 0 0 PW' PH' x y QW' QH' = r) := ⟨_, (rfl : _ = _)⟩
  obtain ⟨n0, n1, n2, n3, n4, n5, n6, n7⟩ := both_bounds 0 0 PW' PH' x y QW' QH' 20 (by omega) (by omega) (by omega) (by omega) (by omega) (by omega) (by omega) (by omega) (by omega) (by omega) (by omega) (by omega) (by omega) (by omega) (by omega) (by omega) r1 HR1.out
  obtain ⟨r2, HR2⟩ : ∃ r, Hid (bothL a b c d r1.1 r1.2.1 r1.2.2.1 r1.2.2.2 = r) := ⟨_, (rfl : _ = _)⟩
  obtain ⟨r1a, r1b, r1c, r1d⟩ := r1
  simp only at n0 n1 n2 n3 n4 n5 n6 n7 HR2
  obtain ⟨rx, ry, rw_, rh⟩ := r2
  clear c0 c1 c2 d0 d1 e0 e1 e2 e3
  go_wp2_with fail
  go_cut [14] from 41 (fun s14 wc => ∃ br, s14 = .pointer (some ⟨br, 0, none⟩) ∧ Four wc br (.int .i64 rx) (.int .i64 ry) (.int .i64 rw_) (.int .i64 rh) ∧ Below w3.heap.size w3 wc ∧ w3.heap.size ≤ br)
  case first =>
    have HB0 : Hid (Below w3.heap.size w3 w3.drew) := Below.drew (Below.refl _ _)
    refine wp_region_held_drew (S := (fun w' => w'.cell? ⟨w.heap.size, 0, none⟩ = some (.int .i64 (PW' : Int)) ∧ w'.cell? ⟨w.heap.size, 1, none⟩ = some (.int .i64 (PH' : Int)) ∧ w'.cell? ⟨w.heap.size, 2, none⟩ = some (.slice ap np cp) ∧ w'.cell? ⟨w.heap.size + 1, 0, none⟩ = some (.int .i64 (QW' : Int)) ∧ w'.cell? ⟨w.heap.size + 1, 1, none⟩ = some (.int .i64 (QH' : Int)) ∧ w'.cell? ⟨w.heap.size + 1 + 1, 0, none⟩ = some (.int .i64 a) ∧ w'.cell? ⟨w.heap.size + 1 + 1, 1, none⟩ = some (.int .i64 b) ∧ w'.cell? ⟨w.heap.size + 1 + 1, 2, none⟩ = some (.int .i64 c) ∧ w'.cell? ⟨w.heap.size + 1 + 1, 3, none⟩ = some (.int .i64 d) ∧ Hid (Below w3.heap.size w3 w'))) (by kernel_rfl) ?_ (fun hHeld => ?_)
    · exact KEEP.out _ HB0.out
    refine tk (v := ?_) 0 rfl (by kernel_rfl) (by rfl) ?_ ?_
    rotate_left
    · (intro w hSw; (try dsimp only at hSw); go_simp; try with_reducible rfl)
    refine tk (v := ?_) 1 rfl (by kernel_rfl) (by rfl) ?_ ?_
    rotate_left
    · (intro w hSw; (try dsimp only at hSw); go_simp; try with_reducible rfl)
    refine tk (v := ?_) 3 rfl (by kernel_rfl) (by rfl) ?_ ?_
    rotate_left
    · (intro w hSw; (try dsimp only at hSw); go_simp; try with_reducible rfl)
    refine tk (v := ?_) 4 rfl (by kernel_rfl) (by rfl) ?_ ?_
    rotate_left
    · (intro w hSw; (try dsimp only at hSw); go_simp; try with_reducible rfl)
    refine tk (v := ?_) 5 rfl (by kernel_rfl) (by rfl) ?_ ?_
    rotate_left
    · (intro w hSw; (try dsimp only at hSw); go_simp; try with_reducible rfl)
    refine tk (v := ?_) 6 rfl (by kernel_rfl) (by rfl) ?_ ?_
    rotate_left
    · (intro w hSw; (try dsimp only at hSw); go_simp; try with_reducible rfl)
    refine tk (v := ?_) 7 rfl (by kernel_rfl) (by rfl) ?_ ?_
    rotate_left
    · (intro w hSw; (try dsimp only at hSw); go_simp; try with_reducible rfl)
    refine tk (v := ?_) 8 rfl (by kernel_rfl) (by rfl) ?_ ?_
    rotate_left
    · (intro w hSw; (try dsimp only at hSw); go_simp; try with_reducible rfl)
    refine tk (v := ?_) 9 rfl (by kernel_rfl) (by rfl) ?_ ?_
    rotate_left
    · (intro w hSw; (try dsimp only at hSw); go_simp; try with_reducible rfl)
    refine wpAnyH_ready (rs := [2, 12]) (by kernel_rfl) (by simp) ?_
    refine AllReadyH.cons rfl (fun K hK => ?_) (AllReadyH.cons rfl (fun K hK => ?_) AllReadyH.nil)
    · go_simp
      refine (whole_any PW' PH' ap np cp _).mono ?_
      unfold rectV
      try simp only
      rintro e wx1 ⟨rfl, hbx1⟩
      have HB1 : Hid (Below w3.heap.size w3 wx1) := HB0.out.trans (hbx1.mono HB0.out.size)
      clear hbx1
      refine hK.out _ _ ?_ (fun hHeld => ?_)
      · exact KEEP.out _ HB1.out
      clear hK K
      refine wpAnyH_ready (rs := [10, 12]) (by kernel_rfl) (by simp) ?_
      refine AllReadyH.cons rfl (fun K hK => ?_) (AllReadyH.cons rfl (fun K hK => ?_) AllReadyH.nil)
      · go_simp
        refine (both_any 0 0 PW' PH' x y QW' QH' _ (by omega) (by omega) (by omega) (by omega) (by omega) (by omega) (by omega) (by omega) (by omega) (by omega) (by omega) (by omega) (by omega) (by omega) (by omega) (by omega) (r1a, r1b, r1c, r1d) HR1).mono ?_
        unfold ratV rectV
        try simp only
        rintro e wx2 ⟨rfl, hbx2⟩
        have HB2 : Hid (Below w3.heap.size w3 wx2) := HB1.out.trans (hbx2.mono HB1.out.size)
        clear hbx2
        refine hK.out _ _ ?_ (fun hHeld => ?_)
        · exact KEEP.out _ HB2.out
        clear hK K
        refine wpAnyH_ready (rs := [11, 12]) (by kernel_rfl) (by simp) ?_
        refine AllReadyH.cons rfl (fun K hK => ?_) (AllReadyH.cons rfl (fun K hK => ?_) AllReadyH.nil)
        · go_simp
          refine (both_any a b c d r1a r1b r1c r1d _ (by omega) (by omega) (by omega) (by omega) (by omega) (by omega) (by omega) (by omega) (by omega) (by omega) (by omega) (by omega) (by omega) (by omega) (by omega) (by omega) (rx, ry, rw_, rh) HR2).mono ?_
          unfold ratV rectV
          try simp only
          rintro e wx3 ⟨rfl, hbx3⟩
          have HB3 : Hid (Below w3.heap.size w3 wx3) := HB2.out.trans (hbx3.mono HB2.out.size)
          clear hbx3
          refine hK.out _ _ ?_ (fun hHeld => ?_)
          · exact KEEP.out _ HB3.out
          clear hK K
          refine wpAnyH_ready (rs := [12]) (by kernel_rfl) (by simp) ?_
          refine AllReadyH.cons rfl (fun K hK => ?_) AllReadyH.nil
          go_simp
          have HBA : Hid (Below w3.heap.size w3 (wx3.alloc (.cells #[.int .i64 0, .int .i64 0, .int .i64 0, .int .i64 0] 117))) := HB3.out.alloc HB3.out.size _
          refine hK.out _ _ ?_ (fun hHeld => ?_)
          · exact KEEP.out _ HBA.out
          clear hK K
          refine wpAnyH_ready (rs := [13]) (by kernel_rfl) (by simp) ?_
          refine AllReadyH.cons rfl (fun K hK => ?_) AllReadyH.nil
          go_simp
          refine hK.out _ _ ?_ (fun hHeld => ?_)
          · exact KEEP.out _ (HB3.out.alloc HB3.out.size (.cells #[.int .i64 rx, .int .i64 ry, .int .i64 rw_, .int .i64 rh] 117))
          clear hK K
          refine wpAnyH_done (by kernel_rfl) ?_ _
          go_wp2_with fail
          go_meet
          exact ⟨_, rfl, four_start _ _ _ _ _ _ _ rfl, (HB3.out.alloc HB3.out.size (.cells #[.int .i64 rx, .int .i64 ry, .int .i64 rw_, .int .i64 rh] 117)), HB3.out.size⟩
        · go_simp
          have HBA : Hid (Below w3.heap.size w3 (wx2.alloc (.cells #[.int .i64 0, .int .i64 0, .int .i64 0, .int .i64 0] 117))) := HB2.out.alloc HB2.out.size _
          have FA : Hid (Four (wx2.alloc (.cells #[.int .i64 0, .int .i64 0, .int .i64 0, .int .i64 0] 117)) wx2.heap.size (.int .i64 0) (.int .i64 0) (.int .i64 0) (.int .i64 0)) := four_start _ _ _ _ _ _ _ rfl
          refine hK.out _ _ ?_ (fun hHeld => ?_)
          · exact KEEP.out _ HBA.out
          clear hK K
          refine wpAnyH_ready (rs := [11]) (by kernel_rfl) (by simp) ?_
          refine AllReadyH.cons rfl (fun K hK => ?_) AllReadyH.nil
          go_simp
          refine (both_any a b c d r1a r1b r1c r1d _ (by omega) (by omega) (by omega) (by omega) (by omega) (by omega) (by omega) (by omega) (by omega) (by omega) (by omega) (by omega) (by omega) (by omega) (by omega) (by omega) (rx, ry, rw_, rh) HR2).mono ?_
          unfold ratV rectV
          try simp only
          rintro e wx3 ⟨rfl, hbx3⟩
          have HB3 : Hid (Below w3.heap.size w3 wx3) := HBA.out.trans (hbx3.mono HBA.out.size)
          have F3 : Hid (Four wx3 wx2.heap.size (.int .i64 0) (.int .i64 0) (.int .i64 0) (.int .i64 0)) := Four.on FA.out hbx3
          clear hbx3
          refine hK.out _ _ ?_ (fun hHeld => ?_)
          · exact KEEP.out _ HB3.out
          clear hK K
          refine wpAnyH_ready (rs := [13]) (by kernel_rfl) (by simp) ?_
          refine AllReadyH.cons rfl (fun K hK => ?_) AllReadyH.nil
          obtain ⟨_, _, _, _, _, _, _, _, _⟩ := F3.out
          go_simp
          refine hK.out _ _ ?_ (fun hHeld => ?_)
          · exact KEEP.out _ ((((HB3.out.setCell (HB2.out.size) _).setCell (HB2.out.size) _).setCell (HB2.out.size) _).setCell (HB2.out.size) _)
          clear hK K
          refine wpAnyH_done (by kernel_rfl) ?_ _
          go_wp2_with fail
          go_meet
          exact ⟨_, rfl, Four.set_all F3.out _ _ _ _, ((((HB3.out.setCell (HB2.out.size) _).setCell (HB2.out.size) _).setCell (HB2.out.size) _).setCell (HB2.out.size) _), HB2.out.size⟩
      · go_simp
        have HBA : Hid (Below w3.heap.size w3 (wx1.alloc (.cells #[.int .i64 0, .int .i64 0, .int .i64 0, .int .i64 0] 117))) := HB1.out.alloc HB1.out.size _
        have FA : Hid (Four (wx1.alloc (.cells #[.int .i64 0, .int .i64 0, .int .i64 0, .int .i64 0] 117)) wx1.heap.size (.int .i64 0) (.int .i64 0) (.int .i64 0) (.int .i64 0)) := four_start _ _ _ _ _ _ _ rfl
        refine hK.out _ _ ?_ (fun hHeld => ?_)
        · exact KEEP.out _ HBA.out
        clear hK K
        refine wpAnyH_ready (rs := [10]) (by kernel_rfl) (by simp) ?_
        refine AllReadyH.cons rfl (fun K hK => ?_) AllReadyH.nil
        go_simp
        refine (both_any 0 0 PW' PH' x y QW' QH' _ (by omega) (by omega) (by omega) (by omega) (by omega) (by omega) (by omega) (by omega) (by omega) (by omega) (by omega) (by omega) (by omega) (by omega) (by omega) (by omega) (r1a, r1b, r1c, r1d) HR1).mono ?_
        unfold ratV rectV
        try simp only
        rintro e wx2 ⟨rfl, hbx2⟩
        have HB2 : Hid (Below w3.heap.size w3 wx2) := HBA.out.trans (hbx2.mono HBA.out.size)
        have F2 : Hid (Four wx2 wx1.heap.size (.int .i64 0) (.int .i64 0) (.int .i64 0) (.int .i64 0)) := Four.on FA.out hbx2
        clear hbx2
        refine hK.out _ _ ?_ (fun hHeld => ?_)
        · exact KEEP.out _ HB2.out
        clear hK K
        refine wpAnyH_ready (rs := [11]) (by kernel_rfl) (by simp) ?_
        refine AllReadyH.cons rfl (fun K hK => ?_) AllReadyH.nil
        go_simp
        refine (both_any a b c d r1a r1b r1c r1d _ (by omega) (by omega) (by omega) (by omega) (by omega) (by omega) (by omega) (by omega) (by omega) (by omega) (by omega) (by omega) (by omega) (by omega) (by omega) (by omega) (rx, ry, rw_, rh) HR2).mono ?_
        unfold ratV rectV
        try simp only
        rintro e wx3 ⟨rfl, hbx3⟩
        have HB3 : Hid (Below w3.heap.size w3 wx3) := HB2.out.trans (hbx3.mono HB2.out.size)
        have F3 : Hid (Four wx3 wx1.heap.size (.int .i64 0) (.int .i64 0) (.int .i64 0) (.int .i64 0)) := Four.on F2.out hbx3
        clear hbx3
        refine hK.out _ _ ?_ (fun hHeld => ?_)
        · exact KEEP.out _ HB3.out
        clear hK K
        refine wpAnyH_ready (rs := [13]) (by kernel_rfl) (by simp) ?_
        refine AllReadyH.cons rfl (fun K hK => ?_) AllReadyH.nil
        obtain ⟨_, _, _, _, _, _, _, _, _⟩ := F3.out
        go_simp
        refine hK.out _ _ ?_ (fun hHeld => ?_)
        · exact KEEP.out _ ((((HB3.out.setCell (HB1.out.size) _).setCell (HB1.out.size) _).setCell (HB1.out.size) _).setCell (HB1.out.size) _)
        clear hK K
        refine wpAnyH_done (by kernel_rfl) ?_ _
        go_wp2_with fail
        go_meet
        exact ⟨_, rfl, Four.set_all F3.out _ _ _ _, ((((HB3.out.setCell (HB1.out.size) _).setCell (HB1.out.size) _).setCell (HB1.out.size) _).setCell (HB1.out.size) _), HB1.out.size⟩
    · go_simp
      have HBA : Hid (Below w3.heap.size w3 (w3.drew.alloc (.cells #[.int .i64 0, .int .i64 0, .int .i64 0, .int .i64 0] 117))) := HB0.out.alloc HB0.out.size _
      have FA : Hid (Four (w3.drew.alloc (.cells #[.int .i64 0, .int .i64 0, .int .i64 0, .int .i64 0] 117)) w3.heap.size (.int .i64 0) (.int .i64 0) (.int .i64 0) (.int .i64 0)) := four_start _ _ _ _ _ _ _ rfl
      refine hK.out _ _ ?_ (fun hHeld => ?_)
      · exact KEEP.out _ HBA.out
      clear hK K
      refine wpAnyH_ready (rs := [2]) (by kernel_rfl) (by simp) ?_
      refine AllReadyH.cons rfl (fun K hK => ?_) AllReadyH.nil
      go_simp
      refine (whole_any PW' PH' ap np cp _).mono ?_
      unfold rectV
      try simp only
      rintro e wx1 ⟨rfl, hbx1⟩
      have HB1 : Hid (Below w3.heap.size w3 wx1) := HBA.out.trans (hbx1.mono HBA.out.size)
      have F1 : Hid (Four wx1 w3.heap.size (.int .i64 0) (.int .i64 0) (.int .i64 0) (.int .i64 0)) := Four.on FA.out hbx1
      clear hbx1
      refine hK.out _ _ ?_ (fun hHeld => ?_)
      · exact KEEP.out _ HB1.out
      clear hK K
      refine wpAnyH_ready (rs := [10]) (by kernel_rfl) (by simp) ?_
      refine AllReadyH.cons rfl (fun K hK => ?_) AllReadyH.nil
      go_simp
      refine (both_any 0 0 PW' PH' x y QW' QH' _ (by omega) (by omega) (by omega) (by omega) (by omega) (by omega) (by omega) (by omega) (by omega) (by omega) (by omega) (by omega) (by omega) (by omega) (by omega) (by omega) (r1a, r1b, r1c, r1d) HR1).mono ?_
      unfold ratV rectV
      try simp only
      rintro e wx2 ⟨rfl, hbx2⟩
      have HB2 : Hid (Below w3.heap.size w3 wx2) := HB1.out.trans (hbx2.mono HB1.out.size)
      have F2 : Hid (Four wx2 w3.heap.size (.int .i64 0) (.int .i64 0) (.int .i64 0) (.int .i64 0)) := Four.on F1.out hbx2
      clear hbx2
      refine hK.out _ _ ?_ (fun hHeld => ?_)
      · exact KEEP.out _ HB2.out
      clear hK K
      refine wpAnyH_ready (rs := [11]) (by kernel_rfl) (by simp) ?_
      refine AllReadyH.cons rfl (fun K hK => ?_) AllReadyH.nil
      go_simp
      refine (both_any a b c d r1a r1b r1c r1d _ (by omega) (by omega) (by omega) (by omega) (by omega) (by omega) (by omega) (by omega) (by omega) (by omega) (by omega) (by omega) (by omega) (by omega) (by omega) (by omega) (rx, ry, rw_, rh) HR2).mono ?_
      unfold ratV rectV
      try simp only
      rintro e wx3 ⟨rfl, hbx3⟩
      have HB3 : Hid (Below w3.heap.size w3 wx3) := HB2.out.trans (hbx3.mono HB2.out.size)
      have F3 : Hid (Four wx3 w3.heap.size (.int .i64 0) (.int .i64 0) (.int .i64 0) (.int .i64 0)) := Four.on F2.out hbx3
      clear hbx3
      refine hK.out _ _ ?_ (fun hHeld => ?_)
      · exact KEEP.out _ HB3.out
      clear hK K
      refine wpAnyH_ready (rs := [13]) (by kernel_rfl) (by simp) ?_
      refine AllReadyH.cons rfl (fun K hK => ?_) AllReadyH.nil
      obtain ⟨_, _, _, _, _, _, _, _, _⟩ := F3.out
      go_simp
      refine hK.out _ _ ?_ (fun hHeld => ?_)
      · exact KEEP.out _ ((((HB3.out.setCell (Nat.le_refl _) _).setCell (Nat.le_refl _) _).setCell (Nat.le_refl _) _).setCell (Nat.le_refl _) _)
      clear hK K
      refine wpAnyH_done (by kernel_rfl) ?_ _
      go_wp2_with fail
      go_meet
      exact ⟨_, rfl, Four.set_all F3.out _ _ _ _, ((((HB3.out.setCell (Nat.le_refl _) _).setCell (Nat.le_refl _) _).setCell (Nat.le_refl _) _).setCell (Nat.le_refl _) _), Nat.le_refl _⟩
  case rest =>
    obtain ⟨br, rfl, FR, hb4, hbr⟩ := hcut
    have HG4 : Hid (Gch w (.slice ap np cp) (.slice aq nq cq) (.slice (some ⟨g, 0, none⟩) np co) PW' PH' QW' QH' bo ps qs ps wc) := HG3.out.on hb4
    have hn2 := both_bounds a b c d r1a r1b r1c r1d 20 ha ha2 hb hb2 hc hc2 hd hd2 n0 n1 n2 n3 n4 n5 n6 n7 _ HR2.out
    simp only at hn2
    obtain ⟨m0, m1, m2, m3, m4, m5, m6, m7⟩ := hn2
    obtain ⟨r0, rr1, rr2, rr3, _, _, _, _, _⟩ := FR
    have FRc : Hid (Four wc br (.int .i64 rx) (.int .i64 ry) (.int .i64 rw_) (.int .i64 rh)) := ⟨r0, rr1, rr2, rr3, ‹_›, ‹_›, ‹_›, ‹_›, ‹_›⟩
    have hgr : g < w3.heap.size := (HG3.out.own.lt g rfl).2
    clear KEEP GON KALL HG3 hb4
    obtain ⟨gp, op, rfl, hgp, RPC⟩ := rd_some RP.out hne
    obtain ⟨gq_, oq, rfl, hgq, RQC⟩ := rd_some RQ.out hqne
    have HRPC := hid_of RPC
    have HRQC := hid_of RQC
    clear RPC RQC
    go_wp2_with fail
    go_loopw [15] (fun rv wr => ∃ R : Int, rv = .int .i64 R ∧ ry ≤ R ∧ R ≤ ry + rh ∧ Hid (Four wr br (.int .i64 rx) (.int .i64 ry) (.int .i64 rw_) (.int .i64 rh)) ∧
      Hid (Gch w (.slice (some ⟨gp, op, none⟩) np cp) (.slice (some ⟨gq_, oq, none⟩) nq cq) (.slice (some ⟨g, 0, none⟩) np co) PW' PH' QW' QH' bo ps qs (gridL PW' (PW' * PH') (upto rx ry rw_ rh R rx) (gq addP PW' ps QW' qs x y) ps) wr)) (fun rv _ => (ry + rh - intOf rv).toNat)
    case atStart =>
      refine ⟨ry, rfl, by omega, by omega, FRc, ?_⟩
      unfold Hid
      rw [upto_start PW' PH' _ ps rx ry rw_ rh (by rw [HNP.out]; exact HPL.out)]
      exact HG4.out
    case round =>
      obtain ⟨R, rfl, R0, R1, HFR, HG⟩ := hrel
      obtain ⟨r0, rr1, rr2, rr3, _, _, _, _, _⟩ := HFR.out
      by_cases hR : R < ry + rh
      · go_wp2_with fail
        go_loopw [16] (fun cv wr => ∃ C : Int, cv = .int .i64 C ∧ rx ≤ C ∧ C ≤ rx + rw_ ∧ Hid (Four wr br (.int .i64 rx) (.int .i64 ry) (.int .i64 rw_) (.int .i64 rh)) ∧
          Hid (Gch w (.slice (some ⟨gp, op, none⟩) np cp) (.slice (some ⟨gq_, oq, none⟩) nq cq) (.slice (some ⟨g, 0, none⟩) np co) PW' PH' QW' QH' bo ps qs (gridL PW' (PW' * PH') (upto rx ry rw_ rh R C) (gq addP PW' ps QW' qs x y) ps) wr)) (fun cv _ => (rx + rw_ - intOf cv).toNat)
        case atStart => exact ⟨rx, rfl, by omega, by omega, HFR, HG⟩
        case round =>
          obtain ⟨C, rfl, C0, C1, HFR2, HG2⟩ := hrel
          clear r0 rr1 rr2 rr3
          obtain ⟨r0, rr1, rr2, rr3, _, _, _, _, _⟩ := HFR2.out
          by_cases hC : C < rx + rw_
          · have hin := both_has a b c d r1a r1b r1c r1d C R _ HR2.out
            have hin1 := both_has 0 0 PW' PH' x y QW' QH' C R _ HR1.out
            simp only at hin hin1
            rw [(hasB_iff rx ry rw_ rh C R).2 ⟨C0, hC, R0, hR⟩] at hin
            have hin2 : hasB r1a r1b r1c r1d C R = true := by
              rw [hin1] at hin ⊢; revert hin; cases hasB a b c d C R <;> simp
            rw [hin2] at hin1
            have hin3 : hasB 0 0 PW' PH' C R = true ∧ hasB x y QW' QH' C R = true := by
              revert hin1; cases hasB 0 0 PW' PH' C R <;> simp
            obtain ⟨i0, i1, i2, i3⟩ := (hasB_iff _ _ _ _ _ _).1 hin3.1
            obtain ⟨j0, j1, j2, j3⟩ := (hasB_iff _ _ _ _ _ _).1 hin3.2
            clear hin hin1 hin2 hin3
            obtain ⟨Rn, rfl⟩ : ∃ n : Nat, R = (n : Int) := ⟨R.toNat, by omega⟩
            obtain ⟨Cn, rfl⟩ : ∃ n : Nat, C = (n : Int) := ⟨C.toNat, by omega⟩
            obtain ⟨K, HK⟩ : ∃ K, Hid (Rn * PW' + Cn = K) := ⟨_, (rfl : _ = _)⟩
            have hRP : (Rn + 1) * PW' ≤ PH' * PW' := Nat.mul_le_mul_right _ (by omega)
            have hKn : K < np := by
              have h1 := HK.out; have h2 := HPL.out
              rw [Nat.mul_comm] at h2; rw [Nat.add_mul] at hRP; omega
            obtain ⟨M, HM⟩ : ∃ M, Hid (Rn * PW' = M) := ⟨_, (rfl : _ = _)⟩
            have hM : (Rn : Int) * (PW' : Int) = (M : Int) := by rw [← HM.out]; exact (Int.natCast_mul _ _).symm
            have hMK : M + Cn = K := by rw [← HM.out]; exact HK.out
            obtain ⟨Ry, HRy⟩ : ∃ n : Nat, Hid ((Rn : Int) - y = (n : Int)) := ⟨((Rn : Int) - y).toNat, by unfold Hid; omega⟩
            obtain ⟨Cx, HCx⟩ : ∃ n : Nat, Hid ((Cn : Int) - x = (n : Int)) := ⟨((Cn : Int) - x).toNat, by unfold Hid; omega⟩
            obtain ⟨M2, HM2⟩ : ∃ M, Hid (Ry * QW' = M) := ⟨_, (rfl : _ = _)⟩
            have hRy := HRy.out
            have hM2 : (Ry : Int) * (QW' : Int) = (M2 : Int) := by rw [← HM2.out]; exact (Int.natCast_mul _ _).symm
            have hRQ : (Ry + 1) * QW' ≤ QH' * QW' := Nat.mul_le_mul_right _ (by omega)
            have hM2n : M2 + Cx < nq := by
              have h1 := HM2.out; have h2 := HQL.out; have h3 := HCx.out
              rw [Nat.mul_comm] at h2; rw [Nat.add_mul] at hRQ; omega
            have hJ : (M2 : Int) + (Cn : Int) - x = ((M2 + Cx : Nat) : Int) := by have := HCx.out; omega
            obtain ⟨J, HJ⟩ : ∃ J, Hid (M2 + Cx = J) := ⟨_, (rfl : _ = _)⟩
            rw [HJ.out] at hJ hM2n
            clear hRP hRQ
            have HGQ : Hid (gq addP PW' ps QW' qs x y K = addP (ps.getD K (0, 0)) (qs.getD J (0, 0))) := by
              have e1 : K / PW' = Rn := by rw [← HK.out, Nat.add_comm, Nat.add_mul_div_right _ _ (by omega), Nat.div_eq_of_lt (by omega), Nat.zero_add]
              have e2 : K % PW' = Cn := by rw [← HK.out, Nat.add_comm, Nat.add_mul_mod_self_right, Nat.mod_eq_of_lt (by omega)]
              unfold Hid gq
              rw [e1, e2, hRy, hM2, hJ, Int.toNat_natCast]
            obtain ⟨hpc0, hpc1⟩ := HRPC.out _ HG2.out.bel K (by rw [HNP.out]; exact hKn)
            obtain ⟨hqc0, hqc1⟩ := HRQC.out _ HG2.out.bel J (by rw [HNQ.out]; exact hM2n)
            have hpk := POK.out K (by rw [HNP.out]; exact hKn)
            have hqk := QOK.out J (by rw [HNQ.out]; exact hM2n)
            obtain ⟨pp, HPP⟩ : ∃ p, Hid (ps.getD K (0, 0) = p) := ⟨_, (rfl : _ = _)⟩
            obtain ⟨qq, HQQ⟩ : ∃ p, Hid (qs.getD J (0, 0) = p) := ⟨_, (rfl : _ = _)⟩
            rw [HPP.out] at hpc0 hpc1 hpk
            rw [HQQ.out] at hqc0 hqc1 hqk
            obtain ⟨pv, pa⟩ := pp
            obtain ⟨qv, qa⟩ := qq
            obtain ⟨⟨nv, na⟩, HNV⟩ : ∃ r, Hid (addP (pv, pa) (qv, qa) = r) := ⟨_, (rfl : _ = _)⟩
            obtain ⟨a0, a1, a2, _, _, _, _⟩ := HG2.out.tp
            obtain ⟨b0, b1, b2_, _, _, _, _⟩ := HG2.out.tq
            obtain ⟨o0, o1, o2, _, _, _, _⟩ := HG2.out.to
            simp only at hpc0 hpc1 hqc0 hqc1
            have hMK2 : (M : Int) + (Cn : Int) = (K : Int) := by omega
            go_wp2_with fail
            -- REGION
            have KEEP : Hid (∀ W2 cur', Gch w (.slice (some ⟨gp, op, none⟩) np cp) (.slice (some ⟨gq_, oq, none⟩) nq cq) (.slice (some ⟨g, 0, none⟩) np co) PW' PH' QW' QH' bo ps qs cur' W2 → (W2.cell? ⟨w.heap.size, 2, none⟩ = some (.slice (some ⟨gp, op, none⟩) np cp) ∧ W2.cell? ⟨w.heap.size + 1, 0, none⟩ = some (.int .i64 (QW' : Int)) ∧ W2.cell? ⟨w.heap.size + 1, 2, none⟩ = some (.slice (some ⟨gq_, oq, none⟩) nq cq) ∧ W2.cell? ⟨bo, 2, none⟩ = some (.slice (some ⟨g, 0, none⟩) np co) ∧ W2.cell? ⟨gp, op + K * 2, none⟩ = some (.int .i64 pv) ∧ W2.cell? ⟨gp, op + K * 2 + 1, none⟩ = some (.int .i64 pa) ∧ W2.cell? ⟨gq_, oq + J * 2, none⟩ = some (.int .i64 qv) ∧ W2.cell? ⟨gq_, oq + J * 2 + 1, none⟩ = some (.int .i64 qa))) := fun W2 cur' h2 => by
              obtain ⟨k0, k1⟩ := HRPC.out _ h2.bel K (by rw [HNP.out]; exact hKn)
              obtain ⟨k2, k3⟩ := HRQC.out _ h2.bel J (by rw [HNQ.out]; exact hM2n)
              rw [HPP.out] at k0 k1
              rw [HQQ.out] at k2 k3
              exact ⟨h2.tp.c2, h2.tq.c0, h2.tq.c2, h2.to.c2, k0, k1, k2, k3⟩
            clear hpc0 hpc1 hqc0 hqc1 a0 a1 a2 b0 b1 b2_ o0 o1 o2 r0 rr1 rr2 rr3
            have hKi : (K : Int) < (np : Int) := by omega
            have hJi : (J : Int) < (nq : Int) := by omega
            have hw1 : IntKind.i64.wrap ((Rn : Int) - y) = (Ry : Int) := by rw [hRy, IntKind.wrap_i64]; omega
            have hw2 : IntKind.i64.wrap ((Ry : Int) * (QW' : Int)) = (M2 : Int) := by rw [hM2, IntKind.wrap_i64]; omega
            have hw3 : IntKind.i64.wrap ((M2 : Int) + (Cn : Int)) = (M2 : Int) + (Cn : Int) := by rw [IntKind.wrap_i64]; omega
            have hw4 : IntKind.i64.wrap ((M2 : Int) + (Cn : Int) - x) = (J : Int) := by rw [hJ, IntKind.wrap_i64]; omega
            have hw5 : IntKind.i64.wrap (Ry : Int) = (Ry : Int) := by rw [IntKind.wrap_i64]; omega
            have hw6 : IntKind.i64.wrap (M2 : Int) = (M2 : Int) := by rw [IntKind.wrap_i64]; omega
            have hw7 : IntKind.i64.wrap (J : Int) = (J : Int) := by rw [IntKind.wrap_i64]; omega
            have HGD : Hid (Gch w (.slice (some ⟨gp, op, none⟩) np cp) (.slice (some ⟨gq_, oq, none⟩) nq cq) (.slice (some ⟨g, 0, none⟩) np co) PW' PH' QW' QH' bo ps qs _ wr.drew) := HG2.out.drew
            refine wp_region_held_drew (S := (fun w' => w'.cell? ⟨w.heap.size, 2, none⟩ = some (.slice (some ⟨gp, op, none⟩) np cp) ∧ w'.cell? ⟨w.heap.size + 1, 0, none⟩ = some (.int .i64 (QW' : Int)) ∧ w'.cell? ⟨w.heap.size + 1, 2, none⟩ = some (.slice (some ⟨gq_, oq, none⟩) nq cq) ∧ w'.cell? ⟨bo, 2, none⟩ = some (.slice (some ⟨g, 0, none⟩) np co) ∧ w'.cell? ⟨gp, op + K * 2, none⟩ = some (.int .i64 pv) ∧ w'.cell? ⟨gp, op + K * 2 + 1, none⟩ = some (.int .i64 pa) ∧ w'.cell? ⟨gq_, oq + J * 2, none⟩ = some (.int .i64 qv) ∧ w'.cell? ⟨gq_, oq + J * 2 + 1, none⟩ = some (.int .i64 qa))) (by kernel_rfl) ?_ (fun hHeld => ?_)
            · exact KEEP.out _ _ HGD.out
            refine tk (v := ?_) 0 rfl (by kernel_rfl) (by rfl) ?_ ?_
            rotate_left
            · (intro w hSw; (try dsimp only at hSw); go_simp; try with_reducible rfl)
            refine tk (v := ?_) 1 rfl (by kernel_rfl) (by rfl) ?_ ?_
            rotate_left
            · (intro w hSw; (try dsimp only at hSw); go_simp; try with_reducible rfl)
            refine tk (v := ?_) 2 rfl (by kernel_rfl) (by rfl) ?_ ?_
            rotate_left
            · (intro w hSw; (try dsimp only at hSw); go_simp; try with_reducible rfl)
            refine tk (v := ?_) 3 rfl (by kernel_rfl) (by rfl) ?_ ?_
            rotate_left
            · (intro w hSw; (try dsimp only at hSw); go_simp; try with_reducible rfl)
            refine tk (v := ?_) 4 rfl (by kernel_rfl) (by rfl) ?_ ?_
            rotate_left
            · (intro w hSw; (try dsimp only at hSw); go_simp; try with_reducible rfl)
            refine tk (v := ?_) 5 rfl (by kernel_rfl) (by rfl) ?_ ?_
            rotate_left
            · (intro w hSw; (try dsimp only at hSw); go_simp; try with_reducible rfl)
            refine tk (v := ?_) 6 rfl (by kernel_rfl) (by rfl) ?_ ?_
            rotate_left
            · (intro w hSw; (try dsimp only at hSw); go_simp; try with_reducible rfl)
            refine tk (v := ?_) 7 rfl (by kernel_rfl) (by rfl) ?_ ?_
            rotate_left
            · (intro w hSw; (try dsimp only at hSw); go_simp; try with_reducible rfl)
            refine tk (v := ?_) 8 rfl (by kernel_rfl) (by rfl) ?_ ?_
            rotate_left
            · (intro w hSw; (try dsimp only at hSw); go_simp; try with_reducible rfl)
            refine tk (v := ?_) 9 rfl (by kernel_rfl) (by rfl) ?_ ?_
            rotate_left
            · (intro w hSw; (try dsimp only at hSw); go_simp; try with_reducible rfl)
            refine tk (v := ?_) 10 rfl (by kernel_rfl) (by rfl) ?_ ?_
            rotate_left
            · (intro w hSw; (try dsimp only at hSw); go_simp; try with_reducible rfl)
            refine tk (v := ?_) 11 rfl (by kernel_rfl) (by rfl) ?_ ?_
            rotate_left
            · (intro w hSw; (try dsimp only at hSw); go_simp; try with_reducible rfl)
            refine tk (v := ?_) 12 rfl (by kernel_rfl) (by rfl) ?_ ?_
            rotate_left
            · (intro w hSw; (try dsimp only at hSw); go_simp; try with_reducible rfl)
            refine tk (v := ?_) 13 rfl (by kernel_rfl) (by rfl) ?_ ?_
            rotate_left
            · (intro w hSw; (try dsimp only at hSw); go_simp; try with_reducible rfl)
            refine tk (v := ?_) 14 rfl (by kernel_rfl) (by rfl) ?_ ?_
            rotate_left
            · (intro w hSw; (try dsimp only at hSw); go_simp; try with_reducible rfl)
            refine tk (v := ?_) 15 rfl (by kernel_rfl) (by rfl) ?_ ?_
            rotate_left
            · (intro w hSw; (try dsimp only at hSw); go_simp; try with_reducible rfl)
            refine tk (v := ?_) 16 rfl (by kernel_rfl) (by rfl) ?_ ?_
            rotate_left
            · (intro w hSw; (try dsimp only at hSw); go_simp; try with_reducible rfl)
            refine tk (v := ?_) 17 rfl (by kernel_rfl) (by rfl) ?_ ?_
            rotate_left
            · (intro w hSw; (try dsimp only at hSw); go_simp; try with_reducible rfl)
            refine tk (v := ?_) 18 rfl (by kernel_rfl) (by rfl) ?_ ?_
            rotate_left
            · (intro w hSw; (try dsimp only at hSw); go_simp; try with_reducible rfl)
            refine tk (v := ?_) 19 rfl (by kernel_rfl) (by rfl) ?_ ?_
            rotate_left
            · (intro w hSw; (try dsimp only at hSw); go_simp; try with_reducible rfl)
            refine tk (v := ?_) 20 rfl (by kernel_rfl) (by rfl) ?_ ?_
            rotate_left
            · (intro w hSw; (try dsimp only at hSw); go_simp; try with_reducible rfl)
            refine tk (v := ?_) 21 rfl (by kernel_rfl) (by rfl) ?_ ?_
            rotate_left
            · (intro w hSw; (try dsimp only at hSw); go_simp; try with_reducible rfl)
            refine tk (v := ?_) 22 rfl (by kernel_rfl) (by rfl) ?_ ?_
            rotate_left
            · (intro w hSw; (try dsimp only at hSw); go_simp; try with_reducible rfl)
            refine wpAnyH_ready (rs := [23]) (by kernel_rfl) (by simp) ?_
            refine AllReadyH.cons rfl (fun K_ hK => ?_) AllReadyH.nil
            go_simp
            refine (becA_any (pv, pa) (qv, qa) (nv, na) hpk hqk HNV _).mono ?_
            unfold pixV
            try simp only
            rintro e wx ⟨rfl, hbx⟩
            have HGx : Hid (Gch w (.slice (some ⟨gp, op, none⟩) np cp) (.slice (some ⟨gq_, oq, none⟩) nq cq) (.slice (some ⟨g, 0, none⟩) np co) PW' PH' QW' QH' bo ps qs (gridL PW' (PW' * PH') (upto rx ry rw_ rh (Rn : Int) (Cn : Int)) (gq addP PW' ps QW' qs x y) ps) wx) := HGD.out.on hbx
            have HFx : Hid (Four wx br (.int .i64 rx) (.int .i64 ry) (.int .i64 rw_) (.int .i64 rh)) := HFR2.out.drew.on hbx
            clear hbx
            have hlen : (gridL PW' (PW' * PH') (upto rx ry rw_ rh (Rn : Int) (Cn : Int)) (gq addP PW' ps QW' qs x y) ps).length = np := by rw [grid_len]; exact HPL.out.symm
            have HKL : Hid (K < (gridL PW' (PW' * PH') (upto rx ry rw_ rh (Rn : Int) (Cn : Int)) (gq addP PW' ps QW' qs x y) ps).length) := by unfold Hid; rw [hlen]; exact hKn
            have hown : Hid (wx.ownsRow (w.heap.size + 4) 52 2 (.slice (some ⟨g, 0, none⟩) np co) np (pixCells (gridL PW' (PW' * PH') (upto rx ry rw_ rh (Rn : Int) (Cn : Int)) (gq addP PW' ps QW' qs x y) ps))) := by have h := HGx.out.own; rw [hlen] at h; exact h
            obtain ⟨u0, hu0⟩ : ∃ u, wx.cell? ⟨g, K * 2, none⟩ = some u := by
              exact ⟨_, (hown.out.cellAt (K * 2) (by omega)).trans (pixCells_at _ K HKL.out).1⟩
            obtain ⟨u1, hu1⟩ : ∃ u, wx.cell? ⟨g, K * 2 + 1, none⟩ = some u := by
              exact ⟨_, (hown.out.cellAt (K * 2 + 1) (by omega)).trans (pixCells_at _ K HKL.out).2⟩
            have hf0 : wx.frozen? ⟨g, K * 2, none⟩ = false := hown.out.frozenAt _
            have hf1 : wx.frozen? ⟨g, K * 2 + 1, none⟩ = false := hown.out.frozenAt _
            have HGs : Hid (Gch w (.slice (some ⟨gp, op, none⟩) np cp) (.slice (some ⟨gq_, oq, none⟩) nq cq) (.slice (some ⟨g, 0, none⟩) np co) PW' PH' QW' QH' bo ps qs ((gridL PW' (PW' * PH') (upto rx ry rw_ rh (Rn : Int) (Cn : Int)) (gq addP PW' ps QW' qs x y) ps).set K (nv, na)) ((wx.setCell ⟨g, K * 2, none⟩ (.int .i64 nv)).setCell ⟨g, K * 2 + 1, none⟩ (.int .i64 na))) := HGx.out.store RP.out RQ.out hgB hgb hlen nv na
            have HFs : Hid (Four ((wx.setCell ⟨g, K * 2, none⟩ (.int .i64 nv)).setCell ⟨g, K * 2 + 1, none⟩ (.int .i64 na)) br (.int .i64 rx) (.int .i64 ry) (.int .i64 rw_) (.int .i64 rh)) := (HFx.out.other (by omega)).other (by omega)
            have HGn : Hid ((gridL PW' (PW' * PH') (upto rx ry rw_ rh (Rn : Int) (Cn : Int)) (gq addP PW' ps QW' qs x y) ps).set K (nv, na) = gridL PW' (PW' * PH') (upto rx ry rw_ rh (Rn : Int) ((Cn : Int) + 1)) (gq addP PW' ps QW' qs x y) ps) := by
              unfold Hid
              rw [← upto_step PW' PH' Rn Cn _ ps rx ry rw_ rh (by omega) (by omega) C0 hC R0 hR, HK.out, HGQ.out, HPP.out, HQQ.out]
              rw [show addP (pv, pa) (qv, qa) = (nv, na) from HNV.out]
            rw [HGn.out] at HGs
            clear HGn hlen HKL hown
            refine hK.out _ _ ?_ (fun hHeld => ?_)
            · exact KEEP.out _ _ HGx.out
            clear hK K_
            refine tk (v := ?_) 24 rfl (by kernel_rfl) (by rfl) ?_ ?_
            rotate_left
            · (intro w hSw; (try dsimp only at hSw); go_simp; try with_reducible rfl)
            refine wpAnyH_ready (rs := [25]) (by kernel_rfl) (by simp) ?_
            refine AllReadyH.cons rfl (fun K_ hK => ?_) AllReadyH.nil
            go_simp
            refine hK.out _ _ ?_ (fun hHeld => ?_)
            · exact KEEP.out _ _ HGs.out
            clear hK K_
            refine wpAnyH_done (by kernel_rfl) ?_ _
            go_wp2_with fail
            go_roundw
            case rel => exact ⟨(Cn : Int) + 1, by go_num, by omega, by omega, HFs, HGs⟩
            case measure => simp [intOf]; omega
            -- END
          · have hC41 : C = rx + rw_ := by omega
            subst hC41
            rw [upto_row] at HG2
            go_wp2_with fail
            go_roundw
            case rel => exact ⟨R + 1, by go_num, by omega, by omega, HFR2, HG2⟩
            case measure => simp [intOf]; omega
      · have hR41 : R = ry + rh := by omega
        subst hR41
        have hend := upto_end addP PW' PH' ps QW' QH' qs x y a b c d (r1a, r1b, r1c, r1d) (rx, ry, rw_, rh) (by omega) (by rw [HNP.out]; exact HPL.out) HR1.out HR2.out
        simp only at hend
        have HG9 := HG
        rw [hend] at HG9
        obtain ⟨o0, o1, o2, _, _, _, _⟩ := HG9.out.to
        obtain ⟨q0, q1, q2, f0, f1, f2, _⟩ := HG9.out.tr
        go_wp2_with fail
        refine bodyPost_ret (v := .agg #[.int .i64 (PW' : Int), .int .i64 (PH' : Int), .slice (some ⟨g, 0, none⟩) np co]) (by simp [results, Tryz.results99, go_sem, q0, q1, q2]) rfl ⟨_, rfl, ownsRow_setCell_below (ownsRow_setCell_below (ownsRow_setCell_below HG9.out.own (a := ⟨w.heap.size + 1 + 1 + 1, 0, none⟩) (show w.heap.size + 1 + 1 + 1 < w.heap.size + 4 by omega) _) (a := ⟨w.heap.size + 1 + 1 + 1, 1, none⟩) (show w.heap.size + 1 + 1 + 1 < w.heap.size + 4 by omega) _) (a := ⟨w.heap.size + 1 + 1 + 1, 2, none⟩) (show w.heap.size + 1 + 1 + 1 < w.heap.size + 4 by omega) _, ?_⟩
        exact ((HG9.out.bel.setCell (show w.heap.size ≤ w.heap.size + 1 + 1 + 1 by omega) _).setCell (show w.heap.size ≤ w.heap.size + 1 + 1 + 1 by omega) _).setCell (show w.heap.size ≤ w.heap.size + 1 + 1 + 1 by omega) _
end Go.Proofs.YtceabiodelfdoaaGreatDoor
/- Walk of blend.change, with the closure of Put. -/
namespace Go.Proofs.YtceabiodelfdoaaGreatDoor
open Go.RowKit

set_option maxHeartbeats 4000000 in
set_option maxRecDepth 100000 in
theorem changeP_any (PW PH QW QH : Nat) (vp vq : Value) (ps qs : List (Int × Int)) (x y a b c d : Int) (w : World) (HP : Hid (checkL PW PH ps = 0)) (HQ : Hid (checkL QW QH qs = 0)) (RP : Hid (RdP w vp ps)) (RQ : Hid (RdP w vq qs))
    (hx : -20 ≤ x) (hx2 : x ≤ 20) (hy : -20 ≤ y) (hy2 : y ≤ 20) (ha : -20 ≤ a) (ha2 : a ≤ 20) (hb : -20 ≤ b) (hb2 : b ≤ 20) (hc : 0 ≤ c) (hc2 : c ≤ 20) (hd : 0 ≤ d) (hd2 : d ≤ 20) :
    Calls Tryz.prog 99 #[picV PW PH vp, picV QW QH vq, .int .i64 x, .int .i64 y, rectV a b c d, .func (.func 108) #[] #[]] w
      fun e w' => ∃ v', e = .returned (picV PW PH v') ∧ w'.ownsRow (w.heap.size + 4) 52 2 v' (chL (fun _ q => q) PW ps QW QH qs x y a b c d).length (pixCells (chL (fun _ q => q) PW ps QW QH qs x y a b c d)) ∧ Below w.heap.size w w' := by
  obtain ⟨PW', PH', e1, e2, p1, p2, p3, p4, pl, pok⟩ := check_zero _ _ _ HP.out
  obtain ⟨QW', QH', e3, e4, q1, q2, q3, q4, ql, qok⟩ := check_zero _ _ _ HQ.out
  obtain rfl : PW' = PW := by omega
  obtain rfl : PH' = PH := by omega
  obtain rfl : QW' = QW := by omega
  obtain rfl : QH' = QH := by omega
  clear e1 e2 e3 e4
  have POK : Hid (∀ k, k < ps.length → pixOk (ps.getD k (0, 0))) := pok
  have QOK : Hid (∀ k, k < qs.length → pixOk (qs.getD k (0, 0))) := qok
  clear pok qok
  have hm1 : PW' * PH' ≤ 8 * 8 := Nat.mul_le_mul p2 p4
  have hm2 : 1 * 1 ≤ PW' * PH' := Nat.mul_le_mul p1 p3
  have hm3 : QW' * QH' ≤ 8 * 8 := Nat.mul_le_mul q2 q4
  have hqne : qs ≠ [] := by
    intro e; rw [e] at ql
    have : 1 * 1 ≤ QW' * QH' := Nat.mul_le_mul q1 q3
    simp at ql; omega
  have hne : ps ≠ [] := by intro e; rw [e] at pl; simp at pl; omega
  obtain ⟨ap, cp, hvp, hlp, hcp, _⟩ := RP.out
  obtain ⟨aq, cq, hvq, hlq, hcq, _⟩ := RQ.out
  obtain ⟨np, HNP⟩ : ∃ n, Hid (ps.length = n) := ⟨_, (rfl : _ = _)⟩
  obtain ⟨nq, HNQ⟩ : ∃ n, Hid (qs.length = n) := ⟨_, (rfl : _ = _)⟩
  rw [HNP.out] at hvp hlp pl
  rw [HNQ.out] at hvq hlq ql
  subst hvp hvq
  have hnp : np ≤ 64 := by omega
  have hnp1 : 1 ≤ np := by omega
  have hnq : nq ≤ 64 := by omega
  have HPL : Hid (np = PW' * PH') := pl
  have HQL : Hid (nq = QW' * QH') := ql
  clear pl ql hm1 hm2 hm3
  unfold picV rectV
  have T0 := (((three_start w (.int .i64 (PW' : Int)) (.int .i64 (PH' : Int)) (.slice ap np cp) 46).alloc (.cells #[.int .i64 (QW' : Int), .int .i64 (QH' : Int), .slice aq nq cq] 46)).alloc (.cells #[.int .i64 a, .int .i64 b, .int .i64 c, .int .i64 d] 117)).alloc (.cells #[.int .i64 0, .int .i64 0, .slice none 0 0] 46)
  have T1 := ((three_begin (w.alloc (.cells #[.int .i64 (PW' : Int), .int .i64 (PH' : Int), .slice ap np cp] 46)) (.int .i64 (QW' : Int)) (.int .i64 (QH' : Int)) (.slice aq nq cq) 46 (w.heap.size + 1) (by simp)).alloc (.cells #[.int .i64 a, .int .i64 b, .int .i64 c, .int .i64 d] 117)).alloc (.cells #[.int .i64 0, .int .i64 0, .slice none 0 0] 46)
  have T2 := (four_start ((w.alloc (.cells #[.int .i64 (PW' : Int), .int .i64 (PH' : Int), .slice ap np cp] 46)).alloc (.cells #[.int .i64 (QW' : Int), .int .i64 (QH' : Int), .slice aq nq cq] 46)) (.int .i64 a) (.int .i64 b) (.int .i64 c) (.int .i64 d) 117 (w.heap.size + 1 + 1) (by simp)).alloc (.cells #[.int .i64 0, .int .i64 0, .slice none 0 0] 46)
  have T3 := three_begin (((w.alloc (.cells #[.int .i64 (PW' : Int), .int .i64 (PH' : Int), .slice ap np cp] 46)).alloc (.cells #[.int .i64 (QW' : Int), .int .i64 (QH' : Int), .slice aq nq cq] 46)).alloc (.cells #[.int .i64 a, .int .i64 b, .int .i64 c, .int .i64 d] 117)) (.int .i64 0) (.int .i64 0) (.slice none 0 0) 46 (w.heap.size + 1 + 1 + 1) (by simp)
  obtain ⟨W0, HW0⟩ : ∃ W0, Hid ((((w.alloc (.cells #[.int .i64 (PW' : Int), .int .i64 (PH' : Int), .slice ap np cp] 46)).alloc (.cells #[.int .i64 (QW' : Int), .int .i64 (QH' : Int), .slice aq nq cq] 46)).alloc (.cells #[.int .i64 a, .int .i64 b, .int .i64 c, .int .i64 d] 117)).alloc (.cells #[.int .i64 0, .int .i64 0, .slice none 0 0] 46) = W0) := ⟨_, (rfl : _ = _)⟩
  have hb0 : Below w.heap.size w W0 := by rw [← HW0.out]; exact ((((Below.refl _ _).alloc (Nat.le_refl _) _).alloc (by simp) _).alloc (by simp; omega) _).alloc (by simp; omega) _
  have hs0 : W0.heap.size = w.heap.size + 4 := by rw [← HW0.out]; simp
  rw [HW0.out] at T0 T1 T2 T3
  have RP0 : Hid (RdP W0 (.slice ap np cp) ps) := RP.out.on hb0
  have RQ0 : Hid (RdP W0 (.slice aq nq cq) qs) := RQ.out.on hb0
  go_enter Tryz.func99, Tryz.ntmps99
  go_wp2_with fail
  rw [HW0.out]
  refine (bown_any (PW' : Int) (PH' : Int) _ ps W0 (by rw [HNP.out]; omega) hne RP0).mono ?_
  unfold picV
  rintro e w1 ⟨v1, rfl, ho1, hb1⟩
  rw [hs0] at ho1
  replace ho1 := own_mono ho1 (show w.heap.size + 4 ≤ w.heap.size + 4 + 2 by omega)
  have HO1 := hide_own ho1
  clear ho1
  rw [HNP.out] at HO1
  obtain ⟨g, co, hv1, hgB, hlo, hco⟩ := own_shape HO1.out (by omega)
  subst hv1
  have hgb : g < w1.heap.size := (HO1.out.lt g rfl).2
  have hbw1 := hb0.trans (hb1.mono hb0.size)
  have hlt1 : w.heap.size + 4 ≤ w1.heap.size := by have := hb1.size; omega
  have U0 := T0.on hb1
  have U1 := T1.on hb1
  have U2 := T2.on hb1
  have U3 := T3.on hb1
  have RP1 : Hid (RdP w1 (.slice ap np cp) ps) := RP0.out.on hb1
  have RQ1 : Hid (RdP w1 (.slice aq nq cq) qs) := RQ0.out.on hb1
  clear T0 T1 T2 T3 RP0 RQ0 hb0 hb1
  -- the copy is laid in a block of its own
  obtain ⟨W1, HW1⟩ : ∃ W1, Hid (w1.alloc (.cells #[.int .i64 (PW' : Int), .int .i64 (PH' : Int), .slice (some ⟨g, 0, none⟩) np co] 46) = W1) := ⟨_, (rfl : _ = _)⟩
  have hbx : Below w1.heap.size w1 W1 := by rw [← HW1.out]; exact (Below.refl _ _).alloc (Nat.le_refl _) _
  have TO : Three W1 w1.heap.size (.int .i64 (PW' : Int)) (.int .i64 (PH' : Int)) (.slice (some ⟨g, 0, none⟩) np co) := by rw [← HW1.out]; exact three_start w1 _ _ _ _
  have HG1 : Hid (Gch w (.slice ap np cp) (.slice aq nq cq) (.slice (some ⟨g, 0, none⟩) np co) PW' PH' QW' QH' w1.heap.size ps qs ps W1) :=
    ⟨U0.on hbx, U1.on hbx, U3.on hbx, TO, RP1.out.on hbx, RQ1.out.on hbx, hbw1.trans (hbx.mono hbw1.size), by rw [HNP.out]; exact own_on2 HO1.out hbx⟩
  have U2x := U2.on hbx
  obtain ⟨bo, HBO⟩ : ∃ b, Hid (w1.heap.size = b) := ⟨_, (rfl : _ = _)⟩
  rw [HBO.out] at HG1 hlt1 hgb
  clear U0 U1 U2 U3 RP1 RQ1 hbw1 hbx TO HO1
  obtain ⟨c0, c1, c2, _, _, _, _⟩ := HG1.out.tp
  rw [← HW1.out] at c0 c1 c2
  go_wp2_with fail
  rw [HW1.out, HBO.out]
  refine (check_nil _ _ _ ps _ (by rw [HNP.out]; omega) HG1.out.rp HP).mono ?_
  rintro e w2 ⟨rfl, hb2⟩
  have HG2 : Hid (Gch w (.slice ap np cp) (.slice aq nq cq) (.slice (some ⟨g, 0, none⟩) np co) PW' PH' QW' QH' bo ps qs ps w2) := HG1.out.on hb2
  have U2y := U2x.on hb2
  clear HG1 c0 c1 c2 hb2 U2x HW1
  obtain ⟨d0, d1, d2, _, _, _, _⟩ := HG2.out.tq
  go_wp2_with fail
  refine (check_nil _ _ _ qs _ (by rw [HNQ.out]; omega) HG2.out.rq HQ).mono ?_
  rintro e w3 ⟨rfl, hb3⟩
  have HG3 : Hid (Gch w (.slice ap np cp) (.slice aq nq cq) (.slice (some ⟨g, 0, none⟩) np co) PW' PH' QW' QH' bo ps qs ps w3) := HG2.out.on hb3
  have U2z := U2y.on hb3
  clear HG2 d0 d1 d2 hb3 U2y
  obtain ⟨c0, c1, c2, _, _, _, _⟩ := HG3.out.tp
  obtain ⟨d0, d1, d2, _, _, _, _⟩ := HG3.out.tq
  obtain ⟨e0, e1, e2, e3, _, _, _, _, lt2⟩ := U2z
  have hbl3 := HG3.out.bel
  have hq0 := HG3.out.tp.lt
  have hq1 := HG3.out.tq.lt
  have hq2 := lt2
  have KEEP : Hid (∀ W2, Below w3.heap.size w3 W2 → (W2.cell? ⟨w.heap.size, 0, none⟩ = some (.int .i64 (PW' : Int)) ∧ W2.cell? ⟨w.heap.size, 1, none⟩ = some (.int .i64 (PH' : Int)) ∧ W2.cell? ⟨w.heap.size, 2, none⟩ = some (.slice ap np cp) ∧ W2.cell? ⟨w.heap.size + 1, 0, none⟩ = some (.int .i64 (QW' : Int)) ∧ W2.cell? ⟨w.heap.size + 1, 1, none⟩ = some (.int .i64 (QH' : Int)) ∧ W2.cell? ⟨w.heap.size + 1 + 1, 0, none⟩ = some (.int .i64 a) ∧ W2.cell? ⟨w.heap.size + 1 + 1, 1, none⟩ = some (.int .i64 b) ∧ W2.cell? ⟨w.heap.size + 1 + 1, 2, none⟩ = some (.int .i64 c) ∧ W2.cell? ⟨w.heap.size + 1 + 1, 3, none⟩ = some (.int .i64 d) ∧ Hid (Below w3.heap.size w3 W2))) := fun W2 h2 =>
    ⟨(h2.cell (p := ⟨w.heap.size, 0, none⟩) hq0).trans c0, (h2.cell (p := ⟨w.heap.size, 1, none⟩) hq0).trans c1, (h2.cell (p := ⟨w.heap.size, 2, none⟩) hq0).trans c2, (h2.cell (p := ⟨w.heap.size + 1, 0, none⟩) hq1).trans d0, (h2.cell (p := ⟨w.heap.size + 1, 1, none⟩) hq1).trans d1,
      (h2.cell (p := ⟨w.heap.size + 1 + 1, 0, none⟩) hq2).trans e0, (h2.cell (p := ⟨w.heap.size + 1 + 1, 1, none⟩) hq2).trans e1, (h2.cell (p := ⟨w.heap.size + 1 + 1, 2, none⟩) hq2).trans e2, (h2.cell (p := ⟨w.heap.size + 1 + 1, 3, none⟩) hq2).trans e3, h2⟩
  have GON : Hid (∀ W1 W2, (W1.cell? ⟨w.heap.size, 0, none⟩ = some (.int .i64 (PW' : Int)) ∧ W1.cell? ⟨w.heap.size, 1, none⟩ = some (.int .i64 (PH' : Int)) ∧ W1.cell? ⟨w.heap.size, 2, none⟩ = some (.slice ap np cp) ∧ W1.cell? ⟨w.heap.size + 1, 0, none⟩ = some (.int .i64 (QW' : Int)) ∧ W1.cell? ⟨w.heap.size + 1, 1, none⟩ = some (.int .i64 (QH' : Int)) ∧ W1.cell? ⟨w.heap.size + 1 + 1, 0, none⟩ = some (.int .i64 a) ∧ W1.cell? ⟨w.heap.size + 1 + 1, 1, none⟩ = some (.int .i64 b) ∧ W1.cell? ⟨w.heap.size + 1 + 1, 2, none⟩ = some (.int .i64 c) ∧ W1.cell? ⟨w.heap.size + 1 + 1, 3, none⟩ = some (.int .i64 d) ∧ Hid (Below w3.heap.size w3 W1)) → Below W1.heap.size W1 W2 → Hid (Below w3.heap.size w3 W2)) := fun W1 W2 h1 h2 => by
    have h := h1.2.2.2.2.2.2.2.2.2.out
    exact h.trans (h2.mono h.size)
  have KALL : Hid (∀ W1 o, (W1.cell? ⟨w.heap.size, 0, none⟩ = some (.int .i64 (PW' : Int)) ∧ W1.cell? ⟨w.heap.size, 1, none⟩ = some (.int .i64 (PH' : Int)) ∧ W1.cell? ⟨w.heap.size, 2, none⟩ = some (.slice ap np cp) ∧ W1.cell? ⟨w.heap.size + 1, 0, none⟩ = some (.int .i64 (QW' : Int)) ∧ W1.cell? ⟨w.heap.size + 1, 1, none⟩ = some (.int .i64 (QH' : Int)) ∧ W1.cell? ⟨w.heap.size + 1 + 1, 0, none⟩ = some (.int .i64 a) ∧ W1.cell? ⟨w.heap.size + 1 + 1, 1, none⟩ = some (.int .i64 b) ∧ W1.cell? ⟨w.heap.size + 1 + 1, 2, none⟩ = some (.int .i64 c) ∧ W1.cell? ⟨w.heap.size + 1 + 1, 3, none⟩ = some (.int .i64 d) ∧ Hid (Below w3.heap.size w3 W1)) → ((W1.alloc o).cell? ⟨w.heap.size, 0, none⟩ = some (.int .i64 (PW' : Int)) ∧ (W1.alloc o).cell? ⟨w.heap.size, 1, none⟩ = some (.int .i64 (PH' : Int)) ∧ (W1.alloc o).cell? ⟨w.heap.size, 2, none⟩ = some (.slice ap np cp) ∧ (W1.alloc o).cell? ⟨w.heap.size + 1, 0, none⟩ = some (.int .i64 (QW' : Int)) ∧ (W1.alloc o).cell? ⟨w.heap.size + 1, 1, none⟩ = some (.int .i64 (QH' : Int)) ∧ (W1.alloc o).cell? ⟨w.heap.size + 1 + 1, 0, none⟩ = some (.int .i64 a) ∧ (W1.alloc o).cell? ⟨w.heap.size + 1 + 1, 1, none⟩ = some (.int .i64 b) ∧ (W1.alloc o).cell? ⟨w.heap.size + 1 + 1, 2, none⟩ = some (.int .i64 c) ∧ (W1.alloc o).cell? ⟨w.heap.size + 1 + 1, 3, none⟩ = some (.int .i64 d) ∧ Hid (Below w3.heap.size w3 (W1.alloc o)))) := fun W1 o h1 => by
    have h := h1.2.2.2.2.2.2.2.2.2.out
    exact KEEP.out _ (h.alloc h.size o)
  obtain ⟨r1, HR1⟩ : ∃ r, Hid (bothL 0 0 PW' PH' x y QW' QH' = r) := ⟨_, (rfl : _ = _)⟩
  obtain ⟨n0, n1, n2, n3, n4, n5, n6, n7⟩ := both_bounds 0 0 PW' PH' x y QW' QH' 20 (by omega) (by omega) (by omega) (by omega) (by omega) (by omega) (by omega) (by omega) (by omega) (by omega) (by omega) (by omega) (by omega) (by omega) (by omega) (by omega) r1 HR1.out
  obtain ⟨r2, HR2⟩ : ∃ r, Hid (bothL a b c d r1.1 r1.2.1 r1.2.2.1 r1.2.2.2 = r) := ⟨_, (rfl : _ = _)⟩
  obtain ⟨r1a, r1b, r1c, r1d⟩ := r1
  simp only at n0 n1 n2 n3 n4 n5 n6 n7 HR2
  obtain ⟨rx, ry, rw_, rh⟩ := r2
  clear c0 c1 c2 d0 d1 e0 e1 e2 e3
  go_wp2_with fail
  go_cut [14] from 41 (fun s14 wc => ∃ br, s14 = .pointer (some ⟨br, 0, none⟩) ∧ Four wc br (.int .i64 rx) (.int .i64 ry) (.int .i64 rw_) (.int .i64 rh) ∧ Below w3.heap.size w3 wc ∧ w3.heap.size ≤ br)
  case first =>
    have HB0 : Hid (Below w3.heap.size w3 w3.drew) := Below.drew (Below.refl _ _)
    refine wp_region_held_drew (S := (fun w' => w'.cell? ⟨w.heap.size, 0, none⟩ = some (.int .i64 (PW' : Int)) ∧ w'.cell? ⟨w.heap.size, 1, none⟩ = some (.int .i64 (PH' : Int)) ∧ w'.cell? ⟨w.heap.size, 2, none⟩ = some (.slice ap np cp) ∧ w'.cell? ⟨w.heap.size + 1, 0, none⟩ = some (.int .i64 (QW' : Int)) ∧ w'.cell? ⟨w.heap.size + 1, 1, none⟩ = some (.int .i64 (QH' : Int)) ∧ w'.cell? ⟨w.heap.size + 1 + 1, 0, none⟩ = some (.int .i64 a) ∧ w'.cell? ⟨w.heap.size + 1 + 1, 1, none⟩ = some (.int .i64 b) ∧ w'.cell? ⟨w.heap.size + 1 + 1, 2, none⟩ = some (.int .i64 c) ∧ w'.cell? ⟨w.heap.size + 1 + 1, 3, none⟩ = some (.int .i64 d) ∧ Hid (Below w3.heap.size w3 w'))) (by kernel_rfl) ?_ (fun hHeld => ?_)
    · exact KEEP.out _ HB0.out
    refine tk (v := ?_) 0 rfl (by kernel_rfl) (by rfl) ?_ ?_
    rotate_left
    · (intro w hSw; (try dsimp only at hSw); go_simp; try with_reducible rfl)
    refine tk (v := ?_) 1 rfl (by kernel_rfl) (by rfl) ?_ ?_
    rotate_left
    · (intro w hSw; (try dsimp only at hSw); go_simp; try with_reducible rfl)
    refine tk (v := ?_) 3 rfl (by kernel_rfl) (by rfl) ?_ ?_
    rotate_left
    · (intro w hSw; (try dsimp only at hSw); go_simp; try with_reducible rfl)
    refine tk (v := ?_) 4 rfl (by kernel_rfl) (by rfl) ?_ ?_
    rotate_left
    · (intro w hSw; (try dsimp only at hSw); go_simp; try with_reducible rfl)
    refine tk (v := ?_) 5 rfl (by kernel_rfl) (by rfl) ?_ ?_
    rotate_left
    · (intro w hSw; (try dsimp only at hSw); go_simp; try with_reducible rfl)
    refine tk (v := ?_) 6 rfl (by kernel_rfl) (by rfl) ?_ ?_
    rotate_left
    · (intro w hSw; (try dsimp only at hSw); go_simp; try with_reducible rfl)
    refine tk (v := ?_) 7 rfl (by kernel_rfl) (by rfl) ?_ ?_
    rotate_left
    · (intro w hSw; (try dsimp only at hSw); go_simp; try with_reducible rfl)
    refine tk (v := ?_) 8 rfl (by kernel_rfl) (by rfl) ?_ ?_
    rotate_left
    · (intro w hSw; (try dsimp only at hSw); go_simp; try with_reducible rfl)
    refine tk (v := ?_) 9 rfl (by kernel_rfl) (by rfl) ?_ ?_
    rotate_left
    · (intro w hSw; (try dsimp only at hSw); go_simp; try with_reducible rfl)
    refine wpAnyH_ready (rs := [2, 12]) (by kernel_rfl) (by simp) ?_
    refine AllReadyH.cons rfl (fun K hK => ?_) (AllReadyH.cons rfl (fun K hK => ?_) AllReadyH.nil)
    · go_simp
      refine (whole_any PW' PH' ap np cp _).mono ?_
      unfold rectV
      try simp only
      rintro e wx1 ⟨rfl, hbx1⟩
      have HB1 : Hid (Below w3.heap.size w3 wx1) := HB0.out.trans (hbx1.mono HB0.out.size)
      clear hbx1
      refine hK.out _ _ ?_ (fun hHeld => ?_)
      · exact KEEP.out _ HB1.out
      clear hK K
      refine wpAnyH_ready (rs := [10, 12]) (by kernel_rfl) (by simp) ?_
      refine AllReadyH.cons rfl (fun K hK => ?_) (AllReadyH.cons rfl (fun K hK => ?_) AllReadyH.nil)
      · go_simp
        refine (both_any 0 0 PW' PH' x y QW' QH' _ (by omega) (by omega) (by omega) (by omega) (by omega) (by omega) (by omega) (by omega) (by omega) (by omega) (by omega) (by omega) (by omega) (by omega) (by omega) (by omega) (r1a, r1b, r1c, r1d) HR1).mono ?_
        unfold ratV rectV
        try simp only
        rintro e wx2 ⟨rfl, hbx2⟩
        have HB2 : Hid (Below w3.heap.size w3 wx2) := HB1.out.trans (hbx2.mono HB1.out.size)
        clear hbx2
        refine hK.out _ _ ?_ (fun hHeld => ?_)
        · exact KEEP.out _ HB2.out
        clear hK K
        refine wpAnyH_ready (rs := [11, 12]) (by kernel_rfl) (by simp) ?_
        refine AllReadyH.cons rfl (fun K hK => ?_) (AllReadyH.cons rfl (fun K hK => ?_) AllReadyH.nil)
        · go_simp
          refine (both_any a b c d r1a r1b r1c r1d _ (by omega) (by omega) (by omega) (by omega) (by omega) (by omega) (by omega) (by omega) (by omega) (by omega) (by omega) (by omega) (by omega) (by omega) (by omega) (by omega) (rx, ry, rw_, rh) HR2).mono ?_
          unfold ratV rectV
          try simp only
          rintro e wx3 ⟨rfl, hbx3⟩
          have HB3 : Hid (Below w3.heap.size w3 wx3) := HB2.out.trans (hbx3.mono HB2.out.size)
          clear hbx3
          refine hK.out _ _ ?_ (fun hHeld => ?_)
          · exact KEEP.out _ HB3.out
          clear hK K
          refine wpAnyH_ready (rs := [12]) (by kernel_rfl) (by simp) ?_
          refine AllReadyH.cons rfl (fun K hK => ?_) AllReadyH.nil
          go_simp
          have HBA : Hid (Below w3.heap.size w3 (wx3.alloc (.cells #[.int .i64 0, .int .i64 0, .int .i64 0, .int .i64 0] 117))) := HB3.out.alloc HB3.out.size _
          refine hK.out _ _ ?_ (fun hHeld => ?_)
          · exact KEEP.out _ HBA.out
          clear hK K
          refine wpAnyH_ready (rs := [13]) (by kernel_rfl) (by simp) ?_
          refine AllReadyH.cons rfl (fun K hK => ?_) AllReadyH.nil
          go_simp
          refine hK.out _ _ ?_ (fun hHeld => ?_)
          · exact KEEP.out _ (HB3.out.alloc HB3.out.size (.cells #[.int .i64 rx, .int .i64 ry, .int .i64 rw_, .int .i64 rh] 117))
          clear hK K
          refine wpAnyH_done (by kernel_rfl) ?_ _
          go_wp2_with fail
          go_meet
          exact ⟨_, rfl, four_start _ _ _ _ _ _ _ rfl, (HB3.out.alloc HB3.out.size (.cells #[.int .i64 rx, .int .i64 ry, .int .i64 rw_, .int .i64 rh] 117)), HB3.out.size⟩
        · go_simp
          have HBA : Hid (Below w3.heap.size w3 (wx2.alloc (.cells #[.int .i64 0, .int .i64 0, .int .i64 0, .int .i64 0] 117))) := HB2.out.alloc HB2.out.size _
          have FA : Hid (Four (wx2.alloc (.cells #[.int .i64 0, .int .i64 0, .int .i64 0, .int .i64 0] 117)) wx2.heap.size (.int .i64 0) (.int .i64 0) (.int .i64 0) (.int .i64 0)) := four_start _ _ _ _ _ _ _ rfl
          refine hK.out _ _ ?_ (fun hHeld => ?_)
          · exact KEEP.out _ HBA.out
          clear hK K
          refine wpAnyH_ready (rs := [11]) (by kernel_rfl) (by simp) ?_
          refine AllReadyH.cons rfl (fun K hK => ?_) AllReadyH.nil
          go_simp
          refine (both_any a b c d r1a r1b r1c r1d _ (by omega) (by omega) (by omega) (by omega) (by omega) (by omega) (by omega) (by omega) (by omega) (by omega) (by omega) (by omega) (by omega) (by omega) (by omega) (by omega) (rx, ry, rw_, rh) HR2).mono ?_
          unfold ratV rectV
          try simp only
          rintro e wx3 ⟨rfl, hbx3⟩
          have HB3 : Hid (Below w3.heap.size w3 wx3) := HBA.out.trans (hbx3.mono HBA.out.size)
          have F3 : Hid (Four wx3 wx2.heap.size (.int .i64 0) (.int .i64 0) (.int .i64 0) (.int .i64 0)) := Four.on FA.out hbx3
          clear hbx3
          refine hK.out _ _ ?_ (fun hHeld => ?_)
          · exact KEEP.out _ HB3.out
          clear hK K
          refine wpAnyH_ready (rs := [13]) (by kernel_rfl) (by simp) ?_
          refine AllReadyH.cons rfl (fun K hK => ?_) AllReadyH.nil
          obtain ⟨_, _, _, _, _, _, _, _, _⟩ := F3.out
          go_simp
          refine hK.out _ _ ?_ (fun hHeld => ?_)
          · exact KEEP.out _ ((((HB3.out.setCell (HB2.out.size) _).setCell (HB2.out.size) _).setCell (HB2.out.size) _).setCell (HB2.out.size) _)
          clear hK K
          refine wpAnyH_done (by kernel_rfl) ?_ _
          go_wp2_with fail
          go_meet
          exact ⟨_, rfl, Four.set_all F3.out _ _ _ _, ((((HB3.out.setCell (HB2.out.size) _).setCell (HB2.out.size) _).setCell (HB2.out.size) _).setCell (HB2.out.size) _), HB2.out.size⟩
      · go_simp
        have HBA : Hid (Below w3.heap.size w3 (wx1.alloc (.cells #[.int .i64 0, .int .i64 0, .int .i64 0, .int .i64 0] 117))) := HB1.out.alloc HB1.out.size _
        have FA : Hid (Four (wx1.alloc (.cells #[.int .i64 0, .int .i64 0, .int .i64 0, .int .i64 0] 117)) wx1.heap.size (.int .i64 0) (.int .i64 0) (.int .i64 0) (.int .i64 0)) := four_start _ _ _ _ _ _ _ rfl
        refine hK.out _ _ ?_ (fun hHeld => ?_)
        · exact KEEP.out _ HBA.out
        clear hK K
        refine wpAnyH_ready (rs := [10]) (by kernel_rfl) (by simp) ?_
        refine AllReadyH.cons rfl (fun K hK => ?_) AllReadyH.nil
        go_simp
        refine (both_any 0 0 PW' PH' x y QW' QH' _ (by omega) (by omega) (by omega) (by omega) (by omega) (by omega) (by omega) (by omega) (by omega) (by omega) (by omega) (by omega) (by omega) (by omega) (by omega) (by omega) (r1a, r1b, r1c, r1d) HR1).mono ?_
        unfold ratV rectV
        try simp only
        rintro e wx2 ⟨rfl, hbx2⟩
        have HB2 : Hid (Below w3.heap.size w3 wx2) := HBA.out.trans (hbx2.mono HBA.out.size)
        have F2 : Hid (Four wx2 wx1.heap.size (.int .i64 0) (.int .i64 0) (.int .i64 0) (.int .i64 0)) := Four.on FA.out hbx2
        clear hbx2
        refine hK.out _ _ ?_ (fun hHeld => ?_)
        · exact KEEP.out _ HB2.out
        clear hK K
        refine wpAnyH_ready (rs := [11]) (by kernel_rfl) (by simp) ?_
        refine AllReadyH.cons rfl (fun K hK => ?_) AllReadyH.nil
        go_simp
        refine (both_any a b c d r1a r1b r1c r1d _ (by omega) (by omega) (by omega) (by omega) (by omega) (by omega) (by omega) (by omega) (by omega) (by omega) (by omega) (by omega) (by omega) (by omega) (by omega) (by omega) (rx, ry, rw_, rh) HR2).mono ?_
        unfold ratV rectV
        try simp only
        rintro e wx3 ⟨rfl, hbx3⟩
        have HB3 : Hid (Below w3.heap.size w3 wx3) := HB2.out.trans (hbx3.mono HB2.out.size)
        have F3 : Hid (Four wx3 wx1.heap.size (.int .i64 0) (.int .i64 0) (.int .i64 0) (.int .i64 0)) := Four.on F2.out hbx3
        clear hbx3
        refine hK.out _ _ ?_ (fun hHeld => ?_)
        · exact KEEP.out _ HB3.out
        clear hK K
        refine wpAnyH_ready (rs := [13]) (by kernel_rfl) (by simp) ?_
        refine AllReadyH.cons rfl (fun K hK => ?_) AllReadyH.nil
        obtain ⟨_, _, _, _, _, _, _, _, _⟩ := F3.out
        go_simp
        refine hK.out _ _ ?_ (fun hHeld => ?_)
        · exact KEEP.out _ ((((HB3.out.setCell (HB1.out.size) _).setCell (HB1.out.size) _).setCell (HB1.out.size) _).setCell (HB1.out.size) _)
        clear hK K
        refine wpAnyH_done (by kernel_rfl) ?_ _
        go_wp2_with fail
        go_meet
        exact ⟨_, rfl, Four.set_all F3.out _ _ _ _, ((((HB3.out.setCell (HB1.out.size) _).setCell (HB1.out.size) _).setCell (HB1.out.size) _).setCell (HB1.out.size) _), HB1.out.size⟩
    · go_simp
      have HBA : Hid (Below w3.heap.size w3 (w3.drew.alloc (.cells #[.int .i64 0, .int .i64 0, .int .i64 0, .int .i64 0] 117))) := HB0.out.alloc HB0.out.size _
      have FA : Hid (Four (w3.drew.alloc (.cells #[.int .i64 0, .int .i64 0, .int .i64 0, .int .i64 0] 117)) w3.heap.size (.int .i64 0) (.int .i64 0) (.int .i64 0) (.int .i64 0)) := four_start _ _ _ _ _ _ _ rfl
      refine hK.out _ _ ?_ (fun hHeld => ?_)
      · exact KEEP.out _ HBA.out
      clear hK K
      refine wpAnyH_ready (rs := [2]) (by kernel_rfl) (by simp) ?_
      refine AllReadyH.cons rfl (fun K hK => ?_) AllReadyH.nil
      go_simp
      refine (whole_any PW' PH' ap np cp _).mono ?_
      unfold rectV
      try simp only
      rintro e wx1 ⟨rfl, hbx1⟩
      have HB1 : Hid (Below w3.heap.size w3 wx1) := HBA.out.trans (hbx1.mono HBA.out.size)
      have F1 : Hid (Four wx1 w3.heap.size (.int .i64 0) (.int .i64 0) (.int .i64 0) (.int .i64 0)) := Four.on FA.out hbx1
      clear hbx1
      refine hK.out _ _ ?_ (fun hHeld => ?_)
      · exact KEEP.out _ HB1.out
      clear hK K
      refine wpAnyH_ready (rs := [10]) (by kernel_rfl) (by simp) ?_
      refine AllReadyH.cons rfl (fun K hK => ?_) AllReadyH.nil
      go_simp
      refine (both_any 0 0 PW' PH' x y QW' QH' _ (by omega) (by omega) (by omega) (by omega) (by omega) (by omega) (by omega) (by omega) (by omega) (by omega) (by omega) (by omega) (by omega) (by omega) (by omega) (by omega) (r1a, r1b, r1c, r1d) HR1).mono ?_
      unfold ratV rectV
      try simp only
      rintro e wx2 ⟨rfl, hbx2⟩
      have HB2 : Hid (Below w3.heap.size w3 wx2) := HB1.out.trans (hbx2.mono HB1.out.size)
      have F2 : Hid (Four wx2 w3.heap.size (.int .i64 0) (.int .i64 0) (.int .i64 0) (.int .i64 0)) := Four.on F1.out hbx2
      clear hbx2
      refine hK.out _ _ ?_ (fun hHeld => ?_)
      · exact KEEP.out _ HB2.out
      clear hK K
      refine wpAnyH_ready (rs := [11]) (by kernel_rfl) (by simp) ?_
      refine AllReadyH.cons rfl (fun K hK => ?_) AllReadyH.nil
      go_simp
      refine (both_any a b c d r1a r1b r1c r1d _ (by omega) (by omega) (by omega) (by omega) (by omega) (by omega) (by omega) (by omega) (by omega) (by omega) (by omega) (by omega) (by omega) (by omega) (by omega) (by omega) (rx, ry, rw_, rh) HR2).mono ?_
      unfold ratV rectV
      try simp only
      rintro e wx3 ⟨rfl, hbx3⟩
      have HB3 : Hid (Below w3.heap.size w3 wx3) := HB2.out.trans (hbx3.mono HB2.out.size)
      have F3 : Hid (Four wx3 w3.heap.size (.int .i64 0) (.int .i64 0) (.int .i64 0) (.int .i64 0)) := Four.on F2.out hbx3
      clear hbx3
      refine hK.out _ _ ?_ (fun hHeld => ?_)
      · exact KEEP.out _ HB3.out
      clear hK K
      refine wpAnyH_ready (rs := [13]) (by kernel_rfl) (by simp) ?_
      refine AllReadyH.cons rfl (fun K hK => ?_) AllReadyH.nil
      obtain ⟨_, _, _, _, _, _, _, _, _⟩ := F3.out
      go_simp
      refine hK.out _ _ ?_ (fun hHeld => ?_)
      · exact KEEP.out _ ((((HB3.out.setCell (Nat.le_refl _) _).setCell (Nat.le_refl _) _).setCell (Nat.le_refl _) _).setCell (Nat.le_refl _) _)
      clear hK K
      refine wpAnyH_done (by kernel_rfl) ?_ _
      go_wp2_with fail
      go_meet
      exact ⟨_, rfl, Four.set_all F3.out _ _ _ _, ((((HB3.out.setCell (Nat.le_refl _) _).setCell (Nat.le_refl _) _).setCell (Nat.le_refl _) _).setCell (Nat.le_refl _) _), Nat.le_refl _⟩
  case rest =>
    obtain ⟨br, rfl, FR, hb4, hbr⟩ := hcut
    have HG4 : Hid (Gch w (.slice ap np cp) (.slice aq nq cq) (.slice (some ⟨g, 0, none⟩) np co) PW' PH' QW' QH' bo ps qs ps wc) := HG3.out.on hb4
    have hn2 := both_bounds a b c d r1a r1b r1c r1d 20 ha ha2 hb hb2 hc hc2 hd hd2 n0 n1 n2 n3 n4 n5 n6 n7 _ HR2.out
    simp only at hn2
    obtain ⟨m0, m1, m2, m3, m4, m5, m6, m7⟩ := hn2
    obtain ⟨r0, rr1, rr2, rr3, _, _, _, _, _⟩ := FR
    have FRc : Hid (Four wc br (.int .i64 rx) (.int .i64 ry) (.int .i64 rw_) (.int .i64 rh)) := ⟨r0, rr1, rr2, rr3, ‹_›, ‹_›, ‹_›, ‹_›, ‹_›⟩
    have hgr : g < w3.heap.size := (HG3.out.own.lt g rfl).2
    clear KEEP GON KALL HG3 hb4
    obtain ⟨gp, op, rfl, hgp, RPC⟩ := rd_some RP.out hne
    obtain ⟨gq_, oq, rfl, hgq, RQC⟩ := rd_some RQ.out hqne
    have HRPC := hid_of RPC
    have HRQC := hid_of RQC
    clear RPC RQC
    go_wp2_with fail
    go_loopw [15] (fun rv wr => ∃ R : Int, rv = .int .i64 R ∧ ry ≤ R ∧ R ≤ ry + rh ∧ Hid (Four wr br (.int .i64 rx) (.int .i64 ry) (.int .i64 rw_) (.int .i64 rh)) ∧
      Hid (Gch w (.slice (some ⟨gp, op, none⟩) np cp) (.slice (some ⟨gq_, oq, none⟩) nq cq) (.slice (some ⟨g, 0, none⟩) np co) PW' PH' QW' QH' bo ps qs (gridL PW' (PW' * PH') (upto rx ry rw_ rh R rx) (gq (fun _ q => q) PW' ps QW' qs x y) ps) wr)) (fun rv _ => (ry + rh - intOf rv).toNat)
    case atStart =>
      refine ⟨ry, rfl, by omega, by omega, FRc, ?_⟩
      unfold Hid
      rw [upto_start PW' PH' _ ps rx ry rw_ rh (by rw [HNP.out]; exact HPL.out)]
      exact HG4.out
    case round =>
      obtain ⟨R, rfl, R0, R1, HFR, HG⟩ := hrel
      obtain ⟨r0, rr1, rr2, rr3, _, _, _, _, _⟩ := HFR.out
      by_cases hR : R < ry + rh
      · go_wp2_with fail
        go_loopw [16] (fun cv wr => ∃ C : Int, cv = .int .i64 C ∧ rx ≤ C ∧ C ≤ rx + rw_ ∧ Hid (Four wr br (.int .i64 rx) (.int .i64 ry) (.int .i64 rw_) (.int .i64 rh)) ∧
          Hid (Gch w (.slice (some ⟨gp, op, none⟩) np cp) (.slice (some ⟨gq_, oq, none⟩) nq cq) (.slice (some ⟨g, 0, none⟩) np co) PW' PH' QW' QH' bo ps qs (gridL PW' (PW' * PH') (upto rx ry rw_ rh R C) (gq (fun _ q => q) PW' ps QW' qs x y) ps) wr)) (fun cv _ => (rx + rw_ - intOf cv).toNat)
        case atStart => exact ⟨rx, rfl, by omega, by omega, HFR, HG⟩
        case round =>
          obtain ⟨C, rfl, C0, C1, HFR2, HG2⟩ := hrel
          clear r0 rr1 rr2 rr3
          obtain ⟨r0, rr1, rr2, rr3, _, _, _, _, _⟩ := HFR2.out
          by_cases hC : C < rx + rw_
          · have hin := both_has a b c d r1a r1b r1c r1d C R _ HR2.out
            have hin1 := both_has 0 0 PW' PH' x y QW' QH' C R _ HR1.out
            simp only at hin hin1
            rw [(hasB_iff rx ry rw_ rh C R).2 ⟨C0, hC, R0, hR⟩] at hin
            have hin2 : hasB r1a r1b r1c r1d C R = true := by
              rw [hin1] at hin ⊢; revert hin; cases hasB a b c d C R <;> simp
            rw [hin2] at hin1
            have hin3 : hasB 0 0 PW' PH' C R = true ∧ hasB x y QW' QH' C R = true := by
              revert hin1; cases hasB 0 0 PW' PH' C R <;> simp
            obtain ⟨i0, i1, i2, i3⟩ := (hasB_iff _ _ _ _ _ _).1 hin3.1
            obtain ⟨j0, j1, j2, j3⟩ := (hasB_iff _ _ _ _ _ _).1 hin3.2
            clear hin hin1 hin2 hin3
            obtain ⟨Rn, rfl⟩ : ∃ n : Nat, R = (n : Int) := ⟨R.toNat, by omega⟩
            obtain ⟨Cn, rfl⟩ : ∃ n : Nat, C = (n : Int) := ⟨C.toNat, by omega⟩
            obtain ⟨K, HK⟩ : ∃ K, Hid (Rn * PW' + Cn = K) := ⟨_, (rfl : _ = _)⟩
            have hRP : (Rn + 1) * PW' ≤ PH' * PW' := Nat.mul_le_mul_right _ (by omega)
            have hKn : K < np := by
              have h1 := HK.out; have h2 := HPL.out
              rw [Nat.mul_comm] at h2; rw [Nat.add_mul] at hRP; omega
            obtain ⟨M, HM⟩ : ∃ M, Hid (Rn * PW' = M) := ⟨_, (rfl : _ = _)⟩
            have hM : (Rn : Int) * (PW' : Int) = (M : Int) := by rw [← HM.out]; exact (Int.natCast_mul _ _).symm
            have hMK : M + Cn = K := by rw [← HM.out]; exact HK.out
            obtain ⟨Ry, HRy⟩ : ∃ n : Nat, Hid ((Rn : Int) - y = (n : Int)) := ⟨((Rn : Int) - y).toNat, by unfold Hid; omega⟩
            obtain ⟨Cx, HCx⟩ : ∃ n : Nat, Hid ((Cn : Int) - x = (n : Int)) := ⟨((Cn : Int) - x).toNat, by unfold Hid; omega⟩
            obtain ⟨M2, HM2⟩ : ∃ M, Hid (Ry * QW' = M) := ⟨_, (rfl : _ = _)⟩
            have hRy := HRy.out
            have hM2 : (Ry : Int) * (QW' : Int) = (M2 : Int) := by rw [← HM2.out]; exact (Int.natCast_mul _ _).symm
            have hRQ : (Ry + 1) * QW' ≤ QH' * QW' := Nat.mul_le_mul_right _ (by omega)
            have hM2n : M2 + Cx < nq := by
              have h1 := HM2.out; have h2 := HQL.out; have h3 := HCx.out
              rw [Nat.mul_comm] at h2; rw [Nat.add_mul] at hRQ; omega
            have hJ : (M2 : Int) + (Cn : Int) - x = ((M2 + Cx : Nat) : Int) := by have := HCx.out; omega
            obtain ⟨J, HJ⟩ : ∃ J, Hid (M2 + Cx = J) := ⟨_, (rfl : _ = _)⟩
            rw [HJ.out] at hJ hM2n
            clear hRP hRQ
            have HGQ : Hid (gq (fun _ q => q) PW' ps QW' qs x y K = qs.getD J (0, 0)) := by
              have e1 : K / PW' = Rn := by rw [← HK.out, Nat.add_comm, Nat.add_mul_div_right _ _ (by omega), Nat.div_eq_of_lt (by omega), Nat.zero_add]
              have e2 : K % PW' = Cn := by rw [← HK.out, Nat.add_comm, Nat.add_mul_mod_self_right, Nat.mod_eq_of_lt (by omega)]
              unfold Hid gq
              rw [e1, e2, hRy, hM2, hJ, Int.toNat_natCast]
            obtain ⟨hpc0, hpc1⟩ := HRPC.out _ HG2.out.bel K (by rw [HNP.out]; exact hKn)
            obtain ⟨hqc0, hqc1⟩ := HRQC.out _ HG2.out.bel J (by rw [HNQ.out]; exact hM2n)
            have hpk := POK.out K (by rw [HNP.out]; exact hKn)
            have hqk := QOK.out J (by rw [HNQ.out]; exact hM2n)
            obtain ⟨pp, HPP⟩ : ∃ p, Hid (ps.getD K (0, 0) = p) := ⟨_, (rfl : _ = _)⟩
            obtain ⟨qq, HQQ⟩ : ∃ p, Hid (qs.getD J (0, 0) = p) := ⟨_, (rfl : _ = _)⟩
            rw [HPP.out] at hpc0 hpc1 hpk
            rw [HQQ.out] at hqc0 hqc1 hqk
            obtain ⟨pv, pa⟩ := pp
            obtain ⟨qv, qa⟩ := qq
            obtain ⟨⟨nv, na⟩, HNV⟩ : ∃ r, Hid ((qv, qa) = r) := ⟨_, (rfl : _ = _)⟩
            obtain ⟨a0, a1, a2, _, _, _, _⟩ := HG2.out.tp
            obtain ⟨b0, b1, b2_, _, _, _, _⟩ := HG2.out.tq
            obtain ⟨o0, o1, o2, _, _, _, _⟩ := HG2.out.to
            simp only at hpc0 hpc1 hqc0 hqc1
            have hMK2 : (M : Int) + (Cn : Int) = (K : Int) := by omega
            go_wp2_with fail
            -- REGION
            have KEEP : Hid (∀ W2 cur', Gch w (.slice (some ⟨gp, op, none⟩) np cp) (.slice (some ⟨gq_, oq, none⟩) nq cq) (.slice (some ⟨g, 0, none⟩) np co) PW' PH' QW' QH' bo ps qs cur' W2 → (W2.cell? ⟨w.heap.size, 2, none⟩ = some (.slice (some ⟨gp, op, none⟩) np cp) ∧ W2.cell? ⟨w.heap.size + 1, 0, none⟩ = some (.int .i64 (QW' : Int)) ∧ W2.cell? ⟨w.heap.size + 1, 2, none⟩ = some (.slice (some ⟨gq_, oq, none⟩) nq cq) ∧ W2.cell? ⟨bo, 2, none⟩ = some (.slice (some ⟨g, 0, none⟩) np co) ∧ W2.cell? ⟨gp, op + K * 2, none⟩ = some (.int .i64 pv) ∧ W2.cell? ⟨gp, op + K * 2 + 1, none⟩ = some (.int .i64 pa) ∧ W2.cell? ⟨gq_, oq + J * 2, none⟩ = some (.int .i64 qv) ∧ W2.cell? ⟨gq_, oq + J * 2 + 1, none⟩ = some (.int .i64 qa))) := fun W2 cur' h2 => by
              obtain ⟨k0, k1⟩ := HRPC.out _ h2.bel K (by rw [HNP.out]; exact hKn)
              obtain ⟨k2, k3⟩ := HRQC.out _ h2.bel J (by rw [HNQ.out]; exact hM2n)
              rw [HPP.out] at k0 k1
              rw [HQQ.out] at k2 k3
              exact ⟨h2.tp.c2, h2.tq.c0, h2.tq.c2, h2.to.c2, k0, k1, k2, k3⟩
            clear hpc0 hpc1 hqc0 hqc1 a0 a1 a2 b0 b1 b2_ o0 o1 o2 r0 rr1 rr2 rr3
            have hKi : (K : Int) < (np : Int) := by omega
            have hJi : (J : Int) < (nq : Int) := by omega
            have hw1 : IntKind.i64.wrap ((Rn : Int) - y) = (Ry : Int) := by rw [hRy, IntKind.wrap_i64]; omega
            have hw2 : IntKind.i64.wrap ((Ry : Int) * (QW' : Int)) = (M2 : Int) := by rw [hM2, IntKind.wrap_i64]; omega
            have hw3 : IntKind.i64.wrap ((M2 : Int) + (Cn : Int)) = (M2 : Int) + (Cn : Int) := by rw [IntKind.wrap_i64]; omega
            have hw4 : IntKind.i64.wrap ((M2 : Int) + (Cn : Int) - x) = (J : Int) := by rw [hJ, IntKind.wrap_i64]; omega
            have hw5 : IntKind.i64.wrap (Ry : Int) = (Ry : Int) := by rw [IntKind.wrap_i64]; omega
            have hw6 : IntKind.i64.wrap (M2 : Int) = (M2 : Int) := by rw [IntKind.wrap_i64]; omega
            have hw7 : IntKind.i64.wrap (J : Int) = (J : Int) := by rw [IntKind.wrap_i64]; omega
            have HGD : Hid (Gch w (.slice (some ⟨gp, op, none⟩) np cp) (.slice (some ⟨gq_, oq, none⟩) nq cq) (.slice (some ⟨g, 0, none⟩) np co) PW' PH' QW' QH' bo ps qs _ wr.drew) := HG2.out.drew
            refine wp_region_held_drew (S := (fun w' => w'.cell? ⟨w.heap.size, 2, none⟩ = some (.slice (some ⟨gp, op, none⟩) np cp) ∧ w'.cell? ⟨w.heap.size + 1, 0, none⟩ = some (.int .i64 (QW' : Int)) ∧ w'.cell? ⟨w.heap.size + 1, 2, none⟩ = some (.slice (some ⟨gq_, oq, none⟩) nq cq) ∧ w'.cell? ⟨bo, 2, none⟩ = some (.slice (some ⟨g, 0, none⟩) np co) ∧ w'.cell? ⟨gp, op + K * 2, none⟩ = some (.int .i64 pv) ∧ w'.cell? ⟨gp, op + K * 2 + 1, none⟩ = some (.int .i64 pa) ∧ w'.cell? ⟨gq_, oq + J * 2, none⟩ = some (.int .i64 qv) ∧ w'.cell? ⟨gq_, oq + J * 2 + 1, none⟩ = some (.int .i64 qa))) (by kernel_rfl) ?_ (fun hHeld => ?_)
            · exact KEEP.out _ _ HGD.out
            refine tk (v := ?_) 0 rfl (by kernel_rfl) (by rfl) ?_ ?_
            rotate_left
            · (intro w hSw; (try dsimp only at hSw); go_simp; try with_reducible rfl)
            refine tk (v := ?_) 1 rfl (by kernel_rfl) (by rfl) ?_ ?_
            rotate_left
            · (intro w hSw; (try dsimp only at hSw); go_simp; try with_reducible rfl)
            refine tk (v := ?_) 2 rfl (by kernel_rfl) (by rfl) ?_ ?_
            rotate_left
            · (intro w hSw; (try dsimp only at hSw); go_simp; try with_reducible rfl)
            refine tk (v := ?_) 3 rfl (by kernel_rfl) (by rfl) ?_ ?_
            rotate_left
            · (intro w hSw; (try dsimp only at hSw); go_simp; try with_reducible rfl)
            refine tk (v := ?_) 4 rfl (by kernel_rfl) (by rfl) ?_ ?_
            rotate_left
            · (intro w hSw; (try dsimp only at hSw); go_simp; try with_reducible rfl)
            refine tk (v := ?_) 5 rfl (by kernel_rfl) (by rfl) ?_ ?_
            rotate_left
            · (intro w hSw; (try dsimp only at hSw); go_simp; try with_reducible rfl)
            refine tk (v := ?_) 6 rfl (by kernel_rfl) (by rfl) ?_ ?_
            rotate_left
            · (intro w hSw; (try dsimp only at hSw); go_simp; try with_reducible rfl)
            refine tk (v := ?_) 7 rfl (by kernel_rfl) (by rfl) ?_ ?_
            rotate_left
            · (intro w hSw; (try dsimp only at hSw); go_simp; try with_reducible rfl)
            refine tk (v := ?_) 8 rfl (by kernel_rfl) (by rfl) ?_ ?_
            rotate_left
            · (intro w hSw; (try dsimp only at hSw); go_simp; try with_reducible rfl)
            refine tk (v := ?_) 9 rfl (by kernel_rfl) (by rfl) ?_ ?_
            rotate_left
            · (intro w hSw; (try dsimp only at hSw); go_simp; try with_reducible rfl)
            refine tk (v := ?_) 10 rfl (by kernel_rfl) (by rfl) ?_ ?_
            rotate_left
            · (intro w hSw; (try dsimp only at hSw); go_simp; try with_reducible rfl)
            refine tk (v := ?_) 11 rfl (by kernel_rfl) (by rfl) ?_ ?_
            rotate_left
            · (intro w hSw; (try dsimp only at hSw); go_simp; try with_reducible rfl)
            refine tk (v := ?_) 12 rfl (by kernel_rfl) (by rfl) ?_ ?_
            rotate_left
            · (intro w hSw; (try dsimp only at hSw); go_simp; try with_reducible rfl)
            refine tk (v := ?_) 13 rfl (by kernel_rfl) (by rfl) ?_ ?_
            rotate_left
            · (intro w hSw; (try dsimp only at hSw); go_simp; try with_reducible rfl)
            refine tk (v := ?_) 14 rfl (by kernel_rfl) (by rfl) ?_ ?_
            rotate_left
            · (intro w hSw; (try dsimp only at hSw); go_simp; try with_reducible rfl)
            refine tk (v := ?_) 15 rfl (by kernel_rfl) (by rfl) ?_ ?_
            rotate_left
            · (intro w hSw; (try dsimp only at hSw); go_simp; try with_reducible rfl)
            refine tk (v := ?_) 16 rfl (by kernel_rfl) (by rfl) ?_ ?_
            rotate_left
            · (intro w hSw; (try dsimp only at hSw); go_simp; try with_reducible rfl)
            refine tk (v := ?_) 17 rfl (by kernel_rfl) (by rfl) ?_ ?_
            rotate_left
            · (intro w hSw; (try dsimp only at hSw); go_simp; try with_reducible rfl)
            refine tk (v := ?_) 18 rfl (by kernel_rfl) (by rfl) ?_ ?_
            rotate_left
            · (intro w hSw; (try dsimp only at hSw); go_simp; try with_reducible rfl)
            refine tk (v := ?_) 19 rfl (by kernel_rfl) (by rfl) ?_ ?_
            rotate_left
            · (intro w hSw; (try dsimp only at hSw); go_simp; try with_reducible rfl)
            refine tk (v := ?_) 20 rfl (by kernel_rfl) (by rfl) ?_ ?_
            rotate_left
            · (intro w hSw; (try dsimp only at hSw); go_simp; try with_reducible rfl)
            refine tk (v := ?_) 21 rfl (by kernel_rfl) (by rfl) ?_ ?_
            rotate_left
            · (intro w hSw; (try dsimp only at hSw); go_simp; try with_reducible rfl)
            refine tk (v := ?_) 22 rfl (by kernel_rfl) (by rfl) ?_ ?_
            rotate_left
            · (intro w hSw; (try dsimp only at hSw); go_simp; try with_reducible rfl)
            refine wpAnyH_ready (rs := [23]) (by kernel_rfl) (by simp) ?_
            refine AllReadyH.cons rfl (fun K_ hK => ?_) AllReadyH.nil
            go_simp
            refine (becP_any (pv, pa) (qv, qa) (nv, na) hpk hqk HNV _).mono ?_
            unfold pixV
            try simp only
            rintro e wx ⟨rfl, hbx⟩
            have HGx : Hid (Gch w (.slice (some ⟨gp, op, none⟩) np cp) (.slice (some ⟨gq_, oq, none⟩) nq cq) (.slice (some ⟨g, 0, none⟩) np co) PW' PH' QW' QH' bo ps qs (gridL PW' (PW' * PH') (upto rx ry rw_ rh (Rn : Int) (Cn : Int)) (gq (fun _ q => q) PW' ps QW' qs x y) ps) wx) := HGD.out.on hbx
            have HFx : Hid (Four wx br (.int .i64 rx) (.int .i64 ry) (.int .i64 rw_) (.int .i64 rh)) := HFR2.out.drew.on hbx
            clear hbx
            have hlen : (gridL PW' (PW' * PH') (upto rx ry rw_ rh (Rn : Int) (Cn : Int)) (gq (fun _ q => q) PW' ps QW' qs x y) ps).length = np := by rw [grid_len]; exact HPL.out.symm
            have HKL : Hid (K < (gridL PW' (PW' * PH') (upto rx ry rw_ rh (Rn : Int) (Cn : Int)) (gq (fun _ q => q) PW' ps QW' qs x y) ps).length) := by unfold Hid; rw [hlen]; exact hKn
            have hown : Hid (wx.ownsRow (w.heap.size + 4) 52 2 (.slice (some ⟨g, 0, none⟩) np co) np (pixCells (gridL PW' (PW' * PH') (upto rx ry rw_ rh (Rn : Int) (Cn : Int)) (gq (fun _ q => q) PW' ps QW' qs x y) ps))) := by have h := HGx.out.own; rw [hlen] at h; exact h
            obtain ⟨u0, hu0⟩ : ∃ u, wx.cell? ⟨g, K * 2, none⟩ = some u := by
              exact ⟨_, (hown.out.cellAt (K * 2) (by omega)).trans (pixCells_at _ K HKL.out).1⟩
            obtain ⟨u1, hu1⟩ : ∃ u, wx.cell? ⟨g, K * 2 + 1, none⟩ = some u := by
              exact ⟨_, (hown.out.cellAt (K * 2 + 1) (by omega)).trans (pixCells_at _ K HKL.out).2⟩
            have hf0 : wx.frozen? ⟨g, K * 2, none⟩ = false := hown.out.frozenAt _
            have hf1 : wx.frozen? ⟨g, K * 2 + 1, none⟩ = false := hown.out.frozenAt _
            have HGs : Hid (Gch w (.slice (some ⟨gp, op, none⟩) np cp) (.slice (some ⟨gq_, oq, none⟩) nq cq) (.slice (some ⟨g, 0, none⟩) np co) PW' PH' QW' QH' bo ps qs ((gridL PW' (PW' * PH') (upto rx ry rw_ rh (Rn : Int) (Cn : Int)) (gq (fun _ q => q) PW' ps QW' qs x y) ps).set K (nv, na)) ((wx.setCell ⟨g, K * 2, none⟩ (.int .i64 nv)).setCell ⟨g, K * 2 + 1, none⟩ (.int .i64 na))) := HGx.out.store RP.out RQ.out hgB hgb hlen nv na
            have HFs : Hid (Four ((wx.setCell ⟨g, K * 2, none⟩ (.int .i64 nv)).setCell ⟨g, K * 2 + 1, none⟩ (.int .i64 na)) br (.int .i64 rx) (.int .i64 ry) (.int .i64 rw_) (.int .i64 rh)) := (HFx.out.other (by omega)).other (by omega)
            have HGn : Hid ((gridL PW' (PW' * PH') (upto rx ry rw_ rh (Rn : Int) (Cn : Int)) (gq (fun _ q => q) PW' ps QW' qs x y) ps).set K (nv, na) = gridL PW' (PW' * PH') (upto rx ry rw_ rh (Rn : Int) ((Cn : Int) + 1)) (gq (fun _ q => q) PW' ps QW' qs x y) ps) := by
              unfold Hid
              rw [← upto_step PW' PH' Rn Cn _ ps rx ry rw_ rh (by omega) (by omega) C0 hC R0 hR, HK.out, HGQ.out, HQQ.out]
              rw [show (qv, qa) = (nv, na) from HNV.out]
            rw [HGn.out] at HGs
            clear HGn hlen HKL hown
            refine hK.out _ _ ?_ (fun hHeld => ?_)
            · exact KEEP.out _ _ HGx.out
            clear hK K_
            refine tk (v := ?_) 24 rfl (by kernel_rfl) (by rfl) ?_ ?_
            rotate_left
            · (intro w hSw; (try dsimp only at hSw); go_simp; try with_reducible rfl)
            refine wpAnyH_ready (rs := [25]) (by kernel_rfl) (by simp) ?_
            refine AllReadyH.cons rfl (fun K_ hK => ?_) AllReadyH.nil
            go_simp
            refine hK.out _ _ ?_ (fun hHeld => ?_)
            · exact KEEP.out _ _ HGs.out
            clear hK K_
            refine wpAnyH_done (by kernel_rfl) ?_ _
            go_wp2_with fail
            go_roundw
            case rel => exact ⟨(Cn : Int) + 1, by go_num, by omega, by omega, HFs, HGs⟩
            case measure => simp [intOf]; omega
            -- END
          · have hC41 : C = rx + rw_ := by omega
            subst hC41
            rw [upto_row] at HG2
            go_wp2_with fail
            go_roundw
            case rel => exact ⟨R + 1, by go_num, by omega, by omega, HFR2, HG2⟩
            case measure => simp [intOf]; omega
      · have hR41 : R = ry + rh := by omega
        subst hR41
        have hend := upto_end (fun _ q => q) PW' PH' ps QW' QH' qs x y a b c d (r1a, r1b, r1c, r1d) (rx, ry, rw_, rh) (by omega) (by rw [HNP.out]; exact HPL.out) HR1.out HR2.out
        simp only at hend
        have HG9 := HG
        rw [hend] at HG9
        obtain ⟨o0, o1, o2, _, _, _, _⟩ := HG9.out.to
        obtain ⟨q0, q1, q2, f0, f1, f2, _⟩ := HG9.out.tr
        go_wp2_with fail
        refine bodyPost_ret (v := .agg #[.int .i64 (PW' : Int), .int .i64 (PH' : Int), .slice (some ⟨g, 0, none⟩) np co]) (by simp [results, Tryz.results99, go_sem, q0, q1, q2]) rfl ⟨_, rfl, ownsRow_setCell_below (ownsRow_setCell_below (ownsRow_setCell_below HG9.out.own (a := ⟨w.heap.size + 1 + 1 + 1, 0, none⟩) (show w.heap.size + 1 + 1 + 1 < w.heap.size + 4 by omega) _) (a := ⟨w.heap.size + 1 + 1 + 1, 1, none⟩) (show w.heap.size + 1 + 1 + 1 < w.heap.size + 4 by omega) _) (a := ⟨w.heap.size + 1 + 1 + 1, 2, none⟩) (show w.heap.size + 1 + 1 + 1 < w.heap.size + 4 by omega) _, ?_⟩
        exact ((HG9.out.bel.setCell (show w.heap.size ≤ w.heap.size + 1 + 1 + 1 by omega) _).setCell (show w.heap.size ≤ w.heap.size + 1 + 1 + 1 by omega) _).setCell (show w.heap.size ≤ w.heap.size + 1 + 1 + 1 by omega) _
end Go.Proofs.YtceabiodelfdoaaGreatDoor
