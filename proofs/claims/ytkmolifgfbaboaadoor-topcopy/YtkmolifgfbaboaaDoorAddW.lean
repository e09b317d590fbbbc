/- Walks of blend.Add and blend.Put. -/
import Derived.Test.YtkmolifgfbaboaaDoorChangeA
import Derived.Test.YtkmolifgfbaboaaDoorChangeP
namespace Go.Proofs.YtkmolifgfbaboaaDoor
open Go.RowKit

/-- what holds on the road: the pictures p and q, what is answered -/
structure Gad (w : World) (vp vq : Value) (PW PH QW QH : Nat) (ps qs : List (Int × Int)) (w' : World) : Prop where
  tp : Three w' w.heap.size (.int .i64 (PW : Int)) (.int .i64 (PH : Int)) vp
  tq : Three w' (w.heap.size + 1) (.int .i64 (QW : Int)) (.int .i64 (QH : Int)) vq
  tr : Three w' (w.heap.size + 1 + 1) (.int .i64 0) (.int .i64 0) (.slice none 0 0)
  rp : RdP w' vp ps
  rq : RdP w' vq qs
  bel : Below w.heap.size w w'
theorem Gad.on {w : World} {vp vq : Value} {PW PH QW QH : Nat} {ps qs : List (Int × Int)} {w1 w2 : World} (h : Gad w vp vq PW PH QW QH ps qs w1) (hb : Below w1.heap.size w1 w2) : Gad w vp vq PW PH QW QH ps qs w2 :=
  ⟨h.tp.on hb, h.tq.on hb, h.tr.on hb, h.rp.on hb, h.rq.on hb, h.bel.trans (hb.mono h.bel.size)⟩
theorem Gad.drew {w : World} {vp vq : Value} {PW PH QW QH : Nat} {ps qs : List (Int × Int)} {w1 : World} (h : Gad w vp vq PW PH QW QH ps qs w1) : Gad w vp vq PW PH QW QH ps qs w1.drew :=
  ⟨h.tp.drew, h.tq.drew, h.tr.drew, h.rp, h.rq, h.bel.drew⟩
set_option maxHeartbeats 2000000 in
set_option maxRecDepth 100000 in
theorem add_any (PW PH QW QH : Nat) (vp vq : Value) (ps qs : List (Int × Int)) (x y : Int) (w : World) (HP : Hid (checkL PW PH ps = 0)) (HQ : Hid (checkL QW QH qs = 0)) (RP : Hid (RdP w vp ps)) (RQ : Hid (RdP w vq qs))
    (hx : -20 ≤ x) (hx2 : x ≤ 20) (hy : -20 ≤ y) (hy2 : y ≤ 20) :
    Calls Tryd.prog 15 #[picV PW PH vp, picV QW QH vq, .int .i64 x, .int .i64 y] w
      fun e w' => ∃ v', e = .returned (picV PW PH v') ∧ w'.ownsRow (w.heap.size + 3) 33 2 v' (chL addP PW ps QW QH qs x y 0 0 PW PH).length (pixCells (chL addP PW ps QW QH qs x y 0 0 PW PH)) ∧ Below w.heap.size w w' := by
  obtain ⟨PW', PH', e1, e2, p1, p2, p3, p4, pl, _⟩ := check_zero _ _ _ HP.out
  obtain rfl : PW' = PW := by omega
  obtain rfl : PH' = PH := by omega
  clear e1 e2
  obtain ⟨ap, cp, hvp, hlp, hcp, _⟩ := RP.out
  obtain ⟨aq, cq, hvq, hlq, hcq, _⟩ := RQ.out
  obtain ⟨np, HNP⟩ : ∃ n, Hid (ps.length = n) := ⟨_, (rfl : _ = _)⟩
  obtain ⟨nq, HNQ⟩ : ∃ n, Hid (qs.length = n) := ⟨_, (rfl : _ = _)⟩
  rw [HNP.out] at hvp hlp
  rw [HNQ.out] at hvq hlq
  clear pl
  subst hvp hvq
  unfold picV
  have T0 := ((three_start w (.int .i64 (PW' : Int)) (.int .i64 (PH' : Int)) (.slice ap np cp) 25).alloc (.cells #[.int .i64 (QW : Int), .int .i64 (QH : Int), .slice aq nq cq] 25)).alloc (.cells #[.int .i64 0, .int .i64 0, .slice none 0 0] 25)
  have T1 := (three_begin (w.alloc (.cells #[.int .i64 (PW' : Int), .int .i64 (PH' : Int), .slice ap np cp] 25)) (.int .i64 (QW : Int)) (.int .i64 (QH : Int)) (.slice aq nq cq) 25 (w.heap.size + 1) (by simp)).alloc (.cells #[.int .i64 0, .int .i64 0, .slice none 0 0] 25)
  have T2 := three_begin ((w.alloc (.cells #[.int .i64 (PW' : Int), .int .i64 (PH' : Int), .slice ap np cp] 25)).alloc (.cells #[.int .i64 (QW : Int), .int .i64 (QH : Int), .slice aq nq cq] 25)) (.int .i64 0) (.int .i64 0) (.slice none 0 0) 25 (w.heap.size + 1 + 1) (by simp)
  obtain ⟨W0, HW0⟩ : ∃ W0, Hid (((w.alloc (.cells #[.int .i64 (PW' : Int), .int .i64 (PH' : Int), .slice ap np cp] 25)).alloc (.cells #[.int .i64 (QW : Int), .int .i64 (QH : Int), .slice aq nq cq] 25)).alloc (.cells #[.int .i64 0, .int .i64 0, .slice none 0 0] 25) = W0) := ⟨_, (rfl : _ = _)⟩
  have hb0 : Below w.heap.size w W0 := by rw [← HW0.out]; exact (((Below.refl _ _).alloc (Nat.le_refl _) _).alloc (by simp) _).alloc (by simp; omega) _
  rw [HW0.out] at T0 T1 T2
  have HG0 : Hid (Gad w (.slice ap np cp) (.slice aq nq cq) PW' PH' QW QH ps qs W0) := ⟨T0, T1, T2, RP.out.on hb0, RQ.out.on hb0, hb0⟩
  have HGD : Hid (Gad w (.slice ap np cp) (.slice aq nq cq) PW' PH' QW QH ps qs W0.drew) := HG0.out.drew
  clear T0 T1 T2 hb0 HG0
  have KEEP : Hid (∀ W2, Gad w (.slice ap np cp) (.slice aq nq cq) PW' PH' QW QH ps qs W2 → (W2.cell? ⟨w.heap.size, 0, none⟩ = some (.int .i64 (PW' : Int)) ∧ W2.cell? ⟨w.heap.size, 1, none⟩ = some (.int .i64 (PH' : Int)) ∧ W2.cell? ⟨w.heap.size, 2, none⟩ = some (.slice ap np cp) ∧ W2.cell? ⟨w.heap.size + 1, 0, none⟩ = some (.int .i64 (QW : Int)) ∧ W2.cell? ⟨w.heap.size + 1, 1, none⟩ = some (.int .i64 (QH : Int)) ∧ W2.cell? ⟨w.heap.size + 1, 2, none⟩ = some (.slice aq nq cq))) := fun W2 h => ⟨h.tp.c0, h.tp.c1, h.tp.c2, h.tq.c0, h.tq.c1, h.tq.c2⟩
  go_enter Tryd.func15, Tryd.ntmps15
  go_wp2_with fail
  rw [HW0.out]
  refine wp_region_held_drew (S := (fun w' => w'.cell? ⟨w.heap.size, 0, none⟩ = some (.int .i64 (PW' : Int)) ∧ w'.cell? ⟨w.heap.size, 1, none⟩ = some (.int .i64 (PH' : Int)) ∧ w'.cell? ⟨w.heap.size, 2, none⟩ = some (.slice ap np cp) ∧ w'.cell? ⟨w.heap.size + 1, 0, none⟩ = some (.int .i64 (QW : Int)) ∧ w'.cell? ⟨w.heap.size + 1, 1, none⟩ = some (.int .i64 (QH : Int)) ∧ w'.cell? ⟨w.heap.size + 1, 2, none⟩ = some (.slice aq nq cq))) (by kernel_rfl) ?_ (fun hHeld => ?_)
  · exact KEEP.out _ HGD.out
  refine wpAnyH_take (i := 0) (oi := ({ dst := some 9, op := Op.load 25 (Operand.tmp 4), type := 25, pos := "blend.go:42", after := #[], guard := none } : Oper)) (v := ?_) rfl (by kernel_rfl) (by kernel_rfl) (by kernel_rfl) (fun _ _ _ h => h) (Or.inl ⟨by rfl, ?_⟩) (by assumption) ?_
  rotate_left
  · (intro w hSw; (try dsimp only at hSw); go_simp; try with_reducible rfl)
  simp only [Act.put, List.setIfInBounds_toArray, List.set_cons_zero, List.set_cons_succ]
  refine wpAnyH_take (i := 1) (oi := ({ dst := some 10, op := Op.load 25 (Operand.tmp 5), type := 25, pos := "blend.go:42", after := #[], guard := none } : Oper)) (v := ?_) rfl (by kernel_rfl) (by kernel_rfl) (by kernel_rfl) (fun _ _ _ h => h) (Or.inl ⟨by rfl, ?_⟩) (by assumption) ?_
  rotate_left
  · (intro w hSw; (try dsimp only at hSw); go_simp; try with_reducible rfl)
  simp only [Act.put, List.setIfInBounds_toArray, List.set_cons_zero, List.set_cons_succ]
  refine wpAnyH_take (i := 2) (oi := ({ dst := some 11, op := Op.move (Operand.tmp 2), type := 3, pos := "blend.go:42", after := #[], guard := none } : Oper)) (v := ?_) rfl (by kernel_rfl) (by kernel_rfl) (by kernel_rfl) (fun _ _ _ h => h) (Or.inl ⟨by rfl, ?_⟩) (by assumption) ?_
  rotate_left
  · (intro w hSw; (try dsimp only at hSw); go_simp; try with_reducible rfl)
  simp only [Act.put, List.setIfInBounds_toArray, List.set_cons_zero, List.set_cons_succ]
  refine wpAnyH_take (i := 3) (oi := ({ dst := some 12, op := Op.move (Operand.tmp 3), type := 3, pos := "blend.go:42", after := #[], guard := none } : Oper)) (v := ?_) rfl (by kernel_rfl) (by kernel_rfl) (by kernel_rfl) (fun _ _ _ h => h) (Or.inl ⟨by rfl, ?_⟩) (by assumption) ?_
  rotate_left
  · (intro w hSw; (try dsimp only at hSw); go_simp; try with_reducible rfl)
  simp only [Act.put, List.setIfInBounds_toArray, List.set_cons_zero, List.set_cons_succ]
  refine wpAnyH_take (i := 4) (oi := ({ dst := some 13, op := Op.load 25 (Operand.tmp 4), type := 25, pos := "blend.go:42", after := #[], guard := none } : Oper)) (v := ?_) rfl (by kernel_rfl) (by kernel_rfl) (by kernel_rfl) (fun _ _ _ h => h) (Or.inl ⟨by rfl, ?_⟩) (by assumption) ?_
  rotate_left
  · (intro w hSw; (try dsimp only at hSw); go_simp; try with_reducible rfl)
  simp only [Act.put, List.setIfInBounds_toArray, List.set_cons_zero, List.set_cons_succ]
  refine wpAnyH_ready (rs := [5]) (by kernel_rfl) (by simp) ?_
  refine AllReadyH.cons (o := ({ dst := some 14, op := Op.call { callee := Callee.value (Operand.func 32), args := #[Operand.tmp 13], argTypes := #[25] }, type := 39, pos := "blend.go:42", after := #[{ on := 4, ground := Ground.data }], guard := none } : Oper)) rfl (fun K_ hK => ?_) AllReadyH.nil
  go_simp
  refine (whole_any (PW' : Int) (PH' : Int) ap np cp _).mono ?_
  unfold rectV
  rintro e w1 ⟨rfl, hb1⟩
  have HG1 : Hid (Gad w (.slice ap np cp) (.slice aq nq cq) PW' PH' QW QH ps qs w1) := HGD.out.on hb1
  clear hb1 HGD
  refine hK.out _ _ ?_ (fun hHeld => ?_)
  · exact KEEP.out _ HG1.out
  clear hK K_
  try simp only [Act.put, List.setIfInBounds_toArray, List.set_cons_zero, List.set_cons_succ]
  refine wpAnyH_ready (rs := [6]) (by kernel_rfl) (by simp) ?_
  refine AllReadyH.cons (o := ({ dst := some 15, op := Op.call { callee := Callee.value (Operand.func 31), args := #[Operand.tmp 9, Operand.tmp 10, Operand.tmp 11, Operand.tmp 12, Operand.tmp 14, Operand.func 33], argTypes := #[25, 25, 3, 3, 39, 74] }, type := 25, pos := "blend.go:42", after := #[{ on := 0, ground := Ground.data }, { on := 1, ground := Ground.data }, { on := 2, ground := Ground.data }, { on := 3, ground := Ground.data }, { on := 5, ground := Ground.data }, { on := 5, ground := Ground.chain }], guard := none } : Oper)) rfl (fun K_ hK => ?_) AllReadyH.nil
  go_simp
  refine (changeA_any PW' PH' QW QH (.slice ap np cp) (.slice aq nq cq) ps qs x y 0 0 (PW' : Int) (PH' : Int) w1 HP HQ HG1.out.rp HG1.out.rq hx hx2 hy hy2 (by omega) (by omega) (by omega) (by omega) (by omega) (by omega) (by omega) (by omega)).mono ?_
  unfold picV
  rintro e w2 ⟨v2, rfl, ho2, hb2⟩
  have HG2 : Hid (Gad w (.slice ap np cp) (.slice aq nq cq) PW' PH' QW QH ps qs w2) := HG1.out.on hb2
  have hsz : w.heap.size + 3 ≤ w1.heap.size + 4 := by have := HG1.out.tr.lt; omega
  have HO2 := hide_own (own_mono ho2 hsz)
  obtain ⟨n2, HN2⟩ : ∃ n, Hid ((chL addP PW' ps QW QH qs x y 0 0 (PW' : Int) (PH' : Int)).length = n) := ⟨_, (rfl : _ = _)⟩
  rw [HN2.out] at HO2
  obtain ⟨a2, c2, hv2⟩ := own_any HO2.out
  subst hv2
  clear ho2 hsz
  obtain ⟨q0, q1, q2, f0, f1, f2, _⟩ := HG2.out.tr
  clear hb2 HG1
  refine hK.out _ _ ?_ (fun hHeld => ?_)
  · exact KEEP.out _ HG2.out
  clear hK K_
  try simp only [Act.put, List.setIfInBounds_toArray, List.set_cons_zero, List.set_cons_succ]
  have hb3 : Below (w.heap.size + 1 + 1) w2 (((w2.setCell ⟨w.heap.size + 1 + 1, 0, none⟩ (.int .i64 (PW' : Int))).setCell ⟨w.heap.size + 1 + 1, 1, none⟩ (.int .i64 (PH' : Int))).setCell ⟨w.heap.size + 1 + 1, 2, none⟩ (.slice a2 n2 c2)) := by
    have h0 : Below (w.heap.size + 1 + 1) w2 w2 := Below.refl _ _
    exact ((h0.setCell (show w.heap.size + 1 + 1 ≤ w.heap.size + 1 + 1 by omega) _).setCell (show w.heap.size + 1 + 1 ≤ w.heap.size + 1 + 1 by omega) _).setCell (show w.heap.size + 1 + 1 ≤ w.heap.size + 1 + 1 by omega) _
  have hbf : Below w.heap.size w (((w2.setCell ⟨w.heap.size + 1 + 1, 0, none⟩ (.int .i64 (PW' : Int))).setCell ⟨w.heap.size + 1 + 1, 1, none⟩ (.int .i64 (PH' : Int))).setCell ⟨w.heap.size + 1 + 1, 2, none⟩ (.slice a2 n2 c2)) := HG2.out.bel.trans (hb3.mono (by omega))
  have HR3 : Hid ((((w2.setCell ⟨w.heap.size + 1 + 1, 0, none⟩ (.int .i64 (PW' : Int))).setCell ⟨w.heap.size + 1 + 1, 1, none⟩ (.int .i64 (PH' : Int))).setCell ⟨w.heap.size + 1 + 1, 2, none⟩ (.slice a2 n2 c2)).ownsRow (w.heap.size + 3) 33 2 (.slice a2 n2 c2) n2 (pixCells (chL addP PW' ps QW QH qs x y 0 0 (PW' : Int) (PH' : Int)))) := ownsRow_setCell_below (ownsRow_setCell_below (ownsRow_setCell_below HO2.out (a := ⟨w.heap.size + 1 + 1, 0, none⟩) (show w.heap.size + 1 + 1 < w.heap.size + 3 by omega) _) (a := ⟨w.heap.size + 1 + 1, 1, none⟩) (show w.heap.size + 1 + 1 < w.heap.size + 3 by omega) _) (a := ⟨w.heap.size + 1 + 1, 2, none⟩) (show w.heap.size + 1 + 1 < w.heap.size + 3 by omega) _
  have HK3 : Hid ((((w2.setCell ⟨w.heap.size + 1 + 1, 0, none⟩ (.int .i64 (PW' : Int))).setCell ⟨w.heap.size + 1 + 1, 1, none⟩ (.int .i64 (PH' : Int))).setCell ⟨w.heap.size + 1 + 1, 2, none⟩ (.slice a2 n2 c2)).cell? ⟨w.heap.size, 0, none⟩ = some (.int .i64 (PW' : Int)) ∧ (((w2.setCell ⟨w.heap.size + 1 + 1, 0, none⟩ (.int .i64 (PW' : Int))).setCell ⟨w.heap.size + 1 + 1, 1, none⟩ (.int .i64 (PH' : Int))).setCell ⟨w.heap.size + 1 + 1, 2, none⟩ (.slice a2 n2 c2)).cell? ⟨w.heap.size, 1, none⟩ = some (.int .i64 (PH' : Int)) ∧ (((w2.setCell ⟨w.heap.size + 1 + 1, 0, none⟩ (.int .i64 (PW' : Int))).setCell ⟨w.heap.size + 1 + 1, 1, none⟩ (.int .i64 (PH' : Int))).setCell ⟨w.heap.size + 1 + 1, 2, none⟩ (.slice a2 n2 c2)).cell? ⟨w.heap.size, 2, none⟩ = some (.slice ap np cp) ∧ (((w2.setCell ⟨w.heap.size + 1 + 1, 0, none⟩ (.int .i64 (PW' : Int))).setCell ⟨w.heap.size + 1 + 1, 1, none⟩ (.int .i64 (PH' : Int))).setCell ⟨w.heap.size + 1 + 1, 2, none⟩ (.slice a2 n2 c2)).cell? ⟨w.heap.size + 1, 0, none⟩ = some (.int .i64 (QW : Int)) ∧ (((w2.setCell ⟨w.heap.size + 1 + 1, 0, none⟩ (.int .i64 (PW' : Int))).setCell ⟨w.heap.size + 1 + 1, 1, none⟩ (.int .i64 (PH' : Int))).setCell ⟨w.heap.size + 1 + 1, 2, none⟩ (.slice a2 n2 c2)).cell? ⟨w.heap.size + 1, 1, none⟩ = some (.int .i64 (QH : Int)) ∧ (((w2.setCell ⟨w.heap.size + 1 + 1, 0, none⟩ (.int .i64 (PW' : Int))).setCell ⟨w.heap.size + 1 + 1, 1, none⟩ (.int .i64 (PH' : Int))).setCell ⟨w.heap.size + 1 + 1, 2, none⟩ (.slice a2 n2 c2)).cell? ⟨w.heap.size + 1, 2, none⟩ = some (.slice aq nq cq)) := by
    have h1 := HG2.out.tp.onB hb3 (by omega)
    have h2 := HG2.out.tq.onB hb3 (by omega)
    exact ⟨h1.c0, h1.c1, h1.c2, h2.c0, h2.c1, h2.c2⟩
  refine wpAnyH_ready (rs := [7]) (by kernel_rfl) (by simp) ?_
  refine AllReadyH.cons rfl (fun K_ hK => ?_) AllReadyH.nil
  go_simp
  refine hK.out _ _ ?_ (fun hHeld => ?_)
  · exact HK3.out
  clear hK K_
  try simp only [Act.put, List.setIfInBounds_toArray, List.set_cons_zero, List.set_cons_succ]
  refine wpAnyH_done (by kernel_rfl) ?_ _
  go_wp2_with fail
  exact bodyPost_ret (v := .agg #[.int .i64 (PW' : Int), .int .i64 (PH' : Int), .slice a2 n2 c2]) (by simp [results, Tryd.results15, go_sem, q0, q1, q2]) rfl ⟨_, rfl, by rw [HN2.out]; exact HR3.out, hbf⟩

set_option maxHeartbeats 2000000 in
set_option maxRecDepth 100000 in
theorem put_any (PW PH QW QH : Nat) (vp vq : Value) (ps qs : List (Int × Int)) (x y : Int) (w : World) (HP : Hid (checkL PW PH ps = 0)) (HQ : Hid (checkL QW QH qs = 0)) (RP : Hid (RdP w vp ps)) (RQ : Hid (RdP w vq qs))
    (hx : -20 ≤ x) (hx2 : x ≤ 20) (hy : -20 ≤ y) (hy2 : y ≤ 20) :
    Calls Tryd.prog 16 #[picV PW PH vp, picV QW QH vq, .int .i64 x, .int .i64 y] w
      fun e w' => ∃ v', e = .returned (picV PW PH v') ∧ w'.ownsRow (w.heap.size + 3) 33 2 v' (chL (fun _ q => q) PW ps QW QH qs x y 0 0 PW PH).length (pixCells (chL (fun _ q => q) PW ps QW QH qs x y 0 0 PW PH)) ∧ Below w.heap.size w w' := by
  obtain ⟨PW', PH', e1, e2, p1, p2, p3, p4, pl, _⟩ := check_zero _ _ _ HP.out
  obtain rfl : PW' = PW := by omega
  obtain rfl : PH' = PH := by omega
  clear e1 e2
  obtain ⟨ap, cp, hvp, hlp, hcp, _⟩ := RP.out
  obtain ⟨aq, cq, hvq, hlq, hcq, _⟩ := RQ.out
  obtain ⟨np, HNP⟩ : ∃ n, Hid (ps.length = n) := ⟨_, (rfl : _ = _)⟩
  obtain ⟨nq, HNQ⟩ : ∃ n, Hid (qs.length = n) := ⟨_, (rfl : _ = _)⟩
  rw [HNP.out] at hvp hlp
  rw [HNQ.out] at hvq hlq
  clear pl
  subst hvp hvq
  unfold picV
  have T0 := ((three_start w (.int .i64 (PW' : Int)) (.int .i64 (PH' : Int)) (.slice ap np cp) 25).alloc (.cells #[.int .i64 (QW : Int), .int .i64 (QH : Int), .slice aq nq cq] 25)).alloc (.cells #[.int .i64 0, .int .i64 0, .slice none 0 0] 25)
  have T1 := (three_begin (w.alloc (.cells #[.int .i64 (PW' : Int), .int .i64 (PH' : Int), .slice ap np cp] 25)) (.int .i64 (QW : Int)) (.int .i64 (QH : Int)) (.slice aq nq cq) 25 (w.heap.size + 1) (by simp)).alloc (.cells #[.int .i64 0, .int .i64 0, .slice none 0 0] 25)
  have T2 := three_begin ((w.alloc (.cells #[.int .i64 (PW' : Int), .int .i64 (PH' : Int), .slice ap np cp] 25)).alloc (.cells #[.int .i64 (QW : Int), .int .i64 (QH : Int), .slice aq nq cq] 25)) (.int .i64 0) (.int .i64 0) (.slice none 0 0) 25 (w.heap.size + 1 + 1) (by simp)
  obtain ⟨W0, HW0⟩ : ∃ W0, Hid (((w.alloc (.cells #[.int .i64 (PW' : Int), .int .i64 (PH' : Int), .slice ap np cp] 25)).alloc (.cells #[.int .i64 (QW : Int), .int .i64 (QH : Int), .slice aq nq cq] 25)).alloc (.cells #[.int .i64 0, .int .i64 0, .slice none 0 0] 25) = W0) := ⟨_, (rfl : _ = _)⟩
  have hb0 : Below w.heap.size w W0 := by rw [← HW0.out]; exact (((Below.refl _ _).alloc (Nat.le_refl _) _).alloc (by simp) _).alloc (by simp; omega) _
  rw [HW0.out] at T0 T1 T2
  have HG0 : Hid (Gad w (.slice ap np cp) (.slice aq nq cq) PW' PH' QW QH ps qs W0) := ⟨T0, T1, T2, RP.out.on hb0, RQ.out.on hb0, hb0⟩
  have HGD : Hid (Gad w (.slice ap np cp) (.slice aq nq cq) PW' PH' QW QH ps qs W0.drew) := HG0.out.drew
  clear T0 T1 T2 hb0 HG0
  have KEEP : Hid (∀ W2, Gad w (.slice ap np cp) (.slice aq nq cq) PW' PH' QW QH ps qs W2 → (W2.cell? ⟨w.heap.size, 0, none⟩ = some (.int .i64 (PW' : Int)) ∧ W2.cell? ⟨w.heap.size, 1, none⟩ = some (.int .i64 (PH' : Int)) ∧ W2.cell? ⟨w.heap.size, 2, none⟩ = some (.slice ap np cp) ∧ W2.cell? ⟨w.heap.size + 1, 0, none⟩ = some (.int .i64 (QW : Int)) ∧ W2.cell? ⟨w.heap.size + 1, 1, none⟩ = some (.int .i64 (QH : Int)) ∧ W2.cell? ⟨w.heap.size + 1, 2, none⟩ = some (.slice aq nq cq))) := fun W2 h => ⟨h.tp.c0, h.tp.c1, h.tp.c2, h.tq.c0, h.tq.c1, h.tq.c2⟩
  go_enter Tryd.func16, Tryd.ntmps16
  go_wp2_with fail
  rw [HW0.out]
  refine wp_region_held_drew (S := (fun w' => w'.cell? ⟨w.heap.size, 0, none⟩ = some (.int .i64 (PW' : Int)) ∧ w'.cell? ⟨w.heap.size, 1, none⟩ = some (.int .i64 (PH' : Int)) ∧ w'.cell? ⟨w.heap.size, 2, none⟩ = some (.slice ap np cp) ∧ w'.cell? ⟨w.heap.size + 1, 0, none⟩ = some (.int .i64 (QW : Int)) ∧ w'.cell? ⟨w.heap.size + 1, 1, none⟩ = some (.int .i64 (QH : Int)) ∧ w'.cell? ⟨w.heap.size + 1, 2, none⟩ = some (.slice aq nq cq))) (by kernel_rfl) ?_ (fun hHeld => ?_)
  · exact KEEP.out _ HGD.out
  refine wpAnyH_take (i := 0) (oi := ({ dst := some 9, op := Op.load 25 (Operand.tmp 4), type := 25, pos := "blend.go:49", after := #[], guard := none } : Oper)) (v := ?_) rfl (by kernel_rfl) (by kernel_rfl) (by kernel_rfl) (fun _ _ _ h => h) (Or.inl ⟨by rfl, ?_⟩) (by assumption) ?_
  rotate_left
  · (intro w hSw; (try dsimp only at hSw); go_simp; try with_reducible rfl)
  simp only [Act.put, List.setIfInBounds_toArray, List.set_cons_zero, List.set_cons_succ]
  refine wpAnyH_take (i := 1) (oi := ({ dst := some 10, op := Op.load 25 (Operand.tmp 5), type := 25, pos := "blend.go:49", after := #[], guard := none } : Oper)) (v := ?_) rfl (by kernel_rfl) (by kernel_rfl) (by kernel_rfl) (fun _ _ _ h => h) (Or.inl ⟨by rfl, ?_⟩) (by assumption) ?_
  rotate_left
  · (intro w hSw; (try dsimp only at hSw); go_simp; try with_reducible rfl)
  simp only [Act.put, List.setIfInBounds_toArray, List.set_cons_zero, List.set_cons_succ]
  refine wpAnyH_take (i := 2) (oi := ({ dst := some 11, op := Op.move (Operand.tmp 2), type := 3, pos := "blend.go:49", after := #[], guard := none } : Oper)) (v := ?_) rfl (by kernel_rfl) (by kernel_rfl) (by kernel_rfl) (fun _ _ _ h => h) (Or.inl ⟨by rfl, ?_⟩) (by assumption) ?_
  rotate_left
  · (intro w hSw; (try dsimp only at hSw); go_simp; try with_reducible rfl)
  simp only [Act.put, List.setIfInBounds_toArray, List.set_cons_zero, List.set_cons_succ]
  refine wpAnyH_take (i := 3) (oi := ({ dst := some 12, op := Op.move (Operand.tmp 3), type := 3, pos := "blend.go:49", after := #[], guard := none } : Oper)) (v := ?_) rfl (by kernel_rfl) (by kernel_rfl) (by kernel_rfl) (fun _ _ _ h => h) (Or.inl ⟨by rfl, ?_⟩) (by assumption) ?_
  rotate_left
  · (intro w hSw; (try dsimp only at hSw); go_simp; try with_reducible rfl)
  simp only [Act.put, List.setIfInBounds_toArray, List.set_cons_zero, List.set_cons_succ]
  refine wpAnyH_take (i := 4) (oi := ({ dst := some 13, op := Op.load 25 (Operand.tmp 4), type := 25, pos := "blend.go:49", after := #[], guard := none } : Oper)) (v := ?_) rfl (by kernel_rfl) (by kernel_rfl) (by kernel_rfl) (fun _ _ _ h => h) (Or.inl ⟨by rfl, ?_⟩) (by assumption) ?_
  rotate_left
  · (intro w hSw; (try dsimp only at hSw); go_simp; try with_reducible rfl)
  simp only [Act.put, List.setIfInBounds_toArray, List.set_cons_zero, List.set_cons_succ]
  refine wpAnyH_ready (rs := [5]) (by kernel_rfl) (by simp) ?_
  refine AllReadyH.cons (o := ({ dst := some 14, op := Op.call { callee := Callee.value (Operand.func 32), args := #[Operand.tmp 13], argTypes := #[25] }, type := 39, pos := "blend.go:49", after := #[{ on := 4, ground := Ground.data }], guard := none } : Oper)) rfl (fun K_ hK => ?_) AllReadyH.nil
  go_simp
  refine (whole_any (PW' : Int) (PH' : Int) ap np cp _).mono ?_
  unfold rectV
  rintro e w1 ⟨rfl, hb1⟩
  have HG1 : Hid (Gad w (.slice ap np cp) (.slice aq nq cq) PW' PH' QW QH ps qs w1) := HGD.out.on hb1
  clear hb1 HGD
  refine hK.out _ _ ?_ (fun hHeld => ?_)
  · exact KEEP.out _ HG1.out
  clear hK K_
  try simp only [Act.put, List.setIfInBounds_toArray, List.set_cons_zero, List.set_cons_succ]
  refine wpAnyH_ready (rs := [6]) (by kernel_rfl) (by simp) ?_
  refine AllReadyH.cons (o := ({ dst := some 15, op := Op.call { callee := Callee.value (Operand.func 31), args := #[Operand.tmp 9, Operand.tmp 10, Operand.tmp 11, Operand.tmp 12, Operand.tmp 14, Operand.func 34], argTypes := #[25, 25, 3, 3, 39, 74] }, type := 25, pos := "blend.go:49", after := #[{ on := 0, ground := Ground.data }, { on := 1, ground := Ground.data }, { on := 2, ground := Ground.data }, { on := 3, ground := Ground.data }, { on := 5, ground := Ground.data }, { on := 5, ground := Ground.chain }], guard := none } : Oper)) rfl (fun K_ hK => ?_) AllReadyH.nil
  go_simp
  refine (changeP_any PW' PH' QW QH (.slice ap np cp) (.slice aq nq cq) ps qs x y 0 0 (PW' : Int) (PH' : Int) w1 HP HQ HG1.out.rp HG1.out.rq hx hx2 hy hy2 (by omega) (by omega) (by omega) (by omega) (by omega) (by omega) (by omega) (by omega)).mono ?_
  unfold picV
  rintro e w2 ⟨v2, rfl, ho2, hb2⟩
  have HG2 : Hid (Gad w (.slice ap np cp) (.slice aq nq cq) PW' PH' QW QH ps qs w2) := HG1.out.on hb2
  have hsz : w.heap.size + 3 ≤ w1.heap.size + 4 := by have := HG1.out.tr.lt; omega
  have HO2 := hide_own (own_mono ho2 hsz)
  obtain ⟨n2, HN2⟩ : ∃ n, Hid ((chL (fun _ q => q) PW' ps QW QH qs x y 0 0 (PW' : Int) (PH' : Int)).length = n) := ⟨_, (rfl : _ = _)⟩
  rw [HN2.out] at HO2
  obtain ⟨a2, c2, hv2⟩ := own_any HO2.out
  subst hv2
  clear ho2 hsz
  obtain ⟨q0, q1, q2, f0, f1, f2, _⟩ := HG2.out.tr
  clear hb2 HG1
  refine hK.out _ _ ?_ (fun hHeld => ?_)
  · exact KEEP.out _ HG2.out
  clear hK K_
  try simp only [Act.put, List.setIfInBounds_toArray, List.set_cons_zero, List.set_cons_succ]
  have hb3 : Below (w.heap.size + 1 + 1) w2 (((w2.setCell ⟨w.heap.size + 1 + 1, 0, none⟩ (.int .i64 (PW' : Int))).setCell ⟨w.heap.size + 1 + 1, 1, none⟩ (.int .i64 (PH' : Int))).setCell ⟨w.heap.size + 1 + 1, 2, none⟩ (.slice a2 n2 c2)) := by
    have h0 : Below (w.heap.size + 1 + 1) w2 w2 := Below.refl _ _
    exact ((h0.setCell (show w.heap.size + 1 + 1 ≤ w.heap.size + 1 + 1 by omega) _).setCell (show w.heap.size + 1 + 1 ≤ w.heap.size + 1 + 1 by omega) _).setCell (show w.heap.size + 1 + 1 ≤ w.heap.size + 1 + 1 by omega) _
  have hbf : Below w.heap.size w (((w2.setCell ⟨w.heap.size + 1 + 1, 0, none⟩ (.int .i64 (PW' : Int))).setCell ⟨w.heap.size + 1 + 1, 1, none⟩ (.int .i64 (PH' : Int))).setCell ⟨w.heap.size + 1 + 1, 2, none⟩ (.slice a2 n2 c2)) := HG2.out.bel.trans (hb3.mono (by omega))
  have HR3 : Hid ((((w2.setCell ⟨w.heap.size + 1 + 1, 0, none⟩ (.int .i64 (PW' : Int))).setCell ⟨w.heap.size + 1 + 1, 1, none⟩ (.int .i64 (PH' : Int))).setCell ⟨w.heap.size + 1 + 1, 2, none⟩ (.slice a2 n2 c2)).ownsRow (w.heap.size + 3) 33 2 (.slice a2 n2 c2) n2 (pixCells (chL (fun _ q => q) PW' ps QW QH qs x y 0 0 (PW' : Int) (PH' : Int)))) := ownsRow_setCell_below (ownsRow_setCell_below (ownsRow_setCell_below HO2.out (a := ⟨w.heap.size + 1 + 1, 0, none⟩) (show w.heap.size + 1 + 1 < w.heap.size + 3 by omega) _) (a := ⟨w.heap.size + 1 + 1, 1, none⟩) (show w.heap.size + 1 + 1 < w.heap.size + 3 by omega) _) (a := ⟨w.heap.size + 1 + 1, 2, none⟩) (show w.heap.size + 1 + 1 < w.heap.size + 3 by omega) _
  have HK3 : Hid ((((w2.setCell ⟨w.heap.size + 1 + 1, 0, none⟩ (.int .i64 (PW' : Int))).setCell ⟨w.heap.size + 1 + 1, 1, none⟩ (.int .i64 (PH' : Int))).setCell ⟨w.heap.size + 1 + 1, 2, none⟩ (.slice a2 n2 c2)).cell? ⟨w.heap.size, 0, none⟩ = some (.int .i64 (PW' : Int)) ∧ (((w2.setCell ⟨w.heap.size + 1 + 1, 0, none⟩ (.int .i64 (PW' : Int))).setCell ⟨w.heap.size + 1 + 1, 1, none⟩ (.int .i64 (PH' : Int))).setCell ⟨w.heap.size + 1 + 1, 2, none⟩ (.slice a2 n2 c2)).cell? ⟨w.heap.size, 1, none⟩ = some (.int .i64 (PH' : Int)) ∧ (((w2.setCell ⟨w.heap.size + 1 + 1, 0, none⟩ (.int .i64 (PW' : Int))).setCell ⟨w.heap.size + 1 + 1, 1, none⟩ (.int .i64 (PH' : Int))).setCell ⟨w.heap.size + 1 + 1, 2, none⟩ (.slice a2 n2 c2)).cell? ⟨w.heap.size, 2, none⟩ = some (.slice ap np cp) ∧ (((w2.setCell ⟨w.heap.size + 1 + 1, 0, none⟩ (.int .i64 (PW' : Int))).setCell ⟨w.heap.size + 1 + 1, 1, none⟩ (.int .i64 (PH' : Int))).setCell ⟨w.heap.size + 1 + 1, 2, none⟩ (.slice a2 n2 c2)).cell? ⟨w.heap.size + 1, 0, none⟩ = some (.int .i64 (QW : Int)) ∧ (((w2.setCell ⟨w.heap.size + 1 + 1, 0, none⟩ (.int .i64 (PW' : Int))).setCell ⟨w.heap.size + 1 + 1, 1, none⟩ (.int .i64 (PH' : Int))).setCell ⟨w.heap.size + 1 + 1, 2, none⟩ (.slice a2 n2 c2)).cell? ⟨w.heap.size + 1, 1, none⟩ = some (.int .i64 (QH : Int)) ∧ (((w2.setCell ⟨w.heap.size + 1 + 1, 0, none⟩ (.int .i64 (PW' : Int))).setCell ⟨w.heap.size + 1 + 1, 1, none⟩ (.int .i64 (PH' : Int))).setCell ⟨w.heap.size + 1 + 1, 2, none⟩ (.slice a2 n2 c2)).cell? ⟨w.heap.size + 1, 2, none⟩ = some (.slice aq nq cq)) := by
    have h1 := HG2.out.tp.onB hb3 (by omega)
    have h2 := HG2.out.tq.onB hb3 (by omega)
    exact ⟨h1.c0, h1.c1, h1.c2, h2.c0, h2.c1, h2.c2⟩
  refine wpAnyH_ready (rs := [7]) (by kernel_rfl) (by simp) ?_
  refine AllReadyH.cons rfl (fun K_ hK => ?_) AllReadyH.nil
  go_simp
  refine hK.out _ _ ?_ (fun hHeld => ?_)
  · exact HK3.out
  clear hK K_
  try simp only [Act.put, List.setIfInBounds_toArray, List.set_cons_zero, List.set_cons_succ]
  refine wpAnyH_done (by kernel_rfl) ?_ _
  go_wp2_with fail
  exact bodyPost_ret (v := .agg #[.int .i64 (PW' : Int), .int .i64 (PH' : Int), .slice a2 n2 c2]) (by simp [results, Tryd.results16, go_sem, q0, q1, q2]) rfl ⟨_, rfl, by rw [HN2.out]; exact HR3.out, hbf⟩
end Go.Proofs.YtkmolifgfbaboaaDoor
