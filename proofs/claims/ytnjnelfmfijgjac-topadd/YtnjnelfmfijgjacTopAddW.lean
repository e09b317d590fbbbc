/- Walk of the law TopAdd. -/
import Derived.Test.YtnjnelfmfijgjacAddM
import Derived.Test.YtnjnelfmfijgjacAddW
namespace Go.Proofs.Ytnjnelfmfijgjac
open Go.RowKit

/-- the three pictures lie where they were laid -/
structure Gta (w : World) (pw ph : Int) (vp : Value) (qw qh : Int) (vq : Value) (rw' rh : Int) (vr : Value) (w' : World) : Prop where
  tp : Three w' w.heap.size (.int .i64 pw) (.int .i64 ph) vp
  tq : Three w' (w.heap.size + 1) (.int .i64 qw) (.int .i64 qh) vq
  tr : Three w' (w.heap.size + 1 + 1) (.int .i64 rw') (.int .i64 rh) vr
  bel : Below w.heap.size w w'
theorem Gta.on {w : World} {pw ph : Int} {vp : Value} {qw qh : Int} {vq : Value} {rw' rh : Int} {vr : Value} {w1 w2 : World} (h : Gta w pw ph vp qw qh vq rw' rh vr w1) (hb : Below w1.heap.size w1 w2) : Gta w pw ph vp qw qh vq rw' rh vr w2 :=
  ⟨h.tp.on hb, h.tq.on hb, h.tr.on hb, h.bel.trans (hb.mono h.bel.size)⟩
theorem Gta.onB {w : World} {pw ph : Int} {vp : Value} {qw qh : Int} {vq : Value} {rw' rh : Int} {vr : Value} {w1 w2 : World} (h : Gta w pw ph vp qw qh vq rw' rh vr w1) (hb : Below w1.heap.size w1 w2) : Gta w pw ph vp qw qh vq rw' rh vr w2 := h.on hb
theorem Gta.drew {w : World} {pw ph : Int} {vp : Value} {qw qh : Int} {vq : Value} {rw' rh : Int} {vr : Value} {w1 : World} (h : Gta w pw ph vp qw qh vq rw' rh vr w1) : Gta w pw ph vp qw qh vq rw' rh vr w1.drew :=
  ⟨h.tp.drew, h.tq.drew, h.tr.drew, h.bel.drew⟩

theorem one_rd (w : World) (v a : Int) (b : Nat) (hb : b = w.heap.size) : RdP (w.alloc (.cells #[.int .i64 v, .int .i64 a] 31)) (.slice (some ⟨b, 0, none⟩) 1 1) [(v, a)] := by
  subst hb
  refine ⟨_, _, rfl, by simp, by omega, fun _ => ⟨_, _, rfl, by simp, fun j hj => ?_⟩⟩
  simp at hj
  subst hj
  simp

set_option maxHeartbeats 40000000 in
set_option maxRecDepth 100000 in
theorem topAdd_any (pw ph : Int) (vp : Value) (ps : List (Int × Int)) (qw qh : Int) (vq : Value) (qs : List (Int × Int)) (rw' rh : Int) (vr : Value) (rs : List (Int × Int)) (x y i j : Int) (w : World) (RP : Hid (RdP w vp ps)) (RQ : Hid (RdP w vq qs)) (RR : Hid (RdP w vr rs))
    (x0 : -9223372036854775808 ≤ x) (x1 : x ≤ 9223372036854775807) (y0 : -9223372036854775808 ≤ y) (y1 : y ≤ 9223372036854775807) (i0 : -9223372036854775808 ≤ i) (i1 : i ≤ 9223372036854775807) (j0 : -9223372036854775808 ≤ j) (j1 : j ≤ 9223372036854775807) :
    Calls Try.prog 6 #[picV pw ph vp, picV qw qh vq, picV rw' rh vr, .int .i64 x, .int .i64 y, .int .i64 i, .int .i64 j] w fun e w' => e = .returned (.bool true) ∧ Below w.heap.size w w' := by
  obtain ⟨ap, cp, hvp, hlp, hcp, _⟩ := RP.out
  obtain ⟨aq, cq, hvq, hlq, hcq, _⟩ := RQ.out
  obtain ⟨ar, cr, hvr, hlr, hcr, _⟩ := RR.out
  obtain ⟨np, HNP⟩ : ∃ n, Hid (ps.length = n) := ⟨_, (rfl : _ = _)⟩
  obtain ⟨nq, HNQ⟩ : ∃ n, Hid (qs.length = n) := ⟨_, (rfl : _ = _)⟩
  obtain ⟨nr, HNR⟩ : ∃ n, Hid (rs.length = n) := ⟨_, (rfl : _ = _)⟩
  rw [HNP.out] at hvp hlp
  rw [HNQ.out] at hvq hlq
  rw [HNR.out] at hvr hlr
  subst hvp hvq hvr
  unfold picV
  go_enter Try.func6, Try.ntmps6
  go_wp2_with fail
  obtain ⟨W0, HW0⟩ : ∃ W, Hid (((w.alloc (.cells #[.int .i64 pw, .int .i64 ph, .slice ap np cp] 37)).alloc (.cells #[.int .i64 qw, .int .i64 qh, .slice aq nq cq] 37)).alloc (.cells #[.int .i64 rw', .int .i64 rh, .slice ar nr cr] 37) = W) := ⟨_, (rfl : _ = _)⟩
  have hs0 : W0.heap.size = w.heap.size + 1 + 1 + 1 := by rw [← HW0.out]; simp
  have hb0 : Below w.heap.size w W0 := by rw [← HW0.out]; exact (((Below.refl _ _).alloc (Nat.le_refl _) _).alloc (by simp) _).alloc (by simp; omega) _
  have HG0 : Hid (Gta w pw ph (.slice ap np cp) qw qh (.slice aq nq cq) rw' rh (.slice ar nr cr) W0) := by
    rw [← HW0.out]
    exact ⟨((three_start w (.int .i64 pw) (.int .i64 ph) (.slice ap np cp) 37).alloc _).alloc _, (three_begin _ (.int .i64 qw) (.int .i64 qh) (.slice aq nq cq) 37 (w.heap.size + 1) (by simp)).alloc _, three_begin _ (.int .i64 rw') (.int .i64 rh) (.slice ar nr cr) 37 (w.heap.size + 1 + 1) (by simp), by rw [HW0.out]; exact hb0⟩
  rw [HW0.out]
  have R1 := one_rd W0 200 100 (w.heap.size + 1 + 1 + 1) hs0.symm
  have hb1 : Below W0.heap.size W0 ((W0.alloc (.cells #[.int .i64 200, .int .i64 100] 31)).alloc (.cells #[.int .i64 1, .int .i64 1, .slice (some ⟨w.heap.size + 1 + 1 + 1, 0, none⟩) 1 1] 37)) := ((Below.refl _ _).alloc (Nat.le_refl _) _).alloc (by simp) _
  have R2 := R1.on ((Below.refl (W0.alloc (.cells #[.int .i64 200, .int .i64 100] 31)).heap.size _).alloc (Nat.le_refl _) (.cells #[.int .i64 1, .int .i64 1, .slice (some ⟨w.heap.size + 1 + 1 + 1, 0, none⟩) 1 1] 37))
  have HG1 := HG0.out.on hb1
  have HC1 : Hid (checkL ((1 : Nat) : Int) ((1 : Nat) : Int) [((200 : Int), (100 : Int))] = 0) := (by decide : checkL ((1 : Nat) : Int) ((1 : Nat) : Int) [((200 : Int), (100 : Int))] = 0)
  refine (add_any 1 1 1 1 _ _ [(200, 100)] [(200, 100)] 0 0 _ HC1 HC1 R2 R2 (by omega) (by omega) (by omega) (by omega)).mono ?_
  have hz : chL addP 1 [((200 : Int), (100 : Int))] 1 1 [((200 : Int), (100 : Int))] 0 0 0 0 ((1 : Nat) : Int) ((1 : Nat) : Int) = [(144, 200)] := by decide
  rw [hz]
  unfold picV
  rintro e w1 ⟨v1, rfl, ho1, hb1'⟩
  have HG2 : Hid (Gta w pw ph (.slice ap np cp) qw qh (.slice aq nq cq) rw' rh (.slice ar nr cr) w1) := HG1.on hb1'
  have HO1 := rdP_own ho1
  obtain ⟨a1, c1, hv1⟩ := own_any ho1
  simp only [List.length_cons, List.length_nil, Nat.zero_add] at hv1
  subst hv1
  obtain ⟨g1, o1, rfl, hg1, hcells⟩ := rd_some HO1 (by simp)
  clear R1 R2 hb1 HG1 HG0 hb0 hb1' ho1 hz HC1
  have hc := hcells (w1.alloc (.cells #[.int .i64 1, .int .i64 1, .slice (some ⟨g1, o1, none⟩) 1 c1] 37)) ((Below.refl _ _).alloc (Nat.le_refl _) _) 0 (by simp)
  simp only [List.getD_cons_zero, Nat.zero_mul, Nat.add_zero] at hc
  obtain ⟨hc0, hc1⟩ := hc
  clear hcells
  have HG3 : Hid (Gta w pw ph (.slice ap np cp) qw qh (.slice aq nq cq) rw' rh (.slice ar nr cr) (w1.alloc (.cells #[.int .i64 1, .int .i64 1, .slice (some ⟨g1, o1, none⟩) 1 c1] 37))) := HG2.out.on ((Below.refl _ _).alloc (Nat.le_refl _) _)
  obtain ⟨⟨p0, p1, p2, _, _, _, _⟩, ⟨q0, q1, q2, _, _, _, _⟩, ⟨t0, t1, t2, _, _, _, _⟩, _⟩ := HG3.out
  go_wp2_with fail
  obtain ⟨W2, HW2⟩ : ∃ W, Hid (((w1.alloc (.cells #[.int .i64 1, .int .i64 1, .slice (some ⟨g1, o1, none⟩) 1 c1] 37)).alloc (.cells #[.int .i64 pw, .int .i64 ph, .slice ap np cp, .int .i64 qw, .int .i64 qh, .slice aq nq cq, .int .i64 rw', .int .i64 rh, .slice ar nr cr] 37)) = W) := ⟨_, (rfl : _ = _)⟩
  have HG4 : Hid (Gta w pw ph (.slice ap np cp) qw qh (.slice aq nq cq) rw' rh (.slice ar nr cr) W2) := by rw [← HW2.out]; exact HG3.out.on ((Below.refl _ _).alloc (Nat.le_refl _) _)
  obtain ⟨B, HB⟩ : ∃ B, Hid (w1.heap.size + 1 = B) := ⟨_, (rfl : _ = _)⟩
  have hBlt : B < W2.heap.size := by rw [← HW2.out, ← HB.out]; simp
  have HA : Hid (W2.cell? ⟨B, 0, none⟩ = some (.int .i64 pw) ∧ W2.cell? ⟨B, 1, none⟩ = some (.int .i64 ph) ∧ W2.cell? ⟨B, 2, none⟩ = some (.slice ap np cp) ∧ W2.cell? ⟨B, 3, none⟩ = some (.int .i64 qw) ∧ W2.cell? ⟨B, 4, none⟩ = some (.int .i64 qh) ∧ W2.cell? ⟨B, 5, none⟩ = some (.slice aq nq cq) ∧ W2.cell? ⟨B, 6, none⟩ = some (.int .i64 rw') ∧ W2.cell? ⟨B, 7, none⟩ = some (.int .i64 rh) ∧ W2.cell? ⟨B, 8, none⟩ = some (.slice ar nr cr)) := by
    rw [← HW2.out, ← HB.out]
    have e : (w1.alloc (.cells #[.int .i64 1, .int .i64 1, .slice (some ⟨g1, o1, none⟩) 1 c1] 37)).heap.size = w1.heap.size + 1 := by simp
    refine ⟨?_, ?_, ?_, ?_, ?_, ?_, ?_, ?_, ?_⟩ <;> (rw [← e]; simp)
  rw [HW2.out, HB.out]
  clear HG3 hc0 hc1 p0 p1 p2 q0 q1 q2 t0 t1 t2
  go_loopw [50] (fun iv wr => ∃ k : Nat, k ≤ 3 ∧ iv = .int .i64 (k : Int) ∧ Hid (Below W2.heap.size W2 wr) ∧ Hid (1 ≤ k → np ≤ 80 ∧ checkL pw ph ps = 0) ∧ Hid (2 ≤ k → nq ≤ 80 ∧ checkL qw qh qs = 0) ∧ Hid (3 ≤ k → nr ≤ 80 ∧ checkL rw' rh rs = 0)) (fun iv _ => 3 - (intOf iv).toNat)
  case atStart => exact ⟨0, by omega, rfl, Below.refl _ _, (fun h => by omega), (fun h => by omega), (fun h => by omega)⟩
  case round =>
    obtain ⟨k, hk, rfl, HBL, K1, K2, K3⟩ := hrel
    by_cases hk3 : k = 3
    · subst hk3
      have HG5 : Hid (Gta w pw ph (.slice ap np cp) qw qh (.slice aq nq cq) rw' rh (.slice ar nr cr) wr) := HG4.out.onB HBL.out
      obtain ⟨lp, HCP⟩ := K1.out (by omega)
      obtain ⟨lq, HCQ⟩ := K2.out (by omega)
      obtain ⟨lr, HCR⟩ := K3.out (by omega)
      clear K1 K2 K3 HA HBL HG4 HW2 hBlt HB
      by_cases hrange : -20 ≤ x ∧ x ≤ 20 ∧ -20 ≤ y ∧ y ≤ 20 ∧ -20 ≤ i ∧ i ≤ 20 ∧ -20 ≤ j ∧ j ≤ 20
      · obtain ⟨hx0, hx1, hy0, hy1, hi0, hi1, hj0, hj1⟩ := hrange
        obtain ⟨PW, PH, rfl, rfl, pp1, pp2, pp3, pp4, pl, pok⟩ := check_zero _ _ _ HCP
        obtain ⟨QW, QH, rfl, rfl, qq1, qq2, qq3, qq4, ql, qok⟩ := check_zero _ _ _ HCQ
        obtain ⟨RW, RH, rfl, rfl, rr1, rr2, rr3, rr4, rl, rok⟩ := check_zero _ _ _ HCR
        have HPOK := hid_of pok
        have HPL := hid_of pl
        have HPC := hid_of HCP
        have HQOK := hid_of qok
        have HQL := hid_of ql
        have HQC := hid_of HCQ
        have HROK := hid_of rok
        have HRL := hid_of rl
        have HRC := hid_of HCR
        clear pok qok rok pl ql rl HCP HCQ HCR
        have HRP : Hid (RdP wr (.slice ap np cp) ps) := RP.out.on HG5.out.bel
        have HRQ : Hid (RdP wr (.slice aq nq cq) qs) := RQ.out.on HG5.out.bel
        have HRR : Hid (RdP wr (.slice ar nr cr) rs) := RR.out.on HG5.out.bel
        obtain ⟨⟨p0, p1, p2, _, _, _, _⟩, ⟨q0, q1, q2, _, _, _, _⟩, ⟨t0, t1, t2, _, _, _, _⟩, _⟩ := HG5.out
        go_wp2_with fail
        have KEEP : Hid (∀ W2', Below wr.heap.size wr W2' → (W2'.cell? ⟨w.heap.size, 0, none⟩ = some (.int .i64 (PW : Int)) ∧ W2'.cell? ⟨w.heap.size, 1, none⟩ = some (.int .i64 (PH : Int)) ∧ W2'.cell? ⟨w.heap.size, 2, none⟩ = some (.slice ap np cp) ∧ W2'.cell? ⟨w.heap.size + 1, 0, none⟩ = some (.int .i64 (QW : Int)) ∧ W2'.cell? ⟨w.heap.size + 1, 1, none⟩ = some (.int .i64 (QH : Int)) ∧ W2'.cell? ⟨w.heap.size + 1, 2, none⟩ = some (.slice aq nq cq) ∧ W2'.cell? ⟨w.heap.size + 1 + 1, 0, none⟩ = some (.int .i64 (RW : Int)) ∧ W2'.cell? ⟨w.heap.size + 1 + 1, 1, none⟩ = some (.int .i64 (RH : Int)) ∧ W2'.cell? ⟨w.heap.size + 1 + 1, 2, none⟩ = some (.slice ar nr cr))) := fun W2' h => by
          obtain ⟨hp, hq, hr, _⟩ := HG5.out.on h
          exact ⟨hp.c0, hp.c1, hp.c2, hq.c0, hq.c1, hq.c2, hr.c0, hr.c1, hr.c2⟩
        have HC1 : Hid (checkL (PW : Int) (PH : Int) (chL addP PW ps QW QH qs x y 0 0 (PW : Int) (PH : Int)) = 0) := ch_check addP add_ok _ _ _ _ _ _ _ _ _ _ _ _ HPC.out HQC.out
        clear p0 p1 p2 q0 q1 q2 t0 t1 t2
        go_cut [19] from 102 (fun sv wc => ∃ ba va, sv = .pointer (some ⟨ba, 0, none⟩) ∧ Three wc ba (.int .i64 (PW : Int)) (.int .i64 (PH : Int)) va ∧ RdP wc va (chL addP PW (chL addP PW ps QW QH qs x y 0 0 (PW : Int) (PH : Int)) RW RH rs i j 0 0 (PW : Int) (PH : Int)) ∧ Below wr.heap.size wr wc)
        case first =>
          have HB0 : Hid (Below wr.heap.size wr wr.drew) := Below.drew (Below.refl _ _)
          refine wp_region_held_drew (S := (fun w' => w'.cell? ⟨w.heap.size, 0, none⟩ = some (.int .i64 (PW : Int)) ∧ w'.cell? ⟨w.heap.size, 1, none⟩ = some (.int .i64 (PH : Int)) ∧ w'.cell? ⟨w.heap.size, 2, none⟩ = some (.slice ap np cp) ∧ w'.cell? ⟨w.heap.size + 1, 0, none⟩ = some (.int .i64 (QW : Int)) ∧ w'.cell? ⟨w.heap.size + 1, 1, none⟩ = some (.int .i64 (QH : Int)) ∧ w'.cell? ⟨w.heap.size + 1, 2, none⟩ = some (.slice aq nq cq) ∧ w'.cell? ⟨w.heap.size + 1 + 1, 0, none⟩ = some (.int .i64 (RW : Int)) ∧ w'.cell? ⟨w.heap.size + 1 + 1, 1, none⟩ = some (.int .i64 (RH : Int)) ∧ w'.cell? ⟨w.heap.size + 1 + 1, 2, none⟩ = some (.slice ar nr cr))) (by kernel_rfl) ?_ (fun hHeld => ?_)
          · exact KEEP.out _ HB0.out
          refine wpAnyH_take (i := 0) (oi := ({ dst := some 93, op := Op.load 37 (Operand.tmp 7), type := 37, pos := "parts.go:195", after := #[], guard := none } : Oper)) (v := ?_) rfl (by kernel_rfl) (by kernel_rfl) (by kernel_rfl) (fun _ _ _ h => h) (Or.inl ⟨by rfl, ?_⟩) (by assumption) ?_
          rotate_left
          · (intro w hSw; (try dsimp only at hSw); go_simp; try with_reducible rfl)
          simp only [Act.put, List.setIfInBounds_toArray, List.set_cons_zero, List.set_cons_succ]
          refine wpAnyH_take (i := 1) (oi := ({ dst := some 94, op := Op.load 37 (Operand.tmp 8), type := 37, pos := "parts.go:195", after := #[], guard := none } : Oper)) (v := ?_) rfl (by kernel_rfl) (by kernel_rfl) (by kernel_rfl) (fun _ _ _ h => h) (Or.inl ⟨by rfl, ?_⟩) (by assumption) ?_
          rotate_left
          · (intro w hSw; (try dsimp only at hSw); go_simp; try with_reducible rfl)
          simp only [Act.put, List.setIfInBounds_toArray, List.set_cons_zero, List.set_cons_succ]
          refine wpAnyH_take (i := 2) (oi := ({ dst := some 95, op := Op.move (Operand.tmp 3), type := 3, pos := "parts.go:195", after := #[], guard := none } : Oper)) (v := ?_) rfl (by kernel_rfl) (by kernel_rfl) (by kernel_rfl) (fun _ _ _ h => h) (Or.inl ⟨by rfl, ?_⟩) (by assumption) ?_
          rotate_left
          · (intro w hSw; (try dsimp only at hSw); go_simp; try with_reducible rfl)
          simp only [Act.put, List.setIfInBounds_toArray, List.set_cons_zero, List.set_cons_succ]
          refine wpAnyH_take (i := 3) (oi := ({ dst := some 96, op := Op.move (Operand.tmp 4), type := 3, pos := "parts.go:195", after := #[], guard := none } : Oper)) (v := ?_) rfl (by kernel_rfl) (by kernel_rfl) (by kernel_rfl) (fun _ _ _ h => h) (Or.inl ⟨by rfl, ?_⟩) (by assumption) ?_
          rotate_left
          · (intro w hSw; (try dsimp only at hSw); go_simp; try with_reducible rfl)
          simp only [Act.put, List.setIfInBounds_toArray, List.set_cons_zero, List.set_cons_succ]
          refine wpAnyH_take (i := 5) (oi := ({ dst := some 98, op := Op.load 37 (Operand.tmp 9), type := 37, pos := "parts.go:195", after := #[], guard := none } : Oper)) (v := ?_) rfl (by kernel_rfl) (by kernel_rfl) (by kernel_rfl) (fun _ _ _ h => h) (Or.inl ⟨by rfl, ?_⟩) (by assumption) ?_
          rotate_left
          · (intro w hSw; (try dsimp only at hSw); go_simp; try with_reducible rfl)
          simp only [Act.put, List.setIfInBounds_toArray, List.set_cons_zero, List.set_cons_succ]
          refine wpAnyH_take (i := 6) (oi := ({ dst := some 99, op := Op.move (Operand.tmp 5), type := 3, pos := "parts.go:195", after := #[], guard := none } : Oper)) (v := ?_) rfl (by kernel_rfl) (by kernel_rfl) (by kernel_rfl) (fun _ _ _ h => h) (Or.inl ⟨by rfl, ?_⟩) (by assumption) ?_
          rotate_left
          · (intro w hSw; (try dsimp only at hSw); go_simp; try with_reducible rfl)
          simp only [Act.put, List.setIfInBounds_toArray, List.set_cons_zero, List.set_cons_succ]
          refine wpAnyH_take (i := 7) (oi := ({ dst := some 100, op := Op.move (Operand.tmp 6), type := 3, pos := "parts.go:195", after := #[], guard := none } : Oper)) (v := ?_) rfl (by kernel_rfl) (by kernel_rfl) (by kernel_rfl) (fun _ _ _ h => h) (Or.inl ⟨by rfl, ?_⟩) (by assumption) ?_
          rotate_left
          · (intro w hSw; (try dsimp only at hSw); go_simp; try with_reducible rfl)
          simp only [Act.put, List.setIfInBounds_toArray, List.set_cons_zero, List.set_cons_succ]
          refine wpAnyH_ready (rs := [4, 9]) (by kernel_rfl) (by simp) ?_
          refine AllReadyH.cons (o := ({ dst := some 97, op := Op.call { callee := Callee.value (Operand.func 18), args := #[Operand.tmp 93, Operand.tmp 94, Operand.tmp 95, Operand.tmp 96], argTypes := #[37, 37, 3, 3] }, type := 37, pos := "parts.go:195", after := #[{ on := 0, ground := Ground.data }, { on := 1, ground := Ground.data }, { on := 2, ground := Ground.data }, { on := 3, ground := Ground.data }], guard := none } : Oper)) rfl (fun K_ hK => ?_) (AllReadyH.cons (o := ({ dst := some 19, op := Op.alloc 37, type := 0, pos := "parts.go:195", after := #[], guard := none } : Oper)) rfl (fun K_ hK => ?_) AllReadyH.nil)
          · go_simp
            refine (add_any PW PH QW QH (.slice ap np cp) (.slice aq nq cq) ps qs x y _ HPC HQC (HRP.out.on HB0.out) (HRQ.out.on HB0.out) hx0 hx1 hy0 hy1).mono ?_
            unfold picV
            rintro e wx1 ⟨v1, rfl, ho1, hbx1⟩
            have HB1 : Hid (Below wr.heap.size wr wx1) := HB0.out.trans (hbx1.mono HB0.out.size)
            have HO1 := hide_own ho1
            obtain ⟨n1, HN1⟩ : ∃ n, Hid ((chL addP PW ps QW QH qs x y 0 0 (PW : Int) (PH : Int)).length = n) := ⟨_, (rfl : _ = _)⟩
            rw [HN1.out] at HO1
            obtain ⟨a1, c1, hv1⟩ := own_any HO1.out
            subst hv1
            have HR1 : Hid (RdP wx1 (.slice a1 n1 c1) (chL addP PW ps QW QH qs x y 0 0 (PW : Int) (PH : Int))) := rdP_own ho1
            clear hbx1 ho1
            refine hK.out _ _ ?_ (fun hHeld => ?_)
            · exact KEEP.out _ HB1.out
            clear hK K_
            try simp only [Act.put, List.setIfInBounds_toArray, List.set_cons_zero, List.set_cons_succ]
            refine wpAnyH_ready (rs := [8, 9]) (by kernel_rfl) (by simp) ?_
            refine AllReadyH.cons (o := ({ dst := some 101, op := Op.call { callee := Callee.value (Operand.func 18), args := #[Operand.tmp 97, Operand.tmp 98, Operand.tmp 99, Operand.tmp 100], argTypes := #[37, 37, 3, 3] }, type := 37, pos := "parts.go:195", after := #[{ on := 4, ground := Ground.data }, { on := 5, ground := Ground.data }, { on := 6, ground := Ground.data }, { on := 7, ground := Ground.data }, { on := 4, ground := Ground.chain }], guard := none } : Oper)) rfl (fun K_ hK => ?_) (AllReadyH.cons (o := ({ dst := some 19, op := Op.alloc 37, type := 0, pos := "parts.go:195", after := #[], guard := none } : Oper)) rfl (fun K_ hK => ?_) AllReadyH.nil)
            · go_simp
              refine (add_any PW PH RW RH (.slice a1 n1 c1) (.slice ar nr cr) (chL addP PW ps QW QH qs x y 0 0 (PW : Int) (PH : Int)) rs i j _ HC1 HRC HR1.out (HRR.out.on HB1.out) hi0 hi1 hj0 hj1).mono ?_
              unfold picV
              rintro e wx2 ⟨v2, rfl, ho2, hbx2⟩
              have HB2 : Hid (Below wr.heap.size wr wx2) := HB1.out.trans (hbx2.mono HB1.out.size)
              have HO2 := hide_own ho2
              obtain ⟨n2, HN2⟩ : ∃ n, Hid ((chL addP PW (chL addP PW ps QW QH qs x y 0 0 (PW : Int) (PH : Int)) RW RH rs i j 0 0 (PW : Int) (PH : Int)).length = n) := ⟨_, (rfl : _ = _)⟩
              rw [HN2.out] at HO2
              obtain ⟨a2, c2, hv2⟩ := own_any HO2.out
              subst hv2
              have HR2 : Hid (RdP wx2 (.slice a2 n2 c2) (chL addP PW (chL addP PW ps QW QH qs x y 0 0 (PW : Int) (PH : Int)) RW RH rs i j 0 0 (PW : Int) (PH : Int))) := rdP_own ho2
              clear hbx2 ho2
              refine hK.out _ _ ?_ (fun hHeld => ?_)
              · exact KEEP.out _ HB2.out
              clear hK K_
              try simp only [Act.put, List.setIfInBounds_toArray, List.set_cons_zero, List.set_cons_succ]
              refine wpAnyH_ready (rs := [9]) (by kernel_rfl) (by simp) ?_
              refine AllReadyH.cons (o := ({ dst := some 19, op := Op.alloc 37, type := 0, pos := "parts.go:195", after := #[], guard := none } : Oper)) rfl (fun K_ hK => ?_) AllReadyH.nil
              go_simp
              have HBA : Hid (Below wr.heap.size wr (wx2.alloc (.cells #[.int .i64 0, .int .i64 0, .slice none 0 0] 37))) := HB2.out.alloc HB2.out.size _
              refine hK.out _ _ ?_ (fun hHeld => ?_)
              · exact KEEP.out _ HBA.out
              clear hK K_
              try simp only [Act.put, List.setIfInBounds_toArray, List.set_cons_zero, List.set_cons_succ]
              refine wpAnyH_ready (rs := [10]) (by kernel_rfl) (by simp) ?_
              refine AllReadyH.cons (o := ({ dst := none, op := Op.store 37 (Operand.tmp 19) (Operand.tmp 101), type := 0, pos := "parts.go:195", after := #[{ on := 9, ground := Ground.data }, { on := 8, ground := Ground.data }, { on := 8, ground := Ground.chain }, { on := 0, ground := Ground.phase }, { on := 1, ground := Ground.phase }, { on := 2, ground := Ground.phase }, { on := 3, ground := Ground.phase }, { on := 4, ground := Ground.phase }, { on := 5, ground := Ground.phase }, { on := 6, ground := Ground.phase }, { on := 7, ground := Ground.phase }, { on := 8, ground := Ground.phase }, { on := 9, ground := Ground.phase }], guard := none } : Oper)) rfl (fun K_ hK => ?_) AllReadyH.nil
              go_simp
              refine hK.out _ _ ?_ (fun hHeld => ?_)
              · exact KEEP.out _ (HB2.out.alloc HB2.out.size (.cells #[.int .i64 (PW : Int), .int .i64 (PH : Int), .slice a2 n2 c2] 37))
              clear hK K_
              try simp only [Act.put, List.setIfInBounds_toArray, List.set_cons_zero, List.set_cons_succ]
              refine wpAnyH_done (by kernel_rfl) ?_ _
              go_wp2_with fail
              go_meet
              exact ⟨_, _, rfl, three_start _ _ _ _ _, HR2.out.on ((Below.refl _ _).alloc (Nat.le_refl _) _), (HB2.out.alloc HB2.out.size (.cells #[.int .i64 (PW : Int), .int .i64 (PH : Int), .slice a2 n2 c2] 37))⟩
            · go_simp
              have HBA : Hid (Below wr.heap.size wr (wx1.alloc (.cells #[.int .i64 0, .int .i64 0, .slice none 0 0] 37))) := HB1.out.alloc HB1.out.size _
              have FA : Hid (Three (wx1.alloc (.cells #[.int .i64 0, .int .i64 0, .slice none 0 0] 37)) wx1.heap.size (.int .i64 0) (.int .i64 0) (.slice none 0 0)) := three_start _ _ _ _ _
              have HRA : Hid (RdP (wx1.alloc (.cells #[.int .i64 0, .int .i64 0, .slice none 0 0] 37)) (.slice a1 n1 c1) (chL addP PW ps QW QH qs x y 0 0 (PW : Int) (PH : Int))) := RdP.on HR1.out ((Below.refl _ _).alloc (Nat.le_refl _) _)
              refine hK.out _ _ ?_ (fun hHeld => ?_)
              · exact KEEP.out _ HBA.out
              clear hK K_
              try simp only [Act.put, List.setIfInBounds_toArray, List.set_cons_zero, List.set_cons_succ]
              refine wpAnyH_ready (rs := [8]) (by kernel_rfl) (by simp) ?_
              refine AllReadyH.cons (o := ({ dst := some 101, op := Op.call { callee := Callee.value (Operand.func 18), args := #[Operand.tmp 97, Operand.tmp 98, Operand.tmp 99, Operand.tmp 100], argTypes := #[37, 37, 3, 3] }, type := 37, pos := "parts.go:195", after := #[{ on := 4, ground := Ground.data }, { on := 5, ground := Ground.data }, { on := 6, ground := Ground.data }, { on := 7, ground := Ground.data }, { on := 4, ground := Ground.chain }], guard := none } : Oper)) rfl (fun K_ hK => ?_) AllReadyH.nil
              go_simp
              have hlt1 : wx1.heap.size < (wx1.alloc (.cells #[.int .i64 0, .int .i64 0, .slice none 0 0] 37)).heap.size := FA.out.lt
              refine (add_any PW PH RW RH (.slice a1 n1 c1) (.slice ar nr cr) (chL addP PW ps QW QH qs x y 0 0 (PW : Int) (PH : Int)) rs i j _ HC1 HRC HRA.out (HRR.out.on HBA.out) hi0 hi1 hj0 hj1).mono ?_
              unfold picV
              rintro e wx2 ⟨v2, rfl, ho2, hbx2⟩
              have HB2 : Hid (Below wr.heap.size wr wx2) := HBA.out.trans (hbx2.mono HBA.out.size)
              have HO2 := hide_own ho2
              obtain ⟨n2, HN2⟩ : ∃ n, Hid ((chL addP PW (chL addP PW ps QW QH qs x y 0 0 (PW : Int) (PH : Int)) RW RH rs i j 0 0 (PW : Int) (PH : Int)).length = n) := ⟨_, (rfl : _ = _)⟩
              rw [HN2.out] at HO2
              obtain ⟨a2, c2, hv2⟩ := own_any HO2.out
              subst hv2
              have HR2 : Hid (RdP wx2 (.slice a2 n2 c2) (chL addP PW (chL addP PW ps QW QH qs x y 0 0 (PW : Int) (PH : Int)) RW RH rs i j 0 0 (PW : Int) (PH : Int))) := rdP_own ho2
              have F2 : Hid (Three wx2 wx1.heap.size (.int .i64 0) (.int .i64 0) (.slice none 0 0)) := Three.on FA.out hbx2
              clear hbx2 ho2
              refine hK.out _ _ ?_ (fun hHeld => ?_)
              · exact KEEP.out _ HB2.out
              clear hK K_
              try simp only [Act.put, List.setIfInBounds_toArray, List.set_cons_zero, List.set_cons_succ]
              refine wpAnyH_ready (rs := [10]) (by kernel_rfl) (by simp) ?_
              refine AllReadyH.cons (o := ({ dst := none, op := Op.store 37 (Operand.tmp 19) (Operand.tmp 101), type := 0, pos := "parts.go:195", after := #[{ on := 9, ground := Ground.data }, { on := 8, ground := Ground.data }, { on := 8, ground := Ground.chain }, { on := 0, ground := Ground.phase }, { on := 1, ground := Ground.phase }, { on := 2, ground := Ground.phase }, { on := 3, ground := Ground.phase }, { on := 4, ground := Ground.phase }, { on := 5, ground := Ground.phase }, { on := 6, ground := Ground.phase }, { on := 7, ground := Ground.phase }, { on := 8, ground := Ground.phase }, { on := 9, ground := Ground.phase }], guard := none } : Oper)) rfl (fun K_ hK => ?_) AllReadyH.nil
              obtain ⟨_, _, _, _, _, _, _⟩ := F2.out
              go_simp
              refine hK.out _ _ ?_ (fun hHeld => ?_)
              · exact KEEP.out _ (((HB2.out.setCell (HB1.out.size) _).setCell (HB1.out.size) _).setCell (HB1.out.size) _)
              clear hK K_
              try simp only [Act.put, List.setIfInBounds_toArray, List.set_cons_zero, List.set_cons_succ]
              refine wpAnyH_done (by kernel_rfl) ?_ _
              go_wp2_with fail
              go_meet
              exact ⟨_, _, rfl, Three.set_all F2.out _ _ _, rdP_own (by rw [HN2.out]; exact (ownsRow_setCell_below (ownsRow_setCell_below (ownsRow_setCell_below HO2.out (a := ⟨wx1.heap.size, 0, none⟩) (show wx1.heap.size < _ by omega) _) (a := ⟨wx1.heap.size, 1, none⟩) (show wx1.heap.size < _ by omega) _) (a := ⟨wx1.heap.size, 2, none⟩) (show wx1.heap.size < _ by omega) _)), (((HB2.out.setCell (HB1.out.size) _).setCell (HB1.out.size) _).setCell (HB1.out.size) _)⟩
          · go_simp
            have HBA : Hid (Below wr.heap.size wr (wr.drew.alloc (.cells #[.int .i64 0, .int .i64 0, .slice none 0 0] 37))) := HB0.out.alloc HB0.out.size _
            have FA : Hid (Three (wr.drew.alloc (.cells #[.int .i64 0, .int .i64 0, .slice none 0 0] 37)) wr.heap.size (.int .i64 0) (.int .i64 0) (.slice none 0 0)) := three_start _ _ _ _ _
            refine hK.out _ _ ?_ (fun hHeld => ?_)
            · exact KEEP.out _ HBA.out
            clear hK K_
            try simp only [Act.put, List.setIfInBounds_toArray, List.set_cons_zero, List.set_cons_succ]
            refine wpAnyH_ready (rs := [4]) (by kernel_rfl) (by simp) ?_
            refine AllReadyH.cons (o := ({ dst := some 97, op := Op.call { callee := Callee.value (Operand.func 18), args := #[Operand.tmp 93, Operand.tmp 94, Operand.tmp 95, Operand.tmp 96], argTypes := #[37, 37, 3, 3] }, type := 37, pos := "parts.go:195", after := #[{ on := 0, ground := Ground.data }, { on := 1, ground := Ground.data }, { on := 2, ground := Ground.data }, { on := 3, ground := Ground.data }], guard := none } : Oper)) rfl (fun K_ hK => ?_) AllReadyH.nil
            go_simp
            have hlt0 : wr.heap.size < (wr.drew.alloc (.cells #[.int .i64 0, .int .i64 0, .slice none 0 0] 37)).heap.size := FA.out.lt
            refine (add_any PW PH QW QH (.slice ap np cp) (.slice aq nq cq) ps qs x y _ HPC HQC (HRP.out.on HBA.out) (HRQ.out.on HBA.out) hx0 hx1 hy0 hy1).mono ?_
            unfold picV
            rintro e wx1 ⟨v1, rfl, ho1, hbx1⟩
            have HB1 : Hid (Below wr.heap.size wr wx1) := HBA.out.trans (hbx1.mono HBA.out.size)
            have HO1 := hide_own ho1
            obtain ⟨n1, HN1⟩ : ∃ n, Hid ((chL addP PW ps QW QH qs x y 0 0 (PW : Int) (PH : Int)).length = n) := ⟨_, (rfl : _ = _)⟩
            rw [HN1.out] at HO1
            obtain ⟨a1, c1, hv1⟩ := own_any HO1.out
            subst hv1
            have HR1 : Hid (RdP wx1 (.slice a1 n1 c1) (chL addP PW ps QW QH qs x y 0 0 (PW : Int) (PH : Int))) := rdP_own ho1
            have F1 : Hid (Three wx1 wr.heap.size (.int .i64 0) (.int .i64 0) (.slice none 0 0)) := Three.on FA.out hbx1
            clear hbx1 ho1
            refine hK.out _ _ ?_ (fun hHeld => ?_)
            · exact KEEP.out _ HB1.out
            clear hK K_
            try simp only [Act.put, List.setIfInBounds_toArray, List.set_cons_zero, List.set_cons_succ]
            refine wpAnyH_ready (rs := [8]) (by kernel_rfl) (by simp) ?_
            refine AllReadyH.cons (o := ({ dst := some 101, op := Op.call { callee := Callee.value (Operand.func 18), args := #[Operand.tmp 97, Operand.tmp 98, Operand.tmp 99, Operand.tmp 100], argTypes := #[37, 37, 3, 3] }, type := 37, pos := "parts.go:195", after := #[{ on := 4, ground := Ground.data }, { on := 5, ground := Ground.data }, { on := 6, ground := Ground.data }, { on := 7, ground := Ground.data }, { on := 4, ground := Ground.chain }], guard := none } : Oper)) rfl (fun K_ hK => ?_) AllReadyH.nil
            go_simp
            have hlt1 : wr.heap.size < wx1.heap.size := F1.out.lt
            refine (add_any PW PH RW RH (.slice a1 n1 c1) (.slice ar nr cr) (chL addP PW ps QW QH qs x y 0 0 (PW : Int) (PH : Int)) rs i j _ HC1 HRC HR1.out (HRR.out.on HB1.out) hi0 hi1 hj0 hj1).mono ?_
            unfold picV
            rintro e wx2 ⟨v2, rfl, ho2, hbx2⟩
            have HB2 : Hid (Below wr.heap.size wr wx2) := HB1.out.trans (hbx2.mono HB1.out.size)
            have HO2 := hide_own ho2
            obtain ⟨n2, HN2⟩ : ∃ n, Hid ((chL addP PW (chL addP PW ps QW QH qs x y 0 0 (PW : Int) (PH : Int)) RW RH rs i j 0 0 (PW : Int) (PH : Int)).length = n) := ⟨_, (rfl : _ = _)⟩
            rw [HN2.out] at HO2
            obtain ⟨a2, c2, hv2⟩ := own_any HO2.out
            subst hv2
            have HR2 : Hid (RdP wx2 (.slice a2 n2 c2) (chL addP PW (chL addP PW ps QW QH qs x y 0 0 (PW : Int) (PH : Int)) RW RH rs i j 0 0 (PW : Int) (PH : Int))) := rdP_own ho2
            have F2 : Hid (Three wx2 wr.heap.size (.int .i64 0) (.int .i64 0) (.slice none 0 0)) := Three.on F1.out hbx2
            clear hbx2 ho2
            refine hK.out _ _ ?_ (fun hHeld => ?_)
            · exact KEEP.out _ HB2.out
            clear hK K_
            try simp only [Act.put, List.setIfInBounds_toArray, List.set_cons_zero, List.set_cons_succ]
            refine wpAnyH_ready (rs := [10]) (by kernel_rfl) (by simp) ?_
            refine AllReadyH.cons (o := ({ dst := none, op := Op.store 37 (Operand.tmp 19) (Operand.tmp 101), type := 0, pos := "parts.go:195", after := #[{ on := 9, ground := Ground.data }, { on := 8, ground := Ground.data }, { on := 8, ground := Ground.chain }, { on := 0, ground := Ground.phase }, { on := 1, ground := Ground.phase }, { on := 2, ground := Ground.phase }, { on := 3, ground := Ground.phase }, { on := 4, ground := Ground.phase }, { on := 5, ground := Ground.phase }, { on := 6, ground := Ground.phase }, { on := 7, ground := Ground.phase }, { on := 8, ground := Ground.phase }, { on := 9, ground := Ground.phase }], guard := none } : Oper)) rfl (fun K_ hK => ?_) AllReadyH.nil
            obtain ⟨_, _, _, _, _, _, _⟩ := F2.out
            go_simp
            refine hK.out _ _ ?_ (fun hHeld => ?_)
            · exact KEEP.out _ (((HB2.out.setCell (Nat.le_refl _) _).setCell (Nat.le_refl _) _).setCell (Nat.le_refl _) _)
            clear hK K_
            try simp only [Act.put, List.setIfInBounds_toArray, List.set_cons_zero, List.set_cons_succ]
            refine wpAnyH_done (by kernel_rfl) ?_ _
            go_wp2_with fail
            go_meet
            exact ⟨_, _, rfl, Three.set_all F2.out _ _ _, rdP_own (by rw [HN2.out]; exact (ownsRow_setCell_below (ownsRow_setCell_below (ownsRow_setCell_below HO2.out (a := ⟨wr.heap.size, 0, none⟩) (show wr.heap.size < _ by omega) _) (a := ⟨wr.heap.size, 1, none⟩) (show wr.heap.size < _ by omega) _) (a := ⟨wr.heap.size, 2, none⟩) (show wr.heap.size < _ by omega) _)), (((HB2.out.setCell (Nat.le_refl _) _).setCell (Nat.le_refl _) _).setCell (Nat.le_refl _) _)⟩
        case rest =>
          revert hcut
          revert wc
          intro wa hcut
          obtain ⟨ba, va, rfl, TA, RA, hba⟩ := hcut
          have HG6 : Hid (Gta w (PW : Int) (PH : Int) (.slice ap np cp) (QW : Int) (QH : Int) (.slice aq nq cq) (RW : Int) (RH : Int) (.slice ar nr cr) wa) := HG5.out.on hba
          have HTA := hid_of TA
          have HRA_ := hid_of RA
          have HRP6 : Hid (RdP wa (.slice ap np cp) ps) := HRP.out.on hba
          have HRQ6 : Hid (RdP wa (.slice aq nq cq) qs) := HRQ.out.on hba
          have HRR6 : Hid (RdP wa (.slice ar nr cr) rs) := HRR.out.on hba
          clear TA RA hba HG5 KEEP HC1 HRP HRQ HRR
          obtain ⟨⟨p0, p1, p2, _, _, _, _⟩, ⟨q0, q1, q2, _, _, _, _⟩, ⟨t0, t1, t2, _, _, _, _⟩, _⟩ := HG6.out
          go_wp2_with fail
          have KEEP : Hid (∀ W2', Below wa.heap.size wa W2' → (W2'.cell? ⟨w.heap.size, 0, none⟩ = some (.int .i64 (PW : Int)) ∧ W2'.cell? ⟨w.heap.size, 1, none⟩ = some (.int .i64 (PH : Int)) ∧ W2'.cell? ⟨w.heap.size, 2, none⟩ = some (.slice ap np cp) ∧ W2'.cell? ⟨w.heap.size + 1, 0, none⟩ = some (.int .i64 (QW : Int)) ∧ W2'.cell? ⟨w.heap.size + 1, 1, none⟩ = some (.int .i64 (QH : Int)) ∧ W2'.cell? ⟨w.heap.size + 1, 2, none⟩ = some (.slice aq nq cq) ∧ W2'.cell? ⟨w.heap.size + 1 + 1, 0, none⟩ = some (.int .i64 (RW : Int)) ∧ W2'.cell? ⟨w.heap.size + 1 + 1, 1, none⟩ = some (.int .i64 (RH : Int)) ∧ W2'.cell? ⟨w.heap.size + 1 + 1, 2, none⟩ = some (.slice ar nr cr))) := fun W2' h => by
            obtain ⟨hp, hq, hr, _⟩ := HG6.out.on h
            exact ⟨hp.c0, hp.c1, hp.c2, hq.c0, hq.c1, hq.c2, hr.c0, hr.c1, hr.c2⟩
          have HC1b : Hid (checkL (PW : Int) (PH : Int) (chL addP PW ps RW RH rs i j 0 0 (PW : Int) (PH : Int)) = 0) := ch_check addP add_ok _ _ _ _ _ _ _ _ _ _ _ _ HPC.out HRC.out
          clear p0 p1 p2 q0 q1 q2 t0 t1 t2
          go_cut [20] from 111 (fun sv wc => ∃ ba va, sv = .pointer (some ⟨ba, 0, none⟩) ∧ Three wc ba (.int .i64 (PW : Int)) (.int .i64 (PH : Int)) va ∧ RdP wc va (chL addP PW (chL addP PW ps RW RH rs i j 0 0 (PW : Int) (PH : Int)) QW QH qs x y 0 0 (PW : Int) (PH : Int)) ∧ Below wa.heap.size wa wc)
          case first =>
            have HB0 : Hid (Below wa.heap.size wa wa.drew) := Below.drew (Below.refl _ _)
            refine wp_region_held_drew (S := (fun w' => w'.cell? ⟨w.heap.size, 0, none⟩ = some (.int .i64 (PW : Int)) ∧ w'.cell? ⟨w.heap.size, 1, none⟩ = some (.int .i64 (PH : Int)) ∧ w'.cell? ⟨w.heap.size, 2, none⟩ = some (.slice ap np cp) ∧ w'.cell? ⟨w.heap.size + 1, 0, none⟩ = some (.int .i64 (QW : Int)) ∧ w'.cell? ⟨w.heap.size + 1, 1, none⟩ = some (.int .i64 (QH : Int)) ∧ w'.cell? ⟨w.heap.size + 1, 2, none⟩ = some (.slice aq nq cq) ∧ w'.cell? ⟨w.heap.size + 1 + 1, 0, none⟩ = some (.int .i64 (RW : Int)) ∧ w'.cell? ⟨w.heap.size + 1 + 1, 1, none⟩ = some (.int .i64 (RH : Int)) ∧ w'.cell? ⟨w.heap.size + 1 + 1, 2, none⟩ = some (.slice ar nr cr))) (by kernel_rfl) ?_ (fun hHeld => ?_)
            · exact KEEP.out _ HB0.out
            refine wpAnyH_take (i := 0) (oi := ({ dst := some 102, op := Op.load 37 (Operand.tmp 7), type := 37, pos := "parts.go:196", after := #[], guard := none } : Oper)) (v := ?_) rfl (by kernel_rfl) (by kernel_rfl) (by kernel_rfl) (fun _ _ _ h => h) (Or.inl ⟨by rfl, ?_⟩) (by assumption) ?_
            rotate_left
            · (intro w hSw; (try dsimp only at hSw); go_simp; try with_reducible rfl)
            simp only [Act.put, List.setIfInBounds_toArray, List.set_cons_zero, List.set_cons_succ]
            refine wpAnyH_take (i := 1) (oi := ({ dst := some 103, op := Op.load 37 (Operand.tmp 9), type := 37, pos := "parts.go:196", after := #[], guard := none } : Oper)) (v := ?_) rfl (by kernel_rfl) (by kernel_rfl) (by kernel_rfl) (fun _ _ _ h => h) (Or.inl ⟨by rfl, ?_⟩) (by assumption) ?_
            rotate_left
            · (intro w hSw; (try dsimp only at hSw); go_simp; try with_reducible rfl)
            simp only [Act.put, List.setIfInBounds_toArray, List.set_cons_zero, List.set_cons_succ]
            refine wpAnyH_take (i := 2) (oi := ({ dst := some 104, op := Op.move (Operand.tmp 5), type := 3, pos := "parts.go:196", after := #[], guard := none } : Oper)) (v := ?_) rfl (by kernel_rfl) (by kernel_rfl) (by kernel_rfl) (fun _ _ _ h => h) (Or.inl ⟨by rfl, ?_⟩) (by assumption) ?_
            rotate_left
            · (intro w hSw; (try dsimp only at hSw); go_simp; try with_reducible rfl)
            simp only [Act.put, List.setIfInBounds_toArray, List.set_cons_zero, List.set_cons_succ]
            refine wpAnyH_take (i := 3) (oi := ({ dst := some 105, op := Op.move (Operand.tmp 6), type := 3, pos := "parts.go:196", after := #[], guard := none } : Oper)) (v := ?_) rfl (by kernel_rfl) (by kernel_rfl) (by kernel_rfl) (fun _ _ _ h => h) (Or.inl ⟨by rfl, ?_⟩) (by assumption) ?_
            rotate_left
            · (intro w hSw; (try dsimp only at hSw); go_simp; try with_reducible rfl)
            simp only [Act.put, List.setIfInBounds_toArray, List.set_cons_zero, List.set_cons_succ]
            refine wpAnyH_take (i := 5) (oi := ({ dst := some 107, op := Op.load 37 (Operand.tmp 8), type := 37, pos := "parts.go:196", after := #[], guard := none } : Oper)) (v := ?_) rfl (by kernel_rfl) (by kernel_rfl) (by kernel_rfl) (fun _ _ _ h => h) (Or.inl ⟨by rfl, ?_⟩) (by assumption) ?_
            rotate_left
            · (intro w hSw; (try dsimp only at hSw); go_simp; try with_reducible rfl)
            simp only [Act.put, List.setIfInBounds_toArray, List.set_cons_zero, List.set_cons_succ]
            refine wpAnyH_take (i := 6) (oi := ({ dst := some 108, op := Op.move (Operand.tmp 3), type := 3, pos := "parts.go:196", after := #[], guard := none } : Oper)) (v := ?_) rfl (by kernel_rfl) (by kernel_rfl) (by kernel_rfl) (fun _ _ _ h => h) (Or.inl ⟨by rfl, ?_⟩) (by assumption) ?_
            rotate_left
            · (intro w hSw; (try dsimp only at hSw); go_simp; try with_reducible rfl)
            simp only [Act.put, List.setIfInBounds_toArray, List.set_cons_zero, List.set_cons_succ]
            refine wpAnyH_take (i := 7) (oi := ({ dst := some 109, op := Op.move (Operand.tmp 4), type := 3, pos := "parts.go:196", after := #[], guard := none } : Oper)) (v := ?_) rfl (by kernel_rfl) (by kernel_rfl) (by kernel_rfl) (fun _ _ _ h => h) (Or.inl ⟨by rfl, ?_⟩) (by assumption) ?_
            rotate_left
            · (intro w hSw; (try dsimp only at hSw); go_simp; try with_reducible rfl)
            simp only [Act.put, List.setIfInBounds_toArray, List.set_cons_zero, List.set_cons_succ]
            refine wpAnyH_ready (rs := [4, 9]) (by kernel_rfl) (by simp) ?_
            refine AllReadyH.cons (o := ({ dst := some 106, op := Op.call { callee := Callee.value (Operand.func 18), args := #[Operand.tmp 102, Operand.tmp 103, Operand.tmp 104, Operand.tmp 105], argTypes := #[37, 37, 3, 3] }, type := 37, pos := "parts.go:196", after := #[{ on := 0, ground := Ground.data }, { on := 1, ground := Ground.data }, { on := 2, ground := Ground.data }, { on := 3, ground := Ground.data }], guard := none } : Oper)) rfl (fun K_ hK => ?_) (AllReadyH.cons (o := ({ dst := some 20, op := Op.alloc 37, type := 0, pos := "parts.go:196", after := #[], guard := none } : Oper)) rfl (fun K_ hK => ?_) AllReadyH.nil)
            · go_simp
              refine (add_any PW PH RW RH (.slice ap np cp) (.slice ar nr cr) ps rs i j _ HPC HRC (HRP6.out.on HB0.out) (HRR6.out.on HB0.out) hi0 hi1 hj0 hj1).mono ?_
              unfold picV
              rintro e wx1 ⟨v1, rfl, ho1, hbx1⟩
              have HB1 : Hid (Below wa.heap.size wa wx1) := HB0.out.trans (hbx1.mono HB0.out.size)
              have HO1 := hide_own ho1
              obtain ⟨n1, HN1⟩ : ∃ n, Hid ((chL addP PW ps RW RH rs i j 0 0 (PW : Int) (PH : Int)).length = n) := ⟨_, (rfl : _ = _)⟩
              rw [HN1.out] at HO1
              obtain ⟨a1, c1, hv1⟩ := own_any HO1.out
              subst hv1
              have HR1 : Hid (RdP wx1 (.slice a1 n1 c1) (chL addP PW ps RW RH rs i j 0 0 (PW : Int) (PH : Int))) := rdP_own ho1
              clear hbx1 ho1
              refine hK.out _ _ ?_ (fun hHeld => ?_)
              · exact KEEP.out _ HB1.out
              clear hK K_
              try simp only [Act.put, List.setIfInBounds_toArray, List.set_cons_zero, List.set_cons_succ]
              refine wpAnyH_ready (rs := [8, 9]) (by kernel_rfl) (by simp) ?_
              refine AllReadyH.cons (o := ({ dst := some 110, op := Op.call { callee := Callee.value (Operand.func 18), args := #[Operand.tmp 106, Operand.tmp 107, Operand.tmp 108, Operand.tmp 109], argTypes := #[37, 37, 3, 3] }, type := 37, pos := "parts.go:196", after := #[{ on := 4, ground := Ground.data }, { on := 5, ground := Ground.data }, { on := 6, ground := Ground.data }, { on := 7, ground := Ground.data }, { on := 4, ground := Ground.chain }], guard := none } : Oper)) rfl (fun K_ hK => ?_) (AllReadyH.cons (o := ({ dst := some 20, op := Op.alloc 37, type := 0, pos := "parts.go:196", after := #[], guard := none } : Oper)) rfl (fun K_ hK => ?_) AllReadyH.nil)
              · go_simp
                refine (add_any PW PH QW QH (.slice a1 n1 c1) (.slice aq nq cq) (chL addP PW ps RW RH rs i j 0 0 (PW : Int) (PH : Int)) qs x y _ HC1b HQC HR1.out (HRQ6.out.on HB1.out) hx0 hx1 hy0 hy1).mono ?_
                unfold picV
                rintro e wx2 ⟨v2, rfl, ho2, hbx2⟩
                have HB2 : Hid (Below wa.heap.size wa wx2) := HB1.out.trans (hbx2.mono HB1.out.size)
                have HO2 := hide_own ho2
                obtain ⟨n2, HN2⟩ : ∃ n, Hid ((chL addP PW (chL addP PW ps RW RH rs i j 0 0 (PW : Int) (PH : Int)) QW QH qs x y 0 0 (PW : Int) (PH : Int)).length = n) := ⟨_, (rfl : _ = _)⟩
                rw [HN2.out] at HO2
                obtain ⟨a2, c2, hv2⟩ := own_any HO2.out
                subst hv2
                have HR2 : Hid (RdP wx2 (.slice a2 n2 c2) (chL addP PW (chL addP PW ps RW RH rs i j 0 0 (PW : Int) (PH : Int)) QW QH qs x y 0 0 (PW : Int) (PH : Int))) := rdP_own ho2
                clear hbx2 ho2
                refine hK.out _ _ ?_ (fun hHeld => ?_)
                · exact KEEP.out _ HB2.out
                clear hK K_
                try simp only [Act.put, List.setIfInBounds_toArray, List.set_cons_zero, List.set_cons_succ]
                refine wpAnyH_ready (rs := [9]) (by kernel_rfl) (by simp) ?_
                refine AllReadyH.cons (o := ({ dst := some 20, op := Op.alloc 37, type := 0, pos := "parts.go:196", after := #[], guard := none } : Oper)) rfl (fun K_ hK => ?_) AllReadyH.nil
                go_simp
                have HBA : Hid (Below wa.heap.size wa (wx2.alloc (.cells #[.int .i64 0, .int .i64 0, .slice none 0 0] 37))) := HB2.out.alloc HB2.out.size _
                refine hK.out _ _ ?_ (fun hHeld => ?_)
                · exact KEEP.out _ HBA.out
                clear hK K_
                try simp only [Act.put, List.setIfInBounds_toArray, List.set_cons_zero, List.set_cons_succ]
                refine wpAnyH_ready (rs := [10]) (by kernel_rfl) (by simp) ?_
                refine AllReadyH.cons (o := ({ dst := none, op := Op.store 37 (Operand.tmp 20) (Operand.tmp 110), type := 0, pos := "parts.go:196", after := #[{ on := 9, ground := Ground.data }, { on := 8, ground := Ground.data }, { on := 8, ground := Ground.chain }, { on := 0, ground := Ground.phase }, { on := 1, ground := Ground.phase }, { on := 2, ground := Ground.phase }, { on := 3, ground := Ground.phase }, { on := 4, ground := Ground.phase }, { on := 5, ground := Ground.phase }, { on := 6, ground := Ground.phase }, { on := 7, ground := Ground.phase }, { on := 8, ground := Ground.phase }, { on := 9, ground := Ground.phase }], guard := none } : Oper)) rfl (fun K_ hK => ?_) AllReadyH.nil
                go_simp
                refine hK.out _ _ ?_ (fun hHeld => ?_)
                · exact KEEP.out _ (HB2.out.alloc HB2.out.size (.cells #[.int .i64 (PW : Int), .int .i64 (PH : Int), .slice a2 n2 c2] 37))
                clear hK K_
                try simp only [Act.put, List.setIfInBounds_toArray, List.set_cons_zero, List.set_cons_succ]
                refine wpAnyH_done (by kernel_rfl) ?_ _
                go_wp2_with fail
                go_meet
                exact ⟨_, _, rfl, three_start _ _ _ _ _, HR2.out.on ((Below.refl _ _).alloc (Nat.le_refl _) _), (HB2.out.alloc HB2.out.size (.cells #[.int .i64 (PW : Int), .int .i64 (PH : Int), .slice a2 n2 c2] 37))⟩
              · go_simp
                have HBA : Hid (Below wa.heap.size wa (wx1.alloc (.cells #[.int .i64 0, .int .i64 0, .slice none 0 0] 37))) := HB1.out.alloc HB1.out.size _
                have FA : Hid (Three (wx1.alloc (.cells #[.int .i64 0, .int .i64 0, .slice none 0 0] 37)) wx1.heap.size (.int .i64 0) (.int .i64 0) (.slice none 0 0)) := three_start _ _ _ _ _
                have HRA : Hid (RdP (wx1.alloc (.cells #[.int .i64 0, .int .i64 0, .slice none 0 0] 37)) (.slice a1 n1 c1) (chL addP PW ps RW RH rs i j 0 0 (PW : Int) (PH : Int))) := RdP.on HR1.out ((Below.refl _ _).alloc (Nat.le_refl _) _)
                refine hK.out _ _ ?_ (fun hHeld => ?_)
                · exact KEEP.out _ HBA.out
                clear hK K_
                try simp only [Act.put, List.setIfInBounds_toArray, List.set_cons_zero, List.set_cons_succ]
                refine wpAnyH_ready (rs := [8]) (by kernel_rfl) (by simp) ?_
                refine AllReadyH.cons (o := ({ dst := some 110, op := Op.call { callee := Callee.value (Operand.func 18), args := #[Operand.tmp 106, Operand.tmp 107, Operand.tmp 108, Operand.tmp 109], argTypes := #[37, 37, 3, 3] }, type := 37, pos := "parts.go:196", after := #[{ on := 4, ground := Ground.data }, { on := 5, ground := Ground.data }, { on := 6, ground := Ground.data }, { on := 7, ground := Ground.data }, { on := 4, ground := Ground.chain }], guard := none } : Oper)) rfl (fun K_ hK => ?_) AllReadyH.nil
                go_simp
                have hlt1 : wx1.heap.size < (wx1.alloc (.cells #[.int .i64 0, .int .i64 0, .slice none 0 0] 37)).heap.size := FA.out.lt
                refine (add_any PW PH QW QH (.slice a1 n1 c1) (.slice aq nq cq) (chL addP PW ps RW RH rs i j 0 0 (PW : Int) (PH : Int)) qs x y _ HC1b HQC HRA.out (HRQ6.out.on HBA.out) hx0 hx1 hy0 hy1).mono ?_
                unfold picV
                rintro e wx2 ⟨v2, rfl, ho2, hbx2⟩
                have HB2 : Hid (Below wa.heap.size wa wx2) := HBA.out.trans (hbx2.mono HBA.out.size)
                have HO2 := hide_own ho2
                obtain ⟨n2, HN2⟩ : ∃ n, Hid ((chL addP PW (chL addP PW ps RW RH rs i j 0 0 (PW : Int) (PH : Int)) QW QH qs x y 0 0 (PW : Int) (PH : Int)).length = n) := ⟨_, (rfl : _ = _)⟩
                rw [HN2.out] at HO2
                obtain ⟨a2, c2, hv2⟩ := own_any HO2.out
                subst hv2
                have HR2 : Hid (RdP wx2 (.slice a2 n2 c2) (chL addP PW (chL addP PW ps RW RH rs i j 0 0 (PW : Int) (PH : Int)) QW QH qs x y 0 0 (PW : Int) (PH : Int))) := rdP_own ho2
                have F2 : Hid (Three wx2 wx1.heap.size (.int .i64 0) (.int .i64 0) (.slice none 0 0)) := Three.on FA.out hbx2
                clear hbx2 ho2
                refine hK.out _ _ ?_ (fun hHeld => ?_)
                · exact KEEP.out _ HB2.out
                clear hK K_
                try simp only [Act.put, List.setIfInBounds_toArray, List.set_cons_zero, List.set_cons_succ]
                refine wpAnyH_ready (rs := [10]) (by kernel_rfl) (by simp) ?_
                refine AllReadyH.cons (o := ({ dst := none, op := Op.store 37 (Operand.tmp 20) (Operand.tmp 110), type := 0, pos := "parts.go:196", after := #[{ on := 9, ground := Ground.data }, { on := 8, ground := Ground.data }, { on := 8, ground := Ground.chain }, { on := 0, ground := Ground.phase }, { on := 1, ground := Ground.phase }, { on := 2, ground := Ground.phase }, { on := 3, ground := Ground.phase }, { on := 4, ground := Ground.phase }, { on := 5, ground := Ground.phase }, { on := 6, ground := Ground.phase }, { on := 7, ground := Ground.phase }, { on := 8, ground := Ground.phase }, { on := 9, ground := Ground.phase }], guard := none } : Oper)) rfl (fun K_ hK => ?_) AllReadyH.nil
                obtain ⟨_, _, _, _, _, _, _⟩ := F2.out
                go_simp
                refine hK.out _ _ ?_ (fun hHeld => ?_)
                · exact KEEP.out _ (((HB2.out.setCell (HB1.out.size) _).setCell (HB1.out.size) _).setCell (HB1.out.size) _)
                clear hK K_
                try simp only [Act.put, List.setIfInBounds_toArray, List.set_cons_zero, List.set_cons_succ]
                refine wpAnyH_done (by kernel_rfl) ?_ _
                go_wp2_with fail
                go_meet
                exact ⟨_, _, rfl, Three.set_all F2.out _ _ _, rdP_own (by rw [HN2.out]; exact (ownsRow_setCell_below (ownsRow_setCell_below (ownsRow_setCell_below HO2.out (a := ⟨wx1.heap.size, 0, none⟩) (show wx1.heap.size < _ by omega) _) (a := ⟨wx1.heap.size, 1, none⟩) (show wx1.heap.size < _ by omega) _) (a := ⟨wx1.heap.size, 2, none⟩) (show wx1.heap.size < _ by omega) _)), (((HB2.out.setCell (HB1.out.size) _).setCell (HB1.out.size) _).setCell (HB1.out.size) _)⟩
            · go_simp
              have HBA : Hid (Below wa.heap.size wa (wa.drew.alloc (.cells #[.int .i64 0, .int .i64 0, .slice none 0 0] 37))) := HB0.out.alloc HB0.out.size _
              have FA : Hid (Three (wa.drew.alloc (.cells #[.int .i64 0, .int .i64 0, .slice none 0 0] 37)) wa.heap.size (.int .i64 0) (.int .i64 0) (.slice none 0 0)) := three_start _ _ _ _ _
              refine hK.out _ _ ?_ (fun hHeld => ?_)
              · exact KEEP.out _ HBA.out
              clear hK K_
              try simp only [Act.put, List.setIfInBounds_toArray, List.set_cons_zero, List.set_cons_succ]
              refine wpAnyH_ready (rs := [4]) (by kernel_rfl) (by simp) ?_
              refine AllReadyH.cons (o := ({ dst := some 106, op := Op.call { callee := Callee.value (Operand.func 18), args := #[Operand.tmp 102, Operand.tmp 103, Operand.tmp 104, Operand.tmp 105], argTypes := #[37, 37, 3, 3] }, type := 37, pos := "parts.go:196", after := #[{ on := 0, ground := Ground.data }, { on := 1, ground := Ground.data }, { on := 2, ground := Ground.data }, { on := 3, ground := Ground.data }], guard := none } : Oper)) rfl (fun K_ hK => ?_) AllReadyH.nil
              go_simp
              have hlt0 : wa.heap.size < (wa.drew.alloc (.cells #[.int .i64 0, .int .i64 0, .slice none 0 0] 37)).heap.size := FA.out.lt
              refine (add_any PW PH RW RH (.slice ap np cp) (.slice ar nr cr) ps rs i j _ HPC HRC (HRP6.out.on HBA.out) (HRR6.out.on HBA.out) hi0 hi1 hj0 hj1).mono ?_
              unfold picV
              rintro e wx1 ⟨v1, rfl, ho1, hbx1⟩
              have HB1 : Hid (Below wa.heap.size wa wx1) := HBA.out.trans (hbx1.mono HBA.out.size)
              have HO1 := hide_own ho1
              obtain ⟨n1, HN1⟩ : ∃ n, Hid ((chL addP PW ps RW RH rs i j 0 0 (PW : Int) (PH : Int)).length = n) := ⟨_, (rfl : _ = _)⟩
              rw [HN1.out] at HO1
              obtain ⟨a1, c1, hv1⟩ := own_any HO1.out
              subst hv1
              have HR1 : Hid (RdP wx1 (.slice a1 n1 c1) (chL addP PW ps RW RH rs i j 0 0 (PW : Int) (PH : Int))) := rdP_own ho1
              have F1 : Hid (Three wx1 wa.heap.size (.int .i64 0) (.int .i64 0) (.slice none 0 0)) := Three.on FA.out hbx1
              clear hbx1 ho1
              refine hK.out _ _ ?_ (fun hHeld => ?_)
              · exact KEEP.out _ HB1.out
              clear hK K_
              try simp only [Act.put, List.setIfInBounds_toArray, List.set_cons_zero, List.set_cons_succ]
              refine wpAnyH_ready (rs := [8]) (by kernel_rfl) (by simp) ?_
              refine AllReadyH.cons (o := ({ dst := some 110, op := Op.call { callee := Callee.value (Operand.func 18), args := #[Operand.tmp 106, Operand.tmp 107, Operand.tmp 108, Operand.tmp 109], argTypes := #[37, 37, 3, 3] }, type := 37, pos := "parts.go:196", after := #[{ on := 4, ground := Ground.data }, { on := 5, ground := Ground.data }, { on := 6, ground := Ground.data }, { on := 7, ground := Ground.data }, { on := 4, ground := Ground.chain }], guard := none } : Oper)) rfl (fun K_ hK => ?_) AllReadyH.nil
              go_simp
              have hlt1 : wa.heap.size < wx1.heap.size := F1.out.lt
              refine (add_any PW PH QW QH (.slice a1 n1 c1) (.slice aq nq cq) (chL addP PW ps RW RH rs i j 0 0 (PW : Int) (PH : Int)) qs x y _ HC1b HQC HR1.out (HRQ6.out.on HB1.out) hx0 hx1 hy0 hy1).mono ?_
              unfold picV
              rintro e wx2 ⟨v2, rfl, ho2, hbx2⟩
              have HB2 : Hid (Below wa.heap.size wa wx2) := HB1.out.trans (hbx2.mono HB1.out.size)
              have HO2 := hide_own ho2
              obtain ⟨n2, HN2⟩ : ∃ n, Hid ((chL addP PW (chL addP PW ps RW RH rs i j 0 0 (PW : Int) (PH : Int)) QW QH qs x y 0 0 (PW : Int) (PH : Int)).length = n) := ⟨_, (rfl : _ = _)⟩
              rw [HN2.out] at HO2
              obtain ⟨a2, c2, hv2⟩ := own_any HO2.out
              subst hv2
              have HR2 : Hid (RdP wx2 (.slice a2 n2 c2) (chL addP PW (chL addP PW ps RW RH rs i j 0 0 (PW : Int) (PH : Int)) QW QH qs x y 0 0 (PW : Int) (PH : Int))) := rdP_own ho2
              have F2 : Hid (Three wx2 wa.heap.size (.int .i64 0) (.int .i64 0) (.slice none 0 0)) := Three.on F1.out hbx2
              clear hbx2 ho2
              refine hK.out _ _ ?_ (fun hHeld => ?_)
              · exact KEEP.out _ HB2.out
              clear hK K_
              try simp only [Act.put, List.setIfInBounds_toArray, List.set_cons_zero, List.set_cons_succ]
              refine wpAnyH_ready (rs := [10]) (by kernel_rfl) (by simp) ?_
              refine AllReadyH.cons (o := ({ dst := none, op := Op.store 37 (Operand.tmp 20) (Operand.tmp 110), type := 0, pos := "parts.go:196", after := #[{ on := 9, ground := Ground.data }, { on := 8, ground := Ground.data }, { on := 8, ground := Ground.chain }, { on := 0, ground := Ground.phase }, { on := 1, ground := Ground.phase }, { on := 2, ground := Ground.phase }, { on := 3, ground := Ground.phase }, { on := 4, ground := Ground.phase }, { on := 5, ground := Ground.phase }, { on := 6, ground := Ground.phase }, { on := 7, ground := Ground.phase }, { on := 8, ground := Ground.phase }, { on := 9, ground := Ground.phase }], guard := none } : Oper)) rfl (fun K_ hK => ?_) AllReadyH.nil
              obtain ⟨_, _, _, _, _, _, _⟩ := F2.out
              go_simp
              refine hK.out _ _ ?_ (fun hHeld => ?_)
              · exact KEEP.out _ (((HB2.out.setCell (Nat.le_refl _) _).setCell (Nat.le_refl _) _).setCell (Nat.le_refl _) _)
              clear hK K_
              try simp only [Act.put, List.setIfInBounds_toArray, List.set_cons_zero, List.set_cons_succ]
              refine wpAnyH_done (by kernel_rfl) ?_ _
              go_wp2_with fail
              go_meet
              exact ⟨_, _, rfl, Three.set_all F2.out _ _ _, rdP_own (by rw [HN2.out]; exact (ownsRow_setCell_below (ownsRow_setCell_below (ownsRow_setCell_below HO2.out (a := ⟨wa.heap.size, 0, none⟩) (show wa.heap.size < _ by omega) _) (a := ⟨wa.heap.size, 1, none⟩) (show wa.heap.size < _ by omega) _) (a := ⟨wa.heap.size, 2, none⟩) (show wa.heap.size < _ by omega) _)), (((HB2.out.setCell (Nat.le_refl _) _).setCell (Nat.le_refl _) _).setCell (Nat.le_refl _) _)⟩
          case rest =>
            revert hcut
            revert wc
            intro wb hcut
            obtain ⟨bb, vb, rfl, TB, RB, hbb⟩ := hcut
            have HG7 : Hid (Gta w (PW : Int) (PH : Int) (.slice ap np cp) (QW : Int) (QH : Int) (.slice aq nq cq) (RW : Int) (RH : Int) (.slice ar nr cr) wb) := HG6.out.on hbb
            have HTB := hid_of TB
            have HRB_ := hid_of RB
            have HTA7 : Hid (Three wb ba (.int .i64 (PW : Int)) (.int .i64 (PH : Int)) va) := HTA.out.on hbb
            have HRA7 : Hid (RdP wb va (chL addP PW (chL addP PW ps QW QH qs x y 0 0 (PW : Int) (PH : Int)) RW RH rs i j 0 0 (PW : Int) (PH : Int))) := HRA_.out.on hbb
            have HRP7 : Hid (RdP wb (.slice ap np cp) ps) := HRP6.out.on hbb
            have HRQ7 : Hid (RdP wb (.slice aq nq cq) qs) := HRQ6.out.on hbb
            clear TB RB hbb HG6 KEEP HC1b HRP6 HRQ6 HRR6 HTA HRA_
            obtain ⟨⟨p0, p1, p2, _, _, _, _⟩, ⟨q0, q1, q2, _, _, _, _⟩, ⟨t0, t1, t2, _, _, _, _⟩, _⟩ := HG7.out
            go_wp2_with fail
            obtain ⟨bs, HBS⟩ : ∃ b, Hid (wb.heap.size = b) := ⟨_, (rfl : _ = _)⟩
            obtain ⟨ws, HWS⟩ : ∃ W, Hid (wb.alloc (.cells #[.int .i64 (PW : Int), .int .i64 (PH : Int), .slice ap np cp] 37) = W) := ⟨_, (rfl : _ = _)⟩
            have hbws : Below wb.heap.size wb ws := by rw [← HWS.out]; exact (Below.refl _ _).alloc (Nat.le_refl _) _
            have HTS : Hid (Three ws bs (.int .i64 (PW : Int)) (.int .i64 (PH : Int)) (.slice ap np cp)) := by unfold Hid; rw [← HWS.out, ← HBS.out]; exact three_start _ _ _ _ _
            have HRS : Hid (RdP ws (.slice ap np cp) (tmsL 0 PW ps QW QH qs x y 0 0 (PW : Int) (PH : Int))) := by unfold Hid; rw [tms_end 0 (.inl rfl) _ _ _ _ _ _ _ _ _ _ _ HPOK.out]; exact HRP7.out.on hbws
            rw [HWS.out, HBS.out]
            clear p0 p1 p2 q0 q1 q2 t0 t1 t2
            go_loopw [22] (fun kv wr => ∃ (k : Nat) (a : Option Addr) (n c : Nat), k ≤ 256 ∧ kv = .int .i64 (k : Int) ∧ Hid (Three wr bs (.int .i64 (PW : Int)) (.int .i64 (PH : Int)) (.slice a n c)) ∧ Hid (RdP wr (.slice a n c) (tmsL k PW ps QW QH qs x y 0 0 (PW : Int) (PH : Int))) ∧ Hid (Below wb.heap.size wb wr)) (fun kv _ => 256 - (intOf kv).toNat)
            case atStart => exact ⟨0, ap, np, cp, by omega, rfl, HTS, HRS, hbws⟩
            case round =>
              clear HTS HRS
              obtain ⟨k, sa, sn, sc, hk, rfl, HTS, HRS, HBW⟩ := hrel
              have HG8 : Hid (Gta w (PW : Int) (PH : Int) (.slice ap np cp) (QW : Int) (QH : Int) (.slice aq nq cq) (RW : Int) (RH : Int) (.slice ar nr cr) wr) := HG7.out.on HBW.out
              obtain ⟨s0, s1, s2, g0, g1_, g2, slt⟩ := HTS.out
              by_cases hk2 : k < 256
              · obtain ⟨⟨p0, p1, p2, _, _, _, _⟩, ⟨q0, q1, q2, _, _, _, _⟩, _, _⟩ := HG8.out
                go_wp2_with fail
                refine (add_any PW PH QW QH (.slice sa sn sc) (.slice aq nq cq) (tmsL k PW ps QW QH qs x y 0 0 (PW : Int) (PH : Int)) qs x y _ (tms_check k _ _ _ _ _ _ _ _ _ _ _ _ HPC.out HQC.out) HQC HRS (HRQ7.out.on HBW.out) hx0 hx1 hy0 hy1).mono ?_
                unfold picV
                rintro e w9 ⟨v9, rfl, ho9, hb9⟩
                rw [tms_step] at ho9
                have HO9 := hide_own ho9
                obtain ⟨n9, HN9⟩ : ∃ n, Hid ((tmsL (k + 1) PW ps QW QH qs x y 0 0 (PW : Int) (PH : Int)).length = n) := ⟨_, (rfl : _ = _)⟩
                rw [HN9.out] at HO9
                obtain ⟨a9, c9, hv9⟩ := own_any HO9.out
                subst hv9
                have T9 := HTS.out.on hb9
                have HB9 : Hid (Below wb.heap.size wb w9) := HBW.out.trans (hb9.mono HBW.out.size)
                clear ho9 hb9 s0 s1 s2 g0 g1_ g2 p0 p1 p2 q0 q1 q2
                have hbs2 : wb.heap.size ≤ bs := by have := HBS.out; omega
                have HT10 : Hid (Three (((w9.setCell ⟨bs, 0, none⟩ (.int .i64 (PW : Int))).setCell ⟨bs, 1, none⟩ (.int .i64 (PH : Int))).setCell ⟨bs, 2, none⟩ (.slice a9 n9 c9)) bs (.int .i64 (PW : Int)) (.int .i64 (PH : Int)) (.slice a9 n9 c9)) := T9.set_all _ _ _
                have HR10 : Hid (RdP (((w9.setCell ⟨bs, 0, none⟩ (.int .i64 (PW : Int))).setCell ⟨bs, 1, none⟩ (.int .i64 (PH : Int))).setCell ⟨bs, 2, none⟩ (.slice a9 n9 c9)) (.slice a9 n9 c9) (tmsL (k + 1) PW ps QW QH qs x y 0 0 (PW : Int) (PH : Int))) := rdP_own (by rw [HN9.out]; exact ownsRow_setCell_below (ownsRow_setCell_below (ownsRow_setCell_below HO9.out (a := ⟨bs, 0, none⟩) (show bs < _ by omega) _) (a := ⟨bs, 1, none⟩) (show bs < _ by omega) _) (a := ⟨bs, 2, none⟩) (show bs < _ by omega) _)
                have HB10 : Hid (Below wb.heap.size wb (((w9.setCell ⟨bs, 0, none⟩ (.int .i64 (PW : Int))).setCell ⟨bs, 1, none⟩ (.int .i64 (PH : Int))).setCell ⟨bs, 2, none⟩ (.slice a9 n9 c9))) := ((HB9.out.setCell (show wb.heap.size ≤ bs from hbs2) _).setCell (show wb.heap.size ≤ bs from hbs2) _).setCell (show wb.heap.size ≤ bs from hbs2) _
                obtain ⟨s0, s1, s2, g0, g1_, g2, _⟩ := T9
                go_wp2_with fail
                go_roundw
                case rel => exact ⟨k + 1, a9, n9, c9, by omega, by go_num, HT10, HR10, HB10⟩
                case measure => simp [intOf]; omega
              · obtain rfl : k = 256 := by omega
                rw [tms_end 256 (.inr rfl) _ _ _ _ _ _ _ _ _ _ _ HPOK.out] at HRS
                have HTA8 : Hid (Three wr ba (.int .i64 (PW : Int)) (.int .i64 (PH : Int)) va) := HTA7.out.on HBW.out
                have HTB8 : Hid (Three wr bb (.int .i64 (PW : Int)) (.int .i64 (PH : Int)) vb) := HTB.out.on HBW.out
                have HRA8 : Hid (RdP wr va (chL addP PW (chL addP PW ps QW QH qs x y 0 0 (PW : Int) (PH : Int)) RW RH rs i j 0 0 (PW : Int) (PH : Int))) := HRA7.out.on HBW.out
                have HRB8 : Hid (RdP wr vb (chL addP PW (chL addP PW ps RW RH rs i j 0 0 (PW : Int) (PH : Int)) QW QH qs x y 0 0 (PW : Int) (PH : Int))) := HRB_.out.on HBW.out
                have HRP8 : Hid (RdP wr (.slice ap np cp) ps) := HRP7.out.on HBW.out
                have HRQ8 : Hid (RdP wr (.slice aq nq cq) qs) := HRQ7.out.on HBW.out
                clear HTA7 HTB HRA7 HRB_ HRP7 HRQ7 HBW hbws HG7
                obtain ⟨⟨p0, p1, p2, _, _, _, _⟩, ⟨q0, q1, q2, _, _, _, _⟩, _, _⟩ := HG8.out
                clear s0 s1 s2 g0 g1_ g2
                go_wp2_with fail
                refine (put_any PW PH QW QH (.slice ap np cp) (.slice aq nq cq) ps qs x y _ HPC HQC HRP8 HRQ8 hx0 hx1 hy0 hy1).mono ?_
                unfold picV
                rintro e w11 ⟨v11, rfl, ho11, hb11⟩
                have HR11 : Hid (RdP w11 v11 (chL (fun _ q => q) PW ps QW QH qs x y 0 0 (PW : Int) (PH : Int))) := rdP_own ho11
                obtain ⟨n11, HN11⟩ : ∃ n, Hid ((chL (fun _ q => q) PW ps QW QH qs x y 0 0 (PW : Int) (PH : Int)).length = n) := ⟨_, (rfl : _ = _)⟩
                obtain ⟨a11, c11, hv11⟩ := own_any ho11
                rw [HN11.out] at hv11
                subst hv11
                have hb12 : Below wr.heap.size wr (w11.alloc (.cells #[.int .i64 (PW : Int), .int .i64 (PH : Int), .slice a11 n11 c11] 37)) := hb11.alloc hb11.size _
                have HT12 := hid_of (three_start w11 (.int .i64 (PW : Int)) (.int .i64 (PH : Int)) (.slice a11 n11 c11) 37)
                have HR12 := hid_of (HR11.out.on ((Below.refl _ _).alloc (Nat.le_refl _) (.cells #[.int .i64 (PW : Int), .int .i64 (PH : Int), .slice a11 n11 c11] 37)))
                have HG12 := hid_of (HG8.out.on hb12)
                have HTA12 := hid_of (HTA8.out.on hb12)
                have HTB12 := hid_of (HTB8.out.on hb12)
                have HTS12 := hid_of (HTS.out.on hb12)
                have HRA12 := hid_of (HRA8.out.on hb12)
                have HRB12 := hid_of (HRB8.out.on hb12)
                have HRS12 := hid_of (HRS.out.on hb12)
                have HRP12 := hid_of (HRP8.out.on hb12)
                have HRQ12 := hid_of (HRQ8.out.on hb12)
                clear HR11 HG8 HTA8 HTB8 HTS HRA8 HRB8 HRS HRP8 HRQ8 ho11 hb11 hb12 p0 p1 p2 q0 q1 q2
                obtain ⟨⟨p0, p1, p2, _, _, _, _⟩, ⟨q0, q1, q2, _, _, _, _⟩, _, _⟩ := HG12.out
                go_wp2_with fail
                obtain ⟨wt, HWT⟩ : ∃ W, Hid (w11.alloc (.cells #[.int .i64 (PW : Int), .int .i64 (PH : Int), .slice a11 n11 c11] 37) = W) := ⟨_, (rfl : _ = _)⟩
                obtain ⟨bt, HBT⟩ : ∃ b, Hid (w11.heap.size = b) := ⟨_, (rfl : _ = _)⟩
                rw [HWT.out] at HT12 HR12 HG12 HTA12 HTB12 HTS12 HRA12 HRB12 HRS12 HRP12 HRQ12
                rw [HBT.out] at HT12
                rw [HWT.out, HBT.out]
                clear p0 p1 p2 q0 q1 q2
                have HN11E : Hid (n11 = np) := by unfold Hid; rw [← HN11.out, ch_len, HNP.out]
                have hpne : ps ≠ [] := by
                  intro e; have h1 := HPL.out; rw [e] at h1
                  have : 1 * 1 ≤ PW * PH := Nat.mul_le_mul pp1 pp3
                  simp at h1; omega
                have hqne : qs ≠ [] := by
                  intro e; have h1 := HQL.out; rw [e] at h1
                  have : 1 * 1 ≤ QW * QH := Nat.mul_le_mul qq1 qq3
                  simp at h1; omega
                have htne : (chL (fun _ q => q) PW ps QW QH qs x y 0 0 (PW : Int) (PH : Int)) ≠ [] := by
                  intro e; have h1 := HN11.out; have h9 := HN11E.out; rw [e] at h1; simp at h1
                  have h2 := HPL.out; rw [HNP.out] at h2
                  have : 1 * 1 ≤ PW * PH := Nat.mul_le_mul pp1 pp3
                  omega
                obtain ⟨gp, op, rfl, hgp, PC⟩ := rd_some HRP12.out hpne
                obtain ⟨gq_, oq, rfl, hgq, QC⟩ := rd_some HRQ12.out hqne
                obtain ⟨gt, ot, rfl, hgt, TC⟩ := rd_some HR12.out htne
                have HPCE := hid_of PC
                have HQCE := hid_of QC
                have HTCE := hid_of TC
                clear PC QC TC
                go_loopw [24] (fun vv wr => ∃ V : Nat, V ≤ PH ∧ vv = .int .i64 (V : Int) ∧ Hid (Below wt.heap.size wt wr)) (fun vv _ => PH - (intOf vv).toNat)
                case atStart => exact ⟨0, by omega, rfl, Below.refl _ _⟩
                case round =>
                  obtain ⟨V, hV, rfl, HBV⟩ := hrel
                  have HGv : Hid (Gta w (PW : Int) (PH : Int) (.slice (some ⟨gp, op, none⟩) np cp) (QW : Int) (QH : Int) (.slice (some ⟨gq_, oq, none⟩) nq cq) (RW : Int) (RH : Int) (.slice ar nr cr) wr) := HG12.out.on HBV.out
                  by_cases hV2 : V < PH
                  · obtain ⟨⟨p0, p1, p2, _, _, _, _⟩, _, _, _⟩ := HGv.out
                    go_wp2_with fail
                    clear p0 p1 p2 HGv
                    go_loopw [25] (fun uv wr => ∃ U : Nat, U ≤ PW ∧ uv = .int .i64 (U : Int) ∧ Hid (Below wt.heap.size wt wr)) (fun uv _ => PW - (intOf uv).toNat)
                    case atStart => exact ⟨0, by omega, rfl, HBV⟩
                    case round =>
                      clear HBV
                      obtain ⟨U, hU, rfl, HBV⟩ := hrel
                      have HGv : Hid (Gta w (PW : Int) (PH : Int) (.slice (some ⟨gp, op, none⟩) np cp) (QW : Int) (QH : Int) (.slice (some ⟨gq_, oq, none⟩) nq cq) (RW : Int) (RH : Int) (.slice ar nr cr) wr) := HG12.out.on HBV.out
                      by_cases hU2 : U < PW
                      · obtain ⟨⟨p0, p1, p2, _, _, _, _⟩, ⟨q0, q1, q2, _, _, _, _⟩, _, _⟩ := HGv.out
                        obtain ⟨on, HON⟩ : ∃ b, Hid (hasB x y (QW : Int) (QH : Int) (U : Int) (V : Int) = b) := ⟨_, (rfl : _ = _)⟩
                        go_wp2_with fail
                        refine (has_any x y (QW : Int) (QH : Int) (U : Int) (V : Int) _ (by omega) (by omega) (by omega) (by omega) (by omega) (by omega) (by omega) (by omega) on HON).mono ?_
                        rintro e w13 ⟨rfl, hb13⟩
                        have HB13 : Hid (Below wt.heap.size wt w13) := HBV.out.trans (hb13.mono HBV.out.size)
                        clear hb13 p0 p1 p2 q0 q1 q2 HGv
                        obtain ⟨⟨p0, p1, p2, _, _, _, _⟩, ⟨q0, q1, q2, _, _, _, _⟩, _, _⟩ := HG12.out.on HB13.out
                        obtain ⟨t0, t1, t2, _, _, _, _⟩ := HT12.out.on HB13.out
                        obtain ⟨M, HM⟩ : ∃ M, Hid (V * PW = M) := ⟨_, (rfl : _ = _)⟩
                        obtain ⟨K, HK⟩ : ∃ K, Hid (M + U = K) := ⟨_, (rfl : _ = _)⟩
                        have hM : (V : Int) * (PW : Int) = (M : Int) := by rw [← HM.out]; exact (Int.natCast_mul _ _).symm
                        have hVP : (V + 1) * PW ≤ PH * PW := Nat.mul_le_mul_right _ (by omega)
                        have hKn : K < np := by
                          have h1 := HK.out; have h2 := HPL.out; have h3 := HM.out; have h4 := HNP.out
                          rw [Nat.mul_comm] at h2; rw [Nat.add_mul] at hVP; omega
                        have hMK : (M : Int) + (U : Int) = (K : Int) := by have := HK.out; omega
                        have e1 : K / PW = V := by rw [← HK.out, ← HM.out, Nat.add_comm, Nat.add_mul_div_right _ _ (by omega), Nat.div_eq_of_lt (by omega), Nat.zero_add]
                        have e2 : K % PW = U := by rw [← HK.out, ← HM.out, Nat.add_comm, Nat.add_mul_mod_self_right, Nat.mod_eq_of_lt (by omega)]
                        have HPG := ch_getD (fun _ q => q) PW ps QW QH qs x y 0 0 (PW : Int) (PH : Int) K (by rw [HNP.out]; exact hKn)
                        rw [e1, e2, HON.out, (hasB_iff 0 0 (PW : Int) (PH : Int) (U : Int) (V : Int)).2 (by omega)] at HPG
                        obtain ⟨tc0, tc1⟩ := HTCE.out _ HB13.out K (by rw [HN11.out, HN11E.out]; exact hKn)
                        have hi1 : (K : Int) < (np : Int) := by omega
                        have hw1 : IntKind.i64.wrap (M : Int) = (M : Int) := by rw [IntKind.wrap_i64]; omega
                        have hw2 : IntKind.i64.wrap (K : Int) = (K : Int) := by rw [IntKind.wrap_i64]; omega
                        clear hVP
                        cases on with
                        | true =>
                          obtain ⟨h0, h1, h2, h3⟩ := (hasB_iff _ _ _ _ _ _).1 HON.out
                          obtain ⟨Ry, HRy⟩ : ∃ n : Nat, Hid ((V : Int) - y = (n : Int)) := ⟨((V : Int) - y).toNat, by unfold Hid; omega⟩
                          obtain ⟨Cx, HCx⟩ : ∃ n : Nat, Hid ((U : Int) - x = (n : Int)) := ⟨((U : Int) - x).toNat, by unfold Hid; omega⟩
                          obtain ⟨M2, HM2⟩ : ∃ M, Hid (Ry * QW = M) := ⟨_, (rfl : _ = _)⟩
                          have hRy := HRy.out
                          have hM2 : (Ry : Int) * (QW : Int) = (M2 : Int) := by rw [← HM2.out]; exact (Int.natCast_mul _ _).symm
                          have hRQ : (Ry + 1) * QW ≤ QH * QW := Nat.mul_le_mul_right _ (by omega)
                          obtain ⟨J, HJ⟩ : ∃ J, Hid (M2 + Cx = J) := ⟨_, (rfl : _ = _)⟩
                          have hJn : J < nq := by
                            have h1 := HM2.out; have h2 := HQL.out; have h3 := HCx.out; have h4 := HNQ.out; have h5 := HJ.out
                            rw [Nat.mul_comm] at h2; rw [Nat.add_mul] at hRQ; omega
                          have hJ : (M2 : Int) + (U : Int) - x = (J : Int) := by have := HCx.out; have := HJ.out; omega
                          clear hRQ
                          obtain ⟨qc0, qc1⟩ := HQCE.out _ HB13.out J (by rw [HNQ.out]; exact hJn)
                          rw [HPG] at tc0 tc1
                          simp only [Bool.and_true, if_true] at tc0 tc1
                          unfold gq at tc0 tc1
                          rw [e1, e2, hRy, hM2, hJ, Int.toNat_natCast] at tc0 tc1
                          obtain ⟨qq, HQQ⟩ : ∃ p, Hid (qs.getD J (0, 0) = p) := ⟨_, (rfl : _ = _)⟩
                          rw [HQQ.out] at tc0 tc1 qc0 qc1
                          obtain ⟨qv, qa⟩ := qq
                          simp only at tc0 tc1 qc0 qc1
                          have hi2 : (J : Int) < (nq : Int) := by omega
                          have hw3 : IntKind.i64.wrap (Ry : Int) = (Ry : Int) := by rw [IntKind.wrap_i64]; omega
                          have hw4 : IntKind.i64.wrap (M2 : Int) = (M2 : Int) := by rw [IntKind.wrap_i64]; omega
                          have hw5 : IntKind.i64.wrap ((M2 : Int) + (U : Int)) = (M2 : Int) + (U : Int) := by rw [IntKind.wrap_i64]; omega
                          have hw6 : IntKind.i64.wrap (J : Int) = (J : Int) := by rw [IntKind.wrap_i64]; omega
                          have heq := fun X => eq_pix X qv qa
                          clear HPG
                          have hn11 := HN11E.out
                          subst hn11
                          go_wp2_with fail
                          go_quiet (fail)
                          go_wp2_with fail
                          go_roundw
                          case rel => exact ⟨U + 1, by omega, by go_num, below_drewN HB13.out _⟩
                          case measure => simp [intOf]; omega
                        | false =>
                          obtain ⟨pc0, pc1⟩ := HPCE.out _ HB13.out K (by rw [HNP.out]; exact hKn)
                          rw [HPG] at tc0 tc1
                          simp only [Bool.and_false, Bool.false_eq_true, if_false] at tc0 tc1
                          obtain ⟨pq, HPP⟩ : ∃ p, Hid (ps.getD K (0, 0) = p) := ⟨_, (rfl : _ = _)⟩
                          rw [HPP.out] at tc0 tc1 pc0 pc1
                          obtain ⟨pv, pa⟩ := pq
                          simp only at tc0 tc1 pc0 pc1
                          have heq := fun X => eq_pix X pv pa
                          clear HPG
                          have hn11 := HN11E.out
                          subst hn11
                          go_wp2_with fail
                          go_quiet (fail)
                          go_wp2_with fail
                          go_roundw
                          case rel => exact ⟨U + 1, by omega, by go_num, below_drewN HB13.out _⟩
                          case measure => simp [intOf]; omega
                      · obtain ⟨⟨p0, p1, p2, _, _, _, _⟩, _, _, _⟩ := HGv.out
                        go_wp2_with fail
                        go_roundw
                        case rel => exact ⟨V + 1, by omega, by go_num, HBV⟩
                        case measure => simp [intOf]; omega
                  · obtain ⟨⟨p0, p1, p2, _, _, _, _⟩, ⟨q0, q1, q2, _, _, _, _⟩, _, _⟩ := HGv.out
                    go_wp2_with fail
                    obtain ⟨aA, cA, hvA, _, _, _⟩ := HRA12.out
                    obtain ⟨aB, cB, hvB, _, _, _⟩ := HRB12.out
                    obtain ⟨nA, HNA⟩ : ∃ n, Hid ((chL addP PW (chL addP PW ps QW QH qs x y 0 0 (PW : Int) (PH : Int)) RW RH rs i j 0 0 (PW : Int) (PH : Int)).length = n) := ⟨_, (rfl : _ = _)⟩
                    obtain ⟨nB, HNB⟩ : ∃ n, Hid ((chL addP PW (chL addP PW ps RW RH rs i j 0 0 (PW : Int) (PH : Int)) QW QH qs x y 0 0 (PW : Int) (PH : Int)).length = n) := ⟨_, (rfl : _ = _)⟩
                    rw [HNA.out] at hvA
                    rw [HNB.out] at hvB
                    subst hvA hvB
                    have HRBs : Hid (RdP wt (.slice aB nB cB) (chL addP PW (chL addP PW ps QW QH qs x y 0 0 (PW : Int) (PH : Int)) RW RH rs i j 0 0 (PW : Int) (PH : Int))) := by unfold Hid; rw [chadd_swap]; exact HRB12.out
                    have hlA : (chL addP PW (chL addP PW ps QW QH qs x y 0 0 (PW : Int) (PH : Int)) RW RH rs i j 0 0 (PW : Int) (PH : Int)).length ≤ 1000 := by rw [ch_len, ch_len, HNP.out]; omega
                    have hlP : ps.length ≤ 1000 := by rw [HNP.out]; omega
                    have hlT : (chL (fun _ q => q) PW ps QW QH qs x y 0 0 (PW : Int) (PH : Int)).length ≤ 1000 := by rw [ch_len, HNP.out]; omega
                    have HCT : Hid (checkL (PW : Int) (PH : Int) (chL (fun _ q => q) PW ps QW QH qs x y 0 0 (PW : Int) (PH : Int)) = 0) := ch_check (fun _ q => q) put_ok _ _ _ _ _ _ _ _ _ _ _ _ HPC.out HQC.out
                    have KEEP : Hid (∀ W2', Below wt.heap.size wt W2' → (W2'.cell? ⟨ba, 0, none⟩ = some (.int .i64 (PW : Int)) ∧ W2'.cell? ⟨ba, 1, none⟩ = some (.int .i64 (PH : Int)) ∧ W2'.cell? ⟨ba, 2, none⟩ = some (.slice aA nA cA) ∧ W2'.cell? ⟨bb, 0, none⟩ = some (.int .i64 (PW : Int)) ∧ W2'.cell? ⟨bb, 1, none⟩ = some (.int .i64 (PH : Int)) ∧ W2'.cell? ⟨bb, 2, none⟩ = some (.slice aB nB cB) ∧ W2'.cell? ⟨bs, 0, none⟩ = some (.int .i64 (PW : Int)) ∧ W2'.cell? ⟨bs, 1, none⟩ = some (.int .i64 (PH : Int)) ∧ W2'.cell? ⟨bs, 2, none⟩ = some (.slice sa sn sc) ∧ W2'.cell? ⟨w.heap.size, 0, none⟩ = some (.int .i64 (PW : Int)) ∧ W2'.cell? ⟨w.heap.size, 1, none⟩ = some (.int .i64 (PH : Int)) ∧ W2'.cell? ⟨w.heap.size, 2, none⟩ = some (.slice (some ⟨gp, op, none⟩) np cp) ∧ W2'.cell? ⟨w.heap.size + 1, 0, none⟩ = some (.int .i64 (QW : Int)) ∧ W2'.cell? ⟨w.heap.size + 1, 1, none⟩ = some (.int .i64 (QH : Int)) ∧ W2'.cell? ⟨w.heap.size + 1, 2, none⟩ = some (.slice (some ⟨gq_, oq, none⟩) nq cq) ∧ W2'.cell? ⟨bt, 0, none⟩ = some (.int .i64 (PW : Int)) ∧ W2'.cell? ⟨bt, 1, none⟩ = some (.int .i64 (PH : Int)) ∧ W2'.cell? ⟨bt, 2, none⟩ = some (.slice (some ⟨gt, ot, none⟩) n11 c11))) := fun W2' h => by
                      obtain ⟨kp, kq, _, _⟩ := HG12.out.on h
                      have ka := HTA12.out.on h
                      have kb := HTB12.out.on h
                      have ks := HTS12.out.on h
                      have kt := HT12.out.on h
                      exact ⟨ka.c0, ka.c1, ka.c2, kb.c0, kb.c1, kb.c2, ks.c0, ks.c1, ks.c2, kp.c0, kp.c1, kp.c2, kq.c0, kq.c1, kq.c2, kt.c0, kt.c1, kt.c2⟩
                    have HB0 : Hid (Below wt.heap.size wt wr.drew) := HBV.out.drew
                    clear p0 p1 p2 q0 q1 q2
                    refine wp_region_held_drew (S := (fun w' => w'.cell? ⟨ba, 0, none⟩ = some (.int .i64 (PW : Int)) ∧ w'.cell? ⟨ba, 1, none⟩ = some (.int .i64 (PH : Int)) ∧ w'.cell? ⟨ba, 2, none⟩ = some (.slice aA nA cA) ∧ w'.cell? ⟨bb, 0, none⟩ = some (.int .i64 (PW : Int)) ∧ w'.cell? ⟨bb, 1, none⟩ = some (.int .i64 (PH : Int)) ∧ w'.cell? ⟨bb, 2, none⟩ = some (.slice aB nB cB) ∧ w'.cell? ⟨bs, 0, none⟩ = some (.int .i64 (PW : Int)) ∧ w'.cell? ⟨bs, 1, none⟩ = some (.int .i64 (PH : Int)) ∧ w'.cell? ⟨bs, 2, none⟩ = some (.slice sa sn sc) ∧ w'.cell? ⟨w.heap.size, 0, none⟩ = some (.int .i64 (PW : Int)) ∧ w'.cell? ⟨w.heap.size, 1, none⟩ = some (.int .i64 (PH : Int)) ∧ w'.cell? ⟨w.heap.size, 2, none⟩ = some (.slice (some ⟨gp, op, none⟩) np cp) ∧ w'.cell? ⟨w.heap.size + 1, 0, none⟩ = some (.int .i64 (QW : Int)) ∧ w'.cell? ⟨w.heap.size + 1, 1, none⟩ = some (.int .i64 (QH : Int)) ∧ w'.cell? ⟨w.heap.size + 1, 2, none⟩ = some (.slice (some ⟨gq_, oq, none⟩) nq cq) ∧ w'.cell? ⟨bt, 0, none⟩ = some (.int .i64 (PW : Int)) ∧ w'.cell? ⟨bt, 1, none⟩ = some (.int .i64 (PH : Int)) ∧ w'.cell? ⟨bt, 2, none⟩ = some (.slice (some ⟨gt, ot, none⟩) n11 c11))) (by kernel_rfl) ?_ (fun hHeld => ?_)
                    · exact KEEP.out _ HB0.out
                    refine wpAnyH_take (i := 0) (oi := ({ dst := some 203, op := Op.load 37 (Operand.tmp 19), type := 37, pos := "parts.go:210", after := #[], guard := none } : Oper)) (v := ?_) rfl (by kernel_rfl) (by kernel_rfl) (by kernel_rfl) (fun _ _ _ h => h) (Or.inl ⟨by rfl, ?_⟩) (by assumption) ?_
                    rotate_left
                    · (intro w hSw; (try dsimp only at hSw); go_simp; try with_reducible rfl)
                    simp only [Act.put, List.setIfInBounds_toArray, List.set_cons_zero, List.set_cons_succ]
                    refine wpAnyH_take (i := 1) (oi := ({ dst := some 204, op := Op.load 37 (Operand.tmp 20), type := 37, pos := "parts.go:210", after := #[], guard := none } : Oper)) (v := ?_) rfl (by kernel_rfl) (by kernel_rfl) (by kernel_rfl) (fun _ _ _ h => h) (Or.inl ⟨by rfl, ?_⟩) (by assumption) ?_
                    rotate_left
                    · (intro w hSw; (try dsimp only at hSw); go_simp; try with_reducible rfl)
                    simp only [Act.put, List.setIfInBounds_toArray, List.set_cons_zero, List.set_cons_succ]
                    refine wpAnyH_ready (rs := [2]) (by kernel_rfl) (by simp) ?_
                    refine AllReadyH.cons (o := ({ dst := some 205, op := Op.call { callee := Callee.value (Operand.func 20), args := #[Operand.tmp 203, Operand.tmp 204], argTypes := #[37, 37] }, type := 4, pos := "parts.go:210", after := #[{ on := 0, ground := Ground.data }, { on := 1, ground := Ground.data }], guard := none } : Oper)) rfl (fun K_ hK => ?_) AllReadyH.nil
                    go_simp
                    refine (samePic_any (PW : Int) (PH : Int) (.slice aA nA cA) (.slice aB nB cB) (chL addP PW (chL addP PW ps QW QH qs x y 0 0 (PW : Int) (PH : Int)) RW RH rs i j 0 0 (PW : Int) (PH : Int)) _ hlA (HRA12.out.on HB0.out) (HRBs.out.on HB0.out)).mono ?_
                    rintro e wy1 ⟨rfl, hby1⟩
                    have HB1 : Hid (Below wt.heap.size wt wy1) := HB0.out.trans (hby1.mono HB0.out.size)
                    refine hK.out _ _ ?_ (fun hHeld => ?_)
                    · exact KEEP.out _ HB1.out
                    clear hK K_
                    try simp only [Act.put, List.setIfInBounds_toArray, List.set_cons_zero, List.set_cons_succ]
                    refine wpAnyH_take (i := 3) (oi := ({ dst := some 206, op := Op.move (Operand.tmp 205), type := 4, pos := "parts.go:210", after := #[{ on := 2, ground := Ground.data }, { on := 2, ground := Ground.chain }], guard := none } : Oper)) (v := ?_) rfl (by kernel_rfl) (by kernel_rfl) (by kernel_rfl) (fun _ _ _ h => h) (Or.inl ⟨by rfl, ?_⟩) (by assumption) ?_
                    rotate_left
                    · (intro w hSw; (try dsimp only at hSw); go_simp; try with_reducible rfl)
                    simp only [Act.put, List.setIfInBounds_toArray, List.set_cons_zero, List.set_cons_succ]
                    refine wpAnyH_take (i := 4) (oi := ({ dst := some 207, op := Op.load 37 (Operand.tmp 21), type := 37, pos := "parts.go:210", after := #[{ on := 3, ground := Ground.guard }], guard := some (3, true) } : Oper)) (v := ?_) rfl (by kernel_rfl) (by kernel_rfl) (by kernel_rfl) (fun _ _ _ h => h) (Or.inl ⟨by rfl, ?_⟩) (by assumption) ?_
                    rotate_left
                    · (intro w hSw; (try dsimp only at hSw); go_simp; try with_reducible rfl)
                    simp only [Act.put, List.setIfInBounds_toArray, List.set_cons_zero, List.set_cons_succ]
                    refine wpAnyH_take (i := 5) (oi := ({ dst := some 208, op := Op.load 37 (Operand.tmp 7), type := 37, pos := "parts.go:210", after := #[{ on := 3, ground := Ground.guard }], guard := some (3, true) } : Oper)) (v := ?_) rfl (by kernel_rfl) (by kernel_rfl) (by kernel_rfl) (fun _ _ _ h => h) (Or.inl ⟨by rfl, ?_⟩) (by assumption) ?_
                    rotate_left
                    · (intro w hSw; (try dsimp only at hSw); go_simp; try with_reducible rfl)
                    simp only [Act.put, List.setIfInBounds_toArray, List.set_cons_zero, List.set_cons_succ]
                    refine wpAnyH_ready (rs := [6]) (by kernel_rfl) (by simp) ?_
                    refine AllReadyH.cons (o := ({ dst := some 209, op := Op.call { callee := Callee.value (Operand.func 20), args := #[Operand.tmp 207, Operand.tmp 208], argTypes := #[37, 37] }, type := 4, pos := "parts.go:210", after := #[{ on := 4, ground := Ground.data }, { on := 5, ground := Ground.data }, { on := 3, ground := Ground.chain }, { on := 3, ground := Ground.guard }], guard := some (3, true) } : Oper)) rfl (fun K_ hK => ?_) AllReadyH.nil
                    go_simp
                    refine (samePic_any (PW : Int) (PH : Int) (.slice sa sn sc) (.slice (some ⟨gp, op, none⟩) np cp) ps _ hlP (HRS12.out.on HB1.out) (HRP12.out.on HB1.out)).mono ?_
                    rintro e wy2 ⟨rfl, hby2⟩
                    have HB2 : Hid (Below wt.heap.size wt wy2) := HB1.out.trans (hby2.mono HB1.out.size)
                    refine hK.out _ _ ?_ (fun hHeld => ?_)
                    · exact KEEP.out _ HB2.out
                    clear hK K_
                    try simp only [Act.put, List.setIfInBounds_toArray, List.set_cons_zero, List.set_cons_succ]
                    refine wpAnyH_take (i := 7) (oi := ({ dst := some 210, op := Op.pick (Operand.tmp 206) (Operand.tmp 209) (Operand.const (Value.bool false)), type := 4, pos := "parts.go:210", after := #[{ on := 3, ground := Ground.data }, { on := 6, ground := Ground.data }], guard := none } : Oper)) (v := ?_) rfl (by kernel_rfl) (by kernel_rfl) (by kernel_rfl) (fun _ _ _ h => h) (Or.inl ⟨by rfl, ?_⟩) (by assumption) ?_
                    rotate_left
                    · (intro w hSw; (try dsimp only at hSw); go_simp; try with_reducible rfl)
                    simp only [Act.put, List.setIfInBounds_toArray, List.set_cons_zero, List.set_cons_succ]
                    refine wpAnyH_take (i := 8) (oi := ({ dst := some 211, op := Op.move (Operand.tmp 210), type := 4, pos := "parts.go:210", after := #[{ on := 7, ground := Ground.data }, { on := 6, ground := Ground.chain }], guard := none } : Oper)) (v := ?_) rfl (by kernel_rfl) (by kernel_rfl) (by kernel_rfl) (fun _ _ _ h => h) (Or.inl ⟨by rfl, ?_⟩) (by assumption) ?_
                    rotate_left
                    · (intro w hSw; (try dsimp only at hSw); go_simp; try with_reducible rfl)
                    simp only [Act.put, List.setIfInBounds_toArray, List.set_cons_zero, List.set_cons_succ]
                    refine wpAnyH_take (i := 9) (oi := ({ dst := some 212, op := Op.load 37 (Operand.tmp 23), type := 37, pos := "parts.go:210", after := #[{ on := 8, ground := Ground.guard }], guard := some (8, true) } : Oper)) (v := ?_) rfl (by kernel_rfl) (by kernel_rfl) (by kernel_rfl) (fun _ _ _ h => h) (Or.inl ⟨by rfl, ?_⟩) (by assumption) ?_
                    rotate_left
                    · (intro w hSw; (try dsimp only at hSw); go_simp; try with_reducible rfl)
                    simp only [Act.put, List.setIfInBounds_toArray, List.set_cons_zero, List.set_cons_succ]
                    refine wpAnyH_take (i := 10) (oi := ({ dst := some 213, op := Op.load 37 (Operand.tmp 8), type := 37, pos := "parts.go:210", after := #[{ on := 8, ground := Ground.guard }], guard := some (8, true) } : Oper)) (v := ?_) rfl (by kernel_rfl) (by kernel_rfl) (by kernel_rfl) (fun _ _ _ h => h) (Or.inl ⟨by rfl, ?_⟩) (by assumption) ?_
                    rotate_left
                    · (intro w hSw; (try dsimp only at hSw); go_simp; try with_reducible rfl)
                    simp only [Act.put, List.setIfInBounds_toArray, List.set_cons_zero, List.set_cons_succ]
                    refine wpAnyH_take (i := 11) (oi := ({ dst := some 214, op := Op.move (Operand.tmp 3), type := 3, pos := "parts.go:210", after := #[{ on := 8, ground := Ground.guard }], guard := some (8, true) } : Oper)) (v := ?_) rfl (by kernel_rfl) (by kernel_rfl) (by kernel_rfl) (fun _ _ _ h => h) (Or.inl ⟨by rfl, ?_⟩) (by assumption) ?_
                    rotate_left
                    · (intro w hSw; (try dsimp only at hSw); go_simp; try with_reducible rfl)
                    simp only [Act.put, List.setIfInBounds_toArray, List.set_cons_zero, List.set_cons_succ]
                    refine wpAnyH_take (i := 12) (oi := ({ dst := some 215, op := Op.move (Operand.tmp 4), type := 3, pos := "parts.go:210", after := #[{ on := 8, ground := Ground.guard }], guard := some (8, true) } : Oper)) (v := ?_) rfl (by kernel_rfl) (by kernel_rfl) (by kernel_rfl) (fun _ _ _ h => h) (Or.inl ⟨by rfl, ?_⟩) (by assumption) ?_
                    rotate_left
                    · (intro w hSw; (try dsimp only at hSw); go_simp; try with_reducible rfl)
                    simp only [Act.put, List.setIfInBounds_toArray, List.set_cons_zero, List.set_cons_succ]
                    refine wpAnyH_take (i := 14) (oi := ({ dst := some 217, op := Op.load 37 (Operand.tmp 23), type := 37, pos := "parts.go:210", after := #[{ on := 8, ground := Ground.guard }], guard := some (8, true) } : Oper)) (v := ?_) rfl (by kernel_rfl) (by kernel_rfl) (by kernel_rfl) (fun _ _ _ h => h) (Or.inl ⟨by rfl, ?_⟩) (by assumption) ?_
                    rotate_left
                    · (intro w hSw; (try dsimp only at hSw); go_simp; try with_reducible rfl)
                    simp only [Act.put, List.setIfInBounds_toArray, List.set_cons_zero, List.set_cons_succ]
                    refine wpAnyH_ready (rs := [13]) (by kernel_rfl) (by simp) ?_
                    refine AllReadyH.cons (o := ({ dst := some 216, op := Op.call { callee := Callee.value (Operand.func 19), args := #[Operand.tmp 212, Operand.tmp 213, Operand.tmp 214, Operand.tmp 215], argTypes := #[37, 37, 3, 3] }, type := 37, pos := "parts.go:210", after := #[{ on := 9, ground := Ground.data }, { on := 10, ground := Ground.data }, { on := 11, ground := Ground.data }, { on := 12, ground := Ground.data }, { on := 8, ground := Ground.chain }, { on := 8, ground := Ground.guard }], guard := some (8, true) } : Oper)) rfl (fun K_ hK => ?_) AllReadyH.nil
                    go_simp
                    refine (put_any PW PH QW QH (.slice (some ⟨gt, ot, none⟩) n11 c11) (.slice (some ⟨gq_, oq, none⟩) nq cq) (chL (fun _ q => q) PW ps QW QH qs x y 0 0 (PW : Int) (PH : Int)) qs x y _ HCT HQC (HR12.out.on HB2.out) (HRQ12.out.on HB2.out) hx0 hx1 hy0 hy1).mono ?_
                    unfold picV
                    rintro e wy3 ⟨vy, rfl, hoy, hby3⟩
                    rw [chput_twice] at hoy
                    have HRY : Hid (RdP wy3 vy (chL (fun _ q => q) PW ps QW QH qs x y 0 0 (PW : Int) (PH : Int))) := rdP_own hoy
                    obtain ⟨aY, cY, hvY⟩ := own_any hoy
                    rw [HN11.out] at hvY
                    subst hvY
                    clear hoy
                    have HB3 : Hid (Below wt.heap.size wt wy3) := HB2.out.trans (hby3.mono HB2.out.size)
                    refine hK.out _ _ ?_ (fun hHeld => ?_)
                    · exact KEEP.out _ HB3.out
                    clear hK K_
                    try simp only [Act.put, List.setIfInBounds_toArray, List.set_cons_zero, List.set_cons_succ]
                    refine wpAnyH_ready (rs := [15]) (by kernel_rfl) (by simp) ?_
                    refine AllReadyH.cons (o := ({ dst := some 218, op := Op.call { callee := Callee.value (Operand.func 20), args := #[Operand.tmp 216, Operand.tmp 217], argTypes := #[37, 37] }, type := 4, pos := "parts.go:210", after := #[{ on := 13, ground := Ground.data }, { on := 14, ground := Ground.data }, { on := 13, ground := Ground.chain }, { on := 8, ground := Ground.guard }], guard := some (8, true) } : Oper)) rfl (fun K_ hK => ?_) AllReadyH.nil
                    go_simp
                    refine (samePic_any (PW : Int) (PH : Int) (.slice aY n11 cY) (.slice (some ⟨gt, ot, none⟩) n11 c11) (chL (fun _ q => q) PW ps QW QH qs x y 0 0 (PW : Int) (PH : Int)) _ hlT HRY (HR12.out.on HB3.out)).mono ?_
                    rintro e wy4 ⟨rfl, hby4⟩
                    have HB4 : Hid (Below wt.heap.size wt wy4) := HB3.out.trans (hby4.mono HB3.out.size)
                    refine hK.out _ _ ?_ (fun hHeld => ?_)
                    · exact KEEP.out _ HB4.out
                    clear hK K_
                    try simp only [Act.put, List.setIfInBounds_toArray, List.set_cons_zero, List.set_cons_succ]
                    refine wpAnyH_take (i := 16) (oi := ({ dst := some 219, op := Op.pick (Operand.tmp 211) (Operand.tmp 218) (Operand.const (Value.bool false)), type := 4, pos := "parts.go:210", after := #[{ on := 8, ground := Ground.data }, { on := 15, ground := Ground.data }], guard := none } : Oper)) (v := ?_) rfl (by kernel_rfl) (by kernel_rfl) (by kernel_rfl) (fun _ _ _ h => h) (Or.inl ⟨by rfl, ?_⟩) (by assumption) ?_
                    rotate_left
                    · (intro w hSw; (try dsimp only at hSw); go_simp; try with_reducible rfl)
                    simp only [Act.put, List.setIfInBounds_toArray, List.set_cons_zero, List.set_cons_succ]
                    refine wpAnyH_take (i := 17) (oi := ({ dst := some 14, op := Op.assign (Operand.tmp 219), type := 4, pos := "parts.go:210", after := #[{ on := 16, ground := Ground.data }, { on := 15, ground := Ground.chain }, { on := 0, ground := Ground.phase }, { on := 1, ground := Ground.phase }, { on := 2, ground := Ground.phase }, { on := 3, ground := Ground.phase }, { on := 4, ground := Ground.phase }, { on := 5, ground := Ground.phase }, { on := 6, ground := Ground.phase }, { on := 7, ground := Ground.phase }, { on := 8, ground := Ground.phase }, { on := 9, ground := Ground.phase }, { on := 10, ground := Ground.phase }, { on := 11, ground := Ground.phase }, { on := 12, ground := Ground.phase }, { on := 13, ground := Ground.phase }, { on := 14, ground := Ground.phase }, { on := 15, ground := Ground.phase }, { on := 16, ground := Ground.phase }], guard := none } : Oper)) (v := ?_) rfl (by kernel_rfl) (by kernel_rfl) (by kernel_rfl) (fun _ _ _ h => h) (Or.inl ⟨by rfl, ?_⟩) (by assumption) ?_
                    rotate_left
                    · (intro w hSw; (try dsimp only at hSw); go_simp; try with_reducible rfl)
                    simp only [Act.put, List.setIfInBounds_toArray, List.set_cons_zero, List.set_cons_succ]
                    refine wpAnyH_done (by kernel_rfl) ?_ _
                    go_wp2_with fail
                    go_ret
                    exact ⟨rfl, HG12.out.bel.trans (HB4.out.mono HG12.out.bel.size)⟩

      · have hbl := HG5.out.bel
        by_cases hh0 : x < -20
        · go_wp2_with fail
          go_ret
          exact ⟨rfl, hbl⟩
        · skip
          by_cases hh1 : 20 < x
          · go_wp2_with fail
            go_ret
            exact ⟨rfl, hbl⟩
          · skip
            by_cases hh2 : y < -20
            · go_wp2_with fail
              go_ret
              exact ⟨rfl, hbl⟩
            · skip
              by_cases hh3 : 20 < y
              · go_wp2_with fail
                go_ret
                exact ⟨rfl, hbl⟩
              · skip
                by_cases hh4 : i < -20
                · go_wp2_with fail
                  go_ret
                  exact ⟨rfl, hbl⟩
                · skip
                  by_cases hh5 : 20 < i
                  · go_wp2_with fail
                    go_ret
                    exact ⟨rfl, hbl⟩
                  · skip
                    by_cases hh6 : j < -20
                    · go_wp2_with fail
                      go_ret
                      exact ⟨rfl, hbl⟩
                    · have hh7 : 20 < j := by omega
                      go_wp2_with fail
                      go_ret
                      exact ⟨rfl, hbl⟩
    · rcases (show k = 0 ∨ k = 1 ∨ k = 2 by omega) with rfl | rfl | rfl
      · obtain ⟨a0, a1, a2, a3, a4, a5, a6, a7, a8⟩ := HA.out
        have b0 := (HBL.out.cell (p := ⟨B, 0, none⟩) hBlt).trans a0
        have b1 := (HBL.out.cell (p := ⟨B, 1, none⟩) hBlt).trans a1
        have b2 := (HBL.out.cell (p := ⟨B, 2, none⟩) hBlt).trans a2
        clear a0 a1 a2 a3 a4 a5 a6 a7 a8
        have HRz : Hid (RdP (wr.alloc (.cells #[.int .i64 pw, .int .i64 ph, .slice ap np cp] 37)) (.slice ap np cp) ps) := RP.out.on ((HG4.out.bel.trans (HBL.out.mono HG4.out.bel.size)).alloc (Nat.le_trans HG4.out.bel.size HBL.out.size) _)
        have hbz : Below W2.heap.size W2 (wr.alloc (.cells #[.int .i64 pw, .int .i64 ph, .slice ap np cp] 37)) := HBL.out.alloc HBL.out.size _
        have TZ := three_start wr (.int .i64 pw) (.int .i64 ph) (.slice ap np cp) 37
        have hfin : ∀ wz, Below W2.heap.size W2 wz → Below w.heap.size w wz := fun wz h => HG4.out.bel.trans (h.mono HG4.out.bel.size)
        have HFIN := hid_of hfin
        clear hfin
        by_cases hl : np ≤ 80
        · go_wp2_with fail
          refine (light_any pw ph ap np cp _ (by omega) true (by unfold Hid; simp [hl])).mono ?_
          rintro e w3 ⟨rfl, hb3⟩
          obtain ⟨z0, z1, z2, _, _, _, _⟩ := TZ.on hb3
          have HRy : Hid (RdP w3 (.slice ap np cp) ps) := HRz.out.on hb3
          have hby := hbz.trans (hb3.mono hbz.size)
          clear TZ HRz hbz hb3
          obtain ⟨cc, HCC⟩ : ∃ c, Hid (checkL pw ph ps = c) := ⟨_, (rfl : _ = _)⟩
          by_cases hcc : cc = 0
          · subst hcc
            go_wp2_with fail
            refine (check_nil _ _ _ ps _ (by rw [HNP.out]; omega) HRy HCC).mono ?_
            rintro e w4 ⟨rfl, hb4⟩
            go_wp2_with fail
            go_roundw
            case rel => exact ⟨1, by omega, by go_num, hby.trans (hb4.mono hby.size), (fun _ => ⟨hl, HCC.out⟩), (fun h => by omega), (fun h => by omega)⟩
            case measure => simp [intOf]
          · have hev : errV cc = .iface 61 (.int .i64 (cc : Int)) := by unfold errV; rw [if_neg hcc]
            go_wp2_with fail
            refine (check_any _ _ _ ps _ (by rw [HNP.out]; omega) HRy cc HCC).mono ?_
            rintro e w4 ⟨rfl, hb4⟩
            rw [hev]
            go_wp2_with fail
            go_ret
            exact ⟨rfl, HFIN.out _ (hby.trans (hb4.mono hby.size))⟩
        · go_wp2_with fail
          refine (light_any pw ph ap np cp _ (by omega) false (by unfold Hid; simp [hl])).mono ?_
          rintro e w3 ⟨rfl, hb3⟩
          go_wp2_with fail
          go_ret
          exact ⟨rfl, HFIN.out _ (hbz.trans (hb3.mono hbz.size))⟩
      · obtain ⟨a0, a1, a2, a3, a4, a5, a6, a7, a8⟩ := HA.out
        have b0 := (HBL.out.cell (p := ⟨B, 3, none⟩) hBlt).trans a3
        have b1 := (HBL.out.cell (p := ⟨B, 4, none⟩) hBlt).trans a4
        have b2 := (HBL.out.cell (p := ⟨B, 5, none⟩) hBlt).trans a5
        clear a0 a1 a2 a3 a4 a5 a6 a7 a8
        have HRz : Hid (RdP (wr.alloc (.cells #[.int .i64 qw, .int .i64 qh, .slice aq nq cq] 37)) (.slice aq nq cq) qs) := RQ.out.on ((HG4.out.bel.trans (HBL.out.mono HG4.out.bel.size)).alloc (Nat.le_trans HG4.out.bel.size HBL.out.size) _)
        have hbz : Below W2.heap.size W2 (wr.alloc (.cells #[.int .i64 qw, .int .i64 qh, .slice aq nq cq] 37)) := HBL.out.alloc HBL.out.size _
        have TZ := three_start wr (.int .i64 qw) (.int .i64 qh) (.slice aq nq cq) 37
        have hfin : ∀ wz, Below W2.heap.size W2 wz → Below w.heap.size w wz := fun wz h => HG4.out.bel.trans (h.mono HG4.out.bel.size)
        have HFIN := hid_of hfin
        clear hfin
        by_cases hl : nq ≤ 80
        · go_wp2_with fail
          refine (light_any qw qh aq nq cq _ (by omega) true (by unfold Hid; simp [hl])).mono ?_
          rintro e w3 ⟨rfl, hb3⟩
          obtain ⟨z0, z1, z2, _, _, _, _⟩ := TZ.on hb3
          have HRy : Hid (RdP w3 (.slice aq nq cq) qs) := HRz.out.on hb3
          have hby := hbz.trans (hb3.mono hbz.size)
          clear TZ HRz hbz hb3
          obtain ⟨cc, HCC⟩ : ∃ c, Hid (checkL qw qh qs = c) := ⟨_, (rfl : _ = _)⟩
          by_cases hcc : cc = 0
          · subst hcc
            go_wp2_with fail
            refine (check_nil _ _ _ qs _ (by rw [HNQ.out]; omega) HRy HCC).mono ?_
            rintro e w4 ⟨rfl, hb4⟩
            go_wp2_with fail
            go_roundw
            case rel => exact ⟨2, by omega, by go_num, hby.trans (hb4.mono hby.size), (fun _ => K1.out (by omega)), (fun _ => ⟨hl, HCC.out⟩), (fun h => by omega)⟩
            case measure => simp [intOf]
          · have hev : errV cc = .iface 61 (.int .i64 (cc : Int)) := by unfold errV; rw [if_neg hcc]
            go_wp2_with fail
            refine (check_any _ _ _ qs _ (by rw [HNQ.out]; omega) HRy cc HCC).mono ?_
            rintro e w4 ⟨rfl, hb4⟩
            rw [hev]
            go_wp2_with fail
            go_ret
            exact ⟨rfl, HFIN.out _ (hby.trans (hb4.mono hby.size))⟩
        · go_wp2_with fail
          refine (light_any qw qh aq nq cq _ (by omega) false (by unfold Hid; simp [hl])).mono ?_
          rintro e w3 ⟨rfl, hb3⟩
          go_wp2_with fail
          go_ret
          exact ⟨rfl, HFIN.out _ (hbz.trans (hb3.mono hbz.size))⟩
      · obtain ⟨a0, a1, a2, a3, a4, a5, a6, a7, a8⟩ := HA.out
        have b0 := (HBL.out.cell (p := ⟨B, 6, none⟩) hBlt).trans a6
        have b1 := (HBL.out.cell (p := ⟨B, 7, none⟩) hBlt).trans a7
        have b2 := (HBL.out.cell (p := ⟨B, 8, none⟩) hBlt).trans a8
        clear a0 a1 a2 a3 a4 a5 a6 a7 a8
        have HRz : Hid (RdP (wr.alloc (.cells #[.int .i64 rw', .int .i64 rh, .slice ar nr cr] 37)) (.slice ar nr cr) rs) := RR.out.on ((HG4.out.bel.trans (HBL.out.mono HG4.out.bel.size)).alloc (Nat.le_trans HG4.out.bel.size HBL.out.size) _)
        have hbz : Below W2.heap.size W2 (wr.alloc (.cells #[.int .i64 rw', .int .i64 rh, .slice ar nr cr] 37)) := HBL.out.alloc HBL.out.size _
        have TZ := three_start wr (.int .i64 rw') (.int .i64 rh) (.slice ar nr cr) 37
        have hfin : ∀ wz, Below W2.heap.size W2 wz → Below w.heap.size w wz := fun wz h => HG4.out.bel.trans (h.mono HG4.out.bel.size)
        have HFIN := hid_of hfin
        clear hfin
        by_cases hl : nr ≤ 80
        · go_wp2_with fail
          refine (light_any rw' rh ar nr cr _ (by omega) true (by unfold Hid; simp [hl])).mono ?_
          rintro e w3 ⟨rfl, hb3⟩
          obtain ⟨z0, z1, z2, _, _, _, _⟩ := TZ.on hb3
          have HRy : Hid (RdP w3 (.slice ar nr cr) rs) := HRz.out.on hb3
          have hby := hbz.trans (hb3.mono hbz.size)
          clear TZ HRz hbz hb3
          obtain ⟨cc, HCC⟩ : ∃ c, Hid (checkL rw' rh rs = c) := ⟨_, (rfl : _ = _)⟩
          by_cases hcc : cc = 0
          · subst hcc
            go_wp2_with fail
            refine (check_nil _ _ _ rs _ (by rw [HNR.out]; omega) HRy HCC).mono ?_
            rintro e w4 ⟨rfl, hb4⟩
            go_wp2_with fail
            go_roundw
            case rel => exact ⟨3, by omega, by go_num, hby.trans (hb4.mono hby.size), (fun _ => K1.out (by omega)), (fun _ => K2.out (by omega)), (fun _ => ⟨hl, HCC.out⟩)⟩
            case measure => simp [intOf]
          · have hev : errV cc = .iface 61 (.int .i64 (cc : Int)) := by unfold errV; rw [if_neg hcc]
            go_wp2_with fail
            refine (check_any _ _ _ rs _ (by rw [HNR.out]; omega) HRy cc HCC).mono ?_
            rintro e w4 ⟨rfl, hb4⟩
            rw [hev]
            go_wp2_with fail
            go_ret
            exact ⟨rfl, HFIN.out _ (hby.trans (hb4.mono hby.size))⟩
        · go_wp2_with fail
          refine (light_any rw' rh ar nr cr _ (by omega) false (by unfold Hid; simp [hl])).mono ?_
          rintro e w3 ⟨rfl, hb3⟩
          go_wp2_with fail
          go_ret
          exact ⟨rfl, HFIN.out _ (hbz.trans (hb3.mono hbz.size))⟩
end Go.Proofs.Ytnjnelfmfijgjac
