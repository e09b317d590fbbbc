/- Walk of blend.Lay. -/
import Derived.Test.YtadcmmkifcmknaaChangeL
import Derived.Test.YtadcmmkifcmknaaObjB
namespace Go.Proofs.Ytadcmmkifcmknaa
open Go.RowKit

/-- what Lay answers -/
def layL (PW : Nat) (ps : List (Int × Int)) (QW QH : Nat) (qs : List (Int × Int)) (x y a b c d : Int) (sh : Bool) : List (Int × Int) :=
  if sh then chL (fun p q => Fb.overL q.1 q.2 p.1 p.2) PW ps QW QH qs x y a b c d else ps

/-- what holds on the road -/
structure Gla (w : World) (pw ph : Int) (vp : Value) (id x y qw qh : Int) (vq : Value) (a b c d : Int) (sh : Bool) (ps qs : List (Int × Int)) (w' : World) : Prop where
  tp : Three w' w.heap.size (.int .i64 pw) (.int .i64 ph) vp
  eo : Eleven w' (w.heap.size + 1) (.int .i64 id) (.int .i64 x) (.int .i64 y) (.int .i64 qw) (.int .i64 qh) vq (.int .i64 a) (.int .i64 b) (.int .i64 c) (.int .i64 d) (.bool sh)
  rp : RdP w' vp ps
  rq : RdP w' vq qs
  bel : Below w.heap.size w w'
theorem Gla.on {w : World} {pw ph : Int} {vp : Value} {id x y qw qh : Int} {vq : Value} {a b c d : Int} {sh : Bool} {ps qs : List (Int × Int)} {w1 w2 : World} (h : Gla w pw ph vp id x y qw qh vq a b c d sh ps qs w1) (hb : Below w1.heap.size w1 w2) : Gla w pw ph vp id x y qw qh vq a b c d sh ps qs w2 :=
  ⟨h.tp.on hb, h.eo.on hb, h.rp.on hb, h.rq.on hb, h.bel.trans (hb.mono h.bel.size)⟩
theorem Gla.drew {w : World} {pw ph : Int} {vp : Value} {id x y qw qh : Int} {vq : Value} {a b c d : Int} {sh : Bool} {ps qs : List (Int × Int)} {w1 : World} (h : Gla w pw ph vp id x y qw qh vq a b c d sh ps qs w1) : Gla w pw ph vp id x y qw qh vq a b c d sh ps qs w1.drew :=
  ⟨h.tp.drew, h.eo.drew, h.rp, h.rq, h.bel.drew⟩

set_option maxHeartbeats 4000000 in
set_option maxRecDepth 100000 in
theorem lay_any (PW PH QW QH : Nat) (vp vq : Value) (ps qs : List (Int × Int)) (id x y a b c d : Int) (sh : Bool) (w : World) (HP : Hid (checkL PW PH ps = 0)) (HQ : Hid (checkL QW QH qs = 0)) (RP : Hid (RdP w vp ps)) (RQ : Hid (RdP w vq qs))
    (hx : -20 ≤ x) (hx2 : x ≤ 20) (hy : -20 ≤ y) (hy2 : y ≤ 20) (ha : -20 ≤ a) (ha2 : a ≤ 20) (hb : -20 ≤ b) (hb2 : b ≤ 20) (hc : 0 ≤ c) (hc2 : c ≤ 20) (hd : 0 ≤ d) (hd2 : d ≤ 20) :
    Calls Try.prog 42 #[picV PW PH vp, objV id x y QW QH vq a b c d sh] w
      fun e w' => ∃ v', e = .returned (picV PW PH v') ∧ w'.ownsRow (w.heap.size + 3) 33 2 v' (layL PW ps QW QH qs x y a b c d sh).length (pixCells (layL PW ps QW QH qs x y a b c d sh)) ∧ Below w.heap.size w w' := by
  obtain ⟨PW', PH', e1, e2, p1, p2, p3, p4, pl, _⟩ := check_zero _ _ _ HP.out
  obtain rfl : PW' = PW := by omega
  obtain rfl : PH' = PH := by omega
  clear e1 e2
  have hm1 : PW' * PH' ≤ 8 * 8 := Nat.mul_le_mul p2 p4
  have hm2 : 1 * 1 ≤ PW' * PH' := Nat.mul_le_mul p1 p3
  have hne : ps ≠ [] := by intro e; rw [e] at pl; simp at pl; omega
  have hlen : ps.length ≤ 100 := by omega
  obtain ⟨ap, cp, hvp, hlp, hcp, _⟩ := RP.out
  obtain ⟨aq, cq, hvq, hlq, hcq, _⟩ := RQ.out
  obtain ⟨np, HNP⟩ : ∃ n, Hid (ps.length = n) := ⟨_, (rfl : _ = _)⟩
  obtain ⟨nq, HNQ⟩ : ∃ n, Hid (qs.length = n) := ⟨_, (rfl : _ = _)⟩
  rw [HNP.out] at hvp hlp
  rw [HNQ.out] at hvq hlq
  clear pl hm1 hm2
  subst hvp hvq
  unfold picV objV
  cases sh with
  | false =>
    obtain ⟨L, HL⟩ : ∃ L, Hid (layL PW' ps QW QH qs x y a b c d false = L) := ⟨_, (rfl : _ = _)⟩
    rw [HL.out]
    go_enter Try.func42, Try.ntmps42
    have T2 := three_begin ((w.alloc (.cells #[.int .i64 (PW' : Int), .int .i64 (PH' : Int), .slice ap np cp] 25)).alloc (.cells #[.int .i64 id, .int .i64 x, .int .i64 y, .int .i64 (QW : Int), .int .i64 (QH : Int), .slice aq nq cq, .int .i64 a, .int .i64 b, .int .i64 c, .int .i64 d, .bool false] 29)) (.int .i64 0) (.int .i64 0) (.slice none 0 0) 25 (w.heap.size + 1 + 1) (by simp)
    obtain ⟨W0, HW0⟩ : ∃ W0, Hid (((w.alloc (.cells #[.int .i64 (PW' : Int), .int .i64 (PH' : Int), .slice ap np cp] 25)).alloc (.cells #[.int .i64 id, .int .i64 x, .int .i64 y, .int .i64 (QW : Int), .int .i64 (QH : Int), .slice aq nq cq, .int .i64 a, .int .i64 b, .int .i64 c, .int .i64 d, .bool false] 29)).alloc (.cells #[.int .i64 0, .int .i64 0, .slice none 0 0] 25) = W0) := ⟨_, (rfl : _ = _)⟩
    have hb0 : Below w.heap.size w W0 := by rw [← HW0.out]; exact (((Below.refl _ _).alloc (Nat.le_refl _) _).alloc (by simp) _).alloc (by simp; omega) _
    have hs0 : W0.heap.size = w.heap.size + 3 := by rw [← HW0.out]; simp
    rw [HW0.out] at T2
    have RP0 : Hid (RdP W0 (.slice ap np cp) ps) := RP.out.on hb0
    have RQ0 : Hid (RdP W0 (.slice aq nq cq) qs) := RQ.out.on hb0
    go_wp2_with fail
    rw [HW0.out]
    refine (bown_any (PW' : Int) (PH' : Int) _ ps W0 (by omega) hne RP0).mono ?_
    unfold picV
    rintro e w1 ⟨v1, rfl, ho1, hb1⟩
    have HL2 : ps = L := HL.out
    rw [HL2] at ho1
    have HO1 := hide_own (own_mono ho1 (show w.heap.size + 3 ≤ _ by omega))
    obtain ⟨n1, HN1⟩ : ∃ n, Hid (L.length = n) := ⟨_, (rfl : _ = _)⟩
    rw [HN1.out] at HO1
    obtain ⟨a1, c1, hv1⟩ := own_any HO1.out
    subst hv1
    clear ho1
    have hbb := hb0.trans (hb1.mono hb0.size)
    obtain ⟨d0, d1, d2, g0, g1, g2, lt2⟩ := T2.on hb1
    go_wp2_with fail
    refine bodyPost_ret (v := .agg #[.int .i64 (PW' : Int), .int .i64 (PH' : Int), .slice a1 n1 c1]) (by simp [results, Try.results42, go_sem, d0, d1, d2]) rfl ⟨_, rfl, ?_, ?_⟩
    · rw [HN1.out]
      refine ownsRow_setCell_below (ownsRow_setCell_below (ownsRow_setCell_below HO1.out ?_ _) ?_ _) ?_ _
      all_goals (simp; try omega)
    · refine ((hbb.setCell ?_ _).setCell ?_ _).setCell ?_ _
      all_goals (simp; try omega)
  | true =>
    obtain ⟨L, HL⟩ : ∃ L, Hid (layL PW' ps QW QH qs x y a b c d true = L) := ⟨_, (rfl : _ = _)⟩
    rw [HL.out]
    go_enter Try.func42, Try.ntmps42
    have T2 := three_begin ((w.alloc (.cells #[.int .i64 (PW' : Int), .int .i64 (PH' : Int), .slice ap np cp] 25)).alloc (.cells #[.int .i64 id, .int .i64 x, .int .i64 y, .int .i64 (QW : Int), .int .i64 (QH : Int), .slice aq nq cq, .int .i64 a, .int .i64 b, .int .i64 c, .int .i64 d, .bool true] 29)) (.int .i64 0) (.int .i64 0) (.slice none 0 0) 25 (w.heap.size + 1 + 1) (by simp)
    obtain ⟨W0, HW0⟩ : ∃ W0, Hid (((w.alloc (.cells #[.int .i64 (PW' : Int), .int .i64 (PH' : Int), .slice ap np cp] 25)).alloc (.cells #[.int .i64 id, .int .i64 x, .int .i64 y, .int .i64 (QW : Int), .int .i64 (QH : Int), .slice aq nq cq, .int .i64 a, .int .i64 b, .int .i64 c, .int .i64 d, .bool true] 29)).alloc (.cells #[.int .i64 0, .int .i64 0, .slice none 0 0] 25) = W0) := ⟨_, (rfl : _ = _)⟩
    have hb0 : Below w.heap.size w W0 := by rw [← HW0.out]; exact (((Below.refl _ _).alloc (Nat.le_refl _) _).alloc (by simp) _).alloc (by simp; omega) _
    have hs0 : W0.heap.size = w.heap.size + 3 := by rw [← HW0.out]; simp
    rw [HW0.out] at T2
    have RP0 : Hid (RdP W0 (.slice ap np cp) ps) := RP.out.on hb0
    have RQ0 : Hid (RdP W0 (.slice aq nq cq) qs) := RQ.out.on hb0
    go_wp2_with fail
    rw [HW0.out]
    refine (changeL_any PW' PH' QW QH (.slice ap np cp) (.slice aq nq cq) ps qs x y a b c d W0 HP HQ RP0 RQ0 hx hx2 hy hy2 ha ha2 hb hb2 hc hc2 hd hd2).mono ?_
    unfold picV
    rintro e w1 ⟨v1, rfl, ho1, hb1⟩
    have HL2 : chL (fun p q => Fb.overL q.1 q.2 p.1 p.2) PW' ps QW QH qs x y a b c d = L := HL.out
    rw [HL2] at ho1
    have HO1 := hide_own (own_mono ho1 (show w.heap.size + 3 ≤ _ by omega))
    obtain ⟨n1, HN1⟩ : ∃ n, Hid (L.length = n) := ⟨_, (rfl : _ = _)⟩
    rw [HN1.out] at HO1
    obtain ⟨a1, c1, hv1⟩ := own_any HO1.out
    subst hv1
    clear ho1
    have hbb := hb0.trans (hb1.mono hb0.size)
    obtain ⟨d0, d1, d2, g0, g1, g2, lt2⟩ := T2.on hb1
    go_wp2_with fail
    refine bodyPost_ret (v := .agg #[.int .i64 (PW' : Int), .int .i64 (PH' : Int), .slice a1 n1 c1]) (by simp [results, Try.results42, go_sem, d0, d1, d2]) rfl ⟨_, rfl, ?_, ?_⟩
    · rw [HN1.out]
      refine ownsRow_setCell_below (ownsRow_setCell_below (ownsRow_setCell_below HO1.out ?_ _) ?_ _) ?_ _
      all_goals (simp; try omega)
    · refine ((hbb.setCell ?_ _).setCell ?_ _).setCell ?_ _
      all_goals (simp; try omega)
end Go.Proofs.Ytadcmmkifcmknaa
