/- Some of the walks, in one text. -/
import Derived.Test.YtadcmmkifcmknaaM5
/- Walk of objects.Check. -/
namespace Go.Proofs.Ytadcmmkifcmknaa
open Go.RowKit

/-- the number of the error of an object -/
def objC (id x y pw ph : Int) (ps : List (Int × Int)) (cx cy cw ch : Int) : Nat :=
  if id < 1 ∨ 6 < id then 1 else if rectC x y 0 0 = 1 then 1 else if rectC cx cy cw ch = 1 then 1 else checkL pw ph ps

theorem rectC_cases (x y w h : Int) : rectC x y w h = 0 ∨ rectC x y w h = 1 := by unfold rectC; split <;> simp

theorem objC_zero (id x y pw ph : Int) (ps : List (Int × Int)) (cx cy cw ch : Int) (h : objC id x y pw ph ps cx cy cw ch = 0) :
    1 ≤ id ∧ id ≤ 6 ∧ -20 ≤ x ∧ x ≤ 20 ∧ -20 ≤ y ∧ y ≤ 20 ∧ -20 ≤ cx ∧ cx ≤ 20 ∧ -20 ≤ cy ∧ cy ≤ 20 ∧ 0 ≤ cw ∧ cw ≤ 20 ∧ 0 ≤ ch ∧ ch ≤ 20 ∧ checkL pw ph ps = 0 := by
  unfold objC at h
  split at h
  · omega
  split at h
  · omega
  split at h
  · omega
  have r1 : rectC x y 0 0 = 0 := by rcases rectC_cases x y 0 0 with h | h <;> omega
  have r2 : rectC cx cy cw ch = 0 := by rcases rectC_cases cx cy cw ch with h | h <;> omega
  rw [rectC_zero] at r1 r2
  omega

set_option maxHeartbeats 2000000 in
set_option maxRecDepth 100000 in
theorem ocheck_any (id x y pw ph : Int) (u : Value) (ps : List (Int × Int)) (cx cy cw ch : Int) (sh : Bool) (w : World) (hps : ps.length ≤ 1000000000) (HR : Hid (RdP w u ps)) (c : Nat) (HC : Hid (objC id x y pw ph ps cx cy cw ch = c)) :
    Calls Try.prog 9 #[objV id x y pw ph u cx cy cw ch sh] w fun e w' => e = .returned (errV c) ∧ Below w.heap.size w w' := by
  unfold objV
  obtain ⟨au, cu, hvu, hlu, hcu, _⟩ := HR.out
  obtain ⟨nu, HNU⟩ : ∃ n, Hid (ps.length = n) := ⟨_, (rfl : _ = _)⟩
  rw [HNU.out] at hvu
  subst hvu
  clear hlu hcu
  have E0 := eleven_start w (.int .i64 id) (.int .i64 x) (.int .i64 y) (.int .i64 pw) (.int .i64 ph) (.slice au nu cu) (.int .i64 cx) (.int .i64 cy) (.int .i64 cw) (.int .i64 ch) (.bool sh) 29 w.heap.size rfl
  obtain ⟨W0, HW0⟩ : ∃ W0, Hid (w.alloc (.cells #[.int .i64 id, .int .i64 x, .int .i64 y, .int .i64 pw, .int .i64 ph, .slice au nu cu, .int .i64 cx, .int .i64 cy, .int .i64 cw, .int .i64 ch, .bool sh] 29) = W0) := ⟨_, (rfl : _ = _)⟩
  have hb0 : Below w.heap.size w W0 := by rw [← HW0.out]; exact (Below.refl _ _).alloc (Nat.le_refl _) _
  rw [HW0.out] at E0
  have HE0 : Hid (Eleven W0 w.heap.size (.int .i64 id) (.int .i64 x) (.int .i64 y) (.int .i64 pw) (.int .i64 ph) (.slice au nu cu) (.int .i64 cx) (.int .i64 cy) (.int .i64 cw) (.int .i64 ch) (.bool sh)) := E0
  have HR0 : Hid (RdP W0 (.slice au nu cu) ps) := HR.out.on hb0
  clear E0
  go_enter Try.func9, Try.ntmps9
  have k0 := HE0.out.c0
  rw [← HW0.out] at k0
  by_cases h1 : id < 1
  · obtain rfl : 1 = c := by rw [← HC.out]; unfold objC; simp [h1]
    go_wp2_with fail
    rw [HW0.out]
    exact bodyPost_ret (v := errV 1) (by unfold errV; simp [results, Try.results9, go_sem]) rfl ⟨rfl, hb0⟩
  by_cases h2 : 6 < id
  · obtain rfl : 1 = c := by rw [← HC.out]; unfold objC; simp [h2]
    go_wp2_with fail
    rw [HW0.out]
    exact bodyPost_ret (v := errV 1) (by unfold errV; simp [results, Try.results9, go_sem]) rfl ⟨rfl, hb0⟩
  have k1 := HE0.out.c1
  have k2 := HE0.out.c2
  rw [← HW0.out] at k1 k2
  go_wp2_with fail
  rw [HW0.out]
  clear k0 k1 k2
  rcases rectC_cases x y 0 0 with r1 | r1
  case inr =>
    obtain rfl : 1 = c := by rw [← HC.out]; unfold objC; rw [if_neg (by omega), if_pos r1]
    refine (rcheck_at x y 0 0 _ 1 r1 (.iface 59 (.int .i64 1)) rfl).mono ?_
    rintro e w1 ⟨rfl, hb1⟩
    go_wp2_with fail
    exact bodyPost_ret (v := errV 1) (by unfold errV; simp [results, Try.results9, go_sem]) rfl ⟨rfl, hb0.trans (hb1.mono hb0.size)⟩
  refine (rcheck_at x y 0 0 _ 0 r1 .nilIface rfl).mono ?_
  rintro e w1 ⟨rfl, hb1⟩
  have HE1 : Hid (Eleven w1 w.heap.size (.int .i64 id) (.int .i64 x) (.int .i64 y) (.int .i64 pw) (.int .i64 ph) (.slice au nu cu) (.int .i64 cx) (.int .i64 cy) (.int .i64 cw) (.int .i64 ch) (.bool sh)) := HE0.out.on hb1
  have HR1 : Hid (RdP w1 (.slice au nu cu) ps) := HR0.out.on hb1
  replace hb1 := hb0.trans (hb1.mono hb0.size)
  clear HE0 HR0 HW0 hb0
  obtain ⟨_, _, _, k3, k4, k5, k6, k7, k8, k9, _, _, _, _, _, _, _, _, _, _, _, _, _⟩ := HE1.out
  go_wp2_with fail
  clear k6 k7 k8 k9 k3 k4 k5
  rcases rectC_cases cx cy cw ch with r2 | r2
  case inr =>
    obtain rfl : 1 = c := by rw [← HC.out]; unfold objC; rw [if_neg (by omega), if_neg (by omega), if_pos r2]
    refine (rcheck_at cx cy cw ch _ 1 r2 (.iface 59 (.int .i64 1)) rfl).mono ?_
    rintro e w2 ⟨rfl, hb2⟩
    go_wp2_with fail
    exact bodyPost_ret (v := errV 1) (by unfold errV; simp [results, Try.results9, go_sem]) rfl ⟨rfl, hb1.trans (hb2.mono hb1.size)⟩
  refine (rcheck_at cx cy cw ch _ 0 r2 .nilIface rfl).mono ?_
  rintro e w2 ⟨rfl, hb2⟩
  have HE2 : Hid (Eleven w2 w.heap.size (.int .i64 id) (.int .i64 x) (.int .i64 y) (.int .i64 pw) (.int .i64 ph) (.slice au nu cu) (.int .i64 cx) (.int .i64 cy) (.int .i64 cw) (.int .i64 ch) (.bool sh)) := HE1.out.on hb2
  have HR2 : Hid (RdP w2 (.slice au nu cu) ps) := HR1.out.on hb2
  replace hb2 := hb1.trans (hb2.mono hb1.size)
  clear HE1 HR1 hb1
  obtain ⟨_, _, _, k3, k4, k5, k6, k7, k8, k9, _, _, _, _, _, _, _, _, _, _, _, _, _⟩ := HE2.out
  go_wp2_with fail
  have HC2 : Hid (checkL pw ph ps = c) := by show _ = _; rw [← HC.out]; unfold objC; rw [if_neg (by omega), if_neg (by omega), if_neg (by omega)]
  refine (check_any pw ph _ ps _ (by omega) HR2 c HC2).mono ?_
  rintro e w3 ⟨rfl, hb3⟩
  go_wp2_with fail
  exact bodyPost_ret (v := errV c) (by simp [results, Try.results9, go_sem]) rfl ⟨rfl, hb2.trans (hb3.mono hb2.size)⟩
end Go.Proofs.Ytadcmmkifcmknaa
/- Walk of blend.Lay. -/
namespace Go.Proofs.Ytadcmmkifcmknaa
open Go.RowKit

/-- what Lay answers -/
def layL (PW : Nat) (ps : List (Int × Int)) (QW QH : Nat) (qs : List (Int × Int)) (x y a b c d : Int) (sh : Bool) : List (Int × Int) :=
  if sh then chL (fun p q => Fb.overL q.1 q.2 p.1 p.2) PW ps QW QH qs x y a b c d else ps

/-- what holds on the road -/
structure Gla (w : World) (pw ph : Int) (vp : Value) (id x y qw qh : Int) (vq : Value) (a b c d : Int) (sh : Bool) (ps qs : List (Int × Int)) (w' : World) : Prop where
  tp : Three w' w.heap.size (.int .i64 pw) (.int .i64 ph) vp
  eo : Eleven w' (w.heap.size + 1) (.int .i64 id) (.int .i64 x) (.int .i64 y) (.int .i64 qw) (.int .i64 qh) vq (.int .i64 a) (.int .i64 b) (.int .i64 c) (.int .i64 d) (.bool sh)
  rp : RdP w' vp ps
  rq : RdP w' vq qs
  bel : Below w.heap.size w w'
theorem Gla.on {w : World} {pw ph : Int} {vp : Value} {id x y qw qh : Int} {vq : Value} {a b c d : Int} {sh : Bool} {ps qs : List (Int × Int)} {w1 w2 : World} (h : Gla w pw ph vp id x y qw qh vq a b c d sh ps qs w1) (hb : Below w1.heap.size w1 w2) : Gla w pw ph vp id x y qw qh vq a b c d sh ps qs w2 :=
  ⟨h.tp.on hb, h.eo.on hb, h.rp.on hb, h.rq.on hb, h.bel.trans (hb.mono h.bel.size)⟩
theorem Gla.drew {w : World} {pw ph : Int} {vp : Value} {id x y qw qh : Int} {vq : Value} {a b c d : Int} {sh : Bool} {ps qs : List (Int × Int)} {w1 : World} (h : Gla w pw ph vp id x y qw qh vq a b c d sh ps qs w1) : Gla w pw ph vp id x y qw qh vq a b c d sh ps qs w1.drew :=
  ⟨h.tp.drew, h.eo.drew, h.rp, h.rq, h.bel.drew⟩

set_option maxHeartbeats 4000000 in
set_option maxRecDepth 100000 in
theorem lay_any (PW PH QW QH : Nat) (vp vq : Value) (ps qs : List (Int × Int)) (id x y a b c d : Int) (sh : Bool) (w : World) (HP : Hid (checkL PW PH ps = 0)) (HQ : Hid (checkL QW QH qs = 0)) (RP : Hid (RdP w vp ps)) (RQ : Hid (RdP w vq qs))
    (hx : -20 ≤ x) (hx2 : x ≤ 20) (hy : -20 ≤ y) (hy2 : y ≤ 20) (ha : -20 ≤ a) (ha2 : a ≤ 20) (hb : -20 ≤ b) (hb2 : b ≤ 20) (hc : 0 ≤ c) (hc2 : c ≤ 20) (hd : 0 ≤ d) (hd2 : d ≤ 20) :
    Calls Try.prog 42 #[picV PW PH vp, objV id x y QW QH vq a b c d sh] w
      fun e w' => ∃ v', e = .returned (picV PW PH v') ∧ w'.ownsRow (w.heap.size + 3) 33 2 v' (layL PW ps QW QH qs x y a b c d sh).length (pixCells (layL PW ps QW QH qs x y a b c d sh)) ∧ Below w.heap.size w w' := by
  obtain ⟨PW', PH', e1, e2, p1, p2, p3, p4, pl, _⟩ := check_zero _ _ _ HP.out
  obtain rfl : PW' = PW := by omega
  obtain rfl : PH' = PH := by omega
  clear e1 e2
  have hm1 : PW' * PH' ≤ 8 * 8 := Nat.mul_le_mul p2 p4
  have hm2 : 1 * 1 ≤ PW' * PH' := Nat.mul_le_mul p1 p3
  have hne : ps ≠ [] := by intro e; rw [e] at pl; simp at pl; omega
  have hlen : ps.length ≤ 100 := by omega
  obtain ⟨ap, cp, hvp, hlp, hcp, _⟩ := RP.out
  obtain ⟨aq, cq, hvq, hlq, hcq, _⟩ := RQ.out
  obtain ⟨np, HNP⟩ : ∃ n, Hid (ps.length = n) := ⟨_, (rfl : _ = _)⟩
  obtain ⟨nq, HNQ⟩ : ∃ n, Hid (qs.length = n) := ⟨_, (rfl : _ = _)⟩
  rw [HNP.out] at hvp hlp
  rw [HNQ.out] at hvq hlq
  clear pl hm1 hm2
  subst hvp hvq
  unfold picV objV
  cases sh with
  | false =>
    obtain ⟨L, HL⟩ : ∃ L, Hid (layL PW' ps QW QH qs x y a b c d false = L) := ⟨_, (rfl : _ = _)⟩
    rw [HL.out]
    go_enter Try.func42, Try.ntmps42
    have T2 := three_begin ((w.alloc (.cells #[.int .i64 (PW' : Int), .int .i64 (PH' : Int), .slice ap np cp] 25)).alloc (.cells #[.int .i64 id, .int .i64 x, .int .i64 y, .int .i64 (QW : Int), .int .i64 (QH : Int), .slice aq nq cq, .int .i64 a, .int .i64 b, .int .i64 c, .int .i64 d, .bool false] 29)) (.int .i64 0) (.int .i64 0) (.slice none 0 0) 25 (w.heap.size + 1 + 1) (by simp)
    obtain ⟨W0, HW0⟩ : ∃ W0, Hid (((w.alloc (.cells #[.int .i64 (PW' : Int), .int .i64 (PH' : Int), .slice ap np cp] 25)).alloc (.cells #[.int .i64 id, .int .i64 x, .int .i64 y, .int .i64 (QW : Int), .int .i64 (QH : Int), .slice aq nq cq, .int .i64 a, .int .i64 b, .int .i64 c, .int .i64 d, .bool false] 29)).alloc (.cells #[.int .i64 0, .int .i64 0, .slice none 0 0] 25) = W0) := ⟨_, (rfl : _ = _)⟩
    have hb0 : Below w.heap.size w W0 := by rw [← HW0.out]; exact (((Below.refl _ _).alloc (Nat.le_refl _) _).alloc (by simp) _).alloc (by simp; omega) _
    have hs0 : W0.heap.size = w.heap.size + 3 := by rw [← HW0.out]; simp
    rw [HW0.out] at T2
    have RP0 : Hid (RdP W0 (.slice ap np cp) ps) := RP.out.on hb0
    have RQ0 : Hid (RdP W0 (.slice aq nq cq) qs) := RQ.out.on hb0
    go_wp2_with fail
    rw [HW0.out]
    refine (bown_any (PW' : Int) (PH' : Int) _ ps W0 (by omega) hne RP0).mono ?_
    unfold picV
    rintro e w1 ⟨v1, rfl, ho1, hb1⟩
    have HL2 : ps = L := HL.out
    rw [HL2] at ho1
    have HO1 := hide_own (own_mono ho1 (show w.heap.size + 3 ≤ _ by omega))
    obtain ⟨n1, HN1⟩ : ∃ n, Hid (L.length = n) := ⟨_, (rfl : _ = _)⟩
    rw [HN1.out] at HO1
    obtain ⟨a1, c1, hv1⟩ := own_any HO1.out
    subst hv1
    clear ho1
    have hbb := hb0.trans (hb1.mono hb0.size)
    obtain ⟨d0, d1, d2, g0, g1, g2, lt2⟩ := T2.on hb1
    go_wp2_with fail
    refine bodyPost_ret (v := .agg #[.int .i64 (PW' : Int), .int .i64 (PH' : Int), .slice a1 n1 c1]) (by simp [results, Try.results42, go_sem, d0, d1, d2]) rfl ⟨_, rfl, ?_, ?_⟩
    · rw [HN1.out]
      refine ownsRow_setCell_below (ownsRow_setCell_below (ownsRow_setCell_below HO1.out ?_ _) ?_ _) ?_ _
      all_goals (simp; try omega)
    · refine ((hbb.setCell ?_ _).setCell ?_ _).setCell ?_ _
      all_goals (simp; try omega)
  | true =>
    obtain ⟨L, HL⟩ : ∃ L, Hid (layL PW' ps QW QH qs x y a b c d true = L) := ⟨_, (rfl : _ = _)⟩
    rw [HL.out]
    go_enter Try.func42, Try.ntmps42
    have T2 := three_begin ((w.alloc (.cells #[.int .i64 (PW' : Int), .int .i64 (PH' : Int), .slice ap np cp] 25)).alloc (.cells #[.int .i64 id, .int .i64 x, .int .i64 y, .int .i64 (QW : Int), .int .i64 (QH : Int), .slice aq nq cq, .int .i64 a, .int .i64 b, .int .i64 c, .int .i64 d, .bool true] 29)) (.int .i64 0) (.int .i64 0) (.slice none 0 0) 25 (w.heap.size + 1 + 1) (by simp)
    obtain ⟨W0, HW0⟩ : ∃ W0, Hid (((w.alloc (.cells #[.int .i64 (PW' : Int), .int .i64 (PH' : Int), .slice ap np cp] 25)).alloc (.cells #[.int .i64 id, .int .i64 x, .int .i64 y, .int .i64 (QW : Int), .int .i64 (QH : Int), .slice aq nq cq, .int .i64 a, .int .i64 b, .int .i64 c, .int .i64 d, .bool true] 29)).alloc (.cells #[.int .i64 0, .int .i64 0, .slice none 0 0] 25) = W0) := ⟨_, (rfl : _ = _)⟩
    have hb0 : Below w.heap.size w W0 := by rw [← HW0.out]; exact (((Below.refl _ _).alloc (Nat.le_refl _) _).alloc (by simp) _).alloc (by simp; omega) _
    have hs0 : W0.heap.size = w.heap.size + 3 := by rw [← HW0.out]; simp
    rw [HW0.out] at T2
    have RP0 : Hid (RdP W0 (.slice ap np cp) ps) := RP.out.on hb0
    have RQ0 : Hid (RdP W0 (.slice aq nq cq) qs) := RQ.out.on hb0
    go_wp2_with fail
    rw [HW0.out]
    refine (changeL_any PW' PH' QW QH (.slice ap np cp) (.slice aq nq cq) ps qs x y a b c d W0 HP HQ RP0 RQ0 hx hx2 hy hy2 ha ha2 hb hb2 hc hc2 hd hd2).mono ?_
    unfold picV
    rintro e w1 ⟨v1, rfl, ho1, hb1⟩
    have HL2 : chL (fun p q => Fb.overL q.1 q.2 p.1 p.2) PW' ps QW QH qs x y a b c d = L := HL.out
    rw [HL2] at ho1
    have HO1 := hide_own (own_mono ho1 (show w.heap.size + 3 ≤ _ by omega))
    obtain ⟨n1, HN1⟩ : ∃ n, Hid (L.length = n) := ⟨_, (rfl : _ = _)⟩
    rw [HN1.out] at HO1
    obtain ⟨a1, c1, hv1⟩ := own_any HO1.out
    subst hv1
    clear ho1
    have hbb := hb0.trans (hb1.mono hb0.size)
    obtain ⟨d0, d1, d2, g0, g1, g2, lt2⟩ := T2.on hb1
    go_wp2_with fail
    refine bodyPost_ret (v := .agg #[.int .i64 (PW' : Int), .int .i64 (PH' : Int), .slice a1 n1 c1]) (by simp [results, Try.results42, go_sem, d0, d1, d2]) rfl ⟨_, rfl, ?_, ?_⟩
    · rw [HN1.out]
      refine ownsRow_setCell_below (ownsRow_setCell_below (ownsRow_setCell_below HO1.out ?_ _) ?_ _) ?_ _
      all_goals (simp; try omega)
    · refine ((hbb.setCell ?_ _).setCell ?_ _).setCell ?_ _
      all_goals (simp; try omega)
end Go.Proofs.Ytadcmmkifcmknaa
/- What Lay answers, as a list. -/
namespace Go.Proofs.Ytadcmmkifcmknaa
open Go.RowKit

theorem lay_len (PW : Nat) (ps : List (Int × Int)) (QW QH : Nat) (qs : List (Int × Int)) (x y a b c d : Int) (sh : Bool) : (layL PW ps QW QH qs x y a b c d sh).length = ps.length := by
  unfold layL; cases sh <;> simp [ch_len]
theorem over_ok (p q : Int × Int) (h : pixOk p) (h' : pixOk q) : pixOk ((fun (p q : Int × Int) => Fb.overL q.1 q.2 p.1 p.2) p q) := by
  obtain ⟨p0, p1, p2, p3⟩ := h
  obtain ⟨q0, q1, q2, q3⟩ := h'
  obtain ⟨_, _, r1, r2, r3, r4, _⟩ := Fb.over_bounds q.1 q.2 p.1 p.2 q0 q1 q2 q3 p0 p1 p2 p3
  exact ⟨r3, r4, r2, r1⟩
theorem lay_check (PW PH : Nat) (ps : List (Int × Int)) (QW QH : Nat) (qs : List (Int × Int)) (x y a b c d : Int) (sh : Bool) (hp : checkL (PW : Int) (PH : Int) ps = 0) (hq : checkL (QW : Int) (QH : Int) qs = 0) : checkL (PW : Int) (PH : Int) (layL PW ps QW QH qs x y a b c d sh) = 0 := by
  unfold layL
  cases sh
  · simpa using hp
  · simp only [if_true]
    exact ch_check _ over_ok PW PH ps QW QH qs x y a b c d hp hq

theorem lay_getD (PW : Nat) (ps : List (Int × Int)) (QW QH : Nat) (qs : List (Int × Int)) (x y a b c d : Int) (sh : Bool) (k : Nat) (hk : k < ps.length) :
    (layL PW ps QW QH qs x y a b c d sh).getD k (0, 0) = if (sh && (hasB a b c d ((k % PW : Nat) : Int) ((k / PW : Nat) : Int) && hasB x y (QW : Int) (QH : Int) ((k % PW : Nat) : Int) ((k / PW : Nat) : Int))) = true then gq (fun p q => Fb.overL q.1 q.2 p.1 p.2) PW ps QW qs x y k else ps.getD k (0, 0) := by
  unfold layL
  cases sh
  · simp
  · simp only [if_true, Bool.true_and]
    exact ch_getD _ PW ps QW QH qs x y a b c d k hk
end Go.Proofs.Ytadcmmkifcmknaa
/- A picture that is gone over place by place, as the reference does. -/
namespace Go.Proofs.Ytadcmmkifcmknaa
open Go.RowKit

def uptoC (C : Nat → Nat → Bool) (R U : Nat) (c r : Nat) : Bool := C c r && (decide (r < R) || decide (r = R) && decide (c < U))
theorem uptoC_iff (C : Nat → Nat → Bool) (R U c r : Nat) : uptoC C R U c r = true ↔ C c r = true ∧ (r < R ∨ r = R ∧ c < U) := by
  unfold uptoC; simp
theorem refG_start (PW n : Nat) (C : Nat → Nat → Bool) (g : Nat → Int × Int) (ps : List (Int × Int)) (hl : ps.length = n) : gridL PW n (uptoC C 0 0) g ps = ps := by
  apply grid_start _ _ _ _ _ hl
  intro k _
  unfold uptoC; simp
theorem refG_set (PW PH R U : Nat) (C : Nat → Nat → Bool) (g : Nat → Int × Int) (ps : List (Int × Int)) (hU : U < PW) (hR : R < PH) (hC : C U R = true) :
    (gridL PW (PW * PH) (uptoC C R U) g ps).set (R * PW + U) (g (R * PW + U)) = gridL PW (PW * PH) (uptoC C R (U + 1)) g ps := by
  rw [grid_set _ _ _ _ _ _ _ hU (by
    have : (R + 1) * PW ≤ PH * PW := Nat.mul_le_mul_right _ hR
    rw [Nat.mul_comm PW PH]; rw [Nat.add_mul] at this; omega)]
  apply grid_congr
  intro k _
  rw [Bool.eq_iff_iff, Bool.or_eq_true, uptoC_iff, uptoC_iff]
  simp only [Bool.and_eq_true, beq_iff_eq]
  constructor
  · rintro (⟨h, h'⟩ | ⟨h, h'⟩)
    · exact ⟨h, by omega⟩
    · rw [h, h']; exact ⟨hC, by omega⟩
  · rintro ⟨h, h'⟩
    by_cases e : k % PW = U ∧ k / PW = R
    · exact .inr e
    · exact .inl ⟨h, by omega⟩
theorem refG_skip (PW PH R U : Nat) (C : Nat → Nat → Bool) (g : Nat → Int × Int) (ps : List (Int × Int)) (hC : C U R = false) :
    gridL PW (PW * PH) (uptoC C R U) g ps = gridL PW (PW * PH) (uptoC C R (U + 1)) g ps := by
  apply grid_congr
  intro k _
  rw [Bool.eq_iff_iff, uptoC_iff, uptoC_iff]
  constructor
  · rintro ⟨h, h'⟩; exact ⟨h, by omega⟩
  · rintro ⟨h, h'⟩
    by_cases e : k % PW = U ∧ k / PW = R
    · rw [e.1, e.2, hC] at h; cases h
    · exact ⟨h, by omega⟩
theorem refG_row (PW PH R : Nat) (C : Nat → Nat → Bool) (g : Nat → Int × Int) (ps : List (Int × Int)) (hP : 0 < PW) : gridL PW (PW * PH) (uptoC C R PW) g ps = gridL PW (PW * PH) (uptoC C (R + 1) 0) g ps := by
  apply grid_congr
  intro k hk
  have := mod_div_lt PW PH k hk hP
  rw [Bool.eq_iff_iff, uptoC_iff, uptoC_iff]
  constructor
  · rintro ⟨h, h'⟩; exact ⟨h, by omega⟩
  · rintro ⟨h, h'⟩; exact ⟨h, by omega⟩
theorem refG_end (PW PH : Nat) (C : Nat → Nat → Bool) (g : Nat → Int × Int) (ps : List (Int × Int)) (hP : 0 < PW) : gridL PW (PW * PH) (uptoC C PH 0) g ps = gridL PW (PW * PH) C g ps := by
  apply grid_congr
  intro k hk
  have := mod_div_lt PW PH k hk hP
  rw [Bool.eq_iff_iff, uptoC_iff]
  constructor
  · rintro ⟨h, _⟩; exact h
  · intro h; exact ⟨h, by omega⟩

/-- where an object is seen -/
def layC (QW QH : Nat) (x y a b c d : Int) (sh : Bool) (cc rr : Nat) : Bool := sh && (hasB a b c d (cc : Int) (rr : Int) && hasB x y (QW : Int) (QH : Int) (cc : Int) (rr : Int))
theorem layC_end (PW PH : Nat) (ps : List (Int × Int)) (QW QH : Nat) (qs : List (Int × Int)) (x y a b c d : Int) (sh : Bool) (hP : 0 < PW) (hl : ps.length = PW * PH) :
    gridL PW (PW * PH) (uptoC (layC QW QH x y a b c d sh) PH 0) (gq (fun p q => Fb.overL q.1 q.2 p.1 p.2) PW ps QW qs x y) ps = layL PW ps QW QH qs x y a b c d sh := by
  rw [refG_end _ _ _ _ _ hP]
  unfold layL chL
  cases sh
  · apply grid_start _ _ _ _ _ hl
    intro k _
    unfold layC; simp
  · simp only [if_true]
    rw [hl]
    apply grid_congr
    intro k _
    unfold layC; simp
theorem chC_end (f : Int × Int → Int × Int → Int × Int) (PW PH : Nat) (ps : List (Int × Int)) (QW QH : Nat) (qs : List (Int × Int)) (x y : Int) (hP : 0 < PW) (hl : ps.length = PW * PH) :
    gridL PW (PW * PH) (uptoC (fun cc rr => hasB x y (QW : Int) (QH : Int) (cc : Int) (rr : Int)) PH 0) (gq f PW ps QW qs x y) ps = chL f PW ps QW QH qs x y 0 0 (PW : Int) (PH : Int) := by
  rw [refG_end _ _ _ _ _ hP]
  unfold chL
  rw [hl]
  apply grid_congr
  intro k hk
  have := mod_div_lt PW PH k hk hP
  show hasB x y (QW : Int) (QH : Int) ((k % PW : Nat) : Int) ((k / PW : Nat) : Int) = (hasB 0 0 (PW : Int) (PH : Int) ((k % PW : Nat) : Int) ((k / PW : Nat) : Int) && hasB x y (QW : Int) (QH : Int) ((k % PW : Nat) : Int) ((k / PW : Nat) : Int))
  generalize k % PW = u at *
  generalize k / PW = v at *
  have h : hasB 0 0 (PW : Int) (PH : Int) (u : Int) (v : Int) = true := (hasB_iff _ _ _ _ _ _).2 (by omega)
  rw [h]; simp
end Go.Proofs.Ytadcmmkifcmknaa
/- Walks of the reference's RectFault and Has. -/
namespace Go.Proofs.Ytadcmmkifcmknaa
open Go.RowKit

set_option maxRecDepth 100000 in
theorem refHas_any (x y w h p q : Int) (W : World) (hx : -10000 ≤ x) (hx2 : x ≤ 10000) (hy : -10000 ≤ y) (hy2 : y ≤ 10000) (hw : 0 ≤ w) (hw2 : w ≤ 10000) (hh : 0 ≤ h) (hh2 : h ≤ 10000) (b : Bool) (HB : Hid (hasB x y w h p q = b)) :
    Calls Try.prog 60 #[rectV x y w h, .int .i64 p, .int .i64 q] W fun e w' => e = .returned (.bool b) ∧ Below W.heap.size W w' := by
  unfold rectV
  by_cases h1 : x ≤ p
  · by_cases h2 : p < x + w
    · by_cases h3 : y ≤ q
      · by_cases h4 : q < y + h
        · have hb : b = true := by rw [← HB.out, hasB_iff]; omega
          subst hb
          go_enter Try.func60, Try.ntmps60
          go_wp2
          go_ret
          exact ⟨rfl, (Below.refl _ _).alloc (Nat.le_refl _) _⟩
        · have hb : b = false := by rw [← HB.out, hasB_no]; omega
          subst hb
          go_enter Try.func60, Try.ntmps60
          go_wp2
          go_ret
          exact ⟨rfl, (Below.refl _ _).alloc (Nat.le_refl _) _⟩
      · have hb : b = false := by rw [← HB.out, hasB_no]; omega
        subst hb
        go_enter Try.func60, Try.ntmps60
        go_wp2
        go_ret
        exact ⟨rfl, (Below.refl _ _).alloc (Nat.le_refl _) _⟩
    · have hb : b = false := by rw [← HB.out, hasB_no]; omega
      subst hb
      go_enter Try.func60, Try.ntmps60
      go_wp2
      go_ret
      exact ⟨rfl, (Below.refl _ _).alloc (Nat.le_refl _) _⟩
  · have hb : b = false := by rw [← HB.out, hasB_no]; omega
    subst hb
    go_enter Try.func60, Try.ntmps60
    go_wp2
    go_ret
    exact ⟨rfl, (Below.refl _ _).alloc (Nat.le_refl _) _⟩

set_option maxHeartbeats 1000000 in
set_option maxRecDepth 100000 in
theorem rfault_any (x y w h : Int) (W : World) (c : Nat) (HC : Hid (rectC x y w h = c)) :
    Calls Try.prog 29 #[rectV x y w h] W fun e w' => e = .returned (.int .i64 (c : Int)) ∧ Below W.heap.size W w' := by
  unfold rectV
  by_cases h0 : -20 ≤ x
  · by_cases h1 : x ≤ 20
    · by_cases h2 : -20 ≤ y
      · by_cases h3 : y ≤ 20
        · by_cases h4 : 0 ≤ w
          · by_cases h5 : w ≤ 20
            · by_cases h6 : 0 ≤ h
              · by_cases h7 : h ≤ 20
                · have hc : c = 0 := by rw [← HC.out, rectC_zero]; omega
                  subst hc
                  go_enter Try.func29, Try.ntmps29
                  go_wp2
                  go_ret
                  exact ⟨rfl, (Below.refl _ _).alloc (Nat.le_refl _) _⟩
                · have hc : c = 1 := by rw [← HC.out]; exact rectC_one x y w h (by omega)
                  subst hc
                  go_enter Try.func29, Try.ntmps29
                  go_wp2
                  go_ret
                  exact ⟨rfl, (Below.refl _ _).alloc (Nat.le_refl _) _⟩
              · have hc : c = 1 := by rw [← HC.out]; exact rectC_one x y w h (by omega)
                subst hc
                go_enter Try.func29, Try.ntmps29
                go_wp2
                go_ret
                exact ⟨rfl, (Below.refl _ _).alloc (Nat.le_refl _) _⟩
            · have hc : c = 1 := by rw [← HC.out]; exact rectC_one x y w h (by omega)
              subst hc
              go_enter Try.func29, Try.ntmps29
              go_wp2
              go_ret
              exact ⟨rfl, (Below.refl _ _).alloc (Nat.le_refl _) _⟩
          · have hc : c = 1 := by rw [← HC.out]; exact rectC_one x y w h (by omega)
            subst hc
            go_enter Try.func29, Try.ntmps29
            go_wp2
            go_ret
            exact ⟨rfl, (Below.refl _ _).alloc (Nat.le_refl _) _⟩
        · have hc : c = 1 := by rw [← HC.out]; exact rectC_one x y w h (by omega)
          subst hc
          go_enter Try.func29, Try.ntmps29
          go_wp2
          go_ret
          exact ⟨rfl, (Below.refl _ _).alloc (Nat.le_refl _) _⟩
      · have hc : c = 1 := by rw [← HC.out]; exact rectC_one x y w h (by omega)
        subst hc
        go_enter Try.func29, Try.ntmps29
        go_wp2
        go_ret
        exact ⟨rfl, (Below.refl _ _).alloc (Nat.le_refl _) _⟩
    · have hc : c = 1 := by rw [← HC.out]; exact rectC_one x y w h (by omega)
      subst hc
      go_enter Try.func29, Try.ntmps29
      go_wp2
      go_ret
      exact ⟨rfl, (Below.refl _ _).alloc (Nat.le_refl _) _⟩
  · have hc : c = 1 := by rw [← HC.out]; exact rectC_one x y w h (by omega)
    subst hc
    go_enter Try.func29, Try.ntmps29
    go_wp2
    go_ret
    exact ⟨rfl, (Below.refl _ _).alloc (Nat.le_refl _) _⟩
end Go.Proofs.Ytadcmmkifcmknaa
/- append to nothing, in a drawn region. -/
namespace Go.Proofs.Ytadcmmkifcmknaa
open Go.RowKit

theorem ready_append {P : Program} {o : Oper} {a : Act} {w w' : World} {K' : Act → World → Prop} {Q : Exit → Act → World → Prop} {ys : Nat → Option Bool} (hg : o.guard = none) (s x : Operand) (t : TypeId)
    (ho : o.op = .call { callee := .builtin .append, args := #[s, x], argTypes := #[t, t] }) (v1 v2 v' : Value) (hs : a.eval s = v1) (hx : a.eval x = v2) (hr : (Builtin.append_ #[t, t] o.type #[v1, v2]).run P w = .ok v' w')
    (hK : K' (a.put o.dst v') w') : if Region.wanted o ys = true then Oper.wp P o a w K' Q else K' (a.put o.dst undef) w := by
  simp only [Region.wanted, hg, if_true]
  unfold Oper.wp execOp
  simp only [ho, resolve, invoke, builtin, Sem.run_bind, Sem.run_pure, Result.andThen_ok, List.map_toArray, List.map_cons, List.map_nil, hs, hx, hr]
  exact hK
theorem app_pix (X : World) (ps : List (Int × Int)) (np gp op cp : Nat) (HN : Hid (ps.length = np)) (hps : np ≤ 64) (hne : ps ≠ []) (HR : Hid (RdP X (.slice (some ⟨gp, op, none⟩) np cp) ps)) :
    ∃ g co w', (Builtin.append_ #[23, 23] 23 #[.slice none 0 0, .slice (some ⟨gp, op, none⟩) np cp]).run Try.prog X = .ok (.slice (some ⟨g, 0, none⟩) np co) w' ∧
      w'.ownsRow X.heap.size 33 2 (.slice (some ⟨g, 0, none⟩) np co) np (pixCells ps) ∧ Below X.heap.size X w' ∧ X.heap.size ≤ g := by
  obtain ⟨i0, hi, hz0, hz1, hz2⟩ := info_parts Try.infoPix
  have hn := HN.out
  subst hn
  have hl0 : ps.length ≠ 0 := by intro e; exact hne (List.length_eq_zero_iff.1 e)
  have h0 : X.ownsRow X.heap.size 33 2 (.slice none 0 0) 0 [] := ⟨by simp, .inl ⟨rfl, rfl⟩⟩
  obtain ⟨v', w', hr, h1, h2, h3⟩ := run_append_own (P := Try.prog) X X.heap.size 23 23 33 i0 (.agg #[.int .i64 0, .int .i64 0]) 2 16 Try.underlying23 hi hz0 hz1 hz2 rfl (by decide) _ 0 [] h0 ⟨gp, op, none⟩ ps.length cp (pixCells ps) (pixCells_length ps) (rd_cells HR.out hne) (pixCells_one ps) (by unfold maxLen; omega) (by omega) (Nat.le_refl _)
  rw [Nat.zero_add, List.nil_append] at h1
  obtain ⟨g, co, rfl, hg, _, _⟩ := own_shape h1 hl0
  exact ⟨g, co, w', hr, h1, (Below.refl _ _).grown h2 (Nat.le_refl _) (by intro k hk; simp [Value.ownBlock] at hk), hg⟩
end Go.Proofs.Ytadcmmkifcmknaa
/- Walk of the reference's Changed. -/
namespace Go.Proofs.Ytadcmmkifcmknaa
open Go.RowKit

/-- what holds on the road of Changed -/
structure Gce (w : World) (vp vq : Value) (PW PH QW QH : Nat) (ps qs : List (Int × Int)) (B g np co bo : Nat) (cur : List (Int × Int)) (w' : World) : Prop where
  gl : Gad w vp vq PW PH QW QH ps qs w'
  to : Three w' bo (.int .i64 (PW : Int)) (.int .i64 (PH : Int)) (.slice (some ⟨g, 0, none⟩) np co)
  own : w'.ownsRow B 33 2 (.slice (some ⟨g, 0, none⟩) np co) np (pixCells cur)
section
variable {w : World} {vp vq : Value} {PW PH QW QH : Nat} {ps qs : List (Int × Int)} {B g np co bo : Nat} {cur : List (Int × Int)} {w1 w2 : World}
theorem Gce.on (h : Gce w vp vq PW PH QW QH ps qs B g np co bo cur w1) (hb : Below w1.heap.size w1 w2) : Gce w vp vq PW PH QW QH ps qs B g np co bo cur w2 := ⟨h.gl.on hb, h.to.on hb, own_on2 h.own hb⟩
theorem Gce.drew (h : Gce w vp vq PW PH QW QH ps qs B g np co bo cur w1) : Gce w vp vq PW PH QW QH ps qs B g np co bo cur w1.drew := ⟨h.gl.drew, h.to.drew, h.own⟩
theorem Gce.slot (h : Gce w vp vq PW PH QW QH ps qs B g np co bo cur w1) (hl : cur.length = np) {K : Nat} (hK : K < np) :
    ∃ u0 u1, w1.cell? ⟨g, K * 2, none⟩ = some u0 ∧ w1.cell? ⟨g, K * 2 + 1, none⟩ = some u1 ∧ w1.frozen? ⟨g, K * 2, none⟩ = false ∧ w1.frozen? ⟨g, K * 2 + 1, none⟩ = false := by
  have hk : K < cur.length := by rw [hl]; exact hK
  exact ⟨_, _, (h.own.cellAt (K * 2) (by omega)).trans (pixCells_at _ K hk).1, (h.own.cellAt (K * 2 + 1) (by omega)).trans (pixCells_at _ K hk).2, h.own.frozenAt _, h.own.frozenAt _⟩
theorem Gce.store (h : Gce w vp vq PW PH QW QH ps qs B g np co bo cur w1) (hp : RdP w vp ps) (hq : RdP w vq qs) (hg : w.heap.size + 3 ≤ g) (hgb : g ≠ bo) (K : Nat) (v u : Int) :
    Gce w vp vq PW PH QW QH ps qs B g np co bo (cur.set K (v, u)) ((w1.setCell ⟨g, K * 2, none⟩ (.int .i64 v)).setCell ⟨g, K * 2 + 1, none⟩ (.int .i64 u)) := by
  have hb : Below w.heap.size w ((w1.setCell ⟨g, K * 2, none⟩ (.int .i64 v)).setCell ⟨g, K * 2 + 1, none⟩ (.int .i64 u)) := (h.gl.bel.setCell (show w.heap.size ≤ g by omega) _).setCell (show w.heap.size ≤ g by omega) _
  refine ⟨⟨(h.gl.tp.other (by omega)).other (by omega), (h.gl.tq.other (by omega)).other (by omega), (h.gl.tr.other (by omega)).other (by omega), hp.on hb, hq.on hb, hb⟩, (h.to.other (by omega)).other (by omega), ?_⟩
  have h1 := (h.own.stored (K * 2) (.int .i64 v)).1
  have h2 := (h1.stored (K * 2 + 1) (.int .i64 u)).1
  rw [pixCells_set] at h2
  exact h2
end

set_option maxHeartbeats 40000000 in
set_option maxRecDepth 100000 in
theorem changed_own (PW PH QW QH : Nat) (vp vq : Value) (ps qs : List (Int × Int)) (x y : Int) (ad : Bool) (f : Int × Int → Int × Int → Int × Int) (hf : f = if ad then addP else fun _ q => q) (w : World) (HP : Hid (checkL PW PH ps = 0)) (HQ : Hid (checkL QW QH qs = 0)) (RP : Hid (RdP w vp ps)) (RQ : Hid (RdP w vq qs))
    (hx : -20 ≤ x) (hx2 : x ≤ 20) (hy : -20 ≤ y) (hy2 : y ≤ 20) :
    Calls Try.prog 39 #[picV PW PH vp, picV QW QH vq, .int .i64 x, .int .i64 y, .bool ad] w
      fun e w' => ∃ v', e = .returned (picV PW PH v') ∧ w'.ownsRow w.heap.size 33 2 v' (chL f PW ps QW QH qs x y 0 0 (PW : Int) (PH : Int)).length (pixCells (chL f PW ps QW QH qs x y 0 0 (PW : Int) (PH : Int))) ∧ Below w.heap.size w w' := by
  obtain ⟨PW', PH', e1, e2, p1, p2, p3, p4, pl, pok⟩ := check_zero _ _ _ HP.out
  obtain ⟨QW', QH', e3, e4, q1, q2, q3, q4, ql, qok⟩ := check_zero _ _ _ HQ.out
  obtain rfl : PW' = PW := by omega
  obtain rfl : PH' = PH := by omega
  obtain rfl : QW' = QW := by omega
  obtain rfl : QH' = QH := by omega
  clear e1 e2 e3 e4
  have POK : Hid (∀ k, k < ps.length → pixOk (ps.getD k (0, 0))) := pok
  have QOK : Hid (∀ k, k < qs.length → pixOk (qs.getD k (0, 0))) := qok
  clear pok qok
  have hm1 : PW' * PH' ≤ 8 * 8 := Nat.mul_le_mul p2 p4
  have hm2 : 1 * 1 ≤ PW' * PH' := Nat.mul_le_mul p1 p3
  have hm3 : QW' * QH' ≤ 8 * 8 := Nat.mul_le_mul q2 q4
  have hqne : qs ≠ [] := by
    intro e; rw [e] at ql
    have : 1 * 1 ≤ QW' * QH' := Nat.mul_le_mul q1 q3
    simp at ql; omega
  have hne : ps ≠ [] := by intro e; rw [e] at pl; simp at pl; omega
  obtain ⟨ap, cp, hvp, hlp, hcp, _⟩ := RP.out
  obtain ⟨aq, cq, hvq, hlq, hcq, _⟩ := RQ.out
  obtain ⟨np, HNP⟩ : ∃ n, Hid (ps.length = n) := ⟨_, (rfl : _ = _)⟩
  obtain ⟨nq, HNQ⟩ : ∃ n, Hid (qs.length = n) := ⟨_, (rfl : _ = _)⟩
  rw [HNP.out] at hvp hlp pl
  rw [HNQ.out] at hvq hlq ql
  subst hvp hvq
  have hnp : np ≤ 64 := by omega
  have hnp1 : 1 ≤ np := by omega
  have hnq : nq ≤ 64 := by omega
  have HPL : Hid (np = PW' * PH') := pl
  have HQL : Hid (nq = QW' * QH') := ql
  clear pl ql hm1 hm2 hm3
  unfold picV
  obtain ⟨W0, HW0⟩ : ∃ W, Hid (((w.alloc (.cells #[.int .i64 (PW' : Int), .int .i64 (PH' : Int), .slice ap np cp] 25)).alloc (.cells #[.int .i64 (QW' : Int), .int .i64 (QH' : Int), .slice aq nq cq] 25)).alloc (.cells #[.int .i64 0, .int .i64 0, .slice none 0 0] 25) = W) := ⟨_, (rfl : _ = _)⟩
  have hb0 : Below w.heap.size w W0 := by rw [← HW0.out]; exact (((Below.refl _ _).alloc (Nat.le_refl _) _).alloc (by simp) _).alloc (by simp; omega) _
  have HSZ : Hid (W0.heap.size = w.heap.size + 3) := by unfold Hid; rw [← HW0.out]; simp
  have HG0 : Hid (Gad w (.slice ap np cp) (.slice aq nq cq) PW' PH' QW' QH' ps qs W0) := by
    refine ⟨?_, ?_, ?_, RP.out.on hb0, RQ.out.on hb0, hb0⟩
    · rw [← HW0.out]; exact ((three_start w (.int .i64 (PW' : Int)) (.int .i64 (PH' : Int)) (.slice ap np cp) 25).alloc _).alloc _
    · rw [← HW0.out]; exact (three_begin _ (.int .i64 (QW' : Int)) (.int .i64 (QH' : Int)) (.slice aq nq cq) 25 (w.heap.size + 1) (by simp)).alloc _
    · rw [← HW0.out]; exact three_begin _ (.int .i64 0) (.int .i64 0) (.slice none 0 0) 25 (w.heap.size + 1 + 1) (by simp)
  clear hb0
  go_enter Try.func39, Try.ntmps39
  go_wp2_with fail
  rw [HW0.out]
  obtain ⟨gp, op, rfl, hgp, PC⟩ := rd_some HG0.out.rp hne
  obtain ⟨gq_, oq, rfl, hgq, QC⟩ := rd_some HG0.out.rq hqne
  clear PC QC
  have HB0D : Hid (Below W0.heap.size W0 W0.drew) := (Below.refl _ _).drew
  have KEEP : Hid (∀ W2, Below W0.heap.size W0 W2 → (W2.cell? ⟨w.heap.size, 0, none⟩ = some (.int .i64 (PW' : Int)) ∧ W2.cell? ⟨w.heap.size, 1, none⟩ = some (.int .i64 (PH' : Int)) ∧ W2.cell? ⟨w.heap.size, 2, none⟩ = some (.slice (some ⟨gp, op, none⟩) np cp))) := fun W2 h2 => by
    obtain ⟨⟨c0, c1, c2, _, _, _, _⟩, _, _, _, _⟩ := HG0.out.on h2
    exact ⟨c0, c1, c2⟩
  have HRD : Hid (RdP W0.drew (.slice (some ⟨gp, op, none⟩) np cp) ps) := HG0.out.rp
  go_cut [11] from 17 (fun s5 wc => ∃ bo g co, s5 = .pointer (some ⟨bo, 0, none⟩) ∧ Three wc bo (.int .i64 (PW' : Int)) (.int .i64 (PH' : Int)) (.slice (some ⟨g, 0, none⟩) np co) ∧ wc.ownsRow W0.heap.size 33 2 (.slice (some ⟨g, 0, none⟩) np co) np (pixCells ps) ∧ Below W0.heap.size W0 wc ∧ g ≠ bo ∧ W0.heap.size ≤ g ∧ W0.heap.size ≤ bo)
  case first =>
    refine wp_region_held_drew (S := (fun w' => w'.cell? ⟨w.heap.size, 0, none⟩ = some (.int .i64 (PW' : Int)) ∧ w'.cell? ⟨w.heap.size, 1, none⟩ = some (.int .i64 (PH' : Int)) ∧ w'.cell? ⟨w.heap.size, 2, none⟩ = some (.slice (some ⟨gp, op, none⟩) np cp))) (by kernel_rfl) ?_ (fun hHeld => ?_)
    · exact KEEP.out _ HB0D.out
    refine wpAnyH_take (i := 0) (oi := ({ dst := some 17, op := Op.fieldAddr 25 (Operand.tmp 5) 0, type := 0, pos := "parts.go:386", after := #[], guard := none } : Oper)) (v := ?_) rfl (by kernel_rfl) (by kernel_rfl) (by kernel_rfl) (fun _ _ _ h => h) (Or.inl ⟨by rfl, ?_⟩) (by assumption) ?_
    rotate_left
    · (intro w hSw; (try dsimp only at hSw); go_simp; try with_reducible rfl)
    simp only [Act.put, List.setIfInBounds_toArray, List.set_cons_zero, List.set_cons_succ]
    refine wpAnyH_take (i := 1) (oi := ({ dst := some 18, op := Op.load 3 (Operand.tmp 17), type := 3, pos := "parts.go:386", after := #[{ on := 0, ground := Ground.data }], guard := none } : Oper)) (v := ?_) rfl (by kernel_rfl) (by kernel_rfl) (by kernel_rfl) (fun _ _ _ h => h) (Or.inl ⟨by rfl, ?_⟩) (by assumption) ?_
    rotate_left
    · (intro w hSw; (try dsimp only at hSw); go_simp; try with_reducible rfl)
    simp only [Act.put, List.setIfInBounds_toArray, List.set_cons_zero, List.set_cons_succ]
    refine wpAnyH_take (i := 2) (oi := ({ dst := some 19, op := Op.fieldAddr 25 (Operand.tmp 5) 1, type := 0, pos := "parts.go:386", after := #[], guard := none } : Oper)) (v := ?_) rfl (by kernel_rfl) (by kernel_rfl) (by kernel_rfl) (fun _ _ _ h => h) (Or.inl ⟨by rfl, ?_⟩) (by assumption) ?_
    rotate_left
    · (intro w hSw; (try dsimp only at hSw); go_simp; try with_reducible rfl)
    simp only [Act.put, List.setIfInBounds_toArray, List.set_cons_zero, List.set_cons_succ]
    refine wpAnyH_take (i := 3) (oi := ({ dst := some 20, op := Op.load 3 (Operand.tmp 19), type := 3, pos := "parts.go:386", after := #[{ on := 2, ground := Ground.data }], guard := none } : Oper)) (v := ?_) rfl (by kernel_rfl) (by kernel_rfl) (by kernel_rfl) (fun _ _ _ h => h) (Or.inl ⟨by rfl, ?_⟩) (by assumption) ?_
    rotate_left
    · (intro w hSw; (try dsimp only at hSw); go_simp; try with_reducible rfl)
    simp only [Act.put, List.setIfInBounds_toArray, List.set_cons_zero, List.set_cons_succ]
    refine wpAnyH_take (i := 4) (oi := ({ dst := some 21, op := Op.fieldAddr 25 (Operand.tmp 5) 2, type := 0, pos := "parts.go:386", after := #[], guard := none } : Oper)) (v := ?_) rfl (by kernel_rfl) (by kernel_rfl) (by kernel_rfl) (fun _ _ _ h => h) (Or.inl ⟨by rfl, ?_⟩) (by assumption) ?_
    rotate_left
    · (intro w hSw; (try dsimp only at hSw); go_simp; try with_reducible rfl)
    simp only [Act.put, List.setIfInBounds_toArray, List.set_cons_zero, List.set_cons_succ]
    refine wpAnyH_take (i := 5) (oi := ({ dst := some 22, op := Op.load 23 (Operand.tmp 21), type := 23, pos := "parts.go:386", after := #[{ on := 4, ground := Ground.data }], guard := none } : Oper)) (v := ?_) rfl (by kernel_rfl) (by kernel_rfl) (by kernel_rfl) (fun _ _ _ h => h) (Or.inl ⟨by rfl, ?_⟩) (by assumption) ?_
    rotate_left
    · (intro w hSw; (try dsimp only at hSw); go_simp; try with_reducible rfl)
    simp only [Act.put, List.setIfInBounds_toArray, List.set_cons_zero, List.set_cons_succ]
    refine wpAnyH_ready (rs := [6, 8]) (by kernel_rfl) (by simp) ?_
    refine AllReadyH.cons (o := ({ dst := some 23, op := Op.call { callee := Callee.builtin Builtin.append, args := #[Operand.const (Value.slice none 0 0), Operand.tmp 22], argTypes := #[23, 23] }, type := 23, pos := "parts.go:386", after := #[{ on := 5, ground := Ground.data }], guard := none } : Oper)) rfl (fun K_ hK => ?_) (AllReadyH.cons (o := ({ dst := some 11, op := Op.alloc 25, type := 0, pos := "parts.go:386", after := #[], guard := none } : Oper)) rfl (fun K_ hK => ?_) AllReadyH.nil)
    · obtain ⟨g, co, w1, hr, ho1, hb1, hg1⟩ := app_pix W0.drew ps np gp op cp HNP hnp hne HRD
      refine ready_append rfl _ _ _ rfl _ _ _ rfl rfl hr ?_
      have HB1 : Hid (Below W0.heap.size W0 w1) := HB0D.out.trans (hb1.mono HB0D.out.size)
      have HO1 := hide_own ho1
      refine hK.out _ _ ?_ (fun hHeld => ?_)
      · exact KEEP.out _ HB1.out
      clear hK K_
      try simp only [Act.put, List.setIfInBounds_toArray, List.set_cons_zero, List.set_cons_succ]
      refine wpAnyH_take (i := 7) (oi := ({ dst := some 24, op := Op.build 25 #[(0, Operand.tmp 18), (1, Operand.tmp 20), (2, Operand.tmp 23)], type := 25, pos := "parts.go:386", after := #[{ on := 1, ground := Ground.data }, { on := 3, ground := Ground.data }, { on := 6, ground := Ground.data }], guard := none } : Oper)) (v := ?_) rfl (by kernel_rfl) (by kernel_rfl) (by kernel_rfl) (fun _ _ _ h => h) (Or.inl ⟨by rfl, ?_⟩) (by assumption) ?_
      rotate_left
      · (intro w hSw; (try dsimp only at hSw); go_simp; try with_reducible rfl)
      simp only [Act.put, List.setIfInBounds_toArray, List.set_cons_zero, List.set_cons_succ]
      refine wpAnyH_ready (rs := [8]) (by kernel_rfl) (by simp) ?_
      refine AllReadyH.cons (o := ({ dst := some 11, op := Op.alloc 25, type := 0, pos := "parts.go:386", after := #[], guard := none } : Oper)) rfl (fun K_ hK => ?_) AllReadyH.nil
      go_simp
      have HBA : Hid (Below W0.heap.size W0 (w1.alloc (.cells #[.int .i64 0, .int .i64 0, .slice none 0 0] 25))) := HB1.out.alloc HB1.out.size _
      have TA := three_start w1 (.int .i64 0) (.int .i64 0) (.slice none 0 0) 25
      have hgl : g < w1.heap.size := (HO1.out.lt g rfl).2
      refine hK.out _ _ ?_ (fun hHeld => ?_)
      · exact KEEP.out _ HBA.out
      clear hK K_
      obtain ⟨t0, t1, t2, f0, f1, f2, _⟩ := TA
      have hle := HB1.out.size
      have HBS : Hid (Below W0.heap.size W0 (w1.alloc (.cells #[.int .i64 (PW' : Int), .int .i64 (PH' : Int), .slice (some ⟨g, 0, none⟩) np co] 25))) := HB1.out.alloc hle _
      have HOS := hide_own (own_on2 HO1.out ((Below.refl _ w1).alloc (Nat.le_refl _) (.cells #[.int .i64 (PW' : Int), .int .i64 (PH' : Int), .slice (some ⟨g, 0, none⟩) np co] 25)))
      try simp only [Act.put, List.setIfInBounds_toArray, List.set_cons_zero, List.set_cons_succ]
      refine wpAnyH_ready (rs := [9]) (by kernel_rfl) (by simp) ?_
      refine AllReadyH.cons (o := ({ dst := none, op := Op.store 25 (Operand.tmp 11) (Operand.tmp 24), type := 0, pos := "parts.go:386", after := #[{ on := 8, ground := Ground.data }, { on := 7, ground := Ground.data }, { on := 6, ground := Ground.chain }, { on := 0, ground := Ground.phase }, { on := 1, ground := Ground.phase }, { on := 2, ground := Ground.phase }, { on := 3, ground := Ground.phase }, { on := 4, ground := Ground.phase }, { on := 5, ground := Ground.phase }, { on := 6, ground := Ground.phase }, { on := 7, ground := Ground.phase }, { on := 8, ground := Ground.phase }], guard := none } : Oper)) rfl (fun K_ hK => ?_) AllReadyH.nil
      go_simp
      refine hK.out _ _ ?_ (fun hHeld => ?_)
      · exact KEEP.out _ HBS.out
      clear hK K_
      try simp only [Act.put, List.setIfInBounds_toArray, List.set_cons_zero, List.set_cons_succ]
      refine wpAnyH_done (by kernel_rfl) ?_ _
      go_wp2_with fail
      go_meet
      exact ⟨_, g, co, rfl, three_start w1 _ _ _ _, HOS.out, HBS.out, by omega, hg1, hle⟩
    · go_simp
      have HZ : Hid (Below W0.heap.size W0 (W0.drew.alloc (.cells #[.int .i64 0, .int .i64 0, .slice none 0 0] 25))) := HB0D.out.alloc HB0D.out.size _
      have TA := three_start W0.drew (.int .i64 0) (.int .i64 0) (.slice none 0 0) 25
      refine hK.out _ _ ?_ (fun hHeld => ?_)
      · exact KEEP.out _ HZ.out
      clear hK K_
      try simp only [Act.put, List.setIfInBounds_toArray, List.set_cons_zero, List.set_cons_succ]
      have HRZ : Hid (RdP (W0.drew.alloc (.cells #[.int .i64 0, .int .i64 0, .slice none 0 0] 25)) (.slice (some ⟨gp, op, none⟩) np cp) ps) := HRD.out.on ((Below.refl _ _).alloc (Nat.le_refl _) _)
      refine wpAnyH_ready (rs := [6]) (by kernel_rfl) (by simp) ?_
      refine AllReadyH.cons (o := ({ dst := some 23, op := Op.call { callee := Callee.builtin Builtin.append, args := #[Operand.const (Value.slice none 0 0), Operand.tmp 22], argTypes := #[23, 23] }, type := 23, pos := "parts.go:386", after := #[{ on := 5, ground := Ground.data }], guard := none } : Oper)) rfl (fun K_ hK => ?_) AllReadyH.nil
      obtain ⟨g, co, w1, hr, ho1, hb1, hg1⟩ := app_pix (W0.drew.alloc (.cells #[.int .i64 0, .int .i64 0, .slice none 0 0] 25)) ps np gp op cp HNP hnp hne HRZ
      refine ready_append rfl _ _ _ rfl _ _ _ rfl rfl hr ?_
      have HB1 : Hid (Below W0.heap.size W0 w1) := HZ.out.trans (hb1.mono HZ.out.size)
      have HO1 := hide_own ho1
      have TB := TA.on hb1
      refine hK.out _ _ ?_ (fun hHeld => ?_)
      · exact KEEP.out _ HB1.out
      clear hK K_
      try simp only [Act.put, List.setIfInBounds_toArray, List.set_cons_zero, List.set_cons_succ]
      refine wpAnyH_take (i := 7) (oi := ({ dst := some 24, op := Op.build 25 #[(0, Operand.tmp 18), (1, Operand.tmp 20), (2, Operand.tmp 23)], type := 25, pos := "parts.go:386", after := #[{ on := 1, ground := Ground.data }, { on := 3, ground := Ground.data }, { on := 6, ground := Ground.data }], guard := none } : Oper)) (v := ?_) rfl (by kernel_rfl) (by kernel_rfl) (by kernel_rfl) (fun _ _ _ h => h) (Or.inl ⟨by rfl, ?_⟩) (by assumption) ?_
      rotate_left
      · (intro w hSw; (try dsimp only at hSw); go_simp; try with_reducible rfl)
      simp only [Act.put, List.setIfInBounds_toArray, List.set_cons_zero, List.set_cons_succ]
      have ⟨t0, t1, t2, f0, f1, f2, _⟩ := TB
      have hdz : W0.drew.heap.size = W0.heap.size := rfl
      rw [hdz] at t0 t1 t2 f0 f1 f2 TB TA
      have hle : W0.heap.size ≤ W0.heap.size := Nat.le_refl _
      have hzs : (W0.drew.alloc (.cells #[.int .i64 0, .int .i64 0, .slice none 0 0] 25)).heap.size = W0.heap.size + 1 := by simp
      rw [hzs] at HO1 hg1
      have HBS : Hid (Below W0.heap.size W0 (((w1.setCell ⟨W0.heap.size, 0, none⟩ (.int .i64 (PW' : Int))).setCell ⟨W0.heap.size, 1, none⟩ (.int .i64 (PH' : Int))).setCell ⟨W0.heap.size, 2, none⟩ (.slice (some ⟨g, 0, none⟩) np co))) := ((HB1.out.setCell hle _).setCell hle _).setCell hle _
      have HOS : Hid ((((w1.setCell ⟨W0.heap.size, 0, none⟩ (.int .i64 (PW' : Int))).setCell ⟨W0.heap.size, 1, none⟩ (.int .i64 (PH' : Int))).setCell ⟨W0.heap.size, 2, none⟩ (.slice (some ⟨g, 0, none⟩) np co)).ownsRow (W0.heap.size + 1) 33 2 (.slice (some ⟨g, 0, none⟩) np co) np (pixCells ps)) := by
        unfold Hid
        refine ownsRow_setCell_below (ownsRow_setCell_below (ownsRow_setCell_below HO1.out ?_ _) ?_ _) ?_ _
        all_goals simp
      try simp only [Act.put, List.setIfInBounds_toArray, List.set_cons_zero, List.set_cons_succ]
      refine wpAnyH_ready (rs := [9]) (by kernel_rfl) (by simp) ?_
      refine AllReadyH.cons (o := ({ dst := none, op := Op.store 25 (Operand.tmp 11) (Operand.tmp 24), type := 0, pos := "parts.go:386", after := #[{ on := 8, ground := Ground.data }, { on := 7, ground := Ground.data }, { on := 6, ground := Ground.chain }, { on := 0, ground := Ground.phase }, { on := 1, ground := Ground.phase }, { on := 2, ground := Ground.phase }, { on := 3, ground := Ground.phase }, { on := 4, ground := Ground.phase }, { on := 5, ground := Ground.phase }, { on := 6, ground := Ground.phase }, { on := 7, ground := Ground.phase }, { on := 8, ground := Ground.phase }], guard := none } : Oper)) rfl (fun K_ hK => ?_) AllReadyH.nil
      go_simp
      refine hK.out _ _ ?_ (fun hHeld => ?_)
      · exact KEEP.out _ HBS.out
      clear hK K_
      try simp only [Act.put, List.setIfInBounds_toArray, List.set_cons_zero, List.set_cons_succ]
      refine wpAnyH_done (by kernel_rfl) ?_ _
      go_wp2_with fail
      go_meet
      exact ⟨_, g, co, rfl, TB.set_all _ _ _, own_mono HOS.out (by omega), HBS.out, by omega, by omega, hle⟩
  case rest =>
    obtain ⟨bo, g, co, rfl, TO, ho1, hb1, hgb, hg0, hbo0⟩ := hcut
    have hlen : ps.length = PW' * PH' := by rw [HNP.out]; exact HPL.out
    have HS0 : Hid (Gce w (.slice (some ⟨gp, op, none⟩) np cp) (.slice (some ⟨gq_, oq, none⟩) nq cq) PW' PH' QW' QH' ps qs W0.heap.size g np co bo (gridL PW' (PW' * PH') (uptoC (fun cc rr => hasB x y (QW' : Int) (QH' : Int) (cc : Int) (rr : Int)) 0 0) (gq f PW' ps QW' qs x y) ps) wc) := by
      refine ⟨HG0.out.on hb1, TO, ?_⟩
      rw [refG_start _ _ _ _ _ hlen]; exact ho1
    clear TO ho1 hb1 KEEP HRD HB0D
    have hg3 : w.heap.size + 3 ≤ g := by have := HSZ.out; omega
    go_wp2_with fail
    go_loopw [12] (fun vv wr => ∃ V : Nat, V ≤ PH' ∧ vv = .int .i64 (V : Int) ∧ Hid (Gce w (.slice (some ⟨gp, op, none⟩) np cp) (.slice (some ⟨gq_, oq, none⟩) nq cq) PW' PH' QW' QH' ps qs W0.heap.size g np co bo (gridL PW' (PW' * PH') (uptoC (fun cc rr => hasB x y (QW' : Int) (QH' : Int) (cc : Int) (rr : Int)) V 0) (gq f PW' ps QW' qs x y) ps) wr)) (fun vv _ => PH' - (intOf vv).toNat)
    case atStart => exact ⟨0, by omega, rfl, HS0⟩
    case round =>
      obtain ⟨V, hV, rfl, HS⟩ := hrel
      by_cases hV2 : V < PH'
      · obtain ⟨⟨p0, p1, p2, _, _, _, _⟩, _, _, _, _, _⟩ := HS.out.gl
        go_wp2_with fail
        clear p0 p1 p2
        go_loopw [13] (fun uv wr => ∃ U : Nat, U ≤ PW' ∧ uv = .int .i64 (U : Int) ∧ Hid (Gce w (.slice (some ⟨gp, op, none⟩) np cp) (.slice (some ⟨gq_, oq, none⟩) nq cq) PW' PH' QW' QH' ps qs W0.heap.size g np co bo (gridL PW' (PW' * PH') (uptoC (fun cc rr => hasB x y (QW' : Int) (QH' : Int) (cc : Int) (rr : Int)) V U) (gq f PW' ps QW' qs x y) ps) wr)) (fun uv _ => PW' - (intOf uv).toNat)
        case atStart => exact ⟨0, by omega, rfl, HS⟩
        case round =>
          clear HS
          obtain ⟨U, hU, rfl, HS⟩ := hrel
          by_cases hU2 : U < PW'
          · obtain ⟨⟨p0, p1, p2, _, _, _, _⟩, ⟨q0, q1, q2, _, _, _, _⟩, _, _, _, _⟩ := HS.out.gl
            obtain ⟨h2, HH2⟩ : ∃ b', Hid (hasB x y (QW' : Int) (QH' : Int) (U : Int) (V : Int) = b') := ⟨_, (rfl : _ = _)⟩
            go_wp2_with fail
            clear p0 p1 p2 q0 q1 q2
            refine (refHas_any x y (QW' : Int) (QH' : Int) (U : Int) (V : Int) _ (by omega) (by omega) (by omega) (by omega) (by omega) (by omega) (by omega) (by omega) h2 HH2).mono ?_
            rintro e w8 ⟨rfl, hb8⟩
            have HS8 := hid_of (HS.out.on hb8)
            clear hb8 HS
            cases h2 with
            | true =>
              obtain ⟨M, HM⟩ : ∃ M, Hid (V * PW' = M) := ⟨_, (rfl : _ = _)⟩
              obtain ⟨K, HK⟩ : ∃ K, Hid (M + U = K) := ⟨_, (rfl : _ = _)⟩
              have hM : (V : Int) * (PW' : Int) = (M : Int) := by rw [← HM.out]; exact (Int.natCast_mul _ _).symm
              have hVP : (V + 1) * PW' ≤ PH' * PW' := Nat.mul_le_mul_right _ (by omega)
              have hKn : K < np := by
                have h1 := HK.out; have h2 := HPL.out; have h3 := HM.out
                rw [Nat.mul_comm] at h2; rw [Nat.add_mul] at hVP; omega
              have hMK : (M : Int) + (U : Int) = (K : Int) := by have := HK.out; omega
              have HKE : Hid (V * PW' + U = K) := by unfold Hid; rw [HM.out, HK.out]
              have HE1 : Hid (K / PW' = V) := by unfold Hid; rw [← HK.out, ← HM.out, Nat.add_comm, Nat.add_mul_div_right _ _ (by omega), Nat.div_eq_of_lt (by omega), Nat.zero_add]
              have HE2 : Hid (K % PW' = U) := by unfold Hid; rw [← HK.out, ← HM.out, Nat.add_comm, Nat.add_mul_mod_self_right, Nat.mod_eq_of_lt (by omega)]
              clear hVP
              obtain ⟨z0, z1, z2, z3⟩ := (hasB_iff _ _ _ _ _ _).1 HH2.out
              obtain ⟨Ry, HRy⟩ : ∃ n : Nat, Hid ((V : Int) - y = (n : Int)) := ⟨((V : Int) - y).toNat, by unfold Hid; omega⟩
              obtain ⟨Cx, HCx⟩ : ∃ n : Nat, Hid ((U : Int) - x = (n : Int)) := ⟨((U : Int) - x).toNat, by unfold Hid; omega⟩
              obtain ⟨M2, HM2⟩ : ∃ M, Hid (Ry * QW' = M) := ⟨_, (rfl : _ = _)⟩
              have hRy := HRy.out
              have hM2 : (Ry : Int) * (QW' : Int) = (M2 : Int) := by rw [← HM2.out]; exact (Int.natCast_mul _ _).symm
              have hRQ : (Ry + 1) * QW' ≤ QH' * QW' := Nat.mul_le_mul_right _ (by omega)
              obtain ⟨J, HJ⟩ : ∃ J, Hid (M2 + Cx = J) := ⟨_, (rfl : _ = _)⟩
              have hJn : J < nq := by
                have h1 := HM2.out; have h2 := HQL.out; have h3 := HCx.out; have h5 := HJ.out
                rw [Nat.mul_comm] at h2; rw [Nat.add_mul] at hRQ; omega
              have hJ : (M2 : Int) + (U : Int) - x = (J : Int) := by have := HCx.out; have := HJ.out; omega
              clear hRQ
              obtain ⟨pp, HPP⟩ : ∃ p, Hid (ps.getD K (0, 0) = p) := ⟨_, (rfl : _ = _)⟩
              obtain ⟨qq, HQQ⟩ : ∃ p, Hid (qs.getD J (0, 0) = p) := ⟨_, (rfl : _ = _)⟩
              have okp := getD_ok ps POK.out K
              have okq := getD_ok qs QOK.out J
              rw [HPP.out] at okp
              rw [HQQ.out] at okq
              obtain ⟨pv, pa⟩ := pp
              obtain ⟨qv, qa⟩ := qq
              obtain ⟨rr, HRR⟩ : ∃ r, Hid (f (pv, pa) (qv, qa) = r) := ⟨_, (rfl : _ = _)⟩
              obtain ⟨rv, ra⟩ := rr
              have HGQ : Hid (gq f PW' ps QW' qs x y K = (rv, ra)) := by
                unfold Hid gq
                rw [HE1.out, HE2.out, hRy, hM2, hJ, Int.toNat_natCast, HPP.out, HQQ.out]
                exact HRR.out
              obtain ⟨o0, o1, o2, o3⟩ := okp
              obtain ⟨o4, o5, o6, o7⟩ := okq
              have RDS : Hid (∀ W2 cur', Gce w (.slice (some ⟨gp, op, none⟩) np cp) (.slice (some ⟨gq_, oq, none⟩) nq cq) PW' PH' QW' QH' ps qs W0.heap.size g np co bo cur' W2 → (W2.cell? ⟨gp, op + K * 2, none⟩ = some (.int .i64 pv) ∧ W2.cell? ⟨gp, op + K * 2 + 1, none⟩ = some (.int .i64 pa) ∧ W2.cell? ⟨gq_, oq + J * 2, none⟩ = some (.int .i64 qv) ∧ W2.cell? ⟨gq_, oq + J * 2 + 1, none⟩ = some (.int .i64 qa))) := fun W2 cur' h2 => by
                obtain ⟨g0, o, hh0, _, hh⟩ := rd_some h2.gl.rp hne
                obtain ⟨g1, o', hh1, _, hh'⟩ := rd_some h2.gl.rq hqne
                obtain ⟨rfl, rfl, _⟩ := Addr.mk.inj (Option.some.inj hh0)
                obtain ⟨rfl, rfl, _⟩ := Addr.mk.inj (Option.some.inj hh1)
                obtain ⟨x0, x1⟩ := hh W2 (Below.refl _ _) K (by rw [HNP.out]; exact hKn)
                obtain ⟨y0, y1⟩ := hh' W2 (Below.refl _ _) J (by rw [HNQ.out]; exact hJn)
                rw [HPP.out] at x0 x1
                rw [HQQ.out] at y0 y1
                exact ⟨x0, x1, y0, y1⟩
              have hKi : (K : Int) < (np : Int) := by omega
              have hJi : (J : Int) < (nq : Int) := by omega
              have hw0 : IntKind.i64.wrap (M : Int) = (M : Int) := by rw [IntKind.wrap_i64]; omega
              have hw1 : IntKind.i64.wrap (K : Int) = (K : Int) := by rw [IntKind.wrap_i64]; omega
              have hw3 : IntKind.i64.wrap ((M2 : Int) + (U : Int)) = (M2 : Int) + (U : Int) := by rw [IntKind.wrap_i64]; omega
              have hw5 : IntKind.i64.wrap (Ry : Int) = (Ry : Int) := by rw [IntKind.wrap_i64]; omega
              have hw6 : IntKind.i64.wrap (M2 : Int) = (M2 : Int) := by rw [IntKind.wrap_i64]; omega
              have hw7 : IntKind.i64.wrap (J : Int) = (J : Int) := by rw [IntKind.wrap_i64]; omega
              have HLC : Hid ((gridL PW' (PW' * PH') (uptoC (fun cc rr => hasB x y (QW' : Int) (QH' : Int) (cc : Int) (rr : Int)) V U) (gq f PW' ps QW' qs x y) ps).length = np) := by unfold Hid; rw [grid_len]; exact HPL.out.symm
              have hQX : Below w8.heap.size w8 (w8.alloc (.cells #[.int .i64 qv, .int .i64 qa] 33)) := (Below.refl _ _).alloc (Nat.le_refl _) _
              have HS9 := hid_of (HS8.out.on hQX)
              clear hQX
              obtain ⟨⟨p0, p1, p2, _, _, _, _⟩, ⟨q0, q1, q2, _, _, _, _⟩, _, _, _, _⟩ := HS8.out.gl
              obtain ⟨x0, x1, y0, y1⟩ := RDS.out _ _ HS8.out
              cases ad with
              | false =>
                obtain ⟨rfl, rfl⟩ : qv = rv ∧ qa = ra := by have h := HRR.out; rw [hf] at h; simpa using h
                obtain ⟨u0, u1, hu0, hu1, hf0, hf1⟩ := HS9.out.slot HLC.out hKn
                obtain ⟨⟨p0', p1', p2', _, _, _, _⟩, _, _, _, _, _⟩ := HS9.out.gl
                obtain ⟨t0, t1, t2, _, _, _, _⟩ := HS9.out.to
                go_wp2_with fail
                have HSN : Hid (Gce w (.slice (some ⟨gp, op, none⟩) np cp) (.slice (some ⟨gq_, oq, none⟩) nq cq) PW' PH' QW' QH' ps qs W0.heap.size g np co bo (gridL PW' (PW' * PH') (uptoC (fun cc rr => hasB x y (QW' : Int) (QH' : Int) (cc : Int) (rr : Int)) V (U + 1)) (gq f PW' ps QW' qs x y) ps) (((w8.alloc (.cells #[.int .i64 qv, .int .i64 qa] 33)).setCell ⟨g, K * 2, none⟩ (.int .i64 qv)).setCell ⟨g, K * 2 + 1, none⟩ (.int .i64 qa))) := by
                  have h := HS9.out.store RP.out RQ.out hg3 hgb K qv qa
                  have e : (gridL PW' (PW' * PH') (uptoC (fun cc rr => hasB x y (QW' : Int) (QH' : Int) (cc : Int) (rr : Int)) V U) (gq f PW' ps QW' qs x y) ps).set K (qv, qa) = (gridL PW' (PW' * PH') (uptoC (fun cc rr => hasB x y (QW' : Int) (QH' : Int) (cc : Int) (rr : Int)) V (U + 1)) (gq f PW' ps QW' qs x y) ps) := by
                    rw [← HGQ.out, ← HKE.out]; exact refG_set _ _ _ _ _ _ _ hU2 hV2 HH2.out
                  rw [e] at h
                  exact h
                exact ⟨⟨U + 1, by omega, by go_num, HSN⟩, by simp [intOf]; omega⟩
              | true =>
                obtain ⟨rfl, rfl⟩ : (pv + qv) % 256 = rv ∧ (pa + qa) % 256 = ra := by have h := HRR.out; rw [hf] at h; unfold addP at h; simpa using h
                have HSX := hid_of (HS8.out.on (((Below.refl _ w8).alloc (Nat.le_refl _) (.cells #[.int .i64 ((pv + qv) % 256), .int .i64 ((pa + qa) % 256)] 33)).alloc (by simp) (.cells #[.int .i64 pv, .int .i64 pa] 33)))
                obtain ⟨u0, u1, hu0, hu1, hf0, hf1⟩ := HSX.out.slot HLC.out hKn
                obtain ⟨⟨p0', p1', p2', _, _, _, _⟩, _, _, _, _, _⟩ := HS9.out.gl
                obtain ⟨x0', x1', _, _⟩ := RDS.out _ _ HS9.out
                obtain ⟨⟨p0'', p1'', p2'', _, _, _, _⟩, _, _, _, _, _⟩ := HSX.out.gl
                obtain ⟨t0, t1, t2, _, _, _, _⟩ := HSX.out.to
                have hv1 : IntKind.i64.wrap (pv + qv) = pv + qv := by rw [IntKind.wrap_i64]; omega
                have hv2 : IntKind.i64.wrap (pa + qa) = pa + qa := by rw [IntKind.wrap_i64]; omega
                have ht1 : (pv + qv).tmod 256 = (pv + qv) % 256 := Int.tmod_eq_emod_of_nonneg (by omega)
                have ht2 : (pa + qa).tmod 256 = (pa + qa) % 256 := Int.tmod_eq_emod_of_nonneg (by omega)
                go_wp2_with fail
                have HSN : Hid (Gce w (.slice (some ⟨gp, op, none⟩) np cp) (.slice (some ⟨gq_, oq, none⟩) nq cq) PW' PH' QW' QH' ps qs W0.heap.size g np co bo (gridL PW' (PW' * PH') (uptoC (fun cc rr => hasB x y (QW' : Int) (QH' : Int) (cc : Int) (rr : Int)) V (U + 1)) (gq f PW' ps QW' qs x y) ps) ((((w8.alloc (.cells #[.int .i64 ((pv + qv) % 256), .int .i64 ((pa + qa) % 256)] 33)).alloc (.cells #[.int .i64 pv, .int .i64 pa] 33)).setCell ⟨g, K * 2, none⟩ (.int .i64 ((pv + qv) % 256))).setCell ⟨g, K * 2 + 1, none⟩ (.int .i64 ((pa + qa) % 256)))) := by
                  have h := HSX.out.store RP.out RQ.out hg3 hgb K ((pv + qv) % 256) ((pa + qa) % 256)
                  have e : (gridL PW' (PW' * PH') (uptoC (fun cc rr => hasB x y (QW' : Int) (QH' : Int) (cc : Int) (rr : Int)) V U) (gq f PW' ps QW' qs x y) ps).set K ((pv + qv) % 256, (pa + qa) % 256) = (gridL PW' (PW' * PH') (uptoC (fun cc rr => hasB x y (QW' : Int) (QH' : Int) (cc : Int) (rr : Int)) V (U + 1)) (gq f PW' ps QW' qs x y) ps) := by
                    rw [← HGQ.out, ← HKE.out]; exact refG_set _ _ _ _ _ _ _ hU2 hV2 HH2.out
                  rw [e] at h
                  exact h
                exact ⟨⟨U + 1, by omega, by go_num, HSN⟩, by simp [intOf]; omega⟩
            | false =>
              have hC' : (fun cc rr => hasB x y (QW' : Int) (QH' : Int) (cc : Int) (rr : Int)) U V = false := HH2.out
              have HSN : Hid (Gce w (.slice (some ⟨gp, op, none⟩) np cp) (.slice (some ⟨gq_, oq, none⟩) nq cq) PW' PH' QW' QH' ps qs W0.heap.size g np co bo (gridL PW' (PW' * PH') (uptoC (fun cc rr => hasB x y (QW' : Int) (QH' : Int) (cc : Int) (rr : Int)) V (U + 1)) (gq f PW' ps QW' qs x y) ps) w8) := by have h := HS8.out; rw [refG_skip _ _ _ _ _ _ _ hC'] at h; exact h
              go_wp2_with fail
              go_roundw
              case rel => exact ⟨U + 1, by omega, by go_num, HSN⟩
              case measure => simp [intOf]; omega
          · obtain ⟨⟨p0, p1, p2, _, _, _, _⟩, _, _, _, _⟩ := HS.out.gl
            have hUE : U = PW' := by omega
            have HSN : Hid (Gce w (.slice (some ⟨gp, op, none⟩) np cp) (.slice (some ⟨gq_, oq, none⟩) nq cq) PW' PH' QW' QH' ps qs W0.heap.size g np co bo (gridL PW' (PW' * PH') (uptoC (fun cc rr => hasB x y (QW' : Int) (QH' : Int) (cc : Int) (rr : Int)) (V + 1) 0) (gq f PW' ps QW' qs x y) ps) wr) := by have h := HS.out; rw [hUE, refG_row _ _ _ _ _ _ (by omega)] at h; exact h
            go_wp2_with fail
            go_roundw
            case rel => exact ⟨V + 1, by omega, by go_num, HSN⟩
            case measure => simp [intOf]; omega
      · have hVE : V = PH' := by omega
        have ho := HS.out.own
        rw [hVE, chC_end _ _ _ _ _ _ _ _ _ (by omega) hlen] at ho
        have HOF := hide_own ho
        obtain ⟨⟨p0, p1, p2, _, _, _, _⟩, _, ⟨r0, r1, r2, f0, f1, f2, _⟩, _, _, hbw⟩ := HS.out.gl
        obtain ⟨t0, t1, t2, _, _, _, _⟩ := HS.out.to
        go_wp2_with fail
        have HWB : Hid (w.heap.size + 1 + 1 < W0.heap.size) := by have := HSZ.out; unfold Hid; omega
        refine bodyPost_ret (v := .agg #[.int .i64 (PW' : Int), .int .i64 (PH' : Int), .slice (some ⟨g, 0, none⟩) np co]) (by simp [results, Try.results39, go_sem, r0, r1, r2]) rfl ⟨_, rfl, ?_, ?_⟩
        · refine own_mono (B := W0.heap.size) ?_ (by have := HWB.out; omega)
          rw [ch_len, HNP.out]
          have hlt := HWB.out
          refine ownsRow_setCell_below (ownsRow_setCell_below (ownsRow_setCell_below HOF.out ?_ _) ?_ _) ?_ _
          all_goals (simp; omega)
        · refine ((hbw.setCell ?_ _).setCell ?_ _).setCell ?_ _
          all_goals (simp; try omega)
theorem changed_any (PW PH QW QH : Nat) (vp vq : Value) (ps qs : List (Int × Int)) (x y : Int) (ad : Bool) (f : Int × Int → Int × Int → Int × Int) (hf : f = if ad then addP else fun _ q => q) (w : World) (HP : Hid (checkL PW PH ps = 0)) (HQ : Hid (checkL QW QH qs = 0)) (RP : Hid (RdP w vp ps)) (RQ : Hid (RdP w vq qs))
    (hx : -20 ≤ x) (hx2 : x ≤ 20) (hy : -20 ≤ y) (hy2 : y ≤ 20) :
    Calls Try.prog 39 #[picV PW PH vp, picV QW QH vq, .int .i64 x, .int .i64 y, .bool ad] w
      fun e w' => ∃ v', e = .returned (picV PW PH v') ∧ RdP w' v' (chL f PW ps QW QH qs x y 0 0 (PW : Int) (PH : Int)) ∧ Below w.heap.size w w' := by
  refine (changed_own PW PH QW QH vp vq ps qs x y ad f hf w HP HQ RP RQ hx hx2 hy hy2).mono ?_
  rintro e w' ⟨v', h1, h2, h3⟩
  exact ⟨v', h1, rdP_own h2, h3⟩
end Go.Proofs.Ytadcmmkifcmknaa
