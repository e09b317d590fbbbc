/- Some of the walks, in one text. -/
import Derived.Test.YtjmkfcgnadpbaaaDoorM4
import Derived.Test.YtjmkfcgnadpbaaaDoorRows
import Derived.Lib.LaidTab
import Derived.Lib.SmallJoins
import Derived.Deep.MidRow
/- Walk of objects.Check. -/
namespace Go.Proofs.YtjmkfcgnadpbaaaDoor
open Go.RowKit

/-- the number of the error of an object -/
def objC (id x y pw ph : Int) (ps : List (Int × Int)) (cx cy cw ch : Int) : Nat :=
  if id < 1 ∨ 6 < id then 1 else if rectC x y 0 0 = 1 then 1 else if rectC cx cy cw ch = 1 then 1 else checkL pw ph ps

theorem rectC_cases (x y w h : Int) : rectC x y w h = 0 ∨ rectC x y w h = 1 := by unfold rectC; split <;> simp

theorem objC_zero (id x y pw ph : Int) (ps : List (Int × Int)) (cx cy cw ch : Int) (h : objC id x y pw ph ps cx cy cw ch = 0) :
    1 ≤ id ∧ id ≤ 6 ∧ -20 ≤ x ∧ x ≤ 20 ∧ -20 ≤ y ∧ y ≤ 20 ∧ -20 ≤ cx ∧ cx ≤ 20 ∧ -20 ≤ cy ∧ cy ≤ 20 ∧ 0 ≤ cw ∧ cw ≤ 20 ∧ 0 ≤ ch ∧ ch ≤ 20 ∧ checkL pw ph ps = 0 := by
  unfold objC at h
  split at h
  · omega
  split at h
  · omega
  split at h
  · omega
  have r1 : rectC x y 0 0 = 0 := by rcases rectC_cases x y 0 0 with h | h <;> omega
  have r2 : rectC cx cy cw ch = 0 := by rcases rectC_cases cx cy cw ch with h | h <;> omega
  rw [rectC_zero] at r1 r2
  omega

set_option maxHeartbeats 2000000 in
set_option maxRecDepth 100000 in
theorem ocheck_any (id x y pw ph : Int) (u : Value) (ps : List (Int × Int)) (cx cy cw ch : Int) (sh : Bool) (w : World) (hps : ps.length ≤ 1000000000) (HR : Hid (RdP w u ps)) (c : Nat) (HC : Hid (objC id x y pw ph ps cx cy cw ch = c)) :
    Calls Tryd.prog 67 #[objV id x y pw ph u cx cy cw ch sh] w fun e w' => e = .returned (errV c) ∧ Below w.heap.size w w' := by
  unfold objV
  obtain ⟨au, cu, hvu, hlu, hcu, _⟩ := HR.out
  obtain ⟨nu, HNU⟩ : ∃ n, Hid (ps.length = n) := ⟨_, (rfl : _ = _)⟩
  rw [HNU.out] at hvu
  subst hvu
  clear hlu hcu
  have E0 := eleven_start w (.int .i64 id) (.int .i64 x) (.int .i64 y) (.int .i64 pw) (.int .i64 ph) (.slice au nu cu) (.int .i64 cx) (.int .i64 cy) (.int .i64 cw) (.int .i64 ch) (.bool sh) 80 w.heap.size rfl
  obtain ⟨W0, HW0⟩ : ∃ W0, Hid (w.alloc (.cells #[.int .i64 id, .int .i64 x, .int .i64 y, .int .i64 pw, .int .i64 ph, .slice au nu cu, .int .i64 cx, .int .i64 cy, .int .i64 cw, .int .i64 ch, .bool sh] 80) = W0) := ⟨_, (rfl : _ = _)⟩
  have hb0 : Below w.heap.size w W0 := by rw [← HW0.out]; exact (Below.refl _ _).alloc (Nat.le_refl _) _
  rw [HW0.out] at E0
  have HE0 : Hid (Eleven W0 w.heap.size (.int .i64 id) (.int .i64 x) (.int .i64 y) (.int .i64 pw) (.int .i64 ph) (.slice au nu cu) (.int .i64 cx) (.int .i64 cy) (.int .i64 cw) (.int .i64 ch) (.bool sh)) := E0
  have HR0 : Hid (RdP W0 (.slice au nu cu) ps) := HR.out.on hb0
  clear E0
  go_enter Tryd.func67, Tryd.ntmps67
  have k0 := HE0.out.c0
  rw [← HW0.out] at k0
  by_cases h1 : id < 1
  · obtain rfl : 1 = c := by rw [← HC.out]; unfold objC; simp [h1]
    go_wp2_with fail
    rw [HW0.out]
    exact bodyPost_ret (v := errV 1) (by unfold errV; simp [results, Tryd.results67, go_sem]) rfl ⟨rfl, hb0⟩
  by_cases h2 : 6 < id
  · obtain rfl : 1 = c := by rw [← HC.out]; unfold objC; simp [h2]
    go_wp2_with fail
    rw [HW0.out]
    exact bodyPost_ret (v := errV 1) (by unfold errV; simp [results, Tryd.results67, go_sem]) rfl ⟨rfl, hb0⟩
  have k1 := HE0.out.c1
  have k2 := HE0.out.c2
  rw [← HW0.out] at k1 k2
  go_wp2_with fail
  rw [HW0.out]
  clear k0 k1 k2
  rcases rectC_cases x y 0 0 with r1 | r1
  case inr =>
    obtain rfl : 1 = c := by rw [← HC.out]; unfold objC; rw [if_neg (by omega), if_pos r1]
    refine (rcheck_at x y 0 0 _ 1 r1 (.iface 58 (.int .i64 1)) rfl).mono ?_
    rintro e w1 ⟨rfl, hb1⟩
    go_wp2_with fail
    exact bodyPost_ret (v := errV 1) (by unfold errV; simp [results, Tryd.results67, go_sem]) rfl ⟨rfl, hb0.trans (hb1.mono hb0.size)⟩
  refine (rcheck_at x y 0 0 _ 0 r1 .nilIface rfl).mono ?_
  rintro e w1 ⟨rfl, hb1⟩
  have HE1 : Hid (Eleven w1 w.heap.size (.int .i64 id) (.int .i64 x) (.int .i64 y) (.int .i64 pw) (.int .i64 ph) (.slice au nu cu) (.int .i64 cx) (.int .i64 cy) (.int .i64 cw) (.int .i64 ch) (.bool sh)) := HE0.out.on hb1
  have HR1 : Hid (RdP w1 (.slice au nu cu) ps) := HR0.out.on hb1
  replace hb1 := hb0.trans (hb1.mono hb0.size)
  clear HE0 HR0 HW0 hb0
  obtain ⟨_, _, _, k3, k4, k5, k6, k7, k8, k9, _, _, _, _, _, _, _, _, _, _, _, _, _⟩ := HE1.out
  go_wp2_with fail
  clear k6 k7 k8 k9 k3 k4 k5
  rcases rectC_cases cx cy cw ch with r2 | r2
  case inr =>
    obtain rfl : 1 = c := by rw [← HC.out]; unfold objC; rw [if_neg (by omega), if_neg (by omega), if_pos r2]
    refine (rcheck_at cx cy cw ch _ 1 r2 (.iface 58 (.int .i64 1)) rfl).mono ?_
    rintro e w2 ⟨rfl, hb2⟩
    go_wp2_with fail
    exact bodyPost_ret (v := errV 1) (by unfold errV; simp [results, Tryd.results67, go_sem]) rfl ⟨rfl, hb1.trans (hb2.mono hb1.size)⟩
  refine (rcheck_at cx cy cw ch _ 0 r2 .nilIface rfl).mono ?_
  rintro e w2 ⟨rfl, hb2⟩
  have HE2 : Hid (Eleven w2 w.heap.size (.int .i64 id) (.int .i64 x) (.int .i64 y) (.int .i64 pw) (.int .i64 ph) (.slice au nu cu) (.int .i64 cx) (.int .i64 cy) (.int .i64 cw) (.int .i64 ch) (.bool sh)) := HE1.out.on hb2
  have HR2 : Hid (RdP w2 (.slice au nu cu) ps) := HR1.out.on hb2
  replace hb2 := hb1.trans (hb2.mono hb1.size)
  clear HE1 HR1 hb1
  obtain ⟨_, _, _, k3, k4, k5, k6, k7, k8, k9, _, _, _, _, _, _, _, _, _, _, _, _, _⟩ := HE2.out
  go_wp2_with fail
  have HC2 : Hid (checkL pw ph ps = c) := by show _ = _; rw [← HC.out]; unfold objC; rw [if_neg (by omega), if_neg (by omega), if_neg (by omega)]
  refine (check_any pw ph _ ps _ (by omega) HR2 c HC2).mono ?_
  rintro e w3 ⟨rfl, hb3⟩
  go_wp2_with fail
  exact bodyPost_ret (v := errV c) (by simp [results, Tryd.results67, go_sem]) rfl ⟨rfl, hb2.trans (hb3.mono hb2.size)⟩
end Go.Proofs.YtjmkfcgnadpbaaaDoor
/- Walk of blend.Lay. -/
namespace Go.Proofs.YtjmkfcgnadpbaaaDoor
open Go.RowKit

/-- what Lay answers -/
def layL (PW : Nat) (ps : List (Int × Int)) (QW QH : Nat) (qs : List (Int × Int)) (x y a b c d : Int) (sh : Bool) : List (Int × Int) :=
  if sh then chL (fun p q => Fb.overL q.1 q.2 p.1 p.2) PW ps QW QH qs x y a b c d else ps

/-- what holds on the road -/
structure Gla (w : World) (pw ph : Int) (vp : Value) (id x y qw qh : Int) (vq : Value) (a b c d : Int) (sh : Bool) (ps qs : List (Int × Int)) (w' : World) : Prop where
  tp : Three w' w.heap.size (.int .i64 pw) (.int .i64 ph) vp
  eo : Eleven w' (w.heap.size + 1) (.int .i64 id) (.int .i64 x) (.int .i64 y) (.int .i64 qw) (.int .i64 qh) vq (.int .i64 a) (.int .i64 b) (.int .i64 c) (.int .i64 d) (.bool sh)
  rp : RdP w' vp ps
  rq : RdP w' vq qs
  bel : Below w.heap.size w w'
theorem Gla.on {w : World} {pw ph : Int} {vp : Value} {id x y qw qh : Int} {vq : Value} {a b c d : Int} {sh : Bool} {ps qs : List (Int × Int)} {w1 w2 : World} (h : Gla w pw ph vp id x y qw qh vq a b c d sh ps qs w1) (hb : Below w1.heap.size w1 w2) : Gla w pw ph vp id x y qw qh vq a b c d sh ps qs w2 :=
  ⟨h.tp.on hb, h.eo.on hb, h.rp.on hb, h.rq.on hb, h.bel.trans (hb.mono h.bel.size)⟩
theorem Gla.drew {w : World} {pw ph : Int} {vp : Value} {id x y qw qh : Int} {vq : Value} {a b c d : Int} {sh : Bool} {ps qs : List (Int × Int)} {w1 : World} (h : Gla w pw ph vp id x y qw qh vq a b c d sh ps qs w1) : Gla w pw ph vp id x y qw qh vq a b c d sh ps qs w1.drew :=
  ⟨h.tp.drew, h.eo.drew, h.rp, h.rq, h.bel.drew⟩

set_option maxHeartbeats 4000000 in
set_option maxRecDepth 100000 in
theorem lay_any (PW PH QW QH : Nat) (vp vq : Value) (ps qs : List (Int × Int)) (id x y a b c d : Int) (sh : Bool) (w : World) (HP : Hid (checkL PW PH ps = 0)) (HQ : Hid (checkL QW QH qs = 0)) (RP : Hid (RdP w vp ps)) (RQ : Hid (RdP w vq qs))
    (hx : -20 ≤ x) (hx2 : x ≤ 20) (hy : -20 ≤ y) (hy2 : y ≤ 20) (ha : -20 ≤ a) (ha2 : a ≤ 20) (hb : -20 ≤ b) (hb2 : b ≤ 20) (hc : 0 ≤ c) (hc2 : c ≤ 20) (hd : 0 ≤ d) (hd2 : d ≤ 20) :
    Calls Tryd.prog 68 #[picV PW PH vp, objV id x y QW QH vq a b c d sh] w
      fun e w' => ∃ v', e = .returned (picV PW PH v') ∧ w'.ownsRow (w.heap.size + 3) 42 2 v' (layL PW ps QW QH qs x y a b c d sh).length (pixCells (layL PW ps QW QH qs x y a b c d sh)) ∧ Below w.heap.size w w' := by
  obtain ⟨PW', PH', e1, e2, p1, p2, p3, p4, pl, _⟩ := check_zero _ _ _ HP.out
  obtain rfl : PW' = PW := by omega
  obtain rfl : PH' = PH := by omega
  clear e1 e2
  have hm1 : PW' * PH' ≤ 8 * 8 := Nat.mul_le_mul p2 p4
  have hm2 : 1 * 1 ≤ PW' * PH' := Nat.mul_le_mul p1 p3
  have hne : ps ≠ [] := by intro e; rw [e] at pl; simp at pl; omega
  have hlen : ps.length ≤ 100 := by omega
  obtain ⟨ap, cp, hvp, hlp, hcp, _⟩ := RP.out
  obtain ⟨aq, cq, hvq, hlq, hcq, _⟩ := RQ.out
  obtain ⟨np, HNP⟩ : ∃ n, Hid (ps.length = n) := ⟨_, (rfl : _ = _)⟩
  obtain ⟨nq, HNQ⟩ : ∃ n, Hid (qs.length = n) := ⟨_, (rfl : _ = _)⟩
  rw [HNP.out] at hvp hlp
  rw [HNQ.out] at hvq hlq
  clear pl hm1 hm2
  subst hvp hvq
  unfold picV objV
  cases sh with
  | false =>
    obtain ⟨L, HL⟩ : ∃ L, Hid (layL PW' ps QW QH qs x y a b c d false = L) := ⟨_, (rfl : _ = _)⟩
    rw [HL.out]
    go_enter Tryd.func68, Tryd.ntmps68
    have T2 := three_begin ((w.alloc (.cells #[.int .i64 (PW' : Int), .int .i64 (PH' : Int), .slice ap np cp] 49)).alloc (.cells #[.int .i64 id, .int .i64 x, .int .i64 y, .int .i64 (QW : Int), .int .i64 (QH : Int), .slice aq nq cq, .int .i64 a, .int .i64 b, .int .i64 c, .int .i64 d, .bool false] 80)) (.int .i64 0) (.int .i64 0) (.slice none 0 0) 49 (w.heap.size + 1 + 1) (by simp)
    obtain ⟨W0, HW0⟩ : ∃ W0, Hid (((w.alloc (.cells #[.int .i64 (PW' : Int), .int .i64 (PH' : Int), .slice ap np cp] 49)).alloc (.cells #[.int .i64 id, .int .i64 x, .int .i64 y, .int .i64 (QW : Int), .int .i64 (QH : Int), .slice aq nq cq, .int .i64 a, .int .i64 b, .int .i64 c, .int .i64 d, .bool false] 80)).alloc (.cells #[.int .i64 0, .int .i64 0, .slice none 0 0] 49) = W0) := ⟨_, (rfl : _ = _)⟩
    have hb0 : Below w.heap.size w W0 := by rw [← HW0.out]; exact (((Below.refl _ _).alloc (Nat.le_refl _) _).alloc (by simp) _).alloc (by simp; omega) _
    have hs0 : W0.heap.size = w.heap.size + 3 := by rw [← HW0.out]; simp
    rw [HW0.out] at T2
    have RP0 : Hid (RdP W0 (.slice ap np cp) ps) := RP.out.on hb0
    have RQ0 : Hid (RdP W0 (.slice aq nq cq) qs) := RQ.out.on hb0
    go_wp2_with fail
    rw [HW0.out]
    refine (bown_any (PW' : Int) (PH' : Int) _ ps W0 (by omega) hne RP0).mono ?_
    unfold picV
    rintro e w1 ⟨v1, rfl, ho1, hb1⟩
    have HL2 : ps = L := HL.out
    rw [HL2] at ho1
    have HO1 := hide_own (own_mono ho1 (show w.heap.size + 3 ≤ _ by omega))
    obtain ⟨n1, HN1⟩ : ∃ n, Hid (L.length = n) := ⟨_, (rfl : _ = _)⟩
    rw [HN1.out] at HO1
    obtain ⟨a1, c1, hv1⟩ := own_any HO1.out
    subst hv1
    clear ho1
    have hbb := hb0.trans (hb1.mono hb0.size)
    obtain ⟨d0, d1, d2, g0, g1, g2, lt2⟩ := T2.on hb1
    go_wp2_with fail
    refine bodyPost_ret (v := .agg #[.int .i64 (PW' : Int), .int .i64 (PH' : Int), .slice a1 n1 c1]) (by simp [results, Tryd.results68, go_sem, d0, d1, d2]) rfl ⟨_, rfl, ?_, ?_⟩
    · rw [HN1.out]
      refine ownsRow_setCell_below (ownsRow_setCell_below (ownsRow_setCell_below HO1.out ?_ _) ?_ _) ?_ _
      all_goals (simp; try omega)
    · refine ((hbb.setCell ?_ _).setCell ?_ _).setCell ?_ _
      all_goals (simp; try omega)
  | true =>
    obtain ⟨L, HL⟩ : ∃ L, Hid (layL PW' ps QW QH qs x y a b c d true = L) := ⟨_, (rfl : _ = _)⟩
    rw [HL.out]
    go_enter Tryd.func68, Tryd.ntmps68
    have T2 := three_begin ((w.alloc (.cells #[.int .i64 (PW' : Int), .int .i64 (PH' : Int), .slice ap np cp] 49)).alloc (.cells #[.int .i64 id, .int .i64 x, .int .i64 y, .int .i64 (QW : Int), .int .i64 (QH : Int), .slice aq nq cq, .int .i64 a, .int .i64 b, .int .i64 c, .int .i64 d, .bool true] 80)) (.int .i64 0) (.int .i64 0) (.slice none 0 0) 49 (w.heap.size + 1 + 1) (by simp)
    obtain ⟨W0, HW0⟩ : ∃ W0, Hid (((w.alloc (.cells #[.int .i64 (PW' : Int), .int .i64 (PH' : Int), .slice ap np cp] 49)).alloc (.cells #[.int .i64 id, .int .i64 x, .int .i64 y, .int .i64 (QW : Int), .int .i64 (QH : Int), .slice aq nq cq, .int .i64 a, .int .i64 b, .int .i64 c, .int .i64 d, .bool true] 80)).alloc (.cells #[.int .i64 0, .int .i64 0, .slice none 0 0] 49) = W0) := ⟨_, (rfl : _ = _)⟩
    have hb0 : Below w.heap.size w W0 := by rw [← HW0.out]; exact (((Below.refl _ _).alloc (Nat.le_refl _) _).alloc (by simp) _).alloc (by simp; omega) _
    have hs0 : W0.heap.size = w.heap.size + 3 := by rw [← HW0.out]; simp
    rw [HW0.out] at T2
    have RP0 : Hid (RdP W0 (.slice ap np cp) ps) := RP.out.on hb0
    have RQ0 : Hid (RdP W0 (.slice aq nq cq) qs) := RQ.out.on hb0
    go_wp2_with fail
    rw [HW0.out]
    refine (changeL_any PW' PH' QW QH (.slice ap np cp) (.slice aq nq cq) ps qs x y a b c d W0 HP HQ RP0 RQ0 hx hx2 hy hy2 ha ha2 hb hb2 hc hc2 hd hd2).mono ?_
    unfold picV
    rintro e w1 ⟨v1, rfl, ho1, hb1⟩
    have HL2 : chL (fun p q => Fb.overL q.1 q.2 p.1 p.2) PW' ps QW QH qs x y a b c d = L := HL.out
    rw [HL2] at ho1
    have HO1 := hide_own (own_mono ho1 (show w.heap.size + 3 ≤ _ by omega))
    obtain ⟨n1, HN1⟩ : ∃ n, Hid (L.length = n) := ⟨_, (rfl : _ = _)⟩
    rw [HN1.out] at HO1
    obtain ⟨a1, c1, hv1⟩ := own_any HO1.out
    subst hv1
    clear ho1
    have hbb := hb0.trans (hb1.mono hb0.size)
    obtain ⟨d0, d1, d2, g0, g1, g2, lt2⟩ := T2.on hb1
    go_wp2_with fail
    refine bodyPost_ret (v := .agg #[.int .i64 (PW' : Int), .int .i64 (PH' : Int), .slice a1 n1 c1]) (by simp [results, Tryd.results68, go_sem, d0, d1, d2]) rfl ⟨_, rfl, ?_, ?_⟩
    · rw [HN1.out]
      refine ownsRow_setCell_below (ownsRow_setCell_below (ownsRow_setCell_below HO1.out ?_ _) ?_ _) ?_ _
      all_goals (simp; try omega)
    · refine ((hbb.setCell ?_ _).setCell ?_ _).setCell ?_ _
      all_goals (simp; try omega)
end Go.Proofs.YtjmkfcgnadpbaaaDoor
/- What Lay answers, as a list. -/
namespace Go.Proofs.YtjmkfcgnadpbaaaDoor
open Go.RowKit

theorem lay_len (PW : Nat) (ps : List (Int × Int)) (QW QH : Nat) (qs : List (Int × Int)) (x y a b c d : Int) (sh : Bool) : (layL PW ps QW QH qs x y a b c d sh).length = ps.length := by
  unfold layL; cases sh <;> simp [ch_len]
theorem over_ok (p q : Int × Int) (h : pixOk p) (h' : pixOk q) : pixOk ((fun (p q : Int × Int) => Fb.overL q.1 q.2 p.1 p.2) p q) := by
  obtain ⟨p0, p1, p2, p3⟩ := h
  obtain ⟨q0, q1, q2, q3⟩ := h'
  obtain ⟨_, _, r1, r2, r3, r4, _⟩ := Fb.over_bounds q.1 q.2 p.1 p.2 q0 q1 q2 q3 p0 p1 p2 p3
  exact ⟨r3, r4, r2, r1⟩
theorem lay_check (PW PH : Nat) (ps : List (Int × Int)) (QW QH : Nat) (qs : List (Int × Int)) (x y a b c d : Int) (sh : Bool) (hp : checkL (PW : Int) (PH : Int) ps = 0) (hq : checkL (QW : Int) (QH : Int) qs = 0) : checkL (PW : Int) (PH : Int) (layL PW ps QW QH qs x y a b c d sh) = 0 := by
  unfold layL
  cases sh
  · simpa using hp
  · simp only [if_true]
    exact ch_check _ over_ok PW PH ps QW QH qs x y a b c d hp hq

theorem lay_getD (PW : Nat) (ps : List (Int × Int)) (QW QH : Nat) (qs : List (Int × Int)) (x y a b c d : Int) (sh : Bool) (k : Nat) (hk : k < ps.length) :
    (layL PW ps QW QH qs x y a b c d sh).getD k (0, 0) = if (sh && (hasB a b c d ((k % PW : Nat) : Int) ((k / PW : Nat) : Int) && hasB x y (QW : Int) (QH : Int) ((k % PW : Nat) : Int) ((k / PW : Nat) : Int))) = true then gq (fun p q => Fb.overL q.1 q.2 p.1 p.2) PW ps QW qs x y k else ps.getD k (0, 0) := by
  unfold layL
  cases sh
  · simp
  · simp only [if_true, Bool.true_and]
    exact ch_getD _ PW ps QW QH qs x y a b c d k hk
end Go.Proofs.YtjmkfcgnadpbaaaDoor
/- A picture that is gone over place by place, as the reference does. -/
namespace Go.Proofs.YtjmkfcgnadpbaaaDoor
open Go.RowKit

def uptoC (C : Nat → Nat → Bool) (R U : Nat) (c r : Nat) : Bool := C c r && (decide (r < R) || decide (r = R) && decide (c < U))
theorem uptoC_iff (C : Nat → Nat → Bool) (R U c r : Nat) : uptoC C R U c r = true ↔ C c r = true ∧ (r < R ∨ r = R ∧ c < U) := by
  unfold uptoC; simp
theorem refG_start (PW n : Nat) (C : Nat → Nat → Bool) (g : Nat → Int × Int) (ps : List (Int × Int)) (hl : ps.length = n) : gridL PW n (uptoC C 0 0) g ps = ps := by
  apply grid_start _ _ _ _ _ hl
  intro k _
  unfold uptoC; simp
theorem refG_set (PW PH R U : Nat) (C : Nat → Nat → Bool) (g : Nat → Int × Int) (ps : List (Int × Int)) (hU : U < PW) (hR : R < PH) (hC : C U R = true) :
    (gridL PW (PW * PH) (uptoC C R U) g ps).set (R * PW + U) (g (R * PW + U)) = gridL PW (PW * PH) (uptoC C R (U + 1)) g ps := by
  rw [grid_set _ _ _ _ _ _ _ hU (by
    have : (R + 1) * PW ≤ PH * PW := Nat.mul_le_mul_right _ hR
    rw [Nat.mul_comm PW PH]; rw [Nat.add_mul] at this; omega)]
  apply grid_congr
  intro k _
  rw [Bool.eq_iff_iff, Bool.or_eq_true, uptoC_iff, uptoC_iff]
  simp only [Bool.and_eq_true, beq_iff_eq]
  constructor
  · rintro (⟨h, h'⟩ | ⟨h, h'⟩)
    · exact ⟨h, by omega⟩
    · rw [h, h']; exact ⟨hC, by omega⟩
  · rintro ⟨h, h'⟩
    by_cases e : k % PW = U ∧ k / PW = R
    · exact .inr e
    · exact .inl ⟨h, by omega⟩
theorem refG_skip (PW PH R U : Nat) (C : Nat → Nat → Bool) (g : Nat → Int × Int) (ps : List (Int × Int)) (hC : C U R = false) :
    gridL PW (PW * PH) (uptoC C R U) g ps = gridL PW (PW * PH) (uptoC C R (U + 1)) g ps := by
  apply grid_congr
  intro k _
  rw [Bool.eq_iff_iff, uptoC_iff, uptoC_iff]
  constructor
  · rintro ⟨h, h'⟩; exact ⟨h, by omega⟩
  · rintro ⟨h, h'⟩
    by_cases e : k % PW = U ∧ k / PW = R
    · rw [e.1, e.2, hC] at h; cases h
    · exact ⟨h, by omega⟩
theorem refG_row (PW PH R : Nat) (C : Nat → Nat → Bool) (g : Nat → Int × Int) (ps : List (Int × Int)) (hP : 0 < PW) : gridL PW (PW * PH) (uptoC C R PW) g ps = gridL PW (PW * PH) (uptoC C (R + 1) 0) g ps := by
  apply grid_congr
  intro k hk
  have := mod_div_lt PW PH k hk hP
  rw [Bool.eq_iff_iff, uptoC_iff, uptoC_iff]
  constructor
  · rintro ⟨h, h'⟩; exact ⟨h, by omega⟩
  · rintro ⟨h, h'⟩; exact ⟨h, by omega⟩
theorem refG_end (PW PH : Nat) (C : Nat → Nat → Bool) (g : Nat → Int × Int) (ps : List (Int × Int)) (hP : 0 < PW) : gridL PW (PW * PH) (uptoC C PH 0) g ps = gridL PW (PW * PH) C g ps := by
  apply grid_congr
  intro k hk
  have := mod_div_lt PW PH k hk hP
  rw [Bool.eq_iff_iff, uptoC_iff]
  constructor
  · rintro ⟨h, _⟩; exact h
  · intro h; exact ⟨h, by omega⟩

/-- where an object is seen -/
def layC (QW QH : Nat) (x y a b c d : Int) (sh : Bool) (cc rr : Nat) : Bool := sh && (hasB a b c d (cc : Int) (rr : Int) && hasB x y (QW : Int) (QH : Int) (cc : Int) (rr : Int))
theorem layC_end (PW PH : Nat) (ps : List (Int × Int)) (QW QH : Nat) (qs : List (Int × Int)) (x y a b c d : Int) (sh : Bool) (hP : 0 < PW) (hl : ps.length = PW * PH) :
    gridL PW (PW * PH) (uptoC (layC QW QH x y a b c d sh) PH 0) (gq (fun p q => Fb.overL q.1 q.2 p.1 p.2) PW ps QW qs x y) ps = layL PW ps QW QH qs x y a b c d sh := by
  rw [refG_end _ _ _ _ _ hP]
  unfold layL chL
  cases sh
  · apply grid_start _ _ _ _ _ hl
    intro k _
    unfold layC; simp
  · simp only [if_true]
    rw [hl]
    apply grid_congr
    intro k _
    unfold layC; simp
theorem chC_end (f : Int × Int → Int × Int → Int × Int) (PW PH : Nat) (ps : List (Int × Int)) (QW QH : Nat) (qs : List (Int × Int)) (x y : Int) (hP : 0 < PW) (hl : ps.length = PW * PH) :
    gridL PW (PW * PH) (uptoC (fun cc rr => hasB x y (QW : Int) (QH : Int) (cc : Int) (rr : Int)) PH 0) (gq f PW ps QW qs x y) ps = chL f PW ps QW QH qs x y 0 0 (PW : Int) (PH : Int) := by
  rw [refG_end _ _ _ _ _ hP]
  unfold chL
  rw [hl]
  apply grid_congr
  intro k hk
  have := mod_div_lt PW PH k hk hP
  show hasB x y (QW : Int) (QH : Int) ((k % PW : Nat) : Int) ((k / PW : Nat) : Int) = (hasB 0 0 (PW : Int) (PH : Int) ((k % PW : Nat) : Int) ((k / PW : Nat) : Int) && hasB x y (QW : Int) (QH : Int) ((k % PW : Nat) : Int) ((k / PW : Nat) : Int))
  generalize k % PW = u at *
  generalize k / PW = v at *
  have h : hasB 0 0 (PW : Int) (PH : Int) (u : Int) (v : Int) = true := (hasB_iff _ _ _ _ _ _).2 (by omega)
  rw [h]; simp
end Go.Proofs.YtjmkfcgnadpbaaaDoor
/- Walks of the reference's RectFault and Has. -/
namespace Go.Proofs.YtjmkfcgnadpbaaaDoor
open Go.RowKit

set_option maxRecDepth 100000 in
theorem refHas_any (x y w h p q : Int) (W : World) (hx : -10000 ≤ x) (hx2 : x ≤ 10000) (hy : -10000 ≤ y) (hy2 : y ≤ 10000) (hw : 0 ≤ w) (hw2 : w ≤ 10000) (hh : 0 ≤ h) (hh2 : h ≤ 10000) (b : Bool) (HB : Hid (hasB x y w h p q = b)) :
    Calls Tryd.prog 52 #[rectV x y w h, .int .i64 p, .int .i64 q] W fun e w' => e = .returned (.bool b) ∧ Below W.heap.size W w' := by
  unfold rectV
  by_cases h1 : x ≤ p
  · by_cases h2 : p < x + w
    · by_cases h3 : y ≤ q
      · by_cases h4 : q < y + h
        · have hb : b = true := by rw [← HB.out, hasB_iff]; omega
          subst hb
          go_enter Tryd.func52, Tryd.ntmps52
          go_wp2
          go_ret
          exact ⟨rfl, (Below.refl _ _).alloc (Nat.le_refl _) _⟩
        · have hb : b = false := by rw [← HB.out, hasB_no]; omega
          subst hb
          go_enter Tryd.func52, Tryd.ntmps52
          go_wp2
          go_ret
          exact ⟨rfl, (Below.refl _ _).alloc (Nat.le_refl _) _⟩
      · have hb : b = false := by rw [← HB.out, hasB_no]; omega
        subst hb
        go_enter Tryd.func52, Tryd.ntmps52
        go_wp2
        go_ret
        exact ⟨rfl, (Below.refl _ _).alloc (Nat.le_refl _) _⟩
    · have hb : b = false := by rw [← HB.out, hasB_no]; omega
      subst hb
      go_enter Tryd.func52, Tryd.ntmps52
      go_wp2
      go_ret
      exact ⟨rfl, (Below.refl _ _).alloc (Nat.le_refl _) _⟩
  · have hb : b = false := by rw [← HB.out, hasB_no]; omega
    subst hb
    go_enter Tryd.func52, Tryd.ntmps52
    go_wp2
    go_ret
    exact ⟨rfl, (Below.refl _ _).alloc (Nat.le_refl _) _⟩

end Go.Proofs.YtjmkfcgnadpbaaaDoor
/- append to nothing, in a drawn region. -/
namespace Go.Proofs.YtjmkfcgnadpbaaaDoor
open Go.RowKit

theorem ready_append {P : Program} {o : Oper} {a : Act} {w w' : World} {K' : Act → World → Prop} {Q : Exit → Act → World → Prop} {ys : Nat → Option Bool} (hg : o.guard = none) (s x : Operand) (t : TypeId)
    (ho : o.op = .call { callee := .builtin .append, args := #[s, x], argTypes := #[t, t] }) (v1 v2 v' : Value) (hs : a.eval s = v1) (hx : a.eval x = v2) (hr : (Builtin.append_ #[t, t] o.type #[v1, v2]).run P w = .ok v' w')
    (hK : K' (a.put o.dst v') w') : if Region.wanted o ys = true then Oper.wp P o a w K' Q else K' (a.put o.dst undef) w := by
  simp only [Region.wanted, hg, if_true]
  unfold Oper.wp execOp
  simp only [ho, resolve, invoke, builtin, Sem.run_bind, Sem.run_pure, Result.andThen_ok, List.map_toArray, List.map_cons, List.map_nil, hs, hx, hr]
  exact hK
theorem app_pix (X : World) (ps : List (Int × Int)) (np gp op cp : Nat) (HN : Hid (ps.length = np)) (hps : np ≤ 64) (hne : ps ≠ []) (HR : Hid (RdP X (.slice (some ⟨gp, op, none⟩) np cp) ps)) :
    ∃ g co w', (Builtin.append_ #[47, 47] 47 #[.slice none 0 0, .slice (some ⟨gp, op, none⟩) np cp]).run Tryd.prog X = .ok (.slice (some ⟨g, 0, none⟩) np co) w' ∧
      w'.ownsRow X.heap.size 42 2 (.slice (some ⟨g, 0, none⟩) np co) np (pixCells ps) ∧ Below X.heap.size X w' ∧ X.heap.size ≤ g := by
  obtain ⟨i0, hi, hz0, hz1, hz2⟩ := info_parts Tryd.infoPix
  have hn := HN.out
  subst hn
  have hl0 : ps.length ≠ 0 := by intro e; exact hne (List.length_eq_zero_iff.1 e)
  have h0 : X.ownsRow X.heap.size 42 2 (.slice none 0 0) 0 [] := ⟨by simp, .inl ⟨rfl, rfl⟩⟩
  obtain ⟨v', w', hr, h1, h2, h3⟩ := run_append_own (P := Tryd.prog) X X.heap.size 47 47 42 i0 (.agg #[.int .i64 0, .int .i64 0]) 2 16 Tryd.underlying47 hi hz0 hz1 hz2 rfl (by decide) _ 0 [] h0 ⟨gp, op, none⟩ ps.length cp (pixCells ps) (pixCells_length ps) (rd_cells HR.out hne) (pixCells_one ps) (by unfold maxLen; omega) (by omega) (Nat.le_refl _)
  rw [Nat.zero_add, List.nil_append] at h1
  obtain ⟨g, co, rfl, hg, _, _⟩ := own_shape h1 hl0
  exact ⟨g, co, w', hr, h1, (Below.refl _ _).grown h2 (Nat.le_refl _) (by intro k hk; simp [Value.ownBlock] at hk), hg⟩
end Go.Proofs.YtjmkfcgnadpbaaaDoor
/- Walk of the reference's Changed. -/
namespace Go.Proofs.YtjmkfcgnadpbaaaDoor
open Go.RowKit

/-- what holds on the road of Changed -/
structure Gce (w : World) (vp vq : Value) (PW PH QW QH : Nat) (ps qs : List (Int × Int)) (B g np co bo : Nat) (cur : List (Int × Int)) (w' : World) : Prop where
  gl : Gad w vp vq PW PH QW QH ps qs w'
  to : Three w' bo (.int .i64 (PW : Int)) (.int .i64 (PH : Int)) (.slice (some ⟨g, 0, none⟩) np co)
  own : w'.ownsRow B 42 2 (.slice (some ⟨g, 0, none⟩) np co) np (pixCells cur)
section
variable {w : World} {vp vq : Value} {PW PH QW QH : Nat} {ps qs : List (Int × Int)} {B g np co bo : Nat} {cur : List (Int × Int)} {w1 w2 : World}
theorem Gce.on (h : Gce w vp vq PW PH QW QH ps qs B g np co bo cur w1) (hb : Below w1.heap.size w1 w2) : Gce w vp vq PW PH QW QH ps qs B g np co bo cur w2 := ⟨h.gl.on hb, h.to.on hb, own_on2 h.own hb⟩
theorem Gce.drew (h : Gce w vp vq PW PH QW QH ps qs B g np co bo cur w1) : Gce w vp vq PW PH QW QH ps qs B g np co bo cur w1.drew := ⟨h.gl.drew, h.to.drew, h.own⟩
theorem Gce.slot (h : Gce w vp vq PW PH QW QH ps qs B g np co bo cur w1) (hl : cur.length = np) {K : Nat} (hK : K < np) :
    ∃ u0 u1, w1.cell? ⟨g, K * 2, none⟩ = some u0 ∧ w1.cell? ⟨g, K * 2 + 1, none⟩ = some u1 ∧ w1.frozen? ⟨g, K * 2, none⟩ = false ∧ w1.frozen? ⟨g, K * 2 + 1, none⟩ = false := by
  have hk : K < cur.length := by rw [hl]; exact hK
  exact ⟨_, _, (h.own.cellAt (K * 2) (by omega)).trans (pixCells_at _ K hk).1, (h.own.cellAt (K * 2 + 1) (by omega)).trans (pixCells_at _ K hk).2, h.own.frozenAt _, h.own.frozenAt _⟩
theorem Gce.store (h : Gce w vp vq PW PH QW QH ps qs B g np co bo cur w1) (hp : RdP w vp ps) (hq : RdP w vq qs) (hg : w.heap.size + 3 ≤ g) (hgb : g ≠ bo) (K : Nat) (v u : Int) :
    Gce w vp vq PW PH QW QH ps qs B g np co bo (cur.set K (v, u)) ((w1.setCell ⟨g, K * 2, none⟩ (.int .i64 v)).setCell ⟨g, K * 2 + 1, none⟩ (.int .i64 u)) := by
  have hb : Below w.heap.size w ((w1.setCell ⟨g, K * 2, none⟩ (.int .i64 v)).setCell ⟨g, K * 2 + 1, none⟩ (.int .i64 u)) := (h.gl.bel.setCell (show w.heap.size ≤ g by omega) _).setCell (show w.heap.size ≤ g by omega) _
  refine ⟨⟨(h.gl.tp.other (by omega)).other (by omega), (h.gl.tq.other (by omega)).other (by omega), (h.gl.tr.other (by omega)).other (by omega), hp.on hb, hq.on hb, hb⟩, (h.to.other (by omega)).other (by omega), ?_⟩
  have h1 := (h.own.stored (K * 2) (.int .i64 v)).1
  have h2 := (h1.stored (K * 2 + 1) (.int .i64 u)).1
  rw [pixCells_set] at h2
  exact h2
end

set_option maxHeartbeats 40000000 in
set_option maxRecDepth 100000 in
theorem changed_own (PW PH QW QH : Nat) (vp vq : Value) (ps qs : List (Int × Int)) (x y : Int) (ad : Bool) (f : Int × Int → Int × Int → Int × Int) (hf : f = if ad then addP else fun _ q => q) (w : World) (HP : Hid (checkL PW PH ps = 0)) (HQ : Hid (checkL QW QH qs = 0)) (RP : Hid (RdP w vp ps)) (RQ : Hid (RdP w vq qs))
    (hx : -20 ≤ x) (hx2 : x ≤ 20) (hy : -20 ≤ y) (hy2 : y ≤ 20) :
    Calls Tryd.prog 39 #[picV PW PH vp, picV QW QH vq, .int .i64 x, .int .i64 y, .bool ad] w
      fun e w' => ∃ v', e = .returned (picV PW PH v') ∧ w'.ownsRow w.heap.size 42 2 v' (chL f PW ps QW QH qs x y 0 0 (PW : Int) (PH : Int)).length (pixCells (chL f PW ps QW QH qs x y 0 0 (PW : Int) (PH : Int))) ∧ Below w.heap.size w w' := by
  obtain ⟨PW', PH', e1, e2, p1, p2, p3, p4, pl, pok⟩ := check_zero _ _ _ HP.out
  obtain ⟨QW', QH', e3, e4, q1, q2, q3, q4, ql, qok⟩ := check_zero _ _ _ HQ.out
  obtain rfl : PW' = PW := by omega
  obtain rfl : PH' = PH := by omega
  obtain rfl : QW' = QW := by omega
  obtain rfl : QH' = QH := by omega
  clear e1 e2 e3 e4
  have POK : Hid (∀ k, k < ps.length → pixOk (ps.getD k (0, 0))) := pok
  have QOK : Hid (∀ k, k < qs.length → pixOk (qs.getD k (0, 0))) := qok
  clear pok qok
  have hm1 : PW' * PH' ≤ 8 * 8 := Nat.mul_le_mul p2 p4
  have hm2 : 1 * 1 ≤ PW' * PH' := Nat.mul_le_mul p1 p3
  have hm3 : QW' * QH' ≤ 8 * 8 := Nat.mul_le_mul q2 q4
  have hqne : qs ≠ [] := by
    intro e; rw [e] at ql
    have : 1 * 1 ≤ QW' * QH' := Nat.mul_le_mul q1 q3
    simp at ql; omega
  have hne : ps ≠ [] := by intro e; rw [e] at pl; simp at pl; omega
  obtain ⟨ap, cp, hvp, hlp, hcp, _⟩ := RP.out
  obtain ⟨aq, cq, hvq, hlq, hcq, _⟩ := RQ.out
  obtain ⟨np, HNP⟩ : ∃ n, Hid (ps.length = n) := ⟨_, (rfl : _ = _)⟩
  obtain ⟨nq, HNQ⟩ : ∃ n, Hid (qs.length = n) := ⟨_, (rfl : _ = _)⟩
  rw [HNP.out] at hvp hlp pl
  rw [HNQ.out] at hvq hlq ql
  subst hvp hvq
  have hnp : np ≤ 64 := by omega
  have hnp1 : 1 ≤ np := by omega
  have hnq : nq ≤ 64 := by omega
  have HPL : Hid (np = PW' * PH') := pl
  have HQL : Hid (nq = QW' * QH') := ql
  clear pl ql hm1 hm2 hm3
  unfold picV
  obtain ⟨W0, HW0⟩ : ∃ W, Hid (((w.alloc (.cells #[.int .i64 (PW' : Int), .int .i64 (PH' : Int), .slice ap np cp] 49)).alloc (.cells #[.int .i64 (QW' : Int), .int .i64 (QH' : Int), .slice aq nq cq] 49)).alloc (.cells #[.int .i64 0, .int .i64 0, .slice none 0 0] 49) = W) := ⟨_, (rfl : _ = _)⟩
  have hb0 : Below w.heap.size w W0 := by rw [← HW0.out]; exact (((Below.refl _ _).alloc (Nat.le_refl _) _).alloc (by simp) _).alloc (by simp; omega) _
  have HSZ : Hid (W0.heap.size = w.heap.size + 3) := by unfold Hid; rw [← HW0.out]; simp
  have HG0 : Hid (Gad w (.slice ap np cp) (.slice aq nq cq) PW' PH' QW' QH' ps qs W0) := by
    refine ⟨?_, ?_, ?_, RP.out.on hb0, RQ.out.on hb0, hb0⟩
    · rw [← HW0.out]; exact ((three_start w (.int .i64 (PW' : Int)) (.int .i64 (PH' : Int)) (.slice ap np cp) 49).alloc _).alloc _
    · rw [← HW0.out]; exact (three_begin _ (.int .i64 (QW' : Int)) (.int .i64 (QH' : Int)) (.slice aq nq cq) 49 (w.heap.size + 1) (by simp)).alloc _
    · rw [← HW0.out]; exact three_begin _ (.int .i64 0) (.int .i64 0) (.slice none 0 0) 49 (w.heap.size + 1 + 1) (by simp)
  clear hb0
  go_enter Tryd.func39, Tryd.ntmps39
  go_wp2_with fail
  rw [HW0.out]
  obtain ⟨gp, op, rfl, hgp, PC⟩ := rd_some HG0.out.rp hne
  obtain ⟨gq_, oq, rfl, hgq, QC⟩ := rd_some HG0.out.rq hqne
  clear PC QC
  have HB0D : Hid (Below W0.heap.size W0 W0.drew) := (Below.refl _ _).drew
  have KEEP : Hid (∀ W2, Below W0.heap.size W0 W2 → (W2.cell? ⟨w.heap.size, 0, none⟩ = some (.int .i64 (PW' : Int)) ∧ W2.cell? ⟨w.heap.size, 1, none⟩ = some (.int .i64 (PH' : Int)) ∧ W2.cell? ⟨w.heap.size, 2, none⟩ = some (.slice (some ⟨gp, op, none⟩) np cp))) := fun W2 h2 => by
    obtain ⟨⟨c0, c1, c2, _, _, _, _⟩, _, _, _, _⟩ := HG0.out.on h2
    exact ⟨c0, c1, c2⟩
  have HRD : Hid (RdP W0.drew (.slice (some ⟨gp, op, none⟩) np cp) ps) := HG0.out.rp
  go_cut [11] from 17 (fun s5 wc => ∃ bo g co, s5 = .pointer (some ⟨bo, 0, none⟩) ∧ Three wc bo (.int .i64 (PW' : Int)) (.int .i64 (PH' : Int)) (.slice (some ⟨g, 0, none⟩) np co) ∧ wc.ownsRow W0.heap.size 42 2 (.slice (some ⟨g, 0, none⟩) np co) np (pixCells ps) ∧ Below W0.heap.size W0 wc ∧ g ≠ bo ∧ W0.heap.size ≤ g ∧ W0.heap.size ≤ bo)
  case first =>
    refine wp_region_held_drew (S := (fun w' => w'.cell? ⟨w.heap.size, 0, none⟩ = some (.int .i64 (PW' : Int)) ∧ w'.cell? ⟨w.heap.size, 1, none⟩ = some (.int .i64 (PH' : Int)) ∧ w'.cell? ⟨w.heap.size, 2, none⟩ = some (.slice (some ⟨gp, op, none⟩) np cp))) (by kernel_rfl) ?_ (fun hHeld => ?_)
    · exact KEEP.out _ HB0D.out
    refine tk (v := ?_) 0 rfl (by kernel_rfl) (by rfl) ?_ ?_
    rotate_left
    · (intro w hSw; (try dsimp only at hSw); go_simp; try with_reducible rfl)
    refine tk (v := ?_) 1 rfl (by kernel_rfl) (by rfl) ?_ ?_
    rotate_left
    · (intro w hSw; (try dsimp only at hSw); go_simp; try with_reducible rfl)
    refine tk (v := ?_) 2 rfl (by kernel_rfl) (by rfl) ?_ ?_
    rotate_left
    · (intro w hSw; (try dsimp only at hSw); go_simp; try with_reducible rfl)
    refine tk (v := ?_) 3 rfl (by kernel_rfl) (by rfl) ?_ ?_
    rotate_left
    · (intro w hSw; (try dsimp only at hSw); go_simp; try with_reducible rfl)
    refine tk (v := ?_) 4 rfl (by kernel_rfl) (by rfl) ?_ ?_
    rotate_left
    · (intro w hSw; (try dsimp only at hSw); go_simp; try with_reducible rfl)
    refine tk (v := ?_) 5 rfl (by kernel_rfl) (by rfl) ?_ ?_
    rotate_left
    · (intro w hSw; (try dsimp only at hSw); go_simp; try with_reducible rfl)
    refine wpAnyH_ready (rs := [6, 8]) (by kernel_rfl) (by simp) ?_
    refine AllReadyH.cons rfl (fun K_ hK => ?_) (AllReadyH.cons rfl (fun K_ hK => ?_) AllReadyH.nil)
    · obtain ⟨g, co, w1, hr, ho1, hb1, hg1⟩ := app_pix W0.drew ps np gp op cp HNP hnp hne HRD
      refine ready_append rfl _ _ _ rfl _ _ _ rfl rfl hr ?_
      have HB1 : Hid (Below W0.heap.size W0 w1) := HB0D.out.trans (hb1.mono HB0D.out.size)
      have HO1 := hide_own ho1
      refine hK.out _ _ ?_ (fun hHeld => ?_)
      · exact KEEP.out _ HB1.out
      clear hK K_
      refine tk (v := ?_) 7 rfl (by kernel_rfl) (by rfl) ?_ ?_
      rotate_left
      · (intro w hSw; (try dsimp only at hSw); go_simp; try with_reducible rfl)
      refine wpAnyH_ready (rs := [8]) (by kernel_rfl) (by simp) ?_
      refine AllReadyH.cons rfl (fun K_ hK => ?_) AllReadyH.nil
      go_simp
      have HBA : Hid (Below W0.heap.size W0 (w1.alloc (.cells #[.int .i64 0, .int .i64 0, .slice none 0 0] 49))) := HB1.out.alloc HB1.out.size _
      have TA := three_start w1 (.int .i64 0) (.int .i64 0) (.slice none 0 0) 49
      have hgl : g < w1.heap.size := (HO1.out.lt g rfl).2
      refine hK.out _ _ ?_ (fun hHeld => ?_)
      · exact KEEP.out _ HBA.out
      clear hK K_
      obtain ⟨t0, t1, t2, f0, f1, f2, _⟩ := TA
      have hle := HB1.out.size
      have HBS : Hid (Below W0.heap.size W0 (w1.alloc (.cells #[.int .i64 (PW' : Int), .int .i64 (PH' : Int), .slice (some ⟨g, 0, none⟩) np co] 49))) := HB1.out.alloc hle _
      have HOS := hide_own (own_on2 HO1.out ((Below.refl _ w1).alloc (Nat.le_refl _) (.cells #[.int .i64 (PW' : Int), .int .i64 (PH' : Int), .slice (some ⟨g, 0, none⟩) np co] 49)))
      refine wpAnyH_ready (rs := [9]) (by kernel_rfl) (by simp) ?_
      refine AllReadyH.cons rfl (fun K_ hK => ?_) AllReadyH.nil
      go_simp
      refine hK.out _ _ ?_ (fun hHeld => ?_)
      · exact KEEP.out _ HBS.out
      clear hK K_
      refine wpAnyH_done (by kernel_rfl) ?_ _
      go_wp2_with fail
      go_meet
      exact ⟨_, g, co, rfl, three_start w1 _ _ _ _, HOS.out, HBS.out, by omega, hg1, hle⟩
    · go_simp
      have HZ : Hid (Below W0.heap.size W0 (W0.drew.alloc (.cells #[.int .i64 0, .int .i64 0, .slice none 0 0] 49))) := HB0D.out.alloc HB0D.out.size _
      have TA := three_start W0.drew (.int .i64 0) (.int .i64 0) (.slice none 0 0) 49
      refine hK.out _ _ ?_ (fun hHeld => ?_)
      · exact KEEP.out _ HZ.out
      clear hK K_
      have HRZ : Hid (RdP (W0.drew.alloc (.cells #[.int .i64 0, .int .i64 0, .slice none 0 0] 49)) (.slice (some ⟨gp, op, none⟩) np cp) ps) := HRD.out.on ((Below.refl _ _).alloc (Nat.le_refl _) _)
      refine wpAnyH_ready (rs := [6]) (by kernel_rfl) (by simp) ?_
      refine AllReadyH.cons rfl (fun K_ hK => ?_) AllReadyH.nil
      obtain ⟨g, co, w1, hr, ho1, hb1, hg1⟩ := app_pix (W0.drew.alloc (.cells #[.int .i64 0, .int .i64 0, .slice none 0 0] 49)) ps np gp op cp HNP hnp hne HRZ
      refine ready_append rfl _ _ _ rfl _ _ _ rfl rfl hr ?_
      have HB1 : Hid (Below W0.heap.size W0 w1) := HZ.out.trans (hb1.mono HZ.out.size)
      have HO1 := hide_own ho1
      have TB := TA.on hb1
      refine hK.out _ _ ?_ (fun hHeld => ?_)
      · exact KEEP.out _ HB1.out
      clear hK K_
      refine tk (v := ?_) 7 rfl (by kernel_rfl) (by rfl) ?_ ?_
      rotate_left
      · (intro w hSw; (try dsimp only at hSw); go_simp; try with_reducible rfl)
      have ⟨t0, t1, t2, f0, f1, f2, _⟩ := TB
      have hdz : W0.drew.heap.size = W0.heap.size := rfl
      rw [hdz] at t0 t1 t2 f0 f1 f2 TB TA
      have hle : W0.heap.size ≤ W0.heap.size := Nat.le_refl _
      have hzs : (W0.drew.alloc (.cells #[.int .i64 0, .int .i64 0, .slice none 0 0] 49)).heap.size = W0.heap.size + 1 := by simp
      rw [hzs] at HO1 hg1
      have HBS : Hid (Below W0.heap.size W0 (((w1.setCell ⟨W0.heap.size, 0, none⟩ (.int .i64 (PW' : Int))).setCell ⟨W0.heap.size, 1, none⟩ (.int .i64 (PH' : Int))).setCell ⟨W0.heap.size, 2, none⟩ (.slice (some ⟨g, 0, none⟩) np co))) := ((HB1.out.setCell hle _).setCell hle _).setCell hle _
      have HOS : Hid ((((w1.setCell ⟨W0.heap.size, 0, none⟩ (.int .i64 (PW' : Int))).setCell ⟨W0.heap.size, 1, none⟩ (.int .i64 (PH' : Int))).setCell ⟨W0.heap.size, 2, none⟩ (.slice (some ⟨g, 0, none⟩) np co)).ownsRow (W0.heap.size + 1) 42 2 (.slice (some ⟨g, 0, none⟩) np co) np (pixCells ps)) := by
        unfold Hid
        refine ownsRow_setCell_below (ownsRow_setCell_below (ownsRow_setCell_below HO1.out ?_ _) ?_ _) ?_ _
        all_goals simp
      refine wpAnyH_ready (rs := [9]) (by kernel_rfl) (by simp) ?_
      refine AllReadyH.cons rfl (fun K_ hK => ?_) AllReadyH.nil
      go_simp
      refine hK.out _ _ ?_ (fun hHeld => ?_)
      · exact KEEP.out _ HBS.out
      clear hK K_
      refine wpAnyH_done (by kernel_rfl) ?_ _
      go_wp2_with fail
      go_meet
      exact ⟨_, g, co, rfl, TB.set_all _ _ _, own_mono HOS.out (by omega), HBS.out, by omega, by omega, hle⟩
  case rest =>
    obtain ⟨bo, g, co, rfl, TO, ho1, hb1, hgb, hg0, hbo0⟩ := hcut
    have hlen : ps.length = PW' * PH' := by rw [HNP.out]; exact HPL.out
    have HS0 : Hid (Gce w (.slice (some ⟨gp, op, none⟩) np cp) (.slice (some ⟨gq_, oq, none⟩) nq cq) PW' PH' QW' QH' ps qs W0.heap.size g np co bo (gridL PW' (PW' * PH') (uptoC (fun cc rr => hasB x y (QW' : Int) (QH' : Int) (cc : Int) (rr : Int)) 0 0) (gq f PW' ps QW' qs x y) ps) wc) := by
      refine ⟨HG0.out.on hb1, TO, ?_⟩
      rw [refG_start _ _ _ _ _ hlen]; exact ho1
    clear TO ho1 hb1 KEEP HRD HB0D
    have hg3 : w.heap.size + 3 ≤ g := by have := HSZ.out; omega
    go_wp2_with fail
    go_loopw [12] (fun vv wr => ∃ V : Nat, V ≤ PH' ∧ vv = .int .i64 (V : Int) ∧ Hid (Gce w (.slice (some ⟨gp, op, none⟩) np cp) (.slice (some ⟨gq_, oq, none⟩) nq cq) PW' PH' QW' QH' ps qs W0.heap.size g np co bo (gridL PW' (PW' * PH') (uptoC (fun cc rr => hasB x y (QW' : Int) (QH' : Int) (cc : Int) (rr : Int)) V 0) (gq f PW' ps QW' qs x y) ps) wr)) (fun vv _ => PH' - (intOf vv).toNat)
    case atStart => exact ⟨0, by omega, rfl, HS0⟩
    case round =>
      obtain ⟨V, hV, rfl, HS⟩ := hrel
      by_cases hV2 : V < PH'
      · obtain ⟨⟨p0, p1, p2, _, _, _, _⟩, _, _, _, _, _⟩ := HS.out.gl
        go_wp2_with fail
        clear p0 p1 p2
        go_loopw [13] (fun uv wr => ∃ U : Nat, U ≤ PW' ∧ uv = .int .i64 (U : Int) ∧ Hid (Gce w (.slice (some ⟨gp, op, none⟩) np cp) (.slice (some ⟨gq_, oq, none⟩) nq cq) PW' PH' QW' QH' ps qs W0.heap.size g np co bo (gridL PW' (PW' * PH') (uptoC (fun cc rr => hasB x y (QW' : Int) (QH' : Int) (cc : Int) (rr : Int)) V U) (gq f PW' ps QW' qs x y) ps) wr)) (fun uv _ => PW' - (intOf uv).toNat)
        case atStart => exact ⟨0, by omega, rfl, HS⟩
        case round =>
          clear HS
          obtain ⟨U, hU, rfl, HS⟩ := hrel
          by_cases hU2 : U < PW'
          · obtain ⟨⟨p0, p1, p2, _, _, _, _⟩, ⟨q0, q1, q2, _, _, _, _⟩, _, _, _, _⟩ := HS.out.gl
            obtain ⟨h2, HH2⟩ : ∃ b', Hid (hasB x y (QW' : Int) (QH' : Int) (U : Int) (V : Int) = b') := ⟨_, (rfl : _ = _)⟩
            go_wp2_with fail
            clear p0 p1 p2 q0 q1 q2
            refine (refHas_any x y (QW' : Int) (QH' : Int) (U : Int) (V : Int) _ (by omega) (by omega) (by omega) (by omega) (by omega) (by omega) (by omega) (by omega) h2 HH2).mono ?_
            rintro e w8 ⟨rfl, hb8⟩
            have HS8 := hid_of (HS.out.on hb8)
            clear hb8 HS
            cases h2 with
            | true =>
              obtain ⟨M, HM⟩ : ∃ M, Hid (V * PW' = M) := ⟨_, (rfl : _ = _)⟩
              obtain ⟨K, HK⟩ : ∃ K, Hid (M + U = K) := ⟨_, (rfl : _ = _)⟩
              have hM : (V : Int) * (PW' : Int) = (M : Int) := by rw [← HM.out]; exact (Int.natCast_mul _ _).symm
              have hVP : (V + 1) * PW' ≤ PH' * PW' := Nat.mul_le_mul_right _ (by omega)
              have hKn : K < np := by
                have h1 := HK.out; have h2 := HPL.out; have h3 := HM.out
                rw [Nat.mul_comm] at h2; rw [Nat.add_mul] at hVP; omega
              have hMK : (M : Int) + (U : Int) = (K : Int) := by have := HK.out; omega
              have HKE : Hid (V * PW' + U = K) := by unfold Hid; rw [HM.out, HK.out]
              have HE1 : Hid (K / PW' = V) := by unfold Hid; rw [← HK.out, ← HM.out, Nat.add_comm, Nat.add_mul_div_right _ _ (by omega), Nat.div_eq_of_lt (by omega), Nat.zero_add]
              have HE2 : Hid (K % PW' = U) := by unfold Hid; rw [← HK.out, ← HM.out, Nat.add_comm, Nat.add_mul_mod_self_right, Nat.mod_eq_of_lt (by omega)]
              clear hVP
              obtain ⟨z0, z1, z2, z3⟩ := (hasB_iff _ _ _ _ _ _).1 HH2.out
              obtain ⟨Ry, HRy⟩ : ∃ n : Nat, Hid ((V : Int) - y = (n : Int)) := ⟨((V : Int) - y).toNat, by unfold Hid; omega⟩
              obtain ⟨Cx, HCx⟩ : ∃ n : Nat, Hid ((U : Int) - x = (n : Int)) := ⟨((U : Int) - x).toNat, by unfold Hid; omega⟩
              obtain ⟨M2, HM2⟩ : ∃ M, Hid (Ry * QW' = M) := ⟨_, (rfl : _ = _)⟩
              have hRy := HRy.out
              have hM2 : (Ry : Int) * (QW' : Int) = (M2 : Int) := by rw [← HM2.out]; exact (Int.natCast_mul _ _).symm
              have hRQ : (Ry + 1) * QW' ≤ QH' * QW' := Nat.mul_le_mul_right _ (by omega)
              obtain ⟨J, HJ⟩ : ∃ J, Hid (M2 + Cx = J) := ⟨_, (rfl : _ = _)⟩
              have hJn : J < nq := by
                have h1 := HM2.out; have h2 := HQL.out; have h3 := HCx.out; have h5 := HJ.out
                rw [Nat.mul_comm] at h2; rw [Nat.add_mul] at hRQ; omega
              have hJ : (M2 : Int) + (U : Int) - x = (J : Int) := by have := HCx.out; have := HJ.out; omega
              clear hRQ
              obtain ⟨pp, HPP⟩ : ∃ p, Hid (ps.getD K (0, 0) = p) := ⟨_, (rfl : _ = _)⟩
              obtain ⟨qq, HQQ⟩ : ∃ p, Hid (qs.getD J (0, 0) = p) := ⟨_, (rfl : _ = _)⟩
              have okp := getD_ok ps POK.out K
              have okq := getD_ok qs QOK.out J
              rw [HPP.out] at okp
              rw [HQQ.out] at okq
              obtain ⟨pv, pa⟩ := pp
              obtain ⟨qv, qa⟩ := qq
              obtain ⟨rr, HRR⟩ : ∃ r, Hid (f (pv, pa) (qv, qa) = r) := ⟨_, (rfl : _ = _)⟩
              obtain ⟨rv, ra⟩ := rr
              have HGQ : Hid (gq f PW' ps QW' qs x y K = (rv, ra)) := by
                unfold Hid gq
                rw [HE1.out, HE2.out, hRy, hM2, hJ, Int.toNat_natCast, HPP.out, HQQ.out]
                exact HRR.out
              obtain ⟨o0, o1, o2, o3⟩ := okp
              obtain ⟨o4, o5, o6, o7⟩ := okq
              have RDS : Hid (∀ W2 cur', Gce w (.slice (some ⟨gp, op, none⟩) np cp) (.slice (some ⟨gq_, oq, none⟩) nq cq) PW' PH' QW' QH' ps qs W0.heap.size g np co bo cur' W2 → (W2.cell? ⟨gp, op + K * 2, none⟩ = some (.int .i64 pv) ∧ W2.cell? ⟨gp, op + K * 2 + 1, none⟩ = some (.int .i64 pa) ∧ W2.cell? ⟨gq_, oq + J * 2, none⟩ = some (.int .i64 qv) ∧ W2.cell? ⟨gq_, oq + J * 2 + 1, none⟩ = some (.int .i64 qa))) := fun W2 cur' h2 => by
                obtain ⟨g0, o, hh0, _, hh⟩ := rd_some h2.gl.rp hne
                obtain ⟨g1, o', hh1, _, hh'⟩ := rd_some h2.gl.rq hqne
                obtain ⟨rfl, rfl, _⟩ := Addr.mk.inj (Option.some.inj hh0)
                obtain ⟨rfl, rfl, _⟩ := Addr.mk.inj (Option.some.inj hh1)
                obtain ⟨x0, x1⟩ := hh W2 (Below.refl _ _) K (by rw [HNP.out]; exact hKn)
                obtain ⟨y0, y1⟩ := hh' W2 (Below.refl _ _) J (by rw [HNQ.out]; exact hJn)
                rw [HPP.out] at x0 x1
                rw [HQQ.out] at y0 y1
                exact ⟨x0, x1, y0, y1⟩
              have hKi : (K : Int) < (np : Int) := by omega
              have hJi : (J : Int) < (nq : Int) := by omega
              have hw0 : IntKind.i64.wrap (M : Int) = (M : Int) := by rw [IntKind.wrap_i64]; omega
              have hw1 : IntKind.i64.wrap (K : Int) = (K : Int) := by rw [IntKind.wrap_i64]; omega
              have hw3 : IntKind.i64.wrap ((M2 : Int) + (U : Int)) = (M2 : Int) + (U : Int) := by rw [IntKind.wrap_i64]; omega
              have hw5 : IntKind.i64.wrap (Ry : Int) = (Ry : Int) := by rw [IntKind.wrap_i64]; omega
              have hw6 : IntKind.i64.wrap (M2 : Int) = (M2 : Int) := by rw [IntKind.wrap_i64]; omega
              have hw7 : IntKind.i64.wrap (J : Int) = (J : Int) := by rw [IntKind.wrap_i64]; omega
              have HLC : Hid ((gridL PW' (PW' * PH') (uptoC (fun cc rr => hasB x y (QW' : Int) (QH' : Int) (cc : Int) (rr : Int)) V U) (gq f PW' ps QW' qs x y) ps).length = np) := by unfold Hid; rw [grid_len]; exact HPL.out.symm
              have hQX : Below w8.heap.size w8 (w8.alloc (.cells #[.int .i64 qv, .int .i64 qa] 42)) := (Below.refl _ _).alloc (Nat.le_refl _) _
              have HS9 := hid_of (HS8.out.on hQX)
              clear hQX
              obtain ⟨⟨p0, p1, p2, _, _, _, _⟩, ⟨q0, q1, q2, _, _, _, _⟩, _, _, _, _⟩ := HS8.out.gl
              obtain ⟨x0, x1, y0, y1⟩ := RDS.out _ _ HS8.out
              cases ad with
              | false =>
                obtain ⟨rfl, rfl⟩ : qv = rv ∧ qa = ra := by have h := HRR.out; rw [hf] at h; simpa using h
                obtain ⟨u0, u1, hu0, hu1, hf0, hf1⟩ := HS9.out.slot HLC.out hKn
                obtain ⟨⟨p0', p1', p2', _, _, _, _⟩, _, _, _, _, _⟩ := HS9.out.gl
                obtain ⟨t0, t1, t2, _, _, _, _⟩ := HS9.out.to
                go_wp2_with fail
                have HSN : Hid (Gce w (.slice (some ⟨gp, op, none⟩) np cp) (.slice (some ⟨gq_, oq, none⟩) nq cq) PW' PH' QW' QH' ps qs W0.heap.size g np co bo (gridL PW' (PW' * PH') (uptoC (fun cc rr => hasB x y (QW' : Int) (QH' : Int) (cc : Int) (rr : Int)) V (U + 1)) (gq f PW' ps QW' qs x y) ps) (((w8.alloc (.cells #[.int .i64 qv, .int .i64 qa] 42)).setCell ⟨g, K * 2, none⟩ (.int .i64 qv)).setCell ⟨g, K * 2 + 1, none⟩ (.int .i64 qa))) := by
                  have h := HS9.out.store RP.out RQ.out hg3 hgb K qv qa
                  have e : (gridL PW' (PW' * PH') (uptoC (fun cc rr => hasB x y (QW' : Int) (QH' : Int) (cc : Int) (rr : Int)) V U) (gq f PW' ps QW' qs x y) ps).set K (qv, qa) = (gridL PW' (PW' * PH') (uptoC (fun cc rr => hasB x y (QW' : Int) (QH' : Int) (cc : Int) (rr : Int)) V (U + 1)) (gq f PW' ps QW' qs x y) ps) := by
                    rw [← HGQ.out, ← HKE.out]; exact refG_set _ _ _ _ _ _ _ hU2 hV2 HH2.out
                  rw [e] at h
                  exact h
                exact ⟨⟨U + 1, by omega, by go_num, HSN⟩, by simp [intOf]; omega⟩
              | true =>
                obtain ⟨rfl, rfl⟩ : (pv + qv) % 256 = rv ∧ (pa + qa) % 256 = ra := by have h := HRR.out; rw [hf] at h; unfold addP at h; simpa using h
                have HSX := hid_of (HS8.out.on (((Below.refl _ w8).alloc (Nat.le_refl _) (.cells #[.int .i64 ((pv + qv) % 256), .int .i64 ((pa + qa) % 256)] 42)).alloc (by simp) (.cells #[.int .i64 pv, .int .i64 pa] 42)))
                obtain ⟨u0, u1, hu0, hu1, hf0, hf1⟩ := HSX.out.slot HLC.out hKn
                obtain ⟨⟨p0', p1', p2', _, _, _, _⟩, _, _, _, _, _⟩ := HS9.out.gl
                obtain ⟨x0', x1', _, _⟩ := RDS.out _ _ HS9.out
                obtain ⟨⟨p0'', p1'', p2'', _, _, _, _⟩, _, _, _, _, _⟩ := HSX.out.gl
                obtain ⟨t0, t1, t2, _, _, _, _⟩ := HSX.out.to
                have hv1 : IntKind.i64.wrap (pv + qv) = pv + qv := by rw [IntKind.wrap_i64]; omega
                have hv2 : IntKind.i64.wrap (pa + qa) = pa + qa := by rw [IntKind.wrap_i64]; omega
                have ht1 : (pv + qv).tmod 256 = (pv + qv) % 256 := Int.tmod_eq_emod_of_nonneg (by omega)
                have ht2 : (pa + qa).tmod 256 = (pa + qa) % 256 := Int.tmod_eq_emod_of_nonneg (by omega)
                go_wp2_with fail
                have HSN : Hid (Gce w (.slice (some ⟨gp, op, none⟩) np cp) (.slice (some ⟨gq_, oq, none⟩) nq cq) PW' PH' QW' QH' ps qs W0.heap.size g np co bo (gridL PW' (PW' * PH') (uptoC (fun cc rr => hasB x y (QW' : Int) (QH' : Int) (cc : Int) (rr : Int)) V (U + 1)) (gq f PW' ps QW' qs x y) ps) ((((w8.alloc (.cells #[.int .i64 ((pv + qv) % 256), .int .i64 ((pa + qa) % 256)] 42)).alloc (.cells #[.int .i64 pv, .int .i64 pa] 42)).setCell ⟨g, K * 2, none⟩ (.int .i64 ((pv + qv) % 256))).setCell ⟨g, K * 2 + 1, none⟩ (.int .i64 ((pa + qa) % 256)))) := by
                  have h := HSX.out.store RP.out RQ.out hg3 hgb K ((pv + qv) % 256) ((pa + qa) % 256)
                  have e : (gridL PW' (PW' * PH') (uptoC (fun cc rr => hasB x y (QW' : Int) (QH' : Int) (cc : Int) (rr : Int)) V U) (gq f PW' ps QW' qs x y) ps).set K ((pv + qv) % 256, (pa + qa) % 256) = (gridL PW' (PW' * PH') (uptoC (fun cc rr => hasB x y (QW' : Int) (QH' : Int) (cc : Int) (rr : Int)) V (U + 1)) (gq f PW' ps QW' qs x y) ps) := by
                    rw [← HGQ.out, ← HKE.out]; exact refG_set _ _ _ _ _ _ _ hU2 hV2 HH2.out
                  rw [e] at h
                  exact h
                exact ⟨⟨U + 1, by omega, by go_num, HSN⟩, by simp [intOf]; omega⟩
            | false =>
              have hC' : (fun cc rr => hasB x y (QW' : Int) (QH' : Int) (cc : Int) (rr : Int)) U V = false := HH2.out
              have HSN : Hid (Gce w (.slice (some ⟨gp, op, none⟩) np cp) (.slice (some ⟨gq_, oq, none⟩) nq cq) PW' PH' QW' QH' ps qs W0.heap.size g np co bo (gridL PW' (PW' * PH') (uptoC (fun cc rr => hasB x y (QW' : Int) (QH' : Int) (cc : Int) (rr : Int)) V (U + 1)) (gq f PW' ps QW' qs x y) ps) w8) := by have h := HS8.out; rw [refG_skip _ _ _ _ _ _ _ hC'] at h; exact h
              go_wp2_with fail
              go_roundw
              case rel => exact ⟨U + 1, by omega, by go_num, HSN⟩
              case measure => simp [intOf]; omega
          · obtain ⟨⟨p0, p1, p2, _, _, _, _⟩, _, _, _, _⟩ := HS.out.gl
            have hUE : U = PW' := by omega
            have HSN : Hid (Gce w (.slice (some ⟨gp, op, none⟩) np cp) (.slice (some ⟨gq_, oq, none⟩) nq cq) PW' PH' QW' QH' ps qs W0.heap.size g np co bo (gridL PW' (PW' * PH') (uptoC (fun cc rr => hasB x y (QW' : Int) (QH' : Int) (cc : Int) (rr : Int)) (V + 1) 0) (gq f PW' ps QW' qs x y) ps) wr) := by have h := HS.out; rw [hUE, refG_row _ _ _ _ _ _ (by omega)] at h; exact h
            go_wp2_with fail
            go_roundw
            case rel => exact ⟨V + 1, by omega, by go_num, HSN⟩
            case measure => simp [intOf]; omega
      · have hVE : V = PH' := by omega
        have ho := HS.out.own
        rw [hVE, chC_end _ _ _ _ _ _ _ _ _ (by omega) hlen] at ho
        have HOF := hide_own ho
        obtain ⟨⟨p0, p1, p2, _, _, _, _⟩, _, ⟨r0, r1, r2, f0, f1, f2, _⟩, _, _, hbw⟩ := HS.out.gl
        obtain ⟨t0, t1, t2, _, _, _, _⟩ := HS.out.to
        go_wp2_with fail
        have HWB : Hid (w.heap.size + 1 + 1 < W0.heap.size) := by have := HSZ.out; unfold Hid; omega
        refine bodyPost_ret (v := .agg #[.int .i64 (PW' : Int), .int .i64 (PH' : Int), .slice (some ⟨g, 0, none⟩) np co]) (by simp [results, Tryd.results39, go_sem, r0, r1, r2]) rfl ⟨_, rfl, ?_, ?_⟩
        · refine own_mono (B := W0.heap.size) ?_ (by have := HWB.out; omega)
          rw [ch_len, HNP.out]
          have hlt := HWB.out
          refine ownsRow_setCell_below (ownsRow_setCell_below (ownsRow_setCell_below HOF.out ?_ _) ?_ _) ?_ _
          all_goals (simp; omega)
        · refine ((hbw.setCell ?_ _).setCell ?_ _).setCell ?_ _
          all_goals (simp; try omega)
theorem changed_any (PW PH QW QH : Nat) (vp vq : Value) (ps qs : List (Int × Int)) (x y : Int) (ad : Bool) (f : Int × Int → Int × Int → Int × Int) (hf : f = if ad then addP else fun _ q => q) (w : World) (HP : Hid (checkL PW PH ps = 0)) (HQ : Hid (checkL QW QH qs = 0)) (RP : Hid (RdP w vp ps)) (RQ : Hid (RdP w vq qs))
    (hx : -20 ≤ x) (hx2 : x ≤ 20) (hy : -20 ≤ y) (hy2 : y ≤ 20) :
    Calls Tryd.prog 39 #[picV PW PH vp, picV QW QH vq, .int .i64 x, .int .i64 y, .bool ad] w
      fun e w' => ∃ v', e = .returned (picV PW PH v') ∧ RdP w' v' (chL f PW ps QW QH qs x y 0 0 (PW : Int) (PH : Int)) ∧ Below w.heap.size w w' := by
  refine (changed_own PW PH QW QH vp vq ps qs x y ad f hf w HP HQ RP RQ hx hx2 hy hy2).mono ?_
  rintro e w' ⟨v', h1, h2, h3⟩
  exact ⟨v', h1, rdP_own h2, h3⟩
end Go.Proofs.YtjmkfcgnadpbaaaDoor
/- The table of shapes. -/
namespace Go.Proofs.YtjmkfcgnadpbaaaDoor
open Go.ChangeShapes Go.WideShapes Go.ChangeAt Go.RowKit Go.Joins Go.Deep Go.Lib

/-- a kind's shape -/
structure Shp where
  kind : Nat
  name : List UInt8
  id : Bool
  nums : Nat
  low : Int
  high : Int
  pic : Bool
/-- all of them -/
def shps : List Shp := [
  ⟨1, [72, 69, 65, 68], false, 2, 1, 8, false⟩,
  ⟨2, [80, 73, 67, 84], true, 0, 0, 0, true⟩,
  ⟨3, [77, 79, 86, 69], true, 2, (-20), 20, false⟩,
  ⟨4, [67, 76, 73, 80], true, 4, 0, 0, false⟩,
  ⟨5, [83, 72, 79, 87], true, 1, 0, 1, false⟩,
  ⟨6, [67, 79, 80, 89], true, 1, 1, 6, false⟩,
  ⟨7, [68, 82, 79, 80], true, 0, 0, 0, false⟩,
  ⟨8, [80, 65, 68, 68], true, 2, (-20), 20, true⟩,
  ⟨9, [80, 80, 85, 84], true, 2, (-20), 20, true⟩,
  ⟨10, [66, 65, 67, 75], false, 2, 0, 255, false⟩,
  ⟨11, [87, 65, 73, 84], false, 1, 0, 99, false⟩,
  ⟨12, [76, 79, 79, 80], false, 1, 0, 9, false⟩,
  ⟨13, [78, 69, 88, 84], false, 0, 0, 0, false⟩,
  ⟨14, [83, 65, 86, 69], false, 0, 0, 0, false⟩,
  ⟨15, [83, 69, 69, 75], false, 0, 0, 0, false⟩,
  ⟨16, [69, 78, 68, 83], false, 0, 0, 0, false⟩]
/-- a name, as bytes -/
def Shp.bytes (s : Shp) : ByteArray := ⟨s.name.toArray⟩
def Shp.cells (s : Shp) : List Value := [.int .i64 (s.kind : Int), .string s.bytes, .bool s.id, .int .i64 (s.nums : Int), .int .i64 s.low, .int .i64 s.high, .bool s.pic]
def Shp.val (s : Shp) : Value := .agg #[.int .i64 (s.kind : Int), .string s.bytes, .bool s.id, .int .i64 (s.nums : Int), .int .i64 s.low, .int .i64 s.high, .bool s.pic]
def Shp.data {H : Type} (s : Shp) : DataW H := .agg [.lit (.int .i64 (s.kind : Int)), .lit (.string s.name), .lit (.bool s.id), .lit (.int .i64 (s.nums : Int)), .lit (.int .i64 s.low), .lit (.int .i64 s.high), .lit (.bool s.pic)]

theorem laid_is {H : Type} : (Rows.laid_flickerbook_op_shapes : DataW H) = .agg (shps.map Shp.data) := rfl

/-- the table lies where the program has it -/
def Shapes (W : World) : Prop := ∀ k s, shps[k]? = some s → ∀ j u, s.cells[j]? = some u → W.cell? ⟨0, 7 * k + j, none⟩ = some u

theorem Tryd.cellsShp : Tryd.prog.cellsOf 97 = 7 := by kernel_rfl
theorem Tryd.cellsShps : Tryd.prog.cellsOf 123 = 112 := by kernel_rfl
theorem Tryd.cellsI : Tryd.prog.cellsOf 3 = 1 := by kernel_rfl
theorem Tryd.cellsS : Tryd.prog.cellsOf 9 = 1 := by kernel_rfl
theorem Tryd.cellsB : Tryd.prog.cellsOf 4 = 1 := by kernel_rfl

set_option maxRecDepth 100000 in
theorem shp_cells {H : Type} {enc : TypeId × Value → H} {W : World} {cs : List Value} {base : Nat} {sp : Nat → Bool} {held : Bool} {fuel : Nat} {z : DataW H × List MemPlace} (s : Shp) (hl : cs.length = 7)
    (h : DataW.trod enc Tryd.prog W base sp held fuel 97 cs = some z) (hz : z.1 = s.data) : cs = s.cells := by
  obtain ⟨xs, n, _, rfl, hl', hlen, hf⟩ := DataW.trod_struct Tryd.underlying97 h
  match cs, hl with
  | [c0, c1, c2, c3, c4, c5, c6], _ =>
    match xs, hlen with
    | [y0, y1, y2, y3, y4, y5, y6], _ =>
      have h0 : DataW.trod enc Tryd.prog W base sp held n 3 [c0] = some y0 := by have := hf 0 _ rfl; simpa [Tryd.cellsI] using this
      have h1 : DataW.trod enc Tryd.prog W base sp held n 9 [c1] = some y1 := by have := hf 1 _ rfl; simpa [Tryd.cellsS] using this
      have h2 : DataW.trod enc Tryd.prog W base sp held n 4 [c2] = some y2 := by have := hf 2 _ rfl; simpa [Tryd.cellsB] using this
      have h3 : DataW.trod enc Tryd.prog W base sp held n 3 [c3] = some y3 := by have := hf 3 _ rfl; simpa [Tryd.cellsI] using this
      have h4 : DataW.trod enc Tryd.prog W base sp held n 3 [c4] = some y4 := by have := hf 4 _ rfl; simpa [Tryd.cellsI] using this
      have h5 : DataW.trod enc Tryd.prog W base sp held n 3 [c5] = some y5 := by have := hf 5 _ rfl; simpa [Tryd.cellsI] using this
      have h6 : DataW.trod enc Tryd.prog W base sp held n 4 [c6] = some y6 := by have := hf 6 _ rfl; simpa [Tryd.cellsB] using this
      obtain ⟨i0, e0, rfl, _⟩ := DataW.trod_int Tryd.underlying3 h0
      obtain ⟨i1, e1, rfl, _⟩ := DataW.trod_string Tryd.underlying9 h1
      obtain ⟨i2, e2, rfl⟩ := DataW.trod_bool Tryd.underlying4 h2
      obtain ⟨i3, e3, rfl, _⟩ := DataW.trod_int Tryd.underlying3 h3
      obtain ⟨i4, e4, rfl, _⟩ := DataW.trod_int Tryd.underlying3 h4
      obtain ⟨i5, e5, rfl, _⟩ := DataW.trod_int Tryd.underlying3 h5
      obtain ⟨i6, e6, rfl⟩ := DataW.trod_bool Tryd.underlying4 h6
      simp [Shp.data] at hz
      obtain ⟨rfl, z1, rfl, rfl, rfl, rfl, rfl⟩ := hz
      simp at e0 e1 e2 e3 e4 e5 e6
      subst e0 e1 e2 e3 e4 e5 e6
      have hb : i1 = s.bytes := by unfold Shp.bytes; rw [← z1]
      rw [hb]
      rfl

theorem shps_len : shps.length = 16 := rfl

theorem shapes_of_laid {W : World} {rest : List (String × DataW Unit)} (h : laidMet Tryd.prog (("flickerbook/op.shapes", Rows.laid_flickerbook_op_shapes) :: rest) W) : Shapes W := by
  obtain ⟨ps, ⟨g', t', cs, fuel, p, q, hg', ht', hvar, hd, _, _⟩, _⟩ := h
  obtain rfl := Option.some.inj ((show Tryd.prog.globalNamed "flickerbook/op.shapes" = some 0 by kernel_rfl).symm.trans hg')
  obtain rfl := Option.some.inj ((show (Tryd.prog.globals[0]?).map (·.type) = some 123 by kernel_rfl).symm.trans ht')
  rw [laid_is] at hd
  cases fuel with
  | zero => simp [DataW.trod] at hd
  | succ fuel =>
    simp only [DataW.trod, Tryd.underlying123, Tryd.cellsShp, Tryd.cellsShps] at hd
    split at hd
    · rename_i hlen
      obtain ⟨xs, hm, hx⟩ := Option.map_eq_some_iff.1 hd
      have hxs : xs.map (·.1) = shps.map Shp.data := by
        have := congrArg Prod.fst hx
        simpa using this
      intro k s hk j u hu
      have hk16 : k < 16 := by
        rcases Nat.lt_or_ge k 16 with h | h
        · exact h
        · rw [List.getElem?_eq_none (by rw [shps_len]; exact h)] at hk; cases hk
      obtain ⟨b, hb, hf⟩ := mapM_at hm k k (by simp [hk16])
      have hb1 : b.1 = s.data := by
        have h2 : (xs.map (·.1))[k]? = some b.1 := by simp [hb]
        rw [hxs, List.getElem?_map, hk] at h2
        exact (Option.some.inj h2).symm
      have hc := shp_cells s (by rw [List.length_take, List.length_drop, hlen]; omega) hf hb1
      have hj : j < 7 := by
        rcases Nat.lt_or_ge j 7 with h | h
        · exact h
        · rw [List.getElem?_eq_none (by simp [Shp.cells]; exact h)] at hu; cases hu
      rw [← hc, List.getElem?_take, if_pos hj, List.getElem?_drop] at hu
      rw [World.var?_cell hg' hvar, ← hu]
      simp [Nat.mul_comm]
    · cases hd
end Go.Proofs.YtjmkfcgnadpbaaaDoor
/- Walk of op.find. -/
namespace Go.Proofs.YtjmkfcgnadpbaaaDoor
open Go.RowKit Go.Deep

/-- the cells of the whole table -/
def shpCells : List Value := shps.flatMap Shp.cells
theorem shpCells_len : shpCells.length = 112 := by decide +kernel
theorem shpCells_at : ∀ k s, shps[k]? = some s → ∀ j, j < 7 → shpCells[7 * k + j]? = s.cells[j]? := by
  intro k s hk
  have hk16 : k < 16 := by
    rcases Nat.lt_or_ge k 16 with h | h
    · exact h
    · rw [List.getElem?_eq_none (by rw [shps_len]; exact h)] at hk; cases hk
  intro j hj
  have hall : ∀ k < 16, ∀ j < 7, shpCells[7 * k + j]? = (shps[k]?).bind fun s => s.cells[j]? := by
    intro k hk j hj
    have : k = 0 ∨ k = 1 ∨ k = 2 ∨ k = 3 ∨ k = 4 ∨ k = 5 ∨ k = 6 ∨ k = 7 ∨ k = 8 ∨ k = 9 ∨ k = 10 ∨ k = 11 ∨ k = 12 ∨ k = 13 ∨ k = 14 ∨ k = 15 := by omega
    have hj' : j = 0 ∨ j = 1 ∨ j = 2 ∨ j = 3 ∨ j = 4 ∨ j = 5 ∨ j = 6 := by omega
    rcases this with rfl | rfl | rfl | rfl | rfl | rfl | rfl | rfl | rfl | rfl | rfl | rfl | rfl | rfl | rfl | rfl <;> rcases hj' with rfl | rfl | rfl | rfl | rfl | rfl | rfl <;> rfl
  rw [hall k hk16 j hj, hk]
  rfl
theorem Shapes.on {w w' : World} (h : Shapes w) (h1 : 0 < w.heap.size) (hb : Below w.heap.size w w') : Shapes w' := fun k s hk j u hu => (hb.cell (p := ⟨0, 7 * k + j, none⟩) h1).trans (h k s hk j u hu)
theorem Shapes.all {w : World} (h : Shapes w) : ∀ i, i < 112 → w.cell? ⟨0, i, none⟩ = some (shpCells.getD i .nilIface) := by
  intro i hi
  have hk : shps[i / 7]? = some (shps[i / 7]'(by rw [shps_len]; omega)) := List.getElem?_eq_getElem _
  have hj : i % 7 < 7 := Nat.mod_lt _ (by omega)
  have he : 7 * (i / 7) + i % 7 = i := by omega
  have h1 := shpCells_at _ _ hk (i % 7) hj
  rw [he] at h1
  have hl : (shps[i / 7]'(by rw [shps_len]; omega)).cells.length = 7 := rfl
  obtain ⟨u, hu⟩ : ∃ u, (shps[i / 7]'(by rw [shps_len]; omega)).cells[i % 7]? = some u := ⟨_, List.getElem?_eq_getElem (by rw [hl]; exact hj)⟩
  have h2 := h _ _ hk _ _ hu
  rw [he] at h2
  rw [h2, List.getD_eq_getElem?_getD, h1, hu]
  rfl
theorem Shapes.range {w : World} (h : Shapes w) : w.rangeAt 0 0 shpCells := by
  intro j v hj
  have hl : j < 112 := by
    rcases Nat.lt_or_ge j 112 with h | h
    · exact h
    · rw [List.getElem?_eq_none (by rw [shpCells_len]; exact h)] at hj; cases hj
  rw [Nat.zero_add, h.all j hl, List.getD_eq_getElem?_getD, hj]
  rfl

theorem shp_index (k : Nat) (s : Shp) (hk : shps[k]? = some s) (X : World) : (Instr.index 123 (.agg shpCells.toArray) (.int .i64 (k : Int))).run Tryd.prog X = .ok s.val X := by
  have hk16 : k < 16 := by
    rcases Nat.lt_or_ge k 16 with h | h
    · exact h
    · rw [List.getElem?_eq_none (by rw [shps_len]; exact h)] at hk; cases hk
  have hc : k = 0 ∨ k = 1 ∨ k = 2 ∨ k = 3 ∨ k = 4 ∨ k = 5 ∨ k = 6 ∨ k = 7 ∨ k = 8 ∨ k = 9 ∨ k = 10 ∨ k = 11 ∨ k = 12 ∨ k = 13 ∨ k = 14 ∨ k = 15 := by omega
  rcases hc with rfl | rfl | rfl | rfl | rfl | rfl | rfl | rfl | rfl | rfl | rfl | rfl | rfl | rfl | rfl | rfl <;> (obtain rfl := Option.some.inj hk; refine Eq.trans ?_ rfl; kernel_rfl)

/-- the first shape from k on of this kind -/
def kindAt (kd : Int) : List Shp → Option Shp
  | [] => none
  | s :: r => if (s.kind : Int) = kd then some s else kindAt kd r

theorem hid_of3 {p : Prop} (h : p) : Hid p := h
theorem kindAt_drop (kd : Int) (k : Nat) (s : Shp) (h : shps[k]? = some s) : kindAt kd (shps.drop k) = if (s.kind : Int) = kd then some s else kindAt kd (shps.drop (k + 1)) := by
  obtain ⟨hk, e⟩ := List.getElem?_eq_some_iff.1 h
  rw [List.drop_eq_getElem_cons hk, e]
  rfl
/-- no shape -/
def shp0 : Shp := ⟨0, [], false, 0, 0, 0, false⟩

set_option maxHeartbeats 4000000 in
set_option maxRecDepth 100000 in
theorem kindF_any (s : Shp) (kd : Int) (b : Nat) (w : World) (hb : b < w.heap.size) (HK : w.cell? ⟨b, 0, none⟩ = some (.int .i64 kd)) (t : Bool) (HT : Hid (decide ((s.kind : Int) = kd) = t)) :
    Calls Tryd.prog 57 #[s.val, .pointer (some ⟨b, 0, none⟩)] w fun e w' => e = .returned (.bool t) ∧ Below w.heap.size w w' := by
  have HK2 := (cell_old w (.cells #[.int .i64 (s.kind : Int), .string s.bytes, .bool s.id, .int .i64 (s.nums : Int), .int .i64 s.low, .int .i64 s.high, .bool s.pic] 97) b 0 hb).trans HK
  have hbz : Below w.heap.size w (w.alloc (.cells #[.int .i64 (s.kind : Int), .string s.bytes, .bool s.id, .int .i64 (s.nums : Int), .int .i64 s.low, .int .i64 s.high, .bool s.pic] 97)) := (Below.refl _ _).alloc (Nat.le_refl _) _
  have ht : ((s.kind : Int) == kd) = t := by rw [← HT.out]; rfl
  unfold Shp.val
  go_enter Tryd.func57, Tryd.ntmps57
  go_wp2_with fail
  go_ret
  exact ⟨rfl, hbz⟩

/-- what find answers -/
def FindP (o : Option Shp) (w : World) (e : Ending) (w' : World) : Prop :=
  Below w.heap.size w w' ∧ match o with
    | some s => e = .returned (.tuple #[s.val, .bool true])
    | none => e = .returned (.tuple #[shp0.val, .bool false])

set_option maxHeartbeats 4000000 in
set_option maxRecDepth 100000 in
theorem findK_any (kd : Int) (b : Nat) (w : World) (HS : Hid (Shapes w)) (h1 : 0 < w.heap.size) (hb : b < w.heap.size) (HK : w.cell? ⟨b, 0, none⟩ = some (.int .i64 kd)) :
    Calls Tryd.prog 56 #[.func (.func 57) #[] #[.pointer (some ⟨b, 0, none⟩)]] w fun e w' => FindP (kindAt kd shps) w e w' := by
  have HS0 : Hid (Shapes (w.alloc (.cells #[.int .i64 0, .string ⟨#[]⟩, .bool false, .int .i64 0, .int .i64 0, .int .i64 0, .bool false] 97))) := HS.out.on h1 ((Below.refl _ _).alloc (Nat.le_refl _) _)
  have S0 := seven_start w (.int .i64 0) (.string ⟨#[]⟩) (.bool false) (.int .i64 0) (.int .i64 0) (.int .i64 0) (.bool false) 97 w.heap.size rfl
  have HK0 := (cell_old w (.cells #[.int .i64 0, .string ⟨#[]⟩, .bool false, .int .i64 0, .int .i64 0, .int .i64 0, .bool false] 97) b 0 hb).trans HK
  have hbz : Below w.heap.size w (w.alloc (.cells #[.int .i64 0, .string ⟨#[]⟩, .bool false, .int .i64 0, .int .i64 0, .int .i64 0, .bool false] 97)) := (Below.refl _ _).alloc (Nat.le_refl _) _
  go_enter Tryd.func56, Tryd.ntmps56
  go_wp2_with fail
  refine wp_load_mid 123 (Operand.global 0) rfl 0 0 rfl shpCells _ HS0.out.range Tryd.underlying123 rfl (by kernel_rfl) ?_
  simp only [Act.put]
  go_wp2_with fail
  obtain ⟨W0, HW0⟩ : ∃ W, Hid (w.alloc (.cells #[.int .i64 0, .string ⟨#[]⟩, .bool false, .int .i64 0, .int .i64 0, .int .i64 0, .bool false] 97) = W) := ⟨_, (rfl : _ = _)⟩
  rw [HW0.out] at HS0 S0 HK0 hbz
  rw [HW0.out]
  have HIX : Hid (∀ (k : Nat) (s : Shp), shps[k]? = some s → ∀ X, (Instr.index 123 (.agg shpCells.toArray) (.int .i64 (k : Int))).run Tryd.prog X = .ok s.val X) := shp_index
  obtain ⟨AV, HAV⟩ : ∃ A, Hid (shpCells.toArray = A) := ⟨_, (rfl : _ = _)⟩
  rw [HAV.out] at HIX
  rw [HAV.out]
  clear HS0 HS HAV
  have hbW : b < W0.heap.size := Nat.lt_of_lt_of_le hb hbz.size
  go_loopw [7] (fun kv wr => ∃ k : Nat, k ≤ 16 ∧ kv = .int .i64 (k : Int) ∧ Hid (kindAt kd shps = kindAt kd (shps.drop k)) ∧ Below W0.heap.size W0 wr) (fun kv _ => 16 - (intOf kv).toNat)
  case atStart => exact ⟨0, by omega, rfl, (rfl : _ = _), Below.refl _ _⟩
  case round =>
    obtain ⟨k, hk, rfl, HKD, hbr⟩ := hrel
    obtain ⟨d0, d1, d2, d3, d4, d5, d6, g0, g1, g2, g3, g4, g5, g6, lt2⟩ := S0.on hbr
    have hbbr := hbz.trans (hbr.mono hbz.size)
    by_cases hk2 : k < 16
    · obtain ⟨s, Hs⟩ : ∃ s, Hid (shps[k]? = some s) := ⟨_, List.getElem?_eq_getElem (by rw [shps_len]; exact hk2)⟩
      have hix := HIX.out k s Hs.out
      have HKS := hid_of3 (kindAt_drop kd k s Hs.out)
      have hbx : Below wr.heap.size wr (wr.alloc (.cells #[.int .i64 (s.kind : Int), .string s.bytes, .bool s.id, .int .i64 (s.nums : Int), .int .i64 s.low, .int .i64 s.high, .bool s.pic] 97)) := (Below.refl _ _).alloc (Nat.le_refl _) _
      have S1 := seven_start wr (.int .i64 (s.kind : Int)) (.string s.bytes) (.bool s.id) (.int .i64 (s.nums : Int)) (.int .i64 s.low) (.int .i64 s.high) (.bool s.pic) 97 wr.heap.size rfl
      have hbX := hbr.trans (hbx.mono hbr.size)
      have hbbX := hbbr.trans (hbx.mono hbbr.size)
      have hbx2 : b < (wr.alloc (.cells #[.int .i64 (s.kind : Int), .string s.bytes, .bool s.id, .int .i64 (s.nums : Int), .int .i64 s.low, .int .i64 s.high, .bool s.pic] 97)).heap.size := Nat.lt_of_lt_of_le hbW hbX.size
      have HKX : (wr.alloc (.cells #[.int .i64 (s.kind : Int), .string s.bytes, .bool s.id, .int .i64 (s.nums : Int), .int .i64 s.low, .int .i64 s.high, .bool s.pic] 97)).cell? ⟨b, 0, none⟩ = some (.int .i64 kd) := (hbX.cell (p := ⟨b, 0, none⟩) hbW).trans HK0
      have S0X := (S0.on hbr).on hbx
      clear d0 d1 d2 d3 d4 d5 d6 g0 g1 g2 g3 g4 g5 g6 lt2 hbx
      unfold Shp.val at hix
      go_wp2_with fail
      by_cases he : (s.kind : Int) = kd
      · rw [if_pos he] at HKS
        have HR : Hid (kindAt kd shps = some s) := by unfold Hid; rw [HKD.out, HKS.out]
        refine (kindF_any s kd b _ hbx2 HKX true (by unfold Hid; simpa using he)).mono ?_
        rintro e w1 ⟨rfl, hb1⟩
        have hbb1 := hbbX.trans (hb1.mono hbbX.size)
        obtain ⟨d0, d1, d2, d3, d4, d5, d6, g0, g1, g2, g3, g4, g5, g6, lt2⟩ := S0X.on hb1
        obtain ⟨e0, e1, e2, e3, e4, e5, e6, f0, f1, f2, f3, f4, f5, f6, lt3⟩ := S1.on hb1
        clear he HKS HKD hb1 hbbX
        go_wp2_with fail
        rw [HR.out]
        refine bodyPost_ret (v := .tuple #[.agg #[.int .i64 (s.kind : Int), .string s.bytes, .bool s.id, .int .i64 (s.nums : Int), .int .i64 s.low, .int .i64 s.high, .bool s.pic], .bool true]) (by simp [results, Tryd.results56, go_sem, d0, d1, d2, d3, d4, d5, d6]) rfl ⟨?_, rfl⟩
        repeat (refine Below.setCell ?_ (by simp) _)
        exact hbb1
      · rw [if_neg he] at HKS
        refine (kindF_any s kd b _ hbx2 HKX false (by unfold Hid; simpa using he)).mono ?_
        rintro e w1 ⟨rfl, hb1⟩
        have hbX1 := hbX.trans (hb1.mono hbX.size)
        clear he hb1
        go_wp2_with fail
        go_roundw
        case rel => exact ⟨k + 1, by omega, by go_num, HKD.out.trans HKS.out, hbX1⟩
        case measure => simp [intOf]; omega
    · obtain rfl : k = 16 := by omega
      have HR : Hid (kindAt kd shps = none) := by unfold Hid; rw [HKD.out]; rfl
      go_wp2_with fail
      rw [HR.out]
      refine bodyPost_ret (v := .tuple #[.agg #[.int .i64 0, .string ⟨#[]⟩, .bool false, .int .i64 0, .int .i64 0, .int .i64 0, .bool false], .bool false]) (by simp [results, Tryd.results56, go_sem, d0, d1, d2, d3, d4, d5, d6]) rfl ⟨?_, rfl⟩
      repeat (refine Below.setCell ?_ (by simp) _)
      exact hbbr

set_option maxHeartbeats 4000000 in
set_option maxRecDepth 100000 in
theorem ofKind_any (kd : Int) (w : World) (HS : Hid (Shapes w)) (h1 : 0 < w.heap.size) :
    Calls Tryd.prog 46 #[.int .i64 kd] w fun e w' => FindP (kindAt kd shps) w e w' := by
  have hbz : Below w.heap.size w ((w.alloc (.cells #[.int .i64 kd] 3)).alloc (.cells #[.int .i64 0, .string ⟨#[]⟩, .bool false, .int .i64 0, .int .i64 0, .int .i64 0, .bool false] 97)) := ((Below.refl _ _).alloc (Nat.le_refl _) _).alloc (by simp) _
  have S0 := seven_start (w.alloc (.cells #[.int .i64 kd] 3)) (.int .i64 0) (.string ⟨#[]⟩) (.bool false) (.int .i64 0) (.int .i64 0) (.int .i64 0) (.bool false) 97 (w.heap.size + 1) (by simp)
  have HS0 : Hid (Shapes _) := HS.out.on h1 hbz
  have hlt : w.heap.size < ((w.alloc (.cells #[.int .i64 kd] 3)).alloc (.cells #[.int .i64 0, .string ⟨#[]⟩, .bool false, .int .i64 0, .int .i64 0, .int .i64 0, .bool false] 97)).heap.size := by simp; omega
  have hcK : ((w.alloc (.cells #[.int .i64 kd] 3)).alloc (.cells #[.int .i64 0, .string ⟨#[]⟩, .bool false, .int .i64 0, .int .i64 0, .int .i64 0, .bool false] 97)).cell? ⟨w.heap.size, 0, none⟩ = some (.int .i64 kd) := (cell_old _ _ _ 0 (by simp)).trans (cell_fresh w _ _ _ rfl)
  have h1' := Nat.lt_of_lt_of_le h1 hbz.size
  obtain ⟨o, HO⟩ : ∃ o, Hid (kindAt kd shps = o) := ⟨_, (rfl : _ = _)⟩
  rw [HO.out]
  go_enter Tryd.func46, Tryd.ntmps46
  go_wp2_with fail
  refine (findK_any kd w.heap.size _ HS0 h1' hlt hcK).mono ?_
  rw [HO.out]
  rintro e w1 ⟨hb1, he⟩
  have hbb1 := hbz.trans (hb1.mono hbz.size)
  obtain ⟨d0, d1, d2, d3, d4, d5, d6, g0, g1, g2, g3, g4, g5, g6, lt2⟩ := S0.on hb1
  clear hb1 hbz S0 HS0 hlt hcK
  cases o with
  | none =>
    simp only at he
    subst he
    unfold shp0 Shp.val Shp.bytes
    go_wp2_with fail
    refine bodyPost_ret (v := .tuple #[.agg #[.int .i64 0, .string ⟨#[]⟩, .bool false, .int .i64 0, .int .i64 0, .int .i64 0, .bool false], .bool false]) (by simp [results, Tryd.results46, go_sem, d0, d1, d2, d3, d4, d5, d6]) rfl ⟨?_, rfl⟩
    repeat (refine Below.setCell ?_ (by simp) _)
    exact hbb1
  | some s =>
    simp only at he
    subst he
    unfold Shp.val
    go_wp2_with fail
    refine bodyPost_ret (v := .tuple #[.agg #[.int .i64 (s.kind : Int), .string s.bytes, .bool s.id, .int .i64 (s.nums : Int), .int .i64 s.low, .int .i64 s.high, .bool s.pic], .bool true]) (by simp [results, Tryd.results46, go_sem, d0, d1, d2, d3, d4, d5, d6]) rfl ⟨?_, rfl⟩
    repeat (refine Below.setCell ?_ (by simp) _)
    exact hbb1
end Go.Proofs.YtjmkfcgnadpbaaaDoor
/- Lists of numbers; op.numbers; slices.ContainsFunc over numbers. -/
namespace Go.Proofs.YtjmkfcgnadpbaaaDoor
open Go.RowKit

/-- a list of numbers -/
def RdI (w : World) (v : Value) (ns : List Int) : Prop :=
  ∃ a cap, v = .slice a ns.length cap ∧ ns.length ≤ cap ∧ cap ≤ 9223372036854775807 ∧ (ns ≠ [] → ∃ g off, a = some ⟨g, off, none⟩ ∧ g < w.heap.size ∧ ∀ j, j < ns.length → w.cell? ⟨g, off + j, none⟩ = some (.int .i64 (ns.getD j 0)))
theorem RdI.on {w w' : World} {v : Value} {ns : List Int} (h : RdI w v ns) (hb : Below w.heap.size w w') : RdI w' v ns := by
  obtain ⟨a, cap, hv, hl, hc, hh⟩ := h
  refine ⟨a, cap, hv, hl, hc, fun hne => ?_⟩
  obtain ⟨g, off, ha, hg, hcell⟩ := hh hne
  refine ⟨g, off, ha, Nat.lt_of_lt_of_le hg hb.size, fun j hj => ?_⟩
  rw [hb.cell (p := ⟨g, off + j, none⟩) hg]
  exact hcell j hj
theorem RdI.at {w : World} {a : Option Addr} {n cap : Nat} {ns : List Int} (h : RdI w (.slice a n cap) ns) {k : Nat} (hk : k < n) (HN : Hid (ns.length = n)) {x : Int} (HX : Hid (ns.getD k 0 = x)) :
    ∃ g o, a = some ⟨g, o, none⟩ ∧ g < w.heap.size ∧ w.cell? ⟨g, o + k, none⟩ = some (.int .i64 x) := by
  obtain ⟨a', cap', hv, hl, hc, hh⟩ := h
  simp only [Value.slice.injEq] at hv
  obtain ⟨rfl, _, rfl⟩ := hv
  obtain ⟨g, o, ha, hg, hcell⟩ := hh (by intro e; rw [e] at HN; have := HN.out; simp at this; omega)
  have := hcell k (by rw [HN.out]; exact hk)
  rw [HX.out] at this
  exact ⟨g, o, ha, hg, this⟩

set_option maxRecDepth 100000 in
theorem isNot0_any (n : Int) (w : World) (t : Bool) (HT : Hid (decide (n ≠ 0) = t)) : Calls Tryd.prog 49 #[.int .i64 n] w fun e w' => e = .returned (.bool t) ∧ Below w.heap.size w w' := by
  have hbz : Below w.heap.size w w := Below.refl _ _
  have ht : (n != 0) = t := by rw [← HT.out]; by_cases h : n = 0 <;> simp [h]
  go_enter Tryd.func49, Tryd.ntmps49
  go_wp2_with fail
  go_ret
  exact ⟨rfl, hbz⟩

set_option maxRecDepth 100000 in
theorem isOut_any (n lo hi : Int) (b : Nat) (w : World) (h4 : w.cell? ⟨b, 4, none⟩ = some (.int .i64 lo)) (h5 : w.cell? ⟨b, 5, none⟩ = some (.int .i64 hi)) (t : Bool) (HT : Hid ((decide (n < lo) || decide (hi < n)) = t)) : Calls Tryd.prog 61 #[.int .i64 n, .pointer (some ⟨b, 0, none⟩)] w fun e w' => e = .returned (.bool t) ∧ Below w.heap.size w w' := by
  have hbz : Below w.heap.size w w := Below.refl _ _
  have ht := HT.out
  clear HT
  by_cases h1 : n < lo
  · have : t = true := by rw [← ht]; simp [h1]
    subst this
    clear ht
    go_enter Tryd.func61, Tryd.ntmps61
    go_wp2_with fail
    go_ret
    exact ⟨rfl, hbz⟩
  · by_cases h2 : hi < n
    · have : t = true := by rw [← ht]; simp [h2]
      subst this
      clear ht
      go_enter Tryd.func61, Tryd.ntmps61
      go_wp2_with fail
      go_ret
      exact ⟨rfl, hbz⟩
    · have : t = false := by rw [← ht]; simp [h1, h2]
      subst this
      clear ht
      go_enter Tryd.func61, Tryd.ntmps61
      go_wp2_with fail
      go_ret
      exact ⟨rfl, hbz⟩

set_option maxRecDepth 100000 in
theorem numbers_any (q : Pq) (u : Value) (w : World) : Calls Tryd.prog 59 #[opV q u] w fun e w' => ∃ g, e = .returned (.slice (some ⟨g, 0, none⟩) 4 4) ∧ w.heap.size ≤ g ∧ w'.heap[g]? = some (.cells #[.int .i64 q.a, .int .i64 q.b, .int .i64 q.c, .int .i64 q.d] 3 (0, 0)) ∧ Below w.heap.size w w' := by
  have hbz : Below w.heap.size w ((w.alloc (.cells #[.int .i64 q.kind, .int .i64 q.id, .int .i64 q.a, .int .i64 q.b, .int .i64 q.c, .int .i64 q.d, .int .i64 q.pw, .int .i64 q.ph, u] 51)).alloc (.cells #[.int .i64 q.a, .int .i64 q.b, .int .i64 q.c, .int .i64 q.d] 3)) := ((Below.refl _ _).alloc (Nat.le_refl _) _).alloc (by simp) _
  have hn := heap_alloc_new (w.alloc (.cells #[.int .i64 q.kind, .int .i64 q.id, .int .i64 q.a, .int .i64 q.b, .int .i64 q.c, .int .i64 q.d, .int .i64 q.pw, .int .i64 q.ph, u] 51)) (.cells #[.int .i64 q.a, .int .i64 q.b, .int .i64 q.c, .int .i64 q.d] 3)
  unfold opV
  go_enter Tryd.func59, Tryd.ntmps59
  go_wp2_with fail
  go_ret
  exact ⟨_, rfl, by simp, by simpa using hn, hbz⟩

set_option maxHeartbeats 2000000 in
set_option maxRecDepth 100000 in
theorem indexN_any (v : Value) (ns : List Int)  (w : World) (hns : ns.length ≤ 1000) (HR : Hid (RdI w v ns))  :
    Calls Tryd.prog 58 #[v, .func (.func 49) #[] #[]] w fun e w' => ∃ r : Int, e = .returned (.int .i64 r) ∧ Hid (decide (0 ≤ r) = ns.any (fun n => decide (n ≠ 0))) ∧ Below w.heap.size w w' := by
  obtain ⟨a, cap, hv, hl, hcap, hh⟩ := HR.out
  obtain ⟨n, HN⟩ : ∃ n, Hid (ns.length = n) := ⟨_, (rfl : _ = _)⟩
  rw [HN.out] at hv hl hns
  clear hh
  subst hv
  have hbz : Below w.heap.size w w := Below.refl _ _
  go_enter Tryd.func58, Tryd.ntmps58
  go_wp2_with fail
  go_loopw [8] (fun i wr => ∃ k : Nat, k ≤ n ∧ i = .int .i64 k ∧ Hid (ns.any (fun n => decide (n ≠ 0)) = (ns.drop k).any (fun n => decide (n ≠ 0))) ∧ Below w.heap.size w wr) (fun i _ => n - (intOf i).toNat)
  case atStart => exact ⟨0, by omega, rfl, (rfl : _ = _), hbz⟩
  case round =>
    obtain ⟨k, hk, rfl, HA, hbr⟩ := hrel
    by_cases hlt : k < n
    · have hlt' : k < ns.length := by rw [HN.out]; exact hlt
      obtain ⟨m, HM⟩ : ∃ m, Hid (ns.getD k 0 = m) := ⟨_, (rfl : _ = _)⟩
      have HD : Hid ((ns.drop k).any (fun n => decide (n ≠ 0)) = ((fun n : Int => decide (n ≠ 0)) m || (ns.drop (k + 1)).any (fun n => decide (n ≠ 0)))) := by
        unfold Hid
        rw [List.drop_eq_getElem_cons hlt', List.any_cons, ← HM.out, List.getD_eq_getElem?_getD, List.getElem?_eq_getElem hlt']
        rfl
      obtain ⟨g, p, ha, hg, hc⟩ := HR.out.at hlt HN HM
      subst ha
      have hc2 := (hbr.cell (p := ⟨g, p + k, none⟩) hg).trans hc
      have hki0 : (0 : Int) ≤ (k : Int) := by omega
      have hki1 : (k : Int) < (n : Int) := by omega
      clear hlt' hc HM
      go_wp2_with fail
      cases hp : (decide (m ≠ 0)) with
      | true =>
        rw [hp] at HD
        refine (isNot0_any m _ true hp).mono ?_
        rintro e w1 ⟨rfl, hb1⟩
        have hbw1 := hbr.trans (hb1.mono hbr.size)
        clear hb1
        go_wp2_with fail
        go_ret
        exact ⟨(k : Int), rfl, by unfold Hid; rw [HA.out, HD.out]; simp, hbw1⟩
      | false =>
        rw [hp] at HD
        refine (isNot0_any m _ false hp).mono ?_
        rintro e w1 ⟨rfl, hb1⟩
        have hbw1 := hbr.trans (hb1.mono hbr.size)
        clear hb1
        go_wp2_with fail
        go_roundw
        case rel => exact ⟨k + 1, by omega, by go_num, by unfold Hid; rw [HA.out, HD.out]; simp, hbw1⟩
        case measure => simp [intOf]; omega
    · obtain rfl : k = n := by omega
      have HE : Hid (ns.any (fun n => decide (n ≠ 0)) = false) := by unfold Hid; rw [HA.out, List.drop_of_length_le (by rw [HN.out]; exact Nat.le_refl _)]; rfl
      go_wp2_with fail
      go_ret
      exact ⟨-1, rfl, by unfold Hid; rw [HE.out]; rfl, hbr⟩

set_option maxRecDepth 100000 in
theorem containsN_any (v : Value) (ns : List Int)  (w : World) (hns : ns.length ≤ 1000) (HR : Hid (RdI w v ns))  (t : Bool) (HT : Hid (ns.any (fun n => decide (n ≠ 0)) = t)) :
    Calls Tryd.prog 47 #[v, .func (.func 49) #[] #[]] w fun e w' => e = .returned (.bool t) ∧ Below w.heap.size w w' := by
  have HR2 := HR
  obtain ⟨a, cap, hv, _, _, hh⟩ := HR.out
  clear hh
  subst hv
  go_enter Tryd.func47, Tryd.ntmps47
  go_wp2_with fail
  refine (indexN_any _ ns  _ hns HR2 ).mono ?_
  rintro e w1 ⟨r, rfl, HB, hb1⟩
  rw [HT.out] at HB
  have hd : decide (0 ≤ r) = t := HB.out
  clear HB
  go_wp2_with fail
  go_ret
  exact ⟨rfl, hb1⟩

set_option maxHeartbeats 2000000 in
set_option maxRecDepth 100000 in
theorem indexB_any (v : Value) (ns : List Int) (lo hi : Int) (b : Nat) (w : World) (hns : ns.length ≤ 1000) (HR : Hid (RdI w v ns)) (hb : b < w.heap.size) (h4 : w.cell? ⟨b, 4, none⟩ = some (.int .i64 lo)) (h5 : w.cell? ⟨b, 5, none⟩ = some (.int .i64 hi)) :
    Calls Tryd.prog 58 #[v, .func (.func 61) #[] #[.pointer (some ⟨b, 0, none⟩)]] w fun e w' => ∃ r : Int, e = .returned (.int .i64 r) ∧ Hid (decide (0 ≤ r) = ns.any (fun n => (decide (n < lo) || decide (hi < n)))) ∧ Below w.heap.size w w' := by
  obtain ⟨a, cap, hv, hl, hcap, hh⟩ := HR.out
  obtain ⟨n, HN⟩ : ∃ n, Hid (ns.length = n) := ⟨_, (rfl : _ = _)⟩
  rw [HN.out] at hv hl hns
  clear hh
  subst hv
  have hbz : Below w.heap.size w w := Below.refl _ _
  go_enter Tryd.func58, Tryd.ntmps58
  go_wp2_with fail
  go_loopw [8] (fun i wr => ∃ k : Nat, k ≤ n ∧ i = .int .i64 k ∧ Hid (ns.any (fun n => (decide (n < lo) || decide (hi < n))) = (ns.drop k).any (fun n => (decide (n < lo) || decide (hi < n)))) ∧ Below w.heap.size w wr) (fun i _ => n - (intOf i).toNat)
  case atStart => exact ⟨0, by omega, rfl, (rfl : _ = _), hbz⟩
  case round =>
    obtain ⟨k, hk, rfl, HA, hbr⟩ := hrel
    by_cases hlt : k < n
    · have hlt' : k < ns.length := by rw [HN.out]; exact hlt
      obtain ⟨m, HM⟩ : ∃ m, Hid (ns.getD k 0 = m) := ⟨_, (rfl : _ = _)⟩
      have HD : Hid ((ns.drop k).any (fun n => (decide (n < lo) || decide (hi < n))) = ((fun n : Int => (decide (n < lo) || decide (hi < n))) m || (ns.drop (k + 1)).any (fun n => (decide (n < lo) || decide (hi < n))))) := by
        unfold Hid
        rw [List.drop_eq_getElem_cons hlt', List.any_cons, ← HM.out, List.getD_eq_getElem?_getD, List.getElem?_eq_getElem hlt']
        rfl
      obtain ⟨g, p, ha, hg, hc⟩ := HR.out.at hlt HN HM
      subst ha
      have hc2 := (hbr.cell (p := ⟨g, p + k, none⟩) hg).trans hc
      have hki0 : (0 : Int) ≤ (k : Int) := by omega
      have hki1 : (k : Int) < (n : Int) := by omega
      clear hlt' hc HM
      go_wp2_with fail
      cases hp : ((decide (m < lo) || decide (hi < m))) with
      | true =>
        rw [hp] at HD
        refine (isOut_any m lo hi b _ ((hbr.cell (p := ⟨b, 4, none⟩) hb).trans h4) ((hbr.cell (p := ⟨b, 5, none⟩) hb).trans h5) true hp).mono ?_
        rintro e w1 ⟨rfl, hb1⟩
        have hbw1 := hbr.trans (hb1.mono hbr.size)
        clear hb1
        go_wp2_with fail
        go_ret
        exact ⟨(k : Int), rfl, by unfold Hid; rw [HA.out, HD.out]; simp, hbw1⟩
      | false =>
        rw [hp] at HD
        refine (isOut_any m lo hi b _ ((hbr.cell (p := ⟨b, 4, none⟩) hb).trans h4) ((hbr.cell (p := ⟨b, 5, none⟩) hb).trans h5) false hp).mono ?_
        rintro e w1 ⟨rfl, hb1⟩
        have hbw1 := hbr.trans (hb1.mono hbr.size)
        clear hb1
        go_wp2_with fail
        go_roundw
        case rel => exact ⟨k + 1, by omega, by go_num, by unfold Hid; rw [HA.out, HD.out]; simp, hbw1⟩
        case measure => simp [intOf]; omega
    · obtain rfl : k = n := by omega
      have HE : Hid (ns.any (fun n => (decide (n < lo) || decide (hi < n))) = false) := by unfold Hid; rw [HA.out, List.drop_of_length_le (by rw [HN.out]; exact Nat.le_refl _)]; rfl
      go_wp2_with fail
      go_ret
      exact ⟨-1, rfl, by unfold Hid; rw [HE.out]; rfl, hbr⟩

set_option maxRecDepth 100000 in
theorem containsB_any (v : Value) (ns : List Int) (lo hi : Int) (b : Nat) (w : World) (hns : ns.length ≤ 1000) (HR : Hid (RdI w v ns)) (hb : b < w.heap.size) (h4 : w.cell? ⟨b, 4, none⟩ = some (.int .i64 lo)) (h5 : w.cell? ⟨b, 5, none⟩ = some (.int .i64 hi)) (t : Bool) (HT : Hid (ns.any (fun n => (decide (n < lo) || decide (hi < n))) = t)) :
    Calls Tryd.prog 47 #[v, .func (.func 61) #[] #[.pointer (some ⟨b, 0, none⟩)]] w fun e w' => e = .returned (.bool t) ∧ Below w.heap.size w w' := by
  have HR2 := HR
  obtain ⟨a, cap, hv, _, _, hh⟩ := HR.out
  clear hh
  subst hv
  go_enter Tryd.func47, Tryd.ntmps47
  go_wp2_with fail
  refine (indexB_any _ ns lo hi b _ hns HR2 hb h4 h5).mono ?_
  rintro e w1 ⟨r, rfl, HB, hb1⟩
  rw [HT.out] at HB
  have hd : decide (0 ≤ r) = t := HB.out
  clear HB
  go_wp2_with fail
  go_ret
  exact ⟨rfl, hb1⟩
end Go.Proofs.YtjmkfcgnadpbaaaDoor
/- Walks: op.inBounds, op.foreign. -/
namespace Go.Proofs.YtjmkfcgnadpbaaaDoor
open Go.RowKit

def intCells (ns : List Int) : List Value := ns.map (fun n => .int .i64 n)
theorem Tryd.infoInt : (Tryd.prog.info? 3).map (fun i => (i.zero, i.size, i.bytes)) = some (some (.int .i64 0), 1, 8) := by kernel_rfl
theorem intCells_at (ns : List Int) (j : Nat) (h : j < ns.length) : (intCells ns)[j]? = some (.int .i64 (ns.getD j 0)) := by
  unfold intCells
  rw [List.getElem?_map, List.getD_eq_getElem?_getD, List.getElem?_eq_getElem h]
  rfl
theorem intCells_one (ns : List Int) : ∀ v ∈ intCells ns, v.oneCell' = true := by
  intro v hv
  obtain ⟨n, _, rfl⟩ := List.mem_map.1 hv
  rfl
theorem rdI_own {w : World} {B : Nat} {v : Value} {ns : List Int} {n : Nat} (h : w.ownsRow B 3 1 v n (intCells ns)) (hn : ns.length = n) : RdI w v ns := by
  subst hn
  rcases h.2 with ⟨rfl, h0⟩ | ⟨g, cap, cur, rfl, hb, hg, hn, hm, hs, ht⟩
  · have : ns = [] := List.length_eq_zero_iff.1 h0
    subst this
    exact ⟨none, 0, rfl, by simp, by omega, fun h => absurd rfl h⟩
  · unfold maxLen at hm
    refine ⟨some ⟨g, 0, none⟩, cap, by simp, by simpa using hn, by omega, fun hne => ⟨g, 0, rfl, ?_, fun j hj => ?_⟩⟩
    · rcases Nat.lt_or_ge g w.heap.size with h1 | h1
      · exact h1
      · rw [Array.getElem?_eq_none h1] at hg; cases hg
    · rw [Nat.zero_add, h.cellAt j (by omega)]
      exact intCells_at ns j hj
/-- the four numbers of an op, from a place on, or up to it -/
def nums4 (q : Pq) : List Int := [q.a, q.b, q.c, q.d]
theorem four_take {w : World} {g : Nat} (q : Pq) (h : w.heap[g]? = some (.cells #[.int .i64 q.a, .int .i64 q.b, .int .i64 q.c, .int .i64 q.d] 3 (0, 0))) (n : Nat) (hn : n ≤ 4) : RdI w (.slice (some ⟨g, 0, none⟩) n 4) ((nums4 q).take n) := by
  refine ⟨some ⟨g, 0, none⟩, 4, by simp [nums4, Nat.min_eq_left hn], by simp [nums4]; omega, by omega, fun _ => ⟨g, 0, rfl, (Array.getElem?_eq_some_iff.1 h).1, fun j hj => ?_⟩⟩
  have hj2 : j < n := by simp [nums4] at hj; omega
  rw [cell_of_row w g (0 + j) _ _ _ h]
  have : j = 0 ∨ j = 1 ∨ j = 2 ∨ j = 3 := by omega
  rw [List.getD_eq_getElem?_getD, List.getElem?_take, if_pos hj2]
  rcases this with rfl | rfl | rfl | rfl <;> rfl
theorem four_cells {w : World} {g : Nat} (q : Pq) (h : w.heap[g]? = some (.cells #[.int .i64 q.a, .int .i64 q.b, .int .i64 q.c, .int .i64 q.d] 3 (0, 0))) (n : Nat) : ∀ j v, (intCells ((nums4 q).drop n))[j]? = some v → w.cell? ((⟨g, n, none⟩ : Addr).add j) = some v := by
  intro j v hj
  have e : (⟨g, n, none⟩ : Addr).add j = ⟨g, n + j, none⟩ := by unfold Addr.add; split <;> simp_all
  rw [e, cell_of_row w g (n + j) _ _ _ h]
  unfold intCells at hj
  rw [List.getElem?_map, List.getElem?_drop] at hj
  have hl : n + j < 4 := by
    rcases Nat.lt_or_ge (n + j) 4 with h1 | h1
    · exact h1
    · rw [List.getElem?_eq_none (by simpa [nums4] using h1)] at hj; cases hj
  have : n + j = 0 ∨ n + j = 1 ∨ n + j = 2 ∨ n + j = 3 := by omega
  rcases this with h | h | h | h <;> (rw [h] at hj ⊢; exact hj)
/-- append onto a list that is full -/
theorem run_append_full (w : World) (ns ms : List Int) (b : Addr) (n : Nat) (hn : ns.length = n) (hcell : ∀ j v, (intCells ns)[j]? = some v → w.cell? (b.add j) = some v) (a : Addr) (m c : Nat) (hm : ms.length = m) (hm1 : 1 ≤ m) (hmc : ∀ j v, (intCells ms)[j]? = some v → w.cell? (a.add j) = some v) (hlim : n + m ≤ 1000) (ty : TypeId) :
    ∃ v' w', (Builtin.append_ #[83, 83] ty #[.slice (some b) n n, .slice (some a) m c]).run Tryd.prog w = .ok v' w' ∧ w'.ownsRow w.heap.size 3 1 v' (n + m) (intCells (ns ++ ms)) ∧ Below w.heap.size w w' := by
  obtain ⟨i0, hi, hz0, hz1, hz2⟩ := info_parts Tryd.infoInt
  have hr := run_append_grow (P := Tryd.prog) w 83 ty 3 i0 (.int .i64 0) Tryd.underlying83 hi hz0 b n n (intCells ns) (by rw [hz1]; simp [intCells, hn]) hcell a m c (intCells ms) (by rw [hz1]; simp [intCells, hm]) hmc (by omega) (by omega) (growslice_fits (by omega) (by rw [hz2]; omega))
  refine ⟨_, _, hr, ⟨by simp [intCells, hn, hm], .inr ⟨w.heap.size, _, _, rfl, Nat.le_refl _, heap_alloc_new w.drew _, grownCap_ge _ _ _ _, grownCap_le_maxLen _ _ _ _ (by unfold maxLen; omega), ?_, ?_⟩⟩, (Below.refl _ _).drew.alloc (Nat.le_refl _) _⟩
  · have := grownCap_ge w (n + m) n 3
    simp [size_zeroCells, intCells, hn, hm, Value.cells]
    omega
  · have e : intCells (ns ++ ms) = intCells ns ++ intCells ms := by simp [intCells]
    have hl : (intCells ns ++ intCells ms).length = (n + m) * 1 := by simp [intCells, hn, hm]
    rw [e]
    simp only [Array.toList_append, List.append_assoc]
    rw [← List.append_assoc, ← hl]
    exact List.take_left
/-- are the numbers as the kind has them? -/
def inB (q : Pq) (s : Shp) : Bool := if s.kind = 4 then decide (rectC q.a q.b q.c q.d = 0) else !((nums4 q).take s.nums).any (fun n => (decide (n < s.low) || decide (s.high < n)))
/-- the numbers that are 0 -/
def forL (q : Pq) (s : Shp) : List Int := (nums4 q).drop s.nums ++ (if s.id then [] else [q.id]) ++ (if s.pic then [] else [q.pw, q.ph, (q.ps.length : Int)])

set_option maxHeartbeats 4000000 in
set_option maxRecDepth 100000 in
theorem inBounds_any (q : Pq) (s : Shp) (ap : Option Addr) (np cp : Nat) (w : World) (hnums : s.nums ≤ 4) (t : Bool) (HT : Hid (inB q s = t)) :
    Calls Tryd.prog 50 #[opV q (.slice ap np cp), s.val] w fun e w' => e = .returned (.bool t) ∧ Below w.heap.size w w' := by
  obtain ⟨X0, HX0⟩ : ∃ X0, Hid (((w.alloc (.cells #[.int .i64 q.kind, .int .i64 q.id, .int .i64 q.a, .int .i64 q.b, .int .i64 q.c, .int .i64 q.d, .int .i64 q.pw, .int .i64 q.ph, .slice ap np cp] 51)).alloc (.cells #[.int .i64 (s.kind : Int), .string s.bytes, .bool s.id, .int .i64 (s.nums : Int), .int .i64 s.low, .int .i64 s.high, .bool s.pic] 97)) = X0) := ⟨_, (rfl : _ = _)⟩
  have hbz : Below w.heap.size w X0 := by rw [← HX0.out]; exact ((Below.refl _ _).alloc (Nat.le_refl _) _).alloc (by simp) _
  have N0 : Hid (Nine X0 w.heap.size (.int .i64 q.kind) (.int .i64 q.id) (.int .i64 q.a) (.int .i64 q.b) (.int .i64 q.c) (.int .i64 q.d) (.int .i64 q.pw) (.int .i64 q.ph) (.slice ap np cp)) := by rw [← HX0.out]; exact (nine_start w _ _ _ _ _ _ _ _ _ 51 w.heap.size rfl).alloc _
  have S0 : Hid (Seven X0 (w.heap.size + 1) (.int .i64 (s.kind : Int)) (.string s.bytes) (.bool s.id) (.int .i64 (s.nums : Int)) (.int .i64 s.low) (.int .i64 s.high) (.bool s.pic)) := by rw [← HX0.out]; exact seven_start _ _ _ _ _ _ _ _ 97 (w.heap.size + 1) (by simp)
  unfold Shp.val
  have ht := HT.out
  unfold inB at ht
  by_cases h4 : s.kind = 4
  · rw [if_pos h4] at ht
    have hk : ((s.kind : Int) == 4) = true := by simp [h4]
    clear h4
    go_enter Tryd.func50, Tryd.ntmps50
    go_wp2_with fail
    rw [HX0.out]
    obtain ⟨c, HC⟩ : ∃ c, Hid (rectC q.a q.b q.c q.d = c) := ⟨_, (rfl : _ = _)⟩
    rw [HC.out] at ht
    have hc := rectC_cases q.a q.b q.c q.d
    rw [HC.out] at hc
    refine (rcheck_any q.a q.b q.c q.d _ c HC).mono ?_
    rintro e w1 ⟨rfl, hb1⟩
    have hbb1 := hbz.trans (hb1.mono hbz.size)
    clear hb1
    rcases hc with rfl | rfl
    · rw [show errV 0 = Value.nilIface from rfl]
      have : t = true := by rw [← ht]; rfl
      subst this
      go_wp2_with fail
      go_ret
      exact ⟨rfl, hbb1⟩
    · rw [errV_one]
      have : t = false := by rw [← ht]; rfl
      subst this
      go_wp2_with fail
      go_ret
      exact ⟨rfl, hbb1⟩
  · rw [if_neg h4] at ht
    have hk : ((s.kind : Int) == 4) = false := by simp; omega
    obtain ⟨t0, HT0⟩ : ∃ t0, Hid (((nums4 q).take s.nums).any (fun n => (decide (n < s.low) || decide (s.high < n))) = t0) := ⟨_, (rfl : _ = _)⟩
    rw [HT0.out] at ht
    subst ht
    have hi1 : (0 : Int) ≤ (s.nums : Int) := by omega
    have hi2 : (s.nums : Int) ≤ 4 := by omega
    have hi3 : IntKind.i64.wrap (s.nums : Int) = (s.nums : Int) := by rw [IntKind.wrap_i64]; omega
    have KEEP : Hid (∀ w', Below X0.heap.size X0 w' → (w'.cell? ⟨w.heap.size + 1, 3, none⟩ = some (.int .i64 (s.nums : Int)) ∧ w'.cell? ⟨w.heap.size, 0, none⟩ = some (.int .i64 q.kind) ∧ w'.cell? ⟨w.heap.size, 1, none⟩ = some (.int .i64 q.id) ∧ w'.cell? ⟨w.heap.size, 2, none⟩ = some (.int .i64 q.a) ∧ w'.cell? ⟨w.heap.size, 3, none⟩ = some (.int .i64 q.b) ∧ w'.cell? ⟨w.heap.size, 4, none⟩ = some (.int .i64 q.c) ∧ w'.cell? ⟨w.heap.size, 5, none⟩ = some (.int .i64 q.d) ∧ w'.cell? ⟨w.heap.size, 6, none⟩ = some (.int .i64 q.pw) ∧ w'.cell? ⟨w.heap.size, 7, none⟩ = some (.int .i64 q.ph) ∧ w'.cell? ⟨w.heap.size, 8, none⟩ = some (.slice ap np cp))) := by
      intro w' h
      obtain ⟨m0, m1, m2, m3, m4, m5, m6, m7, m8, mf0, mf1, mf2, mf3, mf4, mf5, mf6, mf7, mf8, mlt⟩ := N0.out.on h
      exact ⟨(S0.out.on h).c3, m0, m1, m2, m3, m4, m5, m6, m7, m8⟩
    clear h4
    go_enter Tryd.func50, Tryd.ntmps50
    go_wp2_with fail
    rw [HX0.out]
    clear HX0
    refine wp_region_held_drew (S := (fun w' => w'.cell? ⟨w.heap.size + 1, 3, none⟩ = some (.int .i64 (s.nums : Int)) ∧ w'.cell? ⟨w.heap.size, 0, none⟩ = some (.int .i64 q.kind) ∧ w'.cell? ⟨w.heap.size, 1, none⟩ = some (.int .i64 q.id) ∧ w'.cell? ⟨w.heap.size, 2, none⟩ = some (.int .i64 q.a) ∧ w'.cell? ⟨w.heap.size, 3, none⟩ = some (.int .i64 q.b) ∧ w'.cell? ⟨w.heap.size, 4, none⟩ = some (.int .i64 q.c) ∧ w'.cell? ⟨w.heap.size, 5, none⟩ = some (.int .i64 q.d) ∧ w'.cell? ⟨w.heap.size, 6, none⟩ = some (.int .i64 q.pw) ∧ w'.cell? ⟨w.heap.size, 7, none⟩ = some (.int .i64 q.ph) ∧ w'.cell? ⟨w.heap.size, 8, none⟩ = some (.slice ap np cp))) (by kernel_rfl) ?_ (fun hHeld => ?_)
    · exact KEEP.out _ (Below.refl _ _).drew
    refine wpAnyH_take (i := 0) (oi := ({ dst := some 19, op := Op.load 51 (Operand.tmp 2), type := 51, pos := "op.go:151", after := #[], guard := none } : Oper)) (v := ?_) rfl (by kernel_rfl) (by kernel_rfl) (by kernel_rfl) (fun _ _ _ h => h) (Or.inl ⟨by rfl, ?_⟩) (by assumption) ?_
    rotate_left
    · (intro w hSw; (try dsimp only at hSw); go_simp; try with_reducible rfl)
    try simp only [Act.put, List.setIfInBounds_toArray, List.set_cons_zero, List.set_cons_succ]
    refine wpAnyH_take (i := 2) (oi := ({ dst := some 21, op := Op.fieldAddr 97 (Operand.tmp 3) 3, type := 0, pos := "op.go:151", after := #[], guard := none } : Oper)) (v := ?_) rfl (by kernel_rfl) (by kernel_rfl) (by kernel_rfl) (fun _ _ _ h => h) (Or.inl ⟨by rfl, ?_⟩) (by assumption) ?_
    rotate_left
    · (intro w hSw; (try dsimp only at hSw); go_simp; try with_reducible rfl)
    try simp only [Act.put, List.setIfInBounds_toArray, List.set_cons_zero, List.set_cons_succ]
    refine wpAnyH_take (i := 3) (oi := ({ dst := some 22, op := Op.load 3 (Operand.tmp 21), type := 3, pos := "op.go:151", after := #[{ on := 2, ground := Ground.data }], guard := none } : Oper)) (v := ?_) rfl (by kernel_rfl) (by kernel_rfl) (by kernel_rfl) (fun _ _ _ h => h) (Or.inl ⟨by rfl, ?_⟩) (by assumption) ?_
    rotate_left
    · (intro w hSw; (try dsimp only at hSw); go_simp; try with_reducible rfl)
    try simp only [Act.put, List.setIfInBounds_toArray, List.set_cons_zero, List.set_cons_succ]
    refine wpAnyH_take (i := 5) (oi := ({ dst := some 24, op := Op.makeFunc (Fn.func 61) #[] #[Operand.tmp 3], type := 102, pos := "op.go:151", after := #[], guard := none } : Oper)) (v := ?_) rfl (by kernel_rfl) (by kernel_rfl) (by kernel_rfl) (fun _ _ _ h => h) (Or.inl ⟨by rfl, ?_⟩) (by assumption) ?_
    rotate_left
    · (intro w hSw; (try dsimp only at hSw); go_simp; try with_reducible rfl)
    try simp only [Act.put, List.setIfInBounds_toArray, List.set_cons_zero, List.set_cons_succ]
    refine wpAnyH_ready (rs := [1]) (by kernel_rfl) (by simp) ?_
    refine AllReadyH.cons (o := ({ dst := some 20, op := Op.call { callee := Callee.value (Operand.func 59), args := #[Operand.tmp 19], argTypes := #[51] }, type := 83, pos := "op.go:151", after := #[{ on := 0, ground := Ground.data }], guard := none } : Oper)) rfl (fun K_ hK => ?_) AllReadyH.nil
    go_simp
    refine (numbers_any q (.slice ap np cp) X0.drew).mono ?_
    rintro e w1 ⟨g1, rfl, hg1, hh1, hb1⟩
    have HB1 : Hid (Below X0.heap.size X0 w1) := ⟨hb1.os, hb1.tape, hb1.output, hb1.size, hb1.block⟩
    have HRI := hid_of3 (four_take q hh1 s.nums hnums)
    clear hh1 hb1
    refine hK.out _ _ ?_ (fun hHeld => ?_)
    · exact KEEP.out _ HB1.out
    clear hK K_
    try simp only [Act.put, List.setIfInBounds_toArray, List.set_cons_zero, List.set_cons_succ]
    refine wpAnyH_take (i := 4) (oi := ({ dst := some 23, op := Op.slice 83 (Operand.tmp 20) none (some (Operand.tmp 22)) none, type := 83, pos := "op.go:151", after := #[{ on := 1, ground := Ground.data }, { on := 3, ground := Ground.data }], guard := none } : Oper)) (v := ?_) rfl (by kernel_rfl) (by kernel_rfl) (by kernel_rfl) (fun _ _ _ h => h) (Or.inl ⟨by rfl, ?_⟩) (by assumption) ?_
    rotate_left
    · (intro w hSw; (try dsimp only at hSw); go_simp; try with_reducible rfl)
    try simp only [Act.put, List.setIfInBounds_toArray, List.set_cons_zero, List.set_cons_succ]
    refine wpAnyH_ready (rs := [6]) (by kernel_rfl) (by simp) ?_
    refine AllReadyH.cons (o := ({ dst := some 25, op := Op.call { callee := Callee.value (Operand.func 47), args := #[Operand.tmp 23, Operand.tmp 24], argTypes := #[83, 102] }, type := 4, pos := "op.go:151", after := #[{ on := 4, ground := Ground.data }, { on := 5, ground := Ground.data }, { on := 1, ground := Ground.chain }], guard := none } : Oper)) rfl (fun K_ hK => ?_) AllReadyH.nil
    go_simp
    refine (containsB_any _ ((nums4 q).take s.nums) s.low s.high (w.heap.size + 1) w1 (by simp [nums4]; omega) HRI ((S0.out.on HB1.out).lt) ((S0.out.on HB1.out).c4) ((S0.out.on HB1.out).c5) t0 HT0).mono ?_
    rintro e w2 ⟨rfl, hb2⟩
    have HB2 : Hid (Below X0.heap.size X0 w2) := HB1.out.trans (hb2.mono HB1.out.size)
    clear hb2
    refine hK.out _ _ ?_ (fun hHeld => ?_)
    · exact KEEP.out _ HB2.out
    clear hK K_
    try simp only [Act.put, List.setIfInBounds_toArray, List.set_cons_zero, List.set_cons_succ]
    refine wpAnyH_take (i := 7) (oi := ({ dst := some 26, op := Op.unOp UnOp.not 4 (Operand.tmp 25), type := 4, pos := "op.go:151", after := #[{ on := 6, ground := Ground.data }], guard := none } : Oper)) (v := ?_) rfl (by kernel_rfl) (by kernel_rfl) (by kernel_rfl) (fun _ _ _ h => h) (Or.inl ⟨by rfl, ?_⟩) (by assumption) ?_
    rotate_left
    · (intro w hSw; (try dsimp only at hSw); go_simp; try with_reducible rfl)
    try simp only [Act.put, List.setIfInBounds_toArray, List.set_cons_zero, List.set_cons_succ]
    refine wpAnyH_take (i := 8) (oi := ({ dst := some 4, op := Op.assign (Operand.tmp 26), type := 4, pos := "op.go:151", after := #[{ on := 7, ground := Ground.data }, { on := 6, ground := Ground.chain }, { on := 0, ground := Ground.phase }, { on := 1, ground := Ground.phase }, { on := 2, ground := Ground.phase }, { on := 3, ground := Ground.phase }, { on := 4, ground := Ground.phase }, { on := 5, ground := Ground.phase }, { on := 6, ground := Ground.phase }, { on := 7, ground := Ground.phase }], guard := none } : Oper)) (v := ?_) rfl (by kernel_rfl) (by kernel_rfl) (by kernel_rfl) (fun _ _ _ h => h) (Or.inl ⟨by rfl, ?_⟩) (by assumption) ?_
    rotate_left
    · (intro w hSw; (try dsimp only at hSw); go_simp; try with_reducible rfl)
    try simp only [Act.put, List.setIfInBounds_toArray, List.set_cons_zero, List.set_cons_succ]
    refine wpAnyH_done (by kernel_rfl) ?_ _
    go_wp2_with fail
    go_ret
    exact ⟨rfl, hbz.trans (HB2.out.mono hbz.size)⟩
end Go.Proofs.YtjmkfcgnadpbaaaDoor
