/- Walk of the law ObjectsSays: as far as what Get and Set answer. -/
import Derived.Test.YtadcmmkifcmknaaObjS2J
namespace Go.Proofs.Ytadcmmkifcmknaa
open Go.RowKit

set_option maxHeartbeats 40000000 in
set_option maxRecDepth 100000 in
theorem objectsSays_any (v : Value) (os : List Po) (x : Po) (vo : Value) (q : Pq) (vq : Value) (W' H' bv ba : Int) (w : World)
    (RL : Hid (RdO w v os)) (RO : Hid (RdP w vo x.ps)) (RQ : Hid (RdP w vq q.ps)) :
    Calls Try.prog 3 #[v, poV x vo, opV q vq, .int .i64 W', .int .i64 H', pixV bv ba] w fun e w' => e = .returned (.bool true) ∧ Below w.heap.size w w' := by
  obtain ⟨al, cl, hvl, hll, hcl⟩ := RL.out.shape
  obtain ⟨ax, cx, hvx, hlx, hcx, hd1⟩ := RO.out
  obtain ⟨aq, cq, hvq, hlq, hcq, hd2⟩ := RQ.out
  clear hd1 hd2
  obtain ⟨n, HN⟩ : ∃ n, Hid (os.length = n) := ⟨_, (rfl : _ = _)⟩
  obtain ⟨nx, HNX⟩ : ∃ n, Hid (x.ps.length = n) := ⟨_, (rfl : _ = _)⟩
  obtain ⟨nq, HNQ⟩ : ∃ n, Hid (q.ps.length = n) := ⟨_, (rfl : _ = _)⟩
  rw [HN.out] at hvl hll
  rw [HNX.out] at hvx hlx
  rw [HNQ.out] at hvq hlq
  subst hvl hvx hvq
  unfold poV objV opV pixV
  obtain ⟨W0, HW0⟩ : ∃ W, Hid (((w.alloc (.cells #[.int .i64 x.id, .int .i64 x.x, .int .i64 x.y, .int .i64 x.pw, .int .i64 x.ph, .slice ax nx cx, .int .i64 x.cx, .int .i64 x.cy, .int .i64 x.cw, .int .i64 x.ch, .bool x.sh] 29)).alloc (.cells #[.int .i64 q.kind, .int .i64 q.id, .int .i64 q.a, .int .i64 q.b, .int .i64 q.c, .int .i64 q.d, .int .i64 q.pw, .int .i64 q.ph, .slice aq nq cq] 31)).alloc (.cells #[.int .i64 bv, .int .i64 ba] 33) = W) := ⟨_, (rfl : _ = _)⟩
  have hb0 : Below w.heap.size w W0 := by rw [← HW0.out]; exact (((Below.refl _ _).alloc (Nat.le_refl _) _).alloc (by simp) _).alloc (by simp; omega) _
  have HG : Hid (Gob w (.slice al n cl) os x (.slice ax nx cx) q (.slice aq nq cq) bv ba W0) := by
    refine ⟨?_, ?_, ?_, RO.out.on hb0, RQ.out.on hb0, RL.out.on hb0, hb0⟩
    · rw [← HW0.out]; exact ((eleven_start w _ _ _ _ _ _ _ _ _ _ _ 29 w.heap.size rfl).alloc _).alloc _
    · rw [← HW0.out]; exact (nine_start _ _ _ _ _ _ _ _ _ _ 31 (w.heap.size + 1) (by simp)).alloc _
    · rw [← HW0.out]; exact two_start _ _ _ 33 (w.heap.size + 1 + 1) (by simp)
  clear hb0
  go_enter Try.func3, Try.ntmps3
  go_wp2_with fail
  rw [HW0.out]
  refine (things_any W0).mono ?_
  rintro e w1 ⟨rfl, hb1⟩
  replace HG : Hid (Gob w (.slice al n cl) os x (.slice ax nx cx) q (.slice aq nq cq) bv ba w1) := HG.out.on hb1
  clear hb1 HW0
  obtain ⟨⟨k0, k1, k2, k3, k4, k5, k6, k7, k8, k9, k10, -, -, -, -, -, -, -, -, -, -, -, -⟩, ⟨m0, m1, m2, m3, m4, m5, m6, m7, m8, -, -, -, -, -, -, -, -, -, -⟩, ⟨t0, t1, -, -, -⟩, -, -, -, -⟩ := HG.out
  go_wp2_with fail
  clear k0 k1 k2 k3 k4 k5 k6 k7 k8 k9 k10 m0 m1 m2 m3 m4 m5 m6 m7 m8 t0 t1
  refine (lightO_any _ os _ HG.out.rl).mono ?_
  rintro e w2 ⟨bl, rfl, hgood, hb2⟩
  replace HG : Hid (Gob w (.slice al n cl) os x (.slice ax nx cx) q (.slice aq nq cq) bv ba w2) := HG.out.on hb2
  clear hb2
  obtain ⟨⟨k0, k1, k2, k3, k4, k5, k6, k7, k8, k9, k10, -, -, -, -, -, -, -, -, -, -, -, -⟩, ⟨m0, m1, m2, m3, m4, m5, m6, m7, m8, -, -, -, -, -, -, -, -, -, -⟩, ⟨t0, t1, -, -, -⟩, -, -, -, -⟩ := HG.out
  cases bl with
  | false =>
    go_wp2_with fail
    go_ret
    exact ⟨rfl, HG.out.bel⟩
  | true =>
  have HGO := hid_of2 (hgood rfl)
  clear hgood
  go_wp2_with fail
  clear k0 k1 k2 k3 k4 k5 k6 k7 k8 k9 k10 m0 m1 m2 m3 m4 m5 m6 m7 m8 t0 t1
  by_cases hx2 : nx ≤ 80
  case neg =>
    refine (light_any x.pw x.ph ax nx cx _ (by omega) false (by unfold Hid; simp [hx2])).mono ?_
    rintro e wz ⟨rfl, hbz⟩
    go_wp2_with fail
    go_ret
    exact ⟨rfl, (HG.out.on hbz).bel⟩
  refine (light_any x.pw x.ph ax nx cx _ (by omega) true (by unfold Hid; simp [hx2])).mono ?_
  rintro e w3 ⟨rfl, hb3⟩
  replace HG : Hid (Gob w (.slice al n cl) os x (.slice ax nx cx) q (.slice aq nq cq) bv ba w3) := HG.out.on hb3
  clear hb3
  obtain ⟨⟨k0, k1, k2, k3, k4, k5, k6, k7, k8, k9, k10, -, -, -, -, -, -, -, -, -, -, -, -⟩, ⟨m0, m1, m2, m3, m4, m5, m6, m7, m8, -, -, -, -, -, -, -, -, -, -⟩, ⟨t0, t1, -, -, -⟩, -, -, -, -⟩ := HG.out
  go_wp2_with fail
  clear k0 k1 k2 k3 k4 k5 k6 k7 k8 k9 k10 m0 m1 m2 m3 m4 m5 m6 m7 m8 t0 t1
  by_cases hq2 : nq ≤ 80
  case neg =>
    refine (light_any q.pw q.ph aq nq cq _ (by omega) false (by unfold Hid; simp [hq2])).mono ?_
    rintro e wz ⟨rfl, hbz⟩
    go_wp2_with fail
    go_ret
    exact ⟨rfl, (HG.out.on hbz).bel⟩
  refine (light_any q.pw q.ph aq nq cq _ (by omega) true (by unfold Hid; simp [hq2])).mono ?_
  rintro e w4 ⟨rfl, hb4⟩
  replace HG : Hid (Gob w (.slice al n cl) os x (.slice ax nx cx) q (.slice aq nq cq) bv ba w4) := HG.out.on hb4
  clear hb4
  obtain ⟨c, HC⟩ : ∃ c, Hid (objC x.id x.x x.y x.pw x.ph x.ps x.cx x.cy x.cw x.ch = c) := ⟨_, (rfl : _ = _)⟩
  obtain ⟨ev, HEV⟩ : ∃ ev, Hid (errV c = ev) := ⟨_, (rfl : _ = _)⟩
  have hxl : x.ps.length ≤ 1000000000 := by rw [HNX.out]; omega
  have hxl8 := hid_of2 (show x.ps.length ≤ 80 by rw [HNX.out]; exact hx2)
  have hql8 := hid_of2 (show q.ps.length ≤ 80 by rw [HNQ.out]; exact hq2)
  have KEEP : Hid (∀ W2, Gob w (.slice al n cl) os x (.slice ax nx cx) q (.slice aq nq cq) bv ba W2 → (W2.cell? ⟨w.heap.size, 0, none⟩ = some (.int .i64 x.id) ∧ W2.cell? ⟨w.heap.size, 1, none⟩ = some (.int .i64 x.x) ∧ W2.cell? ⟨w.heap.size, 2, none⟩ = some (.int .i64 x.y) ∧ W2.cell? ⟨w.heap.size, 3, none⟩ = some (.int .i64 x.pw) ∧ W2.cell? ⟨w.heap.size, 4, none⟩ = some (.int .i64 x.ph) ∧ W2.cell? ⟨w.heap.size, 5, none⟩ = some (.slice ax nx cx) ∧ W2.cell? ⟨w.heap.size, 6, none⟩ = some (.int .i64 x.cx) ∧ W2.cell? ⟨w.heap.size, 7, none⟩ = some (.int .i64 x.cy) ∧ W2.cell? ⟨w.heap.size, 8, none⟩ = some (.int .i64 x.cw) ∧ W2.cell? ⟨w.heap.size, 9, none⟩ = some (.int .i64 x.ch) ∧ W2.cell? ⟨w.heap.size, 10, none⟩ = some (.bool x.sh))) := by
    intro W2 h2
    exact ⟨h2.eo.c0, h2.eo.c1, h2.eo.c2, h2.eo.c3, h2.eo.c4, h2.eo.c5, h2.eo.c6, h2.eo.c7, h2.eo.c8, h2.eo.c9, h2.eo.c10⟩
  have HGD := hid_of2 HG.out.drew
  have hock : ∀ X, RdP X (.slice ax nx cx) x.ps → Calls Try.prog 9 #[objV x.id x.x x.y x.pw x.ph (.slice ax nx cx) x.cx x.cy x.cw x.ch x.sh] X fun e w' => e = .returned ev ∧ Below X.heap.size X w' := fun X hX => by
    rw [← HEV.out]; exact ocheck_any _ _ _ _ _ _ _ _ _ _ _ _ X hxl hX c HC
  have hofl : ∀ X, RdP X (.slice ax nx cx) x.ps → Calls Try.prog 10 #[objV x.id x.x x.y x.pw x.ph (.slice ax nx cx) x.cx x.cy x.cw x.ch x.sh] X fun e w' => e = .returned (.int .i64 (c : Int)) ∧ Below X.heap.size X w' := fun X hX => ofault_any _ _ _ _ _ _ _ _ _ _ _ _ X hxl hX c HC
  unfold objV at hock hofl
  have HOCK := hid_of2 hock
  have HOFL := hid_of2 hofl
  clear hock hofl
  obtain ⟨⟨k0, k1, k2, k3, k4, k5, k6, k7, k8, k9, k10, -, -, -, -, -, -, -, -, -, -, -, -⟩, ⟨m0, m1, m2, m3, m4, m5, m6, m7, m8, -, -, -, -, -, -, -, -, -, -⟩, ⟨t0, t1, -, -, -⟩, -, -, -, -⟩ := HG.out
  go_wp2_with fail
  clear k0 k1 k2 k3 k4 k5 k6 k7 k8 k9 k10 m0 m1 m2 m3 m4 m5 m6 m7 m8 t0 t1
  go_region_held3 (fun w' => w'.cell? ⟨w.heap.size, 0, none⟩ = some (.int .i64 x.id) ∧ w'.cell? ⟨w.heap.size, 1, none⟩ = some (.int .i64 x.x) ∧ w'.cell? ⟨w.heap.size, 2, none⟩ = some (.int .i64 x.y) ∧ w'.cell? ⟨w.heap.size, 3, none⟩ = some (.int .i64 x.pw) ∧ w'.cell? ⟨w.heap.size, 4, none⟩ = some (.int .i64 x.ph) ∧ w'.cell? ⟨w.heap.size, 5, none⟩ = some (.slice ax nx cx) ∧ w'.cell? ⟨w.heap.size, 6, none⟩ = some (.int .i64 x.cx) ∧ w'.cell? ⟨w.heap.size, 7, none⟩ = some (.int .i64 x.cy) ∧ w'.cell? ⟨w.heap.size, 8, none⟩ = some (.int .i64 x.cw) ∧ w'.cell? ⟨w.heap.size, 9, none⟩ = some (.int .i64 x.ch) ∧ w'.cell? ⟨w.heap.size, 10, none⟩ = some (.bool x.sh))
    (first
      | exact KEEP.out _ HG2.out
      | exact KEEP.out _ HG1.out
      | exact KEEP.out _ HGD.out
      | fail)
    (first
      | (go_at_call 8; have HG22 := HG2; refine (same_ok c ev HEV _).mono ?_; rintro e wx ⟨rfl, rfl⟩)
      | (go_at_call 10; refine (HOFL.out _ HG1.out.ro).mono ?_; rintro e w6 ⟨rfl, hbx⟩; have HG2 := hid_of2 (HG1.out.on hbx))
      | (go_at_call 9; refine (HOCK.out _ HGD.out.ro).mono ?_; rintro e wx ⟨rfl, hbx⟩; have HG1 := hid_of2 (HGD.out.on hbx))
      | fail)
  clear HG HGD HG1 HOCK HOFL KEEP
  have HG := HG2
  clear HG2 HC HEV
  obtain ⟨yb, HYB⟩ : ∃ yb, Hid (gotO os x.id = yb) := ⟨_, (rfl : _ = _)⟩
  obtain ⟨y, b⟩ := yb
  have hyl : y.ps.length ≤ 80 := by have h := got_pix HGO.out x.id; rw [HYB.out] at h; exact h
  obtain ⟨ny, HNY⟩ : ∃ n, Hid (y.ps.length = n) := ⟨_, (rfl : _ = _)⟩
  obtain ⟨⟨k0, k1, k2, k3, k4, k5, k6, k7, k8, k9, k10, -, -, -, -, -, -, -, -, -, -, -, -⟩, ⟨m0, m1, m2, m3, m4, m5, m6, m7, m8, -, -, -, -, -, -, -, -, -, -⟩, ⟨t0, t1, -, -, -⟩, -, -, -, -⟩ := HG.out
  go_wp2_with fail
  clear k0 k1 k2 k3 k4 k5 k6 k7 k8 k9 k10 m0 m1 m2 m3 m4 m5 m6 m7 m8 t0 t1
  refine (get_got _ os x.id _ HGO.out HG.out.rl y b HYB).mono ?_
  unfold poV objV
  rintro e w7 ⟨u7, rfl, r7, hb7⟩
  obtain ⟨a7, c7, hu7, _, _, hd7⟩ := id r7
  rw [HNY.out] at hu7
  subst hu7
  clear hd7
  have hbA : Below w7.heap.size w7 (w7.alloc (.cells #[.int .i64 y.id, .int .i64 y.x, .int .i64 y.y, .int .i64 y.pw, .int .i64 y.ph, .slice a7 ny c7, .int .i64 y.cx, .int .i64 y.cy, .int .i64 y.cw, .int .i64 y.ch, .bool y.sh] 29)) := (Below.refl _ _).alloc (Nat.le_refl _) _
  have HA7 := hid_of2 (r7.on hbA)
  have EA7 := hid_of2 (eleven_start w7 (.int .i64 y.id) (.int .i64 y.x) (.int .i64 y.y) (.int .i64 y.pw) (.int .i64 y.ph) (.slice a7 ny c7) (.int .i64 y.cx) (.int .i64 y.cy) (.int .i64 y.cw) (.int .i64 y.ch) (.bool y.sh) 29 w7.heap.size rfl)
  replace HG : Hid (Gob w (.slice al n cl) os x (.slice ax nx cx) q (.slice aq nq cq) bv ba (w7.alloc (.cells #[.int .i64 y.id, .int .i64 y.x, .int .i64 y.y, .int .i64 y.pw, .int .i64 y.ph, .slice a7 ny c7, .int .i64 y.cx, .int .i64 y.cy, .int .i64 y.cw, .int .i64 y.ch, .bool y.sh] 29))) := (HG.out.on hb7).on hbA
  clear hbA hb7 r7
  obtain ⟨⟨k0, k1, k2, k3, k4, k5, k6, k7, k8, k9, k10, -, -, -, -, -, -, -, -, -, -, -, -⟩, ⟨m0, m1, m2, m3, m4, m5, m6, m7, m8, -, -, -, -, -, -, -, -, -, -⟩, ⟨t0, t1, -, -, -⟩, -, -, -, -⟩ := HG.out
  go_wp2_with fail
  clear k0 k1 k2 k3 k4 k5 k6 k7 k8 k9 k10 m0 m1 m2 m3 m4 m5 m6 m7 m8 t0 t1
  refine (rget_got _ os x.id _ HGO.out HG.out.rl y b HYB).mono ?_
  unfold poV objV
  rintro e w8 ⟨u8, rfl, r8, hb8⟩
  obtain ⟨a8, c8, hu8, _, _, hd8⟩ := id r8
  rw [HNY.out] at hu8
  subst hu8
  clear hd8
  have hbB : Below w8.heap.size w8 (w8.alloc (.cells #[.int .i64 y.id, .int .i64 y.x, .int .i64 y.y, .int .i64 y.pw, .int .i64 y.ph, .slice a8 ny c8, .int .i64 y.cx, .int .i64 y.cy, .int .i64 y.cw, .int .i64 y.ch, .bool y.sh] 29)) := (Below.refl _ _).alloc (Nat.le_refl _) _
  have HA8 := hid_of2 ((HA7.out.on hb8).on hbB)
  have EA8 := hid_of2 ((EA7.out.on hb8).on hbB)
  have HB8 := hid_of2 (r8.on hbB)
  have EB8 := hid_of2 (eleven_start w8 (.int .i64 y.id) (.int .i64 y.x) (.int .i64 y.y) (.int .i64 y.pw) (.int .i64 y.ph) (.slice a8 ny c8) (.int .i64 y.cx) (.int .i64 y.cy) (.int .i64 y.cw) (.int .i64 y.ch) (.bool y.sh) 29 w8.heap.size rfl)
  replace HG : Hid (Gob w (.slice al n cl) os x (.slice ax nx cx) q (.slice aq nq cq) bv ba (w8.alloc (.cells #[.int .i64 y.id, .int .i64 y.x, .int .i64 y.y, .int .i64 y.pw, .int .i64 y.ph, .slice a8 ny c8, .int .i64 y.cx, .int .i64 y.cy, .int .i64 y.cw, .int .i64 y.ch, .bool y.sh] 29))) := (HG.out.on hb8).on hbB
  clear hbB hb8 r8 HA7 EA7
  obtain ⟨⟨k0, k1, k2, k3, k4, k5, k6, k7, k8, k9, k10, -, -, -, -, -, -, -, -, -, -, -, -⟩, ⟨m0, m1, m2, m3, m4, m5, m6, m7, m8, -, -, -, -, -, -, -, -, -, -⟩, ⟨t0, t1, -, -, -⟩, -, -, -, -⟩ := HG.out
  go_wp2_with fail
  clear k0 k1 k2 k3 k4 k5 k6 k7 k8 k9 k10 m0 m1 m2 m3 m4 m5 m6 m7 m8 t0 t1
  obtain ⟨WB, HWB⟩ : ∃ W, Hid ((w8.alloc (.cells #[.int .i64 y.id, .int .i64 y.x, .int .i64 y.y, .int .i64 y.pw, .int .i64 y.ph, .slice a8 ny c8, .int .i64 y.cx, .int .i64 y.cy, .int .i64 y.cw, .int .i64 y.ch, .bool y.sh] 29)) = W) := ⟨_, (rfl : _ = _)⟩
  rw [HWB.out] at HG HA8 EA8 HB8 EB8 ⊢
  have HP0 : Hid (Gob w (.slice al n cl) os x (.slice ax nx cx) q (.slice aq nq cq) bv ba WB ∧ Eleven WB w7.heap.size (.int .i64 y.id) (.int .i64 y.x) (.int .i64 y.y) (.int .i64 y.pw) (.int .i64 y.ph) (.slice a7 ny c7) (.int .i64 y.cx) (.int .i64 y.cy) (.int .i64 y.cw) (.int .i64 y.ch) (.bool y.sh) ∧ Eleven WB w8.heap.size (.int .i64 y.id) (.int .i64 y.x) (.int .i64 y.y) (.int .i64 y.pw) (.int .i64 y.ph) (.slice a8 ny c8) (.int .i64 y.cx) (.int .i64 y.cy) (.int .i64 y.cw) (.int .i64 y.ch) (.bool y.sh) ∧ RdP WB (.slice a7 ny c7) y.ps ∧ RdP WB (.slice a8 ny c8) y.ps) := ⟨HG.out, EA8.out, EB8.out, HA8.out, HB8.out⟩
  clear HWB HG HA8 EA8 HB8 EB8
  have POn : Hid (∀ W1 W2, (Gob w (.slice al n cl) os x (.slice ax nx cx) q (.slice aq nq cq) bv ba W1 ∧ Eleven W1 w7.heap.size (.int .i64 y.id) (.int .i64 y.x) (.int .i64 y.y) (.int .i64 y.pw) (.int .i64 y.ph) (.slice a7 ny c7) (.int .i64 y.cx) (.int .i64 y.cy) (.int .i64 y.cw) (.int .i64 y.ch) (.bool y.sh) ∧ Eleven W1 w8.heap.size (.int .i64 y.id) (.int .i64 y.x) (.int .i64 y.y) (.int .i64 y.pw) (.int .i64 y.ph) (.slice a8 ny c8) (.int .i64 y.cx) (.int .i64 y.cy) (.int .i64 y.cw) (.int .i64 y.ch) (.bool y.sh) ∧ RdP W1 (.slice a7 ny c7) y.ps ∧ RdP W1 (.slice a8 ny c8) y.ps) → Below W1.heap.size W1 W2 → (Gob w (.slice al n cl) os x (.slice ax nx cx) q (.slice aq nq cq) bv ba W2 ∧ Eleven W2 w7.heap.size (.int .i64 y.id) (.int .i64 y.x) (.int .i64 y.y) (.int .i64 y.pw) (.int .i64 y.ph) (.slice a7 ny c7) (.int .i64 y.cx) (.int .i64 y.cy) (.int .i64 y.cw) (.int .i64 y.ch) (.bool y.sh) ∧ Eleven W2 w8.heap.size (.int .i64 y.id) (.int .i64 y.x) (.int .i64 y.y) (.int .i64 y.pw) (.int .i64 y.ph) (.slice a8 ny c8) (.int .i64 y.cx) (.int .i64 y.cy) (.int .i64 y.cw) (.int .i64 y.ch) (.bool y.sh) ∧ RdP W2 (.slice a7 ny c7) y.ps ∧ RdP W2 (.slice a8 ny c8) y.ps)) := fun W1 W2 h hb => ⟨h.1.on hb, h.2.1.on hb, h.2.2.1.on hb, h.2.2.2.1.on hb, h.2.2.2.2.on hb⟩
  have HPD : Hid (Gob w (.slice al n cl) os x (.slice ax nx cx) q (.slice aq nq cq) bv ba WB.drew ∧ Eleven WB.drew w7.heap.size (.int .i64 y.id) (.int .i64 y.x) (.int .i64 y.y) (.int .i64 y.pw) (.int .i64 y.ph) (.slice a7 ny c7) (.int .i64 y.cx) (.int .i64 y.cy) (.int .i64 y.cw) (.int .i64 y.ch) (.bool y.sh) ∧ Eleven WB.drew w8.heap.size (.int .i64 y.id) (.int .i64 y.x) (.int .i64 y.y) (.int .i64 y.pw) (.int .i64 y.ph) (.slice a8 ny c8) (.int .i64 y.cx) (.int .i64 y.cy) (.int .i64 y.cw) (.int .i64 y.ch) (.bool y.sh) ∧ RdP WB.drew (.slice a7 ny c7) y.ps ∧ RdP WB.drew (.slice a8 ny c8) y.ps) := ⟨HP0.out.1.drew, HP0.out.2.1.drew, HP0.out.2.2.1.drew, HP0.out.2.2.2.1, HP0.out.2.2.2.2⟩
  have KEEP : Hid (∀ W2, (Gob w (.slice al n cl) os x (.slice ax nx cx) q (.slice aq nq cq) bv ba W2 ∧ Eleven W2 w7.heap.size (.int .i64 y.id) (.int .i64 y.x) (.int .i64 y.y) (.int .i64 y.pw) (.int .i64 y.ph) (.slice a7 ny c7) (.int .i64 y.cx) (.int .i64 y.cy) (.int .i64 y.cw) (.int .i64 y.ch) (.bool y.sh) ∧ Eleven W2 w8.heap.size (.int .i64 y.id) (.int .i64 y.x) (.int .i64 y.y) (.int .i64 y.pw) (.int .i64 y.ph) (.slice a8 ny c8) (.int .i64 y.cx) (.int .i64 y.cy) (.int .i64 y.cw) (.int .i64 y.ch) (.bool y.sh) ∧ RdP W2 (.slice a7 ny c7) y.ps ∧ RdP W2 (.slice a8 ny c8) y.ps) → (W2.cell? ⟨w.heap.size, 0, none⟩ = some (.int .i64 x.id) ∧ W2.cell? ⟨w.heap.size, 1, none⟩ = some (.int .i64 x.x) ∧ W2.cell? ⟨w.heap.size, 2, none⟩ = some (.int .i64 x.y) ∧ W2.cell? ⟨w.heap.size, 3, none⟩ = some (.int .i64 x.pw) ∧ W2.cell? ⟨w.heap.size, 4, none⟩ = some (.int .i64 x.ph) ∧ W2.cell? ⟨w.heap.size, 5, none⟩ = some (.slice ax nx cx) ∧ W2.cell? ⟨w.heap.size, 6, none⟩ = some (.int .i64 x.cx) ∧ W2.cell? ⟨w.heap.size, 7, none⟩ = some (.int .i64 x.cy) ∧ W2.cell? ⟨w.heap.size, 8, none⟩ = some (.int .i64 x.cw) ∧ W2.cell? ⟨w.heap.size, 9, none⟩ = some (.int .i64 x.ch) ∧ W2.cell? ⟨w.heap.size, 10, none⟩ = some (.bool x.sh) ∧ W2.cell? ⟨w7.heap.size, 0, none⟩ = some (.int .i64 y.id) ∧ W2.cell? ⟨w7.heap.size, 1, none⟩ = some (.int .i64 y.x) ∧ W2.cell? ⟨w7.heap.size, 2, none⟩ = some (.int .i64 y.y) ∧ W2.cell? ⟨w7.heap.size, 3, none⟩ = some (.int .i64 y.pw) ∧ W2.cell? ⟨w7.heap.size, 4, none⟩ = some (.int .i64 y.ph) ∧ W2.cell? ⟨w7.heap.size, 5, none⟩ = some (.slice a7 ny c7) ∧ W2.cell? ⟨w7.heap.size, 6, none⟩ = some (.int .i64 y.cx) ∧ W2.cell? ⟨w7.heap.size, 7, none⟩ = some (.int .i64 y.cy) ∧ W2.cell? ⟨w7.heap.size, 8, none⟩ = some (.int .i64 y.cw) ∧ W2.cell? ⟨w7.heap.size, 9, none⟩ = some (.int .i64 y.ch) ∧ W2.cell? ⟨w7.heap.size, 10, none⟩ = some (.bool y.sh) ∧ W2.cell? ⟨w8.heap.size, 0, none⟩ = some (.int .i64 y.id) ∧ W2.cell? ⟨w8.heap.size, 1, none⟩ = some (.int .i64 y.x) ∧ W2.cell? ⟨w8.heap.size, 2, none⟩ = some (.int .i64 y.y) ∧ W2.cell? ⟨w8.heap.size, 3, none⟩ = some (.int .i64 y.pw) ∧ W2.cell? ⟨w8.heap.size, 4, none⟩ = some (.int .i64 y.ph) ∧ W2.cell? ⟨w8.heap.size, 5, none⟩ = some (.slice a8 ny c8) ∧ W2.cell? ⟨w8.heap.size, 6, none⟩ = some (.int .i64 y.cx) ∧ W2.cell? ⟨w8.heap.size, 7, none⟩ = some (.int .i64 y.cy) ∧ W2.cell? ⟨w8.heap.size, 8, none⟩ = some (.int .i64 y.cw) ∧ W2.cell? ⟨w8.heap.size, 9, none⟩ = some (.int .i64 y.ch) ∧ W2.cell? ⟨w8.heap.size, 10, none⟩ = some (.bool y.sh))) := by
    intro W2 h2
    exact ⟨h2.1.eo.c0, h2.1.eo.c1, h2.1.eo.c2, h2.1.eo.c3, h2.1.eo.c4, h2.1.eo.c5, h2.1.eo.c6, h2.1.eo.c7, h2.1.eo.c8, h2.1.eo.c9, h2.1.eo.c10, h2.2.1.c0, h2.2.1.c1, h2.2.1.c2, h2.2.1.c3, h2.2.1.c4, h2.2.1.c5, h2.2.1.c6, h2.2.1.c7, h2.2.1.c8, h2.2.1.c9, h2.2.1.c10, h2.2.2.1.c0, h2.2.2.1.c1, h2.2.2.1.c2, h2.2.2.1.c3, h2.2.2.1.c4, h2.2.2.1.c5, h2.2.2.1.c6, h2.2.2.1.c7, h2.2.2.1.c8, h2.2.2.1.c9, h2.2.2.1.c10⟩
  have hyl3 : y.ps.length ≤ 1000 := by omega
  have hos : os.length ≤ 6 := HGO.out.few
  have HSL : Hid ((setO os x).length ≤ 1000) := by unfold Hid; have := setO_len x os; omega
  have HSP : Hid (∀ o ∈ setO os x, o.ps.length ≤ 1000) := by
    intro o ho
    rcases setO_mem x os o ho with rfl | h
    · have := hxl8.out; omega
    · have := (good_mem HGO.out o h).1; omega
  have hso := fun X (h1 : RdP X (.slice a7 ny c7) y.ps) (h2 : RdP X (.slice a8 ny c8) y.ps) => sameOb_any y (.slice a7 ny c7) (.slice a8 ny c8) X hyl3 h1 h2
  have hst := fun X (h0 : RdO X (.slice al n cl) os) (h1 : RdP X (.slice ax nx cx) x.ps) => set_any (.slice al n cl) os x (.slice ax nx cx) X (by omega) (fun j hj => by have := HGO.out.pix j hj; omega) (by have := hxl8.out; omega) HGO.out.sort h0 h1
  have hrs := fun X (h0 : RdO X (.slice al n cl) os) (h1 : RdP X (.slice ax nx cx) x.ps) => rset_any (.slice al n cl) os x (.slice ax nx cx) X (by omega) HGO.out.sort h0 h1
  unfold poV objV at hso hst hrs
  have HSO := hid_of2 hso
  have HST := hid_of2 hst
  have HRS := hid_of2 hrs
  clear hso hst hrs
  have hnn : (b != b) = false := by cases b <;> rfl
  go_region_held3 (fun w' => w'.cell? ⟨w.heap.size, 0, none⟩ = some (.int .i64 x.id) ∧ w'.cell? ⟨w.heap.size, 1, none⟩ = some (.int .i64 x.x) ∧ w'.cell? ⟨w.heap.size, 2, none⟩ = some (.int .i64 x.y) ∧ w'.cell? ⟨w.heap.size, 3, none⟩ = some (.int .i64 x.pw) ∧ w'.cell? ⟨w.heap.size, 4, none⟩ = some (.int .i64 x.ph) ∧ w'.cell? ⟨w.heap.size, 5, none⟩ = some (.slice ax nx cx) ∧ w'.cell? ⟨w.heap.size, 6, none⟩ = some (.int .i64 x.cx) ∧ w'.cell? ⟨w.heap.size, 7, none⟩ = some (.int .i64 x.cy) ∧ w'.cell? ⟨w.heap.size, 8, none⟩ = some (.int .i64 x.cw) ∧ w'.cell? ⟨w.heap.size, 9, none⟩ = some (.int .i64 x.ch) ∧ w'.cell? ⟨w.heap.size, 10, none⟩ = some (.bool x.sh) ∧ w'.cell? ⟨w7.heap.size, 0, none⟩ = some (.int .i64 y.id) ∧ w'.cell? ⟨w7.heap.size, 1, none⟩ = some (.int .i64 y.x) ∧ w'.cell? ⟨w7.heap.size, 2, none⟩ = some (.int .i64 y.y) ∧ w'.cell? ⟨w7.heap.size, 3, none⟩ = some (.int .i64 y.pw) ∧ w'.cell? ⟨w7.heap.size, 4, none⟩ = some (.int .i64 y.ph) ∧ w'.cell? ⟨w7.heap.size, 5, none⟩ = some (.slice a7 ny c7) ∧ w'.cell? ⟨w7.heap.size, 6, none⟩ = some (.int .i64 y.cx) ∧ w'.cell? ⟨w7.heap.size, 7, none⟩ = some (.int .i64 y.cy) ∧ w'.cell? ⟨w7.heap.size, 8, none⟩ = some (.int .i64 y.cw) ∧ w'.cell? ⟨w7.heap.size, 9, none⟩ = some (.int .i64 y.ch) ∧ w'.cell? ⟨w7.heap.size, 10, none⟩ = some (.bool y.sh) ∧ w'.cell? ⟨w8.heap.size, 0, none⟩ = some (.int .i64 y.id) ∧ w'.cell? ⟨w8.heap.size, 1, none⟩ = some (.int .i64 y.x) ∧ w'.cell? ⟨w8.heap.size, 2, none⟩ = some (.int .i64 y.y) ∧ w'.cell? ⟨w8.heap.size, 3, none⟩ = some (.int .i64 y.pw) ∧ w'.cell? ⟨w8.heap.size, 4, none⟩ = some (.int .i64 y.ph) ∧ w'.cell? ⟨w8.heap.size, 5, none⟩ = some (.slice a8 ny c8) ∧ w'.cell? ⟨w8.heap.size, 6, none⟩ = some (.int .i64 y.cx) ∧ w'.cell? ⟨w8.heap.size, 7, none⟩ = some (.int .i64 y.cy) ∧ w'.cell? ⟨w8.heap.size, 8, none⟩ = some (.int .i64 y.cw) ∧ w'.cell? ⟨w8.heap.size, 9, none⟩ = some (.int .i64 y.ch) ∧ w'.cell? ⟨w8.heap.size, 10, none⟩ = some (.bool y.sh))
    (first
      | exact KEEP.out _ HP4.out
      | exact KEEP.out _ HP3.out
      | exact KEEP.out _ HP2.out
      | exact KEEP.out _ HP1.out
      | exact KEEP.out _ HPD.out
      | fail)
    (first
      | (go_at_call 14; refine (sameObs_any v2 v3 (setO os x) _ HSL.out HSP.out R2 R3).mono ?_; rintro e w12 ⟨rfl, hb12⟩; have HP4 := hid_of2 (POn.out _ _ HP3.out hb12))
      | (go_at_call 16; refine (HRS.out _ HP2.out.1.rl HP2.out.1.ro).mono ?_; rintro e w11 ⟨v3, rfl, r3, hb11⟩; have HP3 := hid_of2 (POn.out _ _ HP2.out hb11); have R3 := hid_of2 r3; replace R2 := hid_of2 (R2.out.on hb11); clear r3)
      | (go_at_call 15; refine (HST.out _ HP1.out.1.rl HP1.out.1.ro).mono ?_; rintro e w10 ⟨v2, qs2, rfl, o2, hq2, hb10⟩; have HP2 := hid_of2 (POn.out _ _ HP1.out hb10); have R2 := o2.rd; rw [hq2] at R2; replace R2 := hid_of2 R2; clear o2 hq2)
      | (go_at_call 13; refine (HSO.out _ HPD.out.2.2.2.1 HPD.out.2.2.2.2).mono ?_; rintro e w9 ⟨rfl, hb9⟩; have HP1 := hid_of2 (POn.out _ _ HPD.out hb9))
      | fail)
  clear HPD HP1 HP2 HP3 R2 R3 HSO HST HRS KEEP POn HYB HSL HSP
  have HG := hid_of2 HP4.out.1
  clear HP4 HP0
  obtain ⟨cq2, HCQ⟩ : ∃ c, Hid (rfC q = c) := ⟨_, (rfl : _ = _)⟩
  have hop := fun X (h1 : RdP X (.slice aq nq cq) q.ps) => opf_any q (.slice aq nq cq) X (by rw [HNQ.out]; omega) h1
  unfold opV OpfP at hop
  rw [HCQ.out] at hop
  have HOP := hid_of2 hop
  clear hop
  obtain ⟨m0, m1, m2, m3, m4, m5, m6, m7, m8, -, -, -, -, -, -, -, -, -, -⟩ := HG.out.nq
  go_wp2_with fail
  clear m0 m1 m2 m3 m4 m5 m6 m7 m8
  refine (HOP.out _ HG.out.rq).mono ?_
  rintro e w13 ⟨rfl, hb13⟩
  replace HG : Hid (Gob w (.slice al n cl) os x (.slice ax nx cx) q (.slice aq nq cq) bv ba w13) := HG.out.on hb13
  clear hb13 HOP
  by_cases hf : cq2 = 0
  case neg =>
    have hff : ((cq2 : Int) == 0) = false := by simpa using hf
    by_cases g1 : W' < 1
    · go_wp2_with fail
      go_ret
      exact ⟨rfl, HG.out.bel⟩
    by_cases g2 : 8 < W'
    · go_wp2_with fail
      go_ret
      exact ⟨rfl, HG.out.bel⟩
    by_cases g3 : H' < 1
    · go_wp2_with fail
      go_ret
      exact ⟨rfl, HG.out.bel⟩
    by_cases g4 : 8 < H'
    · go_wp2_with fail
      go_ret
      exact ⟨rfl, HG.out.bel⟩
    have t0 := HG.out.tp.c0
    have t1 := HG.out.tp.c1
    go_wp2_with fail
    clear t0 t1
    by_cases ha : pixB bv ba = true
    case neg =>
      refine (pixel_any bv ba _ false (by unfold Hid; simpa using ha)).mono ?_
      rintro e wz ⟨rfl, hbz⟩
      go_wp2_with fail
      go_ret
      exact ⟨rfl, (HG.out.on hbz).bel⟩
    refine (pixel_any bv ba _ true ha).mono ?_
    rintro e w20 ⟨rfl, hb20⟩
    replace HG : Hid (Gob w (.slice al n cl) os x (.slice ax nx cx) q (.slice aq nq cq) bv ba w20) := HG.out.on hb20
    clear hb20
    have t0 := HG.out.tp.c0
    have t1 := HG.out.tp.c1
    go_wp2_with fail
    clear t0 t1
    obtain ⟨Wn, rfl⟩ : ∃ k : Nat, W' = (k : Int) := ⟨W'.toNat, by omega⟩
    obtain ⟨Hn, rfl⟩ : ∃ k : Nat, H' = (k : Int) := ⟨H'.toNat, by omega⟩
    obtain ⟨f0, f1, f2, f3⟩ := (pixB_iff bv ba).1 ha
    have HPB := hid_of2 (show 0 ≤ bv ∧ bv ≤ 255 ∧ 0 ≤ ba ∧ ba ≤ 255 from ⟨f0, f1, f2, f3⟩)
    have HBW := hid_of2 (show 1 ≤ Wn ∧ Wn ≤ 8 ∧ 1 ≤ Hn ∧ Hn ≤ 8 from ⟨by omega, by omega, by omega, by omega⟩)
    have HSL2 := hid_of2 (check_zero _ _ _ (seen_check Wn Hn bv ba HBW.out.1 HBW.out.2.1 HBW.out.2.2.1 HBW.out.2.2.2 f0 f1 f2 f3 os (fun o ho => (good_mem HGO.out o ho).2)))
    have HSL3 : Hid ((seenL Wn Hn (bv, ba) os).length ≤ 1000) := by
      obtain ⟨QW, QH, e1, e2, _, p2, _, p4, pl, _⟩ := HSL2.out
      have : QW * QH ≤ 8 * 8 := Nat.mul_le_mul p2 p4
      unfold Hid; omega
    have hsn := fun X (h0 : RdO X (.slice al n cl) os) => seen_any (.slice al n cl) os Wn Hn bv ba X (by have := HGO.out.few; omega) (fun j hj => by have := HGO.out.pix j hj; omega) HGO.out.ok h0 HBW.out.1 HBW.out.2.1 HBW.out.2.2.1 HBW.out.2.2.2 HPB.out.1 HPB.out.2.1 HPB.out.2.2.1 HPB.out.2.2.2
    have hsr := fun X (h0 : RdO X (.slice al n cl) os) => seenOf_any (.slice al n cl) os Wn Hn bv ba X (by have := HGO.out.few; omega) (fun j hj => by have := HGO.out.pix j hj; omega) HGO.out.ok h0 HBW.out.1 HBW.out.2.1 HBW.out.2.2.1 HBW.out.2.2.2 HPB.out.1 HPB.out.2.1 HPB.out.2.2.1 HPB.out.2.2.2
    unfold pixV picV at hsn hsr
    have HSN := hid_of2 hsn
    have HSR := hid_of2 hsr
    clear hsn hsr f0 f1 f2 f3 ha HSL2 g1 g2 g3 g4
    have KEEPT : Hid (∀ W2, Gob w (.slice al n cl) os x (.slice ax nx cx) q (.slice aq nq cq) bv ba W2 → (W2.cell? ⟨w.heap.size + 1 + 1, 0, none⟩ = some (.int .i64 bv) ∧ W2.cell? ⟨w.heap.size + 1 + 1, 1, none⟩ = some (.int .i64 ba))) := fun W2 h2 => ⟨h2.tp.c0, h2.tp.c1⟩
    have HGD := hid_of2 HG.out.drew
    go_region_held3 (fun w' => w'.cell? ⟨w.heap.size + 1 + 1, 0, none⟩ = some (.int .i64 bv) ∧ w'.cell? ⟨w.heap.size + 1 + 1, 1, none⟩ = some (.int .i64 ba))
      (first
        | exact KEEPT.out _ HG3.out
        | exact KEEPT.out _ HG2.out
        | exact KEEPT.out _ HG1.out
        | exact KEEPT.out _ HGD.out
        | fail)
      (first
        | (go_at_call 22; refine (samePic_any (Wn : Int) (Hn : Int) v21 v22 (seenL Wn Hn (bv, ba) os) _ HSL3.out R21 R22).mono ?_; rintro e w23 ⟨rfl, hb23⟩; have HG3 := hid_of2 (HG2.out.on hb23))
        | (go_at_call 24; refine (HSR.out _ HG1.out.rl).mono ?_; rintro e w22 ⟨v22, rfl, r22, hb22⟩; have HG2 := hid_of2 (HG1.out.on hb22); have R22 := hid_of2 r22; replace R21 := hid_of2 (R21.out.on hb22); clear r22)
        | (go_at_call 23; refine (HSN.out _ HGD.out.rl).mono ?_; rintro e w21 ⟨v21, rfl, r21, hb21⟩; have HG1 := hid_of2 (HGD.out.on hb21); have R21 := hid_of2 r21; clear r21)
        | fail)
    go_wp2_with fail
    go_ret
    exact ⟨rfl, HG3.out.bel⟩
  subst hf
  have hf : (((0 : Nat) : Int) == 0) = true := rfl
  have HGm := HG
  clear hf
  have HG := HGm
  obtain ⟨ov, HOV⟩ : ∃ o, Hid (doO os q = o) := ⟨_, (rfl : _ = _)⟩
  have HPRE := hid_of2 (good_pre HGO.out hql8.out HCQ.out)
  have hdo := fun X (h0 : RdO X (.slice al n cl) os) (h1 : RdP X (.slice aq nq cq) q.ps) => do_any (.slice al n cl) os q (.slice aq nq cq) X HPRE h0 h1
  have hrd := fun X (h0 : RdO X (.slice al n cl) os) (h1 : RdP X (.slice aq nq cq) q.ps) => rdo_any (.slice al n cl) os q (.slice aq nq cq) X HPRE h0 h1
  unfold opV at hdo hrd
  have HDO := hid_of2 hdo
  have HRD := hid_of2 hrd
  clear hdo hrd
  obtain ⟨m0, m1, m2, m3, m4, m5, m6, m7, m8, -, -, -, -, -, -, -, -, -, -⟩ := HG.out.nq
  go_wp2_with fail
  clear m0 m1 m2 m3 m4 m5 m6 m7 m8
  refine (HDO.out _ HG.out.rl HG.out.rq).mono ?_
  unfold DoP
  rw [HOV.out]
  rintro e w14 ⟨hb14, hdo14⟩
  replace HG : Hid (Gob w (.slice al n cl) os x (.slice ax nx cx) q (.slice aq nq cq) bv ba w14) := HG.out.on hb14
  rcases hdo14 with ⟨v14, qs14, rfl, rfl, o14⟩ | ⟨c14, rfl, hc14, rfl⟩
  · have R14 := hid_of2 o14.rd
    obtain ⟨os2, HO2⟩ : ∃ o, Hid (qs14.map Prod.fst = o) := ⟨_, (rfl : _ = _)⟩
    rw [HO2.out] at R14 HOV
    clear o14 hb14 HO2
    have HFIT := hid_of2 (doO_fits HGO.out hql8.out HOV.out)
    obtain ⟨m0, m1, m2, m3, m4, m5, m6, m7, m8, -, -, -, -, -, -, -, -, -, -⟩ := HG.out.nq
    go_wp2_with fail
    clear m0 m1 m2 m3 m4 m5 m6 m7 m8
    refine (HRD.out _ HG.out.rl HG.out.rq).mono ?_
    unfold RDoP
    rw [HOV.out]
    rintro e w15 ⟨hb15, hdo15⟩
    rcases hdo15 with ⟨v15, os3, e3, rfl, r15⟩ | ⟨c15, e3, _⟩
    case inr => cases e3
    obtain rfl := Sum.inl.inj e3
    have R15 := hid_of2 r15
    replace HG : Hid (Gob w (.slice al n cl) os x (.slice ax nx cx) q (.slice aq nq cq) bv ba w15) := HG.out.on hb15
    replace R14 := hid_of2 (R14.out.on hb15)
    clear e3 r15 hb15
    go_wp2_with fail
    refine (same_ok 0 .nilIface rfl _).mono ?_
    rintro e wx ⟨rfl, rfl⟩
    go_wp2_with fail
    refine (sameObs_any v14 v15 os2 _ (by have := HFIT.out.1; omega) (fun o ho => by have := HFIT.out.2 o ho; omega) R14 R15).mono ?_
    rintro e w16 ⟨rfl, hb16⟩
    replace HG : Hid (Gob w (.slice al n cl) os x (.slice ax nx cx) q (.slice aq nq cq) bv ba w16) := HG.out.on hb16
    replace R15 := hid_of2 (R15.out.on hb16)
    clear hb16 R14
    by_cases hk2 : q.kind = 2
    · skip
      have HFL := hid_of2 (fresh_len HOV.out hk2)
      obtain ⟨n15, HN15⟩ : ∃ n, Hid (os2.length = n) := ⟨_, (rfl : _ = _)⟩
      have hn15 : 0 < n15 := by rw [← HN15.out]; exact HFL.out.1
      obtain ⟨a15, c15, hv15, _, _⟩ := R15.out.shape
      rw [HN15.out] at hv15
      subst hv15
      obtain ⟨z, HZX⟩ : ∃ z, Hid (os2.getD 0 po0 = z) := ⟨_, (rfl : _ = _)⟩
      have hzl : z.ps.length ≤ 80 := by
        rw [← HZX.out]; exact HFIT.out.2 _ (getD_mem_po (by rw [HN15.out]; omega))
      obtain ⟨gz, oz0, uz, mz, cz, rfl, hgz, OZ0, HZ, HMZ⟩ := R15.out.at (show 0 < n15 by omega) HZX
      obtain ⟨oz, HOZ⟩ : ∃ k, Hid (oz0 + 0 * 11 = k) := ⟨_, (rfl : _ = _)⟩
      rw [HOZ.out] at OZ0
      obtain rfl : oz = oz0 := by have := HOZ.out; omega
      have OZ := OZ0
      obtain ⟨z0, z1, z2, z3, z4, z5, z6, z7, z8, z9, z10⟩ := OZ0
      have HGD := hid_of2 HG.out.drew
      have OZD := OZ
      have hfr := fun X (h1 : RdP X (.slice aq nq cq) q.ps) => fresh_any q.id q.pw q.ph (.slice aq nq cq) q.ps X (by have := hql8.out; omega) h1
      unfold picV objV at hfr
      have HFR := hid_of2 hfr
      clear hfr
      have hk2t : (q.kind == 2) = true := by simpa using hk2
      have HK2 := hid_of2 hk2
      clear hk2
      go_wp2_with fail
      have hsg := fun X u (h1 : RdP X u q.ps) (h2 : RdP X (.slice uz mz cz) z.ps) => sameObG_any (freshO q) z u (.slice uz mz cz) X (by show q.ps.length ≤ 1000; have := hql8.out; omega) (by omega) h1 h2
      unfold poV objV freshO SoP at hsg
      dsimp only at hsg
      have HSG := hid_of2 hsg
      clear hsg
      refine wp_region_held_drew (S := (fun w' => w'.cell? ⟨w.heap.size + 1, 0, none⟩ = some (.int .i64 q.kind) ∧ w'.cell? ⟨w.heap.size + 1, 1, none⟩ = some (.int .i64 q.id) ∧ w'.cell? ⟨w.heap.size + 1, 6, none⟩ = some (.int .i64 q.pw) ∧ w'.cell? ⟨w.heap.size + 1, 7, none⟩ = some (.int .i64 q.ph) ∧ w'.cell? ⟨w.heap.size + 1, 8, none⟩ = some (.slice aq nq cq) ∧ w'.cell? ⟨gz, oz, none⟩ = some (.int .i64 z.id) ∧ w'.cell? ⟨gz, oz + 1, none⟩ = some (.int .i64 z.x) ∧ w'.cell? ⟨gz, oz + 2, none⟩ = some (.int .i64 z.y) ∧ w'.cell? ⟨gz, oz + 3, none⟩ = some (.int .i64 z.pw) ∧ w'.cell? ⟨gz, oz + 4, none⟩ = some (.int .i64 z.ph) ∧ w'.cell? ⟨gz, oz + 5, none⟩ = some (.slice uz mz cz) ∧ w'.cell? ⟨gz, oz + 6, none⟩ = some (.int .i64 z.cx) ∧ w'.cell? ⟨gz, oz + 7, none⟩ = some (.int .i64 z.cy) ∧ w'.cell? ⟨gz, oz + 8, none⟩ = some (.int .i64 z.cw) ∧ w'.cell? ⟨gz, oz + 9, none⟩ = some (.int .i64 z.ch) ∧ w'.cell? ⟨gz, oz + 10, none⟩ = some (.bool z.sh))) (by kernel_rfl) ?_ (fun hHeld => ?_)
      · exact ⟨HG.out.nq.c0, HG.out.nq.c1, HG.out.nq.c6, HG.out.nq.c7, HG.out.nq.c8, z0, z1, z2, z3, z4, z5, z6, z7, z8, z9, z10⟩
      refine wpAnyH_take (i := 0) (oi := ({ dst := some 107, op := Op.fieldAddr 31 (Operand.tmp 8) 0, type := 0, pos := "law.go:219", after := #[], guard := none } : Oper)) (v := ?_) rfl (by kernel_rfl) (by kernel_rfl) (by kernel_rfl) (fun _ _ _ h => h) (Or.inl ⟨by rfl, ?_⟩) (by assumption) ?_
      rotate_left
      · (intro w hSw; (try dsimp only at hSw); go_simp; try with_reducible rfl)
      try simp only [Act.put, List.setIfInBounds_toArray, List.set_cons_zero, List.set_cons_succ]
      refine wpAnyH_take (i := 1) (oi := ({ dst := some 108, op := Op.load 3 (Operand.tmp 107), type := 3, pos := "law.go:219", after := #[{ on := 0, ground := Ground.data }], guard := none } : Oper)) (v := ?_) rfl (by kernel_rfl) (by kernel_rfl) (by kernel_rfl) (fun _ _ _ h => h) (Or.inl ⟨by rfl, ?_⟩) (by assumption) ?_
      rotate_left
      · (intro w hSw; (try dsimp only at hSw); go_simp; try with_reducible rfl)
      try simp only [Act.put, List.setIfInBounds_toArray, List.set_cons_zero, List.set_cons_succ]
      refine wpAnyH_take (i := 2) (oi := ({ dst := some 109, op := Op.binOp BinOp.eql 3 (Operand.tmp 108) (Operand.const (Value.int IntKind.i64 2)) 3, type := 4, pos := "law.go:219", after := #[{ on := 1, ground := Ground.data }], guard := none } : Oper)) (v := ?_) rfl (by kernel_rfl) (by kernel_rfl) (by kernel_rfl) (fun _ _ _ h => h) (Or.inl ⟨by rfl, ?_⟩) (by assumption) ?_
      rotate_left
      · (intro w hSw; (try dsimp only at hSw); go_simp; try with_reducible rfl)
      try simp only [Act.put, List.setIfInBounds_toArray, List.set_cons_zero, List.set_cons_succ]
      refine wpAnyH_take (i := 3) (oi := ({ dst := some 110, op := Op.move (Operand.tmp 109), type := 4, pos := "law.go:219", after := #[{ on := 2, ground := Ground.data }], guard := none } : Oper)) (v := ?_) rfl (by kernel_rfl) (by kernel_rfl) (by kernel_rfl) (fun _ _ _ h => h) (Or.inl ⟨by rfl, ?_⟩) (by assumption) ?_
      rotate_left
      · (intro w hSw; (try dsimp only at hSw); go_simp; try with_reducible rfl)
      try simp only [Act.put, List.setIfInBounds_toArray, List.set_cons_zero, List.set_cons_succ]
      refine wpAnyH_take (i := 4) (oi := ({ dst := some 111, op := Op.fieldAddr 31 (Operand.tmp 8) 1, type := 0, pos := "law.go:219", after := #[{ on := 3, ground := Ground.guard }], guard := some (3, true) } : Oper)) (v := ?_) rfl (by kernel_rfl) (by kernel_rfl) (by kernel_rfl) (fun _ _ _ h => h) (Or.inl ⟨by rfl, ?_⟩) (by assumption) ?_
      rotate_left
      · (intro w hSw; (try dsimp only at hSw); go_simp; try with_reducible rfl)
      try simp only [Act.put, List.setIfInBounds_toArray, List.set_cons_zero, List.set_cons_succ]
      refine wpAnyH_take (i := 5) (oi := ({ dst := some 112, op := Op.load 3 (Operand.tmp 111), type := 3, pos := "law.go:219", after := #[{ on := 4, ground := Ground.data }, { on := 3, ground := Ground.guard }], guard := some (3, true) } : Oper)) (v := ?_) rfl (by kernel_rfl) (by kernel_rfl) (by kernel_rfl) (fun _ _ _ h => h) (Or.inl ⟨by rfl, ?_⟩) (by assumption) ?_
      rotate_left
      · (intro w hSw; (try dsimp only at hSw); go_simp; try with_reducible rfl)
      try simp only [Act.put, List.setIfInBounds_toArray, List.set_cons_zero, List.set_cons_succ]
      refine wpAnyH_take (i := 6) (oi := ({ dst := some 113, op := Op.fieldAddr 31 (Operand.tmp 8) 6, type := 0, pos := "law.go:219", after := #[{ on := 3, ground := Ground.guard }], guard := some (3, true) } : Oper)) (v := ?_) rfl (by kernel_rfl) (by kernel_rfl) (by kernel_rfl) (fun _ _ _ h => h) (Or.inl ⟨by rfl, ?_⟩) (by assumption) ?_
      rotate_left
      · (intro w hSw; (try dsimp only at hSw); go_simp; try with_reducible rfl)
      try simp only [Act.put, List.setIfInBounds_toArray, List.set_cons_zero, List.set_cons_succ]
      refine wpAnyH_take (i := 7) (oi := ({ dst := some 114, op := Op.load 25 (Operand.tmp 113), type := 25, pos := "law.go:219", after := #[{ on := 6, ground := Ground.data }, { on := 3, ground := Ground.guard }], guard := some (3, true) } : Oper)) (v := ?_) rfl (by kernel_rfl) (by kernel_rfl) (by kernel_rfl) (fun _ _ _ h => h) (Or.inl ⟨by rfl, ?_⟩) (by assumption) ?_
      rotate_left
      · (intro w hSw; (try dsimp only at hSw); go_simp; try with_reducible rfl)
      try simp only [Act.put, List.setIfInBounds_toArray, List.set_cons_zero, List.set_cons_succ]
      refine wpAnyH_take (i := 9) (oi := ({ dst := some 116, op := Op.move (Operand.tmp 20), type := 22, pos := "law.go:219", after := #[{ on := 3, ground := Ground.guard }], guard := some (3, true) } : Oper)) (v := ?_) rfl (by kernel_rfl) (by kernel_rfl) (by kernel_rfl) (fun _ _ _ h => h) (Or.inl ⟨by rfl, ?_⟩) (by assumption) ?_
      rotate_left
      · (intro w hSw; (try dsimp only at hSw); go_simp; try with_reducible rfl)
      try simp only [Act.put, List.setIfInBounds_toArray, List.set_cons_zero, List.set_cons_succ]
      refine wpAnyH_take (i := 10) (oi := ({ dst := some 117, op := Op.indexAddr 22 (Operand.tmp 116) (Operand.const (Value.int IntKind.i64 0)), type := 0, pos := "law.go:219", after := #[{ on := 9, ground := Ground.data }, { on := 3, ground := Ground.guard }], guard := some (3, true) } : Oper)) (v := ?_) rfl (by kernel_rfl) (by kernel_rfl) (by kernel_rfl) (fun _ _ _ h => h) (Or.inl ⟨by rfl, ?_⟩) (by assumption) ?_
      rotate_left
      · (intro w hSw; (try dsimp only at hSw); go_simp; try with_reducible rfl)
      try simp only [Act.put, List.setIfInBounds_toArray, List.set_cons_zero, List.set_cons_succ]
      refine wpAnyH_take (i := 11) (oi := ({ dst := some 118, op := Op.load 29 (Operand.tmp 117), type := 29, pos := "law.go:219", after := #[{ on := 10, ground := Ground.data }, { on := 3, ground := Ground.guard }], guard := some (3, true) } : Oper)) (v := ?_) rfl (by kernel_rfl) (by kernel_rfl) (by kernel_rfl) (fun _ _ _ h => h) (Or.inl ⟨by rfl, ?_⟩) (by assumption) ?_
      rotate_left
      · (intro w hSw; (try dsimp only at hSw); go_simp; try with_reducible rfl)
      try simp only [Act.put, List.setIfInBounds_toArray, List.set_cons_zero, List.set_cons_succ]
      refine wpAnyH_ready (rs := [8]) (by kernel_rfl) (by simp) ?_
      refine AllReadyH.cons (o := ({ dst := some 115, op := Op.call { callee := Callee.value (Operand.func 20), args := #[Operand.tmp 112, Operand.tmp 114], argTypes := #[3, 25] }, type := 29, pos := "law.go:219", after := #[{ on := 5, ground := Ground.data }, { on := 7, ground := Ground.data }, { on := 3, ground := Ground.chain }, { on := 3, ground := Ground.guard }], guard := some (3, true) } : Oper)) rfl (fun K_ hK => ?_) AllReadyH.nil
      go_simp
      refine (HFR.out _ HGD.out.rq).mono ?_
      rintro e w17 ⟨u17, rfl, o17, hb17⟩
      have R17 := hid_of2 (rdP_own o17)
      replace HG : Hid (Gob w (.slice al n cl) os x (.slice ax nx cx) q (.slice aq nq cq) bv ba w17) := HGD.out.on hb17
      have hbd17 := (show Below w16.heap.size w16 w16.drew from (Below.refl _ _).drew).trans hb17
      have HZ17 := hid_of2 (HZ.out.on hbd17)
      have OZ2 := OZ.on hgz hbd17
      have hgz2 := Nat.lt_of_lt_of_le hgz hbd17.size
      clear o17
      try dsimp only
      refine hK.out _ _ ?_ (fun hHeld => ?_)
      · exact ⟨HG.out.nq.c0, HG.out.nq.c1, HG.out.nq.c6, HG.out.nq.c7, HG.out.nq.c8, OZ2.c0, OZ2.c1, OZ2.c2, OZ2.c3, OZ2.c4, OZ2.c5, OZ2.c6, OZ2.c7, OZ2.c8, OZ2.c9, OZ2.c10⟩
      clear hK K_
      try simp only [Act.put, List.setIfInBounds_toArray, List.set_cons_zero, List.set_cons_succ]
      refine wpAnyH_ready (rs := [12]) (by kernel_rfl) (by simp) ?_
      refine AllReadyH.cons (o := ({ dst := some 119, op := Op.call { callee := Callee.value (Operand.func 13), args := #[Operand.tmp 115, Operand.tmp 118], argTypes := #[29, 29] }, type := 4, pos := "law.go:219", after := #[{ on := 8, ground := Ground.data }, { on := 11, ground := Ground.data }, { on := 8, ground := Ground.chain }, { on := 3, ground := Ground.guard }], guard := some (3, true) } : Oper)) rfl (fun K_ hK => ?_) AllReadyH.nil
      go_simp
      refine (HSG.out _ _ R17.out HZ17.out).mono ?_
      rintro e w18 ⟨bs, rfl, hbs, hb18⟩
      have HBS := hid_of2 hbs
      clear hbs
      replace HG : Hid (Gob w (.slice al n cl) os x (.slice ax nx cx) q (.slice aq nq cq) bv ba w18) := HG.out.on hb18
      try dsimp only
      refine hK.out _ _ ?_ (fun hHeld => ?_)
      · exact ⟨HG.out.nq.c0, HG.out.nq.c1, HG.out.nq.c6, HG.out.nq.c7, HG.out.nq.c8, (OZ2.on hgz2 hb18).c0, (OZ2.on hgz2 hb18).c1, (OZ2.on hgz2 hb18).c2, (OZ2.on hgz2 hb18).c3, (OZ2.on hgz2 hb18).c4, (OZ2.on hgz2 hb18).c5, (OZ2.on hgz2 hb18).c6, (OZ2.on hgz2 hb18).c7, (OZ2.on hgz2 hb18).c8, (OZ2.on hgz2 hb18).c9, (OZ2.on hgz2 hb18).c10⟩
      clear hK K_
      clear hb18
      try simp only [Act.put, List.setIfInBounds_toArray, List.set_cons_zero, List.set_cons_succ]
      cases bs with
      | true =>
        refine wpAnyH_take (i := 13) (oi := ({ dst := some 120, op := Op.unOp UnOp.not 4 (Operand.tmp 119), type := 4, pos := "law.go:219", after := #[{ on := 12, ground := Ground.data }, { on := 3, ground := Ground.guard }], guard := some (3, true) } : Oper)) (v := ?_) rfl (by kernel_rfl) (by kernel_rfl) (by kernel_rfl) (fun _ _ _ h => h) (Or.inl ⟨by rfl, ?_⟩) (by assumption) ?_
        rotate_left
        · (intro w hSw; (try dsimp only at hSw); go_simp; try with_reducible rfl)
        try simp only [Act.put, List.setIfInBounds_toArray, List.set_cons_zero, List.set_cons_succ]
        refine wpAnyH_take (i := 14) (oi := ({ dst := some 121, op := Op.pick (Operand.tmp 110) (Operand.tmp 120) (Operand.const (Value.bool false)), type := 4, pos := "law.go:219", after := #[{ on := 3, ground := Ground.data }, { on := 13, ground := Ground.data }], guard := none } : Oper)) (v := ?_) rfl (by kernel_rfl) (by kernel_rfl) (by kernel_rfl) (fun _ _ _ h => h) (Or.inl ⟨by rfl, ?_⟩) (by assumption) ?_
        rotate_left
        · (intro w hSw; (try dsimp only at hSw); go_simp; try with_reducible rfl)
        try simp only [Act.put, List.setIfInBounds_toArray, List.set_cons_zero, List.set_cons_succ]
        refine wpAnyH_take (i := 15) (oi := ({ dst := some 122, op := Op.move (Operand.tmp 121), type := 4, pos := "law.go:219", after := #[{ on := 14, ground := Ground.data }, { on := 12, ground := Ground.chain }], guard := none } : Oper)) (v := ?_) rfl (by kernel_rfl) (by kernel_rfl) (by kernel_rfl) (fun _ _ _ h => h) (Or.inl ⟨by rfl, ?_⟩) (by assumption) ?_
        rotate_left
        · (intro w hSw; (try dsimp only at hSw); go_simp; try with_reducible rfl)
        try simp only [Act.put, List.setIfInBounds_toArray, List.set_cons_zero, List.set_cons_succ]
        refine wpAnyH_take (i := 16) (oi := ({ dst := some 123, op := Op.move (Operand.tmp 20), type := 22, pos := "law.go:219", after := #[{ on := 15, ground := Ground.guard }], guard := some (15, true) } : Oper)) (v := undef) rfl (by kernel_rfl) (by kernel_rfl) (by kernel_rfl) (fun _ _ _ h => h) (Or.inr ⟨by rfl, rfl⟩) (by assumption) ?_
        try simp only [Act.put, List.setIfInBounds_toArray, List.set_cons_zero, List.set_cons_succ]
        refine wpAnyH_take (i := 17) (oi := ({ dst := some 124, op := Op.call { callee := Callee.builtin Builtin.len, args := #[Operand.tmp 123], argTypes := #[22] }, type := 3, pos := "law.go:219", after := #[{ on := 16, ground := Ground.data }, { on := 15, ground := Ground.guard }], guard := some (15, true) } : Oper)) (v := undef) rfl (by kernel_rfl) (by kernel_rfl) (by kernel_rfl) (fun _ _ _ h => h) (Or.inr ⟨by rfl, rfl⟩) (by assumption) ?_
        try simp only [Act.put, List.setIfInBounds_toArray, List.set_cons_zero, List.set_cons_succ]
        refine wpAnyH_take (i := 18) (oi := ({ dst := some 125, op := Op.binOp BinOp.eql 3 (Operand.tmp 124) (Operand.const (Value.int IntKind.i64 1)) 3, type := 4, pos := "law.go:219", after := #[{ on := 17, ground := Ground.data }, { on := 15, ground := Ground.guard }], guard := some (15, true) } : Oper)) (v := undef) rfl (by kernel_rfl) (by kernel_rfl) (by kernel_rfl) (fun _ _ _ h => h) (Or.inr ⟨by rfl, rfl⟩) (by assumption) ?_
        try simp only [Act.put, List.setIfInBounds_toArray, List.set_cons_zero, List.set_cons_succ]
        refine wpAnyH_take (i := 19) (oi := ({ dst := some 126, op := Op.pick (Operand.tmp 122) (Operand.tmp 125) (Operand.const (Value.bool false)), type := 4, pos := "law.go:219", after := #[{ on := 15, ground := Ground.data }, { on := 18, ground := Ground.data }], guard := none } : Oper)) (v := ?_) rfl (by kernel_rfl) (by kernel_rfl) (by kernel_rfl) (fun _ _ _ h => h) (Or.inl ⟨by rfl, ?_⟩) (by assumption) ?_
        rotate_left
        · (intro w hSw; (try dsimp only at hSw); go_simp; try with_reducible rfl)
        try simp only [Act.put, List.setIfInBounds_toArray, List.set_cons_zero, List.set_cons_succ]
        refine wpAnyH_done (by kernel_rfl) ?_ _
        by_cases g1 : W' < 1
        · go_wp2_with fail
          go_ret
          exact ⟨rfl, HG.out.bel⟩
        by_cases g2 : 8 < W'
        · go_wp2_with fail
          go_ret
          exact ⟨rfl, HG.out.bel⟩
        by_cases g3 : H' < 1
        · go_wp2_with fail
          go_ret
          exact ⟨rfl, HG.out.bel⟩
        by_cases g4 : 8 < H'
        · go_wp2_with fail
          go_ret
          exact ⟨rfl, HG.out.bel⟩
        have t0 := HG.out.tp.c0
        have t1 := HG.out.tp.c1
        go_wp2_with fail
        clear t0 t1
        by_cases ha : pixB bv ba = true
        case neg =>
          refine (pixel_any bv ba _ false (by unfold Hid; simpa using ha)).mono ?_
          rintro e wz ⟨rfl, hbz⟩
          go_wp2_with fail
          go_ret
          exact ⟨rfl, (HG.out.on hbz).bel⟩
        refine (pixel_any bv ba _ true ha).mono ?_
        rintro e w20 ⟨rfl, hb20⟩
        replace HG : Hid (Gob w (.slice al n cl) os x (.slice ax nx cx) q (.slice aq nq cq) bv ba w20) := HG.out.on hb20
        clear hb20
        have t0 := HG.out.tp.c0
        have t1 := HG.out.tp.c1
        go_wp2_with fail
        clear t0 t1
        obtain ⟨Wn, rfl⟩ : ∃ k : Nat, W' = (k : Int) := ⟨W'.toNat, by omega⟩
        obtain ⟨Hn, rfl⟩ : ∃ k : Nat, H' = (k : Int) := ⟨H'.toNat, by omega⟩
        obtain ⟨f0, f1, f2, f3⟩ := (pixB_iff bv ba).1 ha
        have HPB := hid_of2 (show 0 ≤ bv ∧ bv ≤ 255 ∧ 0 ≤ ba ∧ ba ≤ 255 from ⟨f0, f1, f2, f3⟩)
        have HBW := hid_of2 (show 1 ≤ Wn ∧ Wn ≤ 8 ∧ 1 ≤ Hn ∧ Hn ≤ 8 from ⟨by omega, by omega, by omega, by omega⟩)
        have HSL2 := hid_of2 (check_zero _ _ _ (seen_check Wn Hn bv ba HBW.out.1 HBW.out.2.1 HBW.out.2.2.1 HBW.out.2.2.2 f0 f1 f2 f3 os (fun o ho => (good_mem HGO.out o ho).2)))
        have HSL3 : Hid ((seenL Wn Hn (bv, ba) os).length ≤ 1000) := by
          obtain ⟨QW, QH, e1, e2, _, p2, _, p4, pl, _⟩ := HSL2.out
          have : QW * QH ≤ 8 * 8 := Nat.mul_le_mul p2 p4
          unfold Hid; omega
        have hsn := fun X (h0 : RdO X (.slice al n cl) os) => seen_any (.slice al n cl) os Wn Hn bv ba X (by have := HGO.out.few; omega) (fun j hj => by have := HGO.out.pix j hj; omega) HGO.out.ok h0 HBW.out.1 HBW.out.2.1 HBW.out.2.2.1 HBW.out.2.2.2 HPB.out.1 HPB.out.2.1 HPB.out.2.2.1 HPB.out.2.2.2
        have hsr := fun X (h0 : RdO X (.slice al n cl) os) => seenOf_any (.slice al n cl) os Wn Hn bv ba X (by have := HGO.out.few; omega) (fun j hj => by have := HGO.out.pix j hj; omega) HGO.out.ok h0 HBW.out.1 HBW.out.2.1 HBW.out.2.2.1 HBW.out.2.2.2 HPB.out.1 HPB.out.2.1 HPB.out.2.2.1 HPB.out.2.2.2
        unfold pixV picV at hsn hsr
        have HSN := hid_of2 hsn
        have HSR := hid_of2 hsr
        clear hsn hsr f0 f1 f2 f3 ha HSL2 g1 g2 g3 g4
        have KEEPT : Hid (∀ W2, Gob w (.slice al n cl) os x (.slice ax nx cx) q (.slice aq nq cq) bv ba W2 → (W2.cell? ⟨w.heap.size + 1 + 1, 0, none⟩ = some (.int .i64 bv) ∧ W2.cell? ⟨w.heap.size + 1 + 1, 1, none⟩ = some (.int .i64 ba))) := fun W2 h2 => ⟨h2.tp.c0, h2.tp.c1⟩
        have HGD := hid_of2 HG.out.drew
        go_region_held3 (fun w' => w'.cell? ⟨w.heap.size + 1 + 1, 0, none⟩ = some (.int .i64 bv) ∧ w'.cell? ⟨w.heap.size + 1 + 1, 1, none⟩ = some (.int .i64 ba))
          (first
            | exact KEEPT.out _ HG3.out
            | exact KEEPT.out _ HG2.out
            | exact KEEPT.out _ HG1.out
            | exact KEEPT.out _ HGD.out
            | fail)
          (first
            | (go_at_call 22; refine (samePic_any (Wn : Int) (Hn : Int) v21 v22 (seenL Wn Hn (bv, ba) os) _ HSL3.out R21 R22).mono ?_; rintro e w23 ⟨rfl, hb23⟩; have HG3 := hid_of2 (HG2.out.on hb23))
            | (go_at_call 24; refine (HSR.out _ HG1.out.rl).mono ?_; rintro e w22 ⟨v22, rfl, r22, hb22⟩; have HG2 := hid_of2 (HG1.out.on hb22); have R22 := hid_of2 r22; replace R21 := hid_of2 (R21.out.on hb22); clear r22)
            | (go_at_call 23; refine (HSN.out _ HGD.out.rl).mono ?_; rintro e w21 ⟨v21, rfl, r21, hb21⟩; have HG1 := hid_of2 (HGD.out.on hb21); have R21 := hid_of2 r21; clear r21)
            | fail)
        go_wp2_with fail
        go_ret
        exact ⟨rfl, HG3.out.bel⟩
      | false =>
        have hn1 : n15 ≠ 1 := fun h => by
          have e := HBS.out (by rw [← HZX.out]; exact (HFL.out.2 (by rw [HN15.out]; exact h)).symm)
          cases e
        have hn1f : ((n15 : Int) == 1) = false := by simp; omega
        refine wpAnyH_take (i := 13) (oi := ({ dst := some 120, op := Op.unOp UnOp.not 4 (Operand.tmp 119), type := 4, pos := "law.go:219", after := #[{ on := 12, ground := Ground.data }, { on := 3, ground := Ground.guard }], guard := some (3, true) } : Oper)) (v := ?_) rfl (by kernel_rfl) (by kernel_rfl) (by kernel_rfl) (fun _ _ _ h => h) (Or.inl ⟨by rfl, ?_⟩) (by assumption) ?_
        rotate_left
        · (intro w hSw; (try dsimp only at hSw); go_simp; try with_reducible rfl)
        try simp only [Act.put, List.setIfInBounds_toArray, List.set_cons_zero, List.set_cons_succ]
        refine wpAnyH_take (i := 14) (oi := ({ dst := some 121, op := Op.pick (Operand.tmp 110) (Operand.tmp 120) (Operand.const (Value.bool false)), type := 4, pos := "law.go:219", after := #[{ on := 3, ground := Ground.data }, { on := 13, ground := Ground.data }], guard := none } : Oper)) (v := ?_) rfl (by kernel_rfl) (by kernel_rfl) (by kernel_rfl) (fun _ _ _ h => h) (Or.inl ⟨by rfl, ?_⟩) (by assumption) ?_
        rotate_left
        · (intro w hSw; (try dsimp only at hSw); go_simp; try with_reducible rfl)
        try simp only [Act.put, List.setIfInBounds_toArray, List.set_cons_zero, List.set_cons_succ]
        refine wpAnyH_take (i := 15) (oi := ({ dst := some 122, op := Op.move (Operand.tmp 121), type := 4, pos := "law.go:219", after := #[{ on := 14, ground := Ground.data }, { on := 12, ground := Ground.chain }], guard := none } : Oper)) (v := ?_) rfl (by kernel_rfl) (by kernel_rfl) (by kernel_rfl) (fun _ _ _ h => h) (Or.inl ⟨by rfl, ?_⟩) (by assumption) ?_
        rotate_left
        · (intro w hSw; (try dsimp only at hSw); go_simp; try with_reducible rfl)
        try simp only [Act.put, List.setIfInBounds_toArray, List.set_cons_zero, List.set_cons_succ]
        refine wpAnyH_take (i := 16) (oi := ({ dst := some 123, op := Op.move (Operand.tmp 20), type := 22, pos := "law.go:219", after := #[{ on := 15, ground := Ground.guard }], guard := some (15, true) } : Oper)) (v := ?_) rfl (by kernel_rfl) (by kernel_rfl) (by kernel_rfl) (fun _ _ _ h => h) (Or.inl ⟨by rfl, ?_⟩) (by assumption) ?_
        rotate_left
        · (intro w hSw; (try dsimp only at hSw); go_simp; try with_reducible rfl)
        try simp only [Act.put, List.setIfInBounds_toArray, List.set_cons_zero, List.set_cons_succ]
        refine wpAnyH_take (i := 17) (oi := ({ dst := some 124, op := Op.call { callee := Callee.builtin Builtin.len, args := #[Operand.tmp 123], argTypes := #[22] }, type := 3, pos := "law.go:219", after := #[{ on := 16, ground := Ground.data }, { on := 15, ground := Ground.guard }], guard := some (15, true) } : Oper)) (v := ?_) rfl (by kernel_rfl) (by kernel_rfl) (by kernel_rfl) (fun _ _ _ h => h) (Or.inl ⟨by rfl, ?_⟩) (by assumption) ?_
        rotate_left
        · (intro w hSw; (try dsimp only at hSw); go_simp; try with_reducible rfl)
        try simp only [Act.put, List.setIfInBounds_toArray, List.set_cons_zero, List.set_cons_succ]
        refine wpAnyH_take (i := 18) (oi := ({ dst := some 125, op := Op.binOp BinOp.eql 3 (Operand.tmp 124) (Operand.const (Value.int IntKind.i64 1)) 3, type := 4, pos := "law.go:219", after := #[{ on := 17, ground := Ground.data }, { on := 15, ground := Ground.guard }], guard := some (15, true) } : Oper)) (v := ?_) rfl (by kernel_rfl) (by kernel_rfl) (by kernel_rfl) (fun _ _ _ h => h) (Or.inl ⟨by rfl, ?_⟩) (by assumption) ?_
        rotate_left
        · (intro w hSw; (try dsimp only at hSw); go_simp; try with_reducible rfl)
        try simp only [Act.put, List.setIfInBounds_toArray, List.set_cons_zero, List.set_cons_succ]
        refine wpAnyH_take (i := 19) (oi := ({ dst := some 126, op := Op.pick (Operand.tmp 122) (Operand.tmp 125) (Operand.const (Value.bool false)), type := 4, pos := "law.go:219", after := #[{ on := 15, ground := Ground.data }, { on := 18, ground := Ground.data }], guard := none } : Oper)) (v := ?_) rfl (by kernel_rfl) (by kernel_rfl) (by kernel_rfl) (fun _ _ _ h => h) (Or.inl ⟨by rfl, ?_⟩) (by assumption) ?_
        rotate_left
        · (intro w hSw; (try dsimp only at hSw); go_simp; try with_reducible rfl)
        try simp only [Act.put, List.setIfInBounds_toArray, List.set_cons_zero, List.set_cons_succ]
        refine wpAnyH_done (by kernel_rfl) ?_ _
        by_cases g1 : W' < 1
        · go_wp2_with fail
          go_ret
          exact ⟨rfl, HG.out.bel⟩
        by_cases g2 : 8 < W'
        · go_wp2_with fail
          go_ret
          exact ⟨rfl, HG.out.bel⟩
        by_cases g3 : H' < 1
        · go_wp2_with fail
          go_ret
          exact ⟨rfl, HG.out.bel⟩
        by_cases g4 : 8 < H'
        · go_wp2_with fail
          go_ret
          exact ⟨rfl, HG.out.bel⟩
        have t0 := HG.out.tp.c0
        have t1 := HG.out.tp.c1
        go_wp2_with fail
        clear t0 t1
        by_cases ha : pixB bv ba = true
        case neg =>
          refine (pixel_any bv ba _ false (by unfold Hid; simpa using ha)).mono ?_
          rintro e wz ⟨rfl, hbz⟩
          go_wp2_with fail
          go_ret
          exact ⟨rfl, (HG.out.on hbz).bel⟩
        refine (pixel_any bv ba _ true ha).mono ?_
        rintro e w20 ⟨rfl, hb20⟩
        replace HG : Hid (Gob w (.slice al n cl) os x (.slice ax nx cx) q (.slice aq nq cq) bv ba w20) := HG.out.on hb20
        clear hb20
        have t0 := HG.out.tp.c0
        have t1 := HG.out.tp.c1
        go_wp2_with fail
        clear t0 t1
        obtain ⟨Wn, rfl⟩ : ∃ k : Nat, W' = (k : Int) := ⟨W'.toNat, by omega⟩
        obtain ⟨Hn, rfl⟩ : ∃ k : Nat, H' = (k : Int) := ⟨H'.toNat, by omega⟩
        obtain ⟨f0, f1, f2, f3⟩ := (pixB_iff bv ba).1 ha
        have HPB := hid_of2 (show 0 ≤ bv ∧ bv ≤ 255 ∧ 0 ≤ ba ∧ ba ≤ 255 from ⟨f0, f1, f2, f3⟩)
        have HBW := hid_of2 (show 1 ≤ Wn ∧ Wn ≤ 8 ∧ 1 ≤ Hn ∧ Hn ≤ 8 from ⟨by omega, by omega, by omega, by omega⟩)
        have HSL2 := hid_of2 (check_zero _ _ _ (seen_check Wn Hn bv ba HBW.out.1 HBW.out.2.1 HBW.out.2.2.1 HBW.out.2.2.2 f0 f1 f2 f3 os (fun o ho => (good_mem HGO.out o ho).2)))
        have HSL3 : Hid ((seenL Wn Hn (bv, ba) os).length ≤ 1000) := by
          obtain ⟨QW, QH, e1, e2, _, p2, _, p4, pl, _⟩ := HSL2.out
          have : QW * QH ≤ 8 * 8 := Nat.mul_le_mul p2 p4
          unfold Hid; omega
        have hsn := fun X (h0 : RdO X (.slice al n cl) os) => seen_any (.slice al n cl) os Wn Hn bv ba X (by have := HGO.out.few; omega) (fun j hj => by have := HGO.out.pix j hj; omega) HGO.out.ok h0 HBW.out.1 HBW.out.2.1 HBW.out.2.2.1 HBW.out.2.2.2 HPB.out.1 HPB.out.2.1 HPB.out.2.2.1 HPB.out.2.2.2
        have hsr := fun X (h0 : RdO X (.slice al n cl) os) => seenOf_any (.slice al n cl) os Wn Hn bv ba X (by have := HGO.out.few; omega) (fun j hj => by have := HGO.out.pix j hj; omega) HGO.out.ok h0 HBW.out.1 HBW.out.2.1 HBW.out.2.2.1 HBW.out.2.2.2 HPB.out.1 HPB.out.2.1 HPB.out.2.2.1 HPB.out.2.2.2
        unfold pixV picV at hsn hsr
        have HSN := hid_of2 hsn
        have HSR := hid_of2 hsr
        clear hsn hsr f0 f1 f2 f3 ha HSL2 g1 g2 g3 g4
        have KEEPT : Hid (∀ W2, Gob w (.slice al n cl) os x (.slice ax nx cx) q (.slice aq nq cq) bv ba W2 → (W2.cell? ⟨w.heap.size + 1 + 1, 0, none⟩ = some (.int .i64 bv) ∧ W2.cell? ⟨w.heap.size + 1 + 1, 1, none⟩ = some (.int .i64 ba))) := fun W2 h2 => ⟨h2.tp.c0, h2.tp.c1⟩
        have HGD := hid_of2 HG.out.drew
        go_region_held3 (fun w' => w'.cell? ⟨w.heap.size + 1 + 1, 0, none⟩ = some (.int .i64 bv) ∧ w'.cell? ⟨w.heap.size + 1 + 1, 1, none⟩ = some (.int .i64 ba))
          (first
            | exact KEEPT.out _ HG3.out
            | exact KEEPT.out _ HG2.out
            | exact KEEPT.out _ HG1.out
            | exact KEEPT.out _ HGD.out
            | fail)
          (first
            | (go_at_call 22; refine (samePic_any (Wn : Int) (Hn : Int) v21 v22 (seenL Wn Hn (bv, ba) os) _ HSL3.out R21 R22).mono ?_; rintro e w23 ⟨rfl, hb23⟩; have HG3 := hid_of2 (HG2.out.on hb23))
            | (go_at_call 24; refine (HSR.out _ HG1.out.rl).mono ?_; rintro e w22 ⟨v22, rfl, r22, hb22⟩; have HG2 := hid_of2 (HG1.out.on hb22); have R22 := hid_of2 r22; replace R21 := hid_of2 (R21.out.on hb22); clear r22)
            | (go_at_call 23; refine (HSN.out _ HGD.out.rl).mono ?_; rintro e w21 ⟨v21, rfl, r21, hb21⟩; have HG1 := hid_of2 (HGD.out.on hb21); have R21 := hid_of2 r21; clear r21)
            | fail)
        go_wp2_with fail
        go_ret
        exact ⟨rfl, HG3.out.bel⟩
    · have hk2f : (q.kind == 2) = false := by simpa using hk2
      go_wp2_with fail
      refine wp_region_held_drew (S := (fun w' => w'.cell? ⟨w.heap.size + 1, 0, none⟩ = some (.int .i64 q.kind))) (by kernel_rfl) ?_ (fun hHeld => ?_)
      · exact HG.out.nq.c0
      refine wpAnyH_take (i := 0) (oi := ({ dst := some 107, op := Op.fieldAddr 31 (Operand.tmp 8) 0, type := 0, pos := "law.go:219", after := #[], guard := none } : Oper)) (v := ?_) rfl (by kernel_rfl) (by kernel_rfl) (by kernel_rfl) (fun _ _ _ h => h) (Or.inl ⟨by rfl, ?_⟩) (by assumption) ?_
      rotate_left
      · (intro w hSw; (try dsimp only at hSw); go_simp; try with_reducible rfl)
      try simp only [Act.put, List.setIfInBounds_toArray, List.set_cons_zero, List.set_cons_succ]
      refine wpAnyH_take (i := 1) (oi := ({ dst := some 108, op := Op.load 3 (Operand.tmp 107), type := 3, pos := "law.go:219", after := #[{ on := 0, ground := Ground.data }], guard := none } : Oper)) (v := ?_) rfl (by kernel_rfl) (by kernel_rfl) (by kernel_rfl) (fun _ _ _ h => h) (Or.inl ⟨by rfl, ?_⟩) (by assumption) ?_
      rotate_left
      · (intro w hSw; (try dsimp only at hSw); go_simp; try with_reducible rfl)
      try simp only [Act.put, List.setIfInBounds_toArray, List.set_cons_zero, List.set_cons_succ]
      refine wpAnyH_take (i := 2) (oi := ({ dst := some 109, op := Op.binOp BinOp.eql 3 (Operand.tmp 108) (Operand.const (Value.int IntKind.i64 2)) 3, type := 4, pos := "law.go:219", after := #[{ on := 1, ground := Ground.data }], guard := none } : Oper)) (v := ?_) rfl (by kernel_rfl) (by kernel_rfl) (by kernel_rfl) (fun _ _ _ h => h) (Or.inl ⟨by rfl, ?_⟩) (by assumption) ?_
      rotate_left
      · (intro w hSw; (try dsimp only at hSw); go_simp; try with_reducible rfl)
      try simp only [Act.put, List.setIfInBounds_toArray, List.set_cons_zero, List.set_cons_succ]
      refine wpAnyH_take (i := 3) (oi := ({ dst := some 110, op := Op.move (Operand.tmp 109), type := 4, pos := "law.go:219", after := #[{ on := 2, ground := Ground.data }], guard := none } : Oper)) (v := ?_) rfl (by kernel_rfl) (by kernel_rfl) (by kernel_rfl) (fun _ _ _ h => h) (Or.inl ⟨by rfl, ?_⟩) (by assumption) ?_
      rotate_left
      · (intro w hSw; (try dsimp only at hSw); go_simp; try with_reducible rfl)
      try simp only [Act.put, List.setIfInBounds_toArray, List.set_cons_zero, List.set_cons_succ]
      refine wpAnyH_take (i := 4) (oi := ({ dst := some 111, op := Op.fieldAddr 31 (Operand.tmp 8) 1, type := 0, pos := "law.go:219", after := #[{ on := 3, ground := Ground.guard }], guard := some (3, true) } : Oper)) (v := undef) rfl (by kernel_rfl) (by kernel_rfl) (by kernel_rfl) (fun _ _ _ h => h) (Or.inr ⟨by rfl, rfl⟩) (by assumption) ?_
      try simp only [Act.put, List.setIfInBounds_toArray, List.set_cons_zero, List.set_cons_succ]
      refine wpAnyH_take (i := 5) (oi := ({ dst := some 112, op := Op.load 3 (Operand.tmp 111), type := 3, pos := "law.go:219", after := #[{ on := 4, ground := Ground.data }, { on := 3, ground := Ground.guard }], guard := some (3, true) } : Oper)) (v := undef) rfl (by kernel_rfl) (by kernel_rfl) (by kernel_rfl) (fun _ _ _ h => h) (Or.inr ⟨by rfl, rfl⟩) (by assumption) ?_
      try simp only [Act.put, List.setIfInBounds_toArray, List.set_cons_zero, List.set_cons_succ]
      refine wpAnyH_take (i := 6) (oi := ({ dst := some 113, op := Op.fieldAddr 31 (Operand.tmp 8) 6, type := 0, pos := "law.go:219", after := #[{ on := 3, ground := Ground.guard }], guard := some (3, true) } : Oper)) (v := undef) rfl (by kernel_rfl) (by kernel_rfl) (by kernel_rfl) (fun _ _ _ h => h) (Or.inr ⟨by rfl, rfl⟩) (by assumption) ?_
      try simp only [Act.put, List.setIfInBounds_toArray, List.set_cons_zero, List.set_cons_succ]
      refine wpAnyH_take (i := 7) (oi := ({ dst := some 114, op := Op.load 25 (Operand.tmp 113), type := 25, pos := "law.go:219", after := #[{ on := 6, ground := Ground.data }, { on := 3, ground := Ground.guard }], guard := some (3, true) } : Oper)) (v := undef) rfl (by kernel_rfl) (by kernel_rfl) (by kernel_rfl) (fun _ _ _ h => h) (Or.inr ⟨by rfl, rfl⟩) (by assumption) ?_
      try simp only [Act.put, List.setIfInBounds_toArray, List.set_cons_zero, List.set_cons_succ]
      refine wpAnyH_take (i := 8) (oi := ({ dst := some 115, op := Op.call { callee := Callee.value (Operand.func 20), args := #[Operand.tmp 112, Operand.tmp 114], argTypes := #[3, 25] }, type := 29, pos := "law.go:219", after := #[{ on := 5, ground := Ground.data }, { on := 7, ground := Ground.data }, { on := 3, ground := Ground.chain }, { on := 3, ground := Ground.guard }], guard := some (3, true) } : Oper)) (v := undef) rfl (by kernel_rfl) (by kernel_rfl) (by kernel_rfl) (fun _ _ _ h => h) (Or.inr ⟨by rfl, rfl⟩) (by assumption) ?_
      try simp only [Act.put, List.setIfInBounds_toArray, List.set_cons_zero, List.set_cons_succ]
      refine wpAnyH_take (i := 9) (oi := ({ dst := some 116, op := Op.move (Operand.tmp 20), type := 22, pos := "law.go:219", after := #[{ on := 3, ground := Ground.guard }], guard := some (3, true) } : Oper)) (v := undef) rfl (by kernel_rfl) (by kernel_rfl) (by kernel_rfl) (fun _ _ _ h => h) (Or.inr ⟨by rfl, rfl⟩) (by assumption) ?_
      try simp only [Act.put, List.setIfInBounds_toArray, List.set_cons_zero, List.set_cons_succ]
      refine wpAnyH_take (i := 10) (oi := ({ dst := some 117, op := Op.indexAddr 22 (Operand.tmp 116) (Operand.const (Value.int IntKind.i64 0)), type := 0, pos := "law.go:219", after := #[{ on := 9, ground := Ground.data }, { on := 3, ground := Ground.guard }], guard := some (3, true) } : Oper)) (v := undef) rfl (by kernel_rfl) (by kernel_rfl) (by kernel_rfl) (fun _ _ _ h => h) (Or.inr ⟨by rfl, rfl⟩) (by assumption) ?_
      try simp only [Act.put, List.setIfInBounds_toArray, List.set_cons_zero, List.set_cons_succ]
      refine wpAnyH_take (i := 11) (oi := ({ dst := some 118, op := Op.load 29 (Operand.tmp 117), type := 29, pos := "law.go:219", after := #[{ on := 10, ground := Ground.data }, { on := 3, ground := Ground.guard }], guard := some (3, true) } : Oper)) (v := undef) rfl (by kernel_rfl) (by kernel_rfl) (by kernel_rfl) (fun _ _ _ h => h) (Or.inr ⟨by rfl, rfl⟩) (by assumption) ?_
      try simp only [Act.put, List.setIfInBounds_toArray, List.set_cons_zero, List.set_cons_succ]
      refine wpAnyH_take (i := 12) (oi := ({ dst := some 119, op := Op.call { callee := Callee.value (Operand.func 13), args := #[Operand.tmp 115, Operand.tmp 118], argTypes := #[29, 29] }, type := 4, pos := "law.go:219", after := #[{ on := 8, ground := Ground.data }, { on := 11, ground := Ground.data }, { on := 8, ground := Ground.chain }, { on := 3, ground := Ground.guard }], guard := some (3, true) } : Oper)) (v := undef) rfl (by kernel_rfl) (by kernel_rfl) (by kernel_rfl) (fun _ _ _ h => h) (Or.inr ⟨by rfl, rfl⟩) (by assumption) ?_
      try simp only [Act.put, List.setIfInBounds_toArray, List.set_cons_zero, List.set_cons_succ]
      refine wpAnyH_take (i := 13) (oi := ({ dst := some 120, op := Op.unOp UnOp.not 4 (Operand.tmp 119), type := 4, pos := "law.go:219", after := #[{ on := 12, ground := Ground.data }, { on := 3, ground := Ground.guard }], guard := some (3, true) } : Oper)) (v := undef) rfl (by kernel_rfl) (by kernel_rfl) (by kernel_rfl) (fun _ _ _ h => h) (Or.inr ⟨by rfl, rfl⟩) (by assumption) ?_
      try simp only [Act.put, List.setIfInBounds_toArray, List.set_cons_zero, List.set_cons_succ]
      refine wpAnyH_take (i := 14) (oi := ({ dst := some 121, op := Op.pick (Operand.tmp 110) (Operand.tmp 120) (Operand.const (Value.bool false)), type := 4, pos := "law.go:219", after := #[{ on := 3, ground := Ground.data }, { on := 13, ground := Ground.data }], guard := none } : Oper)) (v := ?_) rfl (by kernel_rfl) (by kernel_rfl) (by kernel_rfl) (fun _ _ _ h => h) (Or.inl ⟨by rfl, ?_⟩) (by assumption) ?_
      rotate_left
      · (intro w hSw; (try dsimp only at hSw); go_simp; try with_reducible rfl)
      try simp only [Act.put, List.setIfInBounds_toArray, List.set_cons_zero, List.set_cons_succ]
      refine wpAnyH_take (i := 15) (oi := ({ dst := some 122, op := Op.move (Operand.tmp 121), type := 4, pos := "law.go:219", after := #[{ on := 14, ground := Ground.data }, { on := 12, ground := Ground.chain }], guard := none } : Oper)) (v := ?_) rfl (by kernel_rfl) (by kernel_rfl) (by kernel_rfl) (fun _ _ _ h => h) (Or.inl ⟨by rfl, ?_⟩) (by assumption) ?_
      rotate_left
      · (intro w hSw; (try dsimp only at hSw); go_simp; try with_reducible rfl)
      try simp only [Act.put, List.setIfInBounds_toArray, List.set_cons_zero, List.set_cons_succ]
      refine wpAnyH_take (i := 16) (oi := ({ dst := some 123, op := Op.move (Operand.tmp 20), type := 22, pos := "law.go:219", after := #[{ on := 15, ground := Ground.guard }], guard := some (15, true) } : Oper)) (v := undef) rfl (by kernel_rfl) (by kernel_rfl) (by kernel_rfl) (fun _ _ _ h => h) (Or.inr ⟨by rfl, rfl⟩) (by assumption) ?_
      try simp only [Act.put, List.setIfInBounds_toArray, List.set_cons_zero, List.set_cons_succ]
      refine wpAnyH_take (i := 17) (oi := ({ dst := some 124, op := Op.call { callee := Callee.builtin Builtin.len, args := #[Operand.tmp 123], argTypes := #[22] }, type := 3, pos := "law.go:219", after := #[{ on := 16, ground := Ground.data }, { on := 15, ground := Ground.guard }], guard := some (15, true) } : Oper)) (v := undef) rfl (by kernel_rfl) (by kernel_rfl) (by kernel_rfl) (fun _ _ _ h => h) (Or.inr ⟨by rfl, rfl⟩) (by assumption) ?_
      try simp only [Act.put, List.setIfInBounds_toArray, List.set_cons_zero, List.set_cons_succ]
      refine wpAnyH_take (i := 18) (oi := ({ dst := some 125, op := Op.binOp BinOp.eql 3 (Operand.tmp 124) (Operand.const (Value.int IntKind.i64 1)) 3, type := 4, pos := "law.go:219", after := #[{ on := 17, ground := Ground.data }, { on := 15, ground := Ground.guard }], guard := some (15, true) } : Oper)) (v := undef) rfl (by kernel_rfl) (by kernel_rfl) (by kernel_rfl) (fun _ _ _ h => h) (Or.inr ⟨by rfl, rfl⟩) (by assumption) ?_
      try simp only [Act.put, List.setIfInBounds_toArray, List.set_cons_zero, List.set_cons_succ]
      refine wpAnyH_take (i := 19) (oi := ({ dst := some 126, op := Op.pick (Operand.tmp 122) (Operand.tmp 125) (Operand.const (Value.bool false)), type := 4, pos := "law.go:219", after := #[{ on := 15, ground := Ground.data }, { on := 18, ground := Ground.data }], guard := none } : Oper)) (v := ?_) rfl (by kernel_rfl) (by kernel_rfl) (by kernel_rfl) (fun _ _ _ h => h) (Or.inl ⟨by rfl, ?_⟩) (by assumption) ?_
      rotate_left
      · (intro w hSw; (try dsimp only at hSw); go_simp; try with_reducible rfl)
      try simp only [Act.put, List.setIfInBounds_toArray, List.set_cons_zero, List.set_cons_succ]
      refine wpAnyH_done (by kernel_rfl) ?_ _
      replace HG : Hid (Gob w (.slice al n cl) os x (.slice ax nx cx) q (.slice aq nq cq) bv ba w16.drew) := HG.out.drew
      by_cases g1 : W' < 1
      · go_wp2_with fail
        go_ret
        exact ⟨rfl, HG.out.bel⟩
      by_cases g2 : 8 < W'
      · go_wp2_with fail
        go_ret
        exact ⟨rfl, HG.out.bel⟩
      by_cases g3 : H' < 1
      · go_wp2_with fail
        go_ret
        exact ⟨rfl, HG.out.bel⟩
      by_cases g4 : 8 < H'
      · go_wp2_with fail
        go_ret
        exact ⟨rfl, HG.out.bel⟩
      have t0 := HG.out.tp.c0
      have t1 := HG.out.tp.c1
      go_wp2_with fail
      clear t0 t1
      by_cases ha : pixB bv ba = true
      case neg =>
        refine (pixel_any bv ba _ false (by unfold Hid; simpa using ha)).mono ?_
        rintro e wz ⟨rfl, hbz⟩
        go_wp2_with fail
        go_ret
        exact ⟨rfl, (HG.out.on hbz).bel⟩
      refine (pixel_any bv ba _ true ha).mono ?_
      rintro e w20 ⟨rfl, hb20⟩
      replace HG : Hid (Gob w (.slice al n cl) os x (.slice ax nx cx) q (.slice aq nq cq) bv ba w20) := HG.out.on hb20
      clear hb20
      have t0 := HG.out.tp.c0
      have t1 := HG.out.tp.c1
      go_wp2_with fail
      clear t0 t1
      obtain ⟨Wn, rfl⟩ : ∃ k : Nat, W' = (k : Int) := ⟨W'.toNat, by omega⟩
      obtain ⟨Hn, rfl⟩ : ∃ k : Nat, H' = (k : Int) := ⟨H'.toNat, by omega⟩
      obtain ⟨f0, f1, f2, f3⟩ := (pixB_iff bv ba).1 ha
      have HPB := hid_of2 (show 0 ≤ bv ∧ bv ≤ 255 ∧ 0 ≤ ba ∧ ba ≤ 255 from ⟨f0, f1, f2, f3⟩)
      have HBW := hid_of2 (show 1 ≤ Wn ∧ Wn ≤ 8 ∧ 1 ≤ Hn ∧ Hn ≤ 8 from ⟨by omega, by omega, by omega, by omega⟩)
      have HSL2 := hid_of2 (check_zero _ _ _ (seen_check Wn Hn bv ba HBW.out.1 HBW.out.2.1 HBW.out.2.2.1 HBW.out.2.2.2 f0 f1 f2 f3 os (fun o ho => (good_mem HGO.out o ho).2)))
      have HSL3 : Hid ((seenL Wn Hn (bv, ba) os).length ≤ 1000) := by
        obtain ⟨QW, QH, e1, e2, _, p2, _, p4, pl, _⟩ := HSL2.out
        have : QW * QH ≤ 8 * 8 := Nat.mul_le_mul p2 p4
        unfold Hid; omega
      have hsn := fun X (h0 : RdO X (.slice al n cl) os) => seen_any (.slice al n cl) os Wn Hn bv ba X (by have := HGO.out.few; omega) (fun j hj => by have := HGO.out.pix j hj; omega) HGO.out.ok h0 HBW.out.1 HBW.out.2.1 HBW.out.2.2.1 HBW.out.2.2.2 HPB.out.1 HPB.out.2.1 HPB.out.2.2.1 HPB.out.2.2.2
      have hsr := fun X (h0 : RdO X (.slice al n cl) os) => seenOf_any (.slice al n cl) os Wn Hn bv ba X (by have := HGO.out.few; omega) (fun j hj => by have := HGO.out.pix j hj; omega) HGO.out.ok h0 HBW.out.1 HBW.out.2.1 HBW.out.2.2.1 HBW.out.2.2.2 HPB.out.1 HPB.out.2.1 HPB.out.2.2.1 HPB.out.2.2.2
      unfold pixV picV at hsn hsr
      have HSN := hid_of2 hsn
      have HSR := hid_of2 hsr
      clear hsn hsr f0 f1 f2 f3 ha HSL2 g1 g2 g3 g4
      have KEEPT : Hid (∀ W2, Gob w (.slice al n cl) os x (.slice ax nx cx) q (.slice aq nq cq) bv ba W2 → (W2.cell? ⟨w.heap.size + 1 + 1, 0, none⟩ = some (.int .i64 bv) ∧ W2.cell? ⟨w.heap.size + 1 + 1, 1, none⟩ = some (.int .i64 ba))) := fun W2 h2 => ⟨h2.tp.c0, h2.tp.c1⟩
      have HGD := hid_of2 HG.out.drew
      go_region_held3 (fun w' => w'.cell? ⟨w.heap.size + 1 + 1, 0, none⟩ = some (.int .i64 bv) ∧ w'.cell? ⟨w.heap.size + 1 + 1, 1, none⟩ = some (.int .i64 ba))
        (first
          | exact KEEPT.out _ HG3.out
          | exact KEEPT.out _ HG2.out
          | exact KEEPT.out _ HG1.out
          | exact KEEPT.out _ HGD.out
          | fail)
        (first
          | (go_at_call 22; refine (samePic_any (Wn : Int) (Hn : Int) v21 v22 (seenL Wn Hn (bv, ba) os) _ HSL3.out R21 R22).mono ?_; rintro e w23 ⟨rfl, hb23⟩; have HG3 := hid_of2 (HG2.out.on hb23))
          | (go_at_call 24; refine (HSR.out _ HG1.out.rl).mono ?_; rintro e w22 ⟨v22, rfl, r22, hb22⟩; have HG2 := hid_of2 (HG1.out.on hb22); have R22 := hid_of2 r22; replace R21 := hid_of2 (R21.out.on hb22); clear r22)
          | (go_at_call 23; refine (HSN.out _ HGD.out.rl).mono ?_; rintro e w21 ⟨v21, rfl, r21, hb21⟩; have HG1 := hid_of2 (HGD.out.on hb21); have R21 := hid_of2 r21; clear r21)
          | fail)
      go_wp2_with fail
      go_ret
      exact ⟨rfl, HG3.out.bel⟩
  · have hk2f : (q.kind == 2) = false := by
      have : ¬ q.kind = 2 := fun h => by have e := HOV.out; unfold doO at e; rw [if_pos h] at e; cases e
      simpa using this
    obtain ⟨m0, m1, m2, m3, m4, m5, m6, m7, m8, -, -, -, -, -, -, -, -, -, -⟩ := HG.out.nq
    go_wp2_with fail
    clear m0 m1 m2 m3 m4 m5 m6 m7 m8
    refine (HRD.out _ HG.out.rl HG.out.rq).mono ?_
    unfold RDoP
    rw [HOV.out]
    rintro e w15 ⟨hb15, hdo15⟩
    rcases hdo15 with ⟨v15, os3, e3, _⟩ | ⟨c15, e3, _, rfl⟩
    · cases e3
    obtain rfl := Sum.inr.inj e3
    replace HG : Hid (Gob w (.slice al n cl) os x (.slice ax nx cx) q (.slice aq nq cq) bv ba w15) := HG.out.on hb15
    clear e3 hb15 hb14
    obtain ⟨e14, HE14⟩ : ∃ ev, Hid (errV c14 = ev) := ⟨_, (rfl : _ = _)⟩
    rw [HE14.out]
    go_wp2_with fail
    refine (same_ok c14 e14 HE14 _).mono ?_
    rintro e wx ⟨rfl, rfl⟩
    go_wp2_with fail
    refine (sameObs_any _ _ [] _ (by simp) (fun o ho => by cases ho) (rdO_nil _) (rdO_nil _)).mono ?_
    rintro e w16 ⟨rfl, hb16⟩
    replace HG : Hid (Gob w (.slice al n cl) os x (.slice ax nx cx) q (.slice aq nq cq) bv ba w16) := HG.out.on hb16
    clear hb16
    go_wp2_with fail
    refine wp_region_held_drew (S := (fun w' => w'.cell? ⟨w.heap.size + 1, 0, none⟩ = some (.int .i64 q.kind))) (by kernel_rfl) ?_ (fun hHeld => ?_)
    · exact HG.out.nq.c0
    refine wpAnyH_take (i := 0) (oi := ({ dst := some 107, op := Op.fieldAddr 31 (Operand.tmp 8) 0, type := 0, pos := "law.go:219", after := #[], guard := none } : Oper)) (v := ?_) rfl (by kernel_rfl) (by kernel_rfl) (by kernel_rfl) (fun _ _ _ h => h) (Or.inl ⟨by rfl, ?_⟩) (by assumption) ?_
    rotate_left
    · (intro w hSw; (try dsimp only at hSw); go_simp; try with_reducible rfl)
    try simp only [Act.put, List.setIfInBounds_toArray, List.set_cons_zero, List.set_cons_succ]
    refine wpAnyH_take (i := 1) (oi := ({ dst := some 108, op := Op.load 3 (Operand.tmp 107), type := 3, pos := "law.go:219", after := #[{ on := 0, ground := Ground.data }], guard := none } : Oper)) (v := ?_) rfl (by kernel_rfl) (by kernel_rfl) (by kernel_rfl) (fun _ _ _ h => h) (Or.inl ⟨by rfl, ?_⟩) (by assumption) ?_
    rotate_left
    · (intro w hSw; (try dsimp only at hSw); go_simp; try with_reducible rfl)
    try simp only [Act.put, List.setIfInBounds_toArray, List.set_cons_zero, List.set_cons_succ]
    refine wpAnyH_take (i := 2) (oi := ({ dst := some 109, op := Op.binOp BinOp.eql 3 (Operand.tmp 108) (Operand.const (Value.int IntKind.i64 2)) 3, type := 4, pos := "law.go:219", after := #[{ on := 1, ground := Ground.data }], guard := none } : Oper)) (v := ?_) rfl (by kernel_rfl) (by kernel_rfl) (by kernel_rfl) (fun _ _ _ h => h) (Or.inl ⟨by rfl, ?_⟩) (by assumption) ?_
    rotate_left
    · (intro w hSw; (try dsimp only at hSw); go_simp; try with_reducible rfl)
    try simp only [Act.put, List.setIfInBounds_toArray, List.set_cons_zero, List.set_cons_succ]
    refine wpAnyH_take (i := 3) (oi := ({ dst := some 110, op := Op.move (Operand.tmp 109), type := 4, pos := "law.go:219", after := #[{ on := 2, ground := Ground.data }], guard := none } : Oper)) (v := ?_) rfl (by kernel_rfl) (by kernel_rfl) (by kernel_rfl) (fun _ _ _ h => h) (Or.inl ⟨by rfl, ?_⟩) (by assumption) ?_
    rotate_left
    · (intro w hSw; (try dsimp only at hSw); go_simp; try with_reducible rfl)
    try simp only [Act.put, List.setIfInBounds_toArray, List.set_cons_zero, List.set_cons_succ]
    refine wpAnyH_take (i := 4) (oi := ({ dst := some 111, op := Op.fieldAddr 31 (Operand.tmp 8) 1, type := 0, pos := "law.go:219", after := #[{ on := 3, ground := Ground.guard }], guard := some (3, true) } : Oper)) (v := undef) rfl (by kernel_rfl) (by kernel_rfl) (by kernel_rfl) (fun _ _ _ h => h) (Or.inr ⟨by rfl, rfl⟩) (by assumption) ?_
    try simp only [Act.put, List.setIfInBounds_toArray, List.set_cons_zero, List.set_cons_succ]
    refine wpAnyH_take (i := 5) (oi := ({ dst := some 112, op := Op.load 3 (Operand.tmp 111), type := 3, pos := "law.go:219", after := #[{ on := 4, ground := Ground.data }, { on := 3, ground := Ground.guard }], guard := some (3, true) } : Oper)) (v := undef) rfl (by kernel_rfl) (by kernel_rfl) (by kernel_rfl) (fun _ _ _ h => h) (Or.inr ⟨by rfl, rfl⟩) (by assumption) ?_
    try simp only [Act.put, List.setIfInBounds_toArray, List.set_cons_zero, List.set_cons_succ]
    refine wpAnyH_take (i := 6) (oi := ({ dst := some 113, op := Op.fieldAddr 31 (Operand.tmp 8) 6, type := 0, pos := "law.go:219", after := #[{ on := 3, ground := Ground.guard }], guard := some (3, true) } : Oper)) (v := undef) rfl (by kernel_rfl) (by kernel_rfl) (by kernel_rfl) (fun _ _ _ h => h) (Or.inr ⟨by rfl, rfl⟩) (by assumption) ?_
    try simp only [Act.put, List.setIfInBounds_toArray, List.set_cons_zero, List.set_cons_succ]
    refine wpAnyH_take (i := 7) (oi := ({ dst := some 114, op := Op.load 25 (Operand.tmp 113), type := 25, pos := "law.go:219", after := #[{ on := 6, ground := Ground.data }, { on := 3, ground := Ground.guard }], guard := some (3, true) } : Oper)) (v := undef) rfl (by kernel_rfl) (by kernel_rfl) (by kernel_rfl) (fun _ _ _ h => h) (Or.inr ⟨by rfl, rfl⟩) (by assumption) ?_
    try simp only [Act.put, List.setIfInBounds_toArray, List.set_cons_zero, List.set_cons_succ]
    refine wpAnyH_take (i := 8) (oi := ({ dst := some 115, op := Op.call { callee := Callee.value (Operand.func 20), args := #[Operand.tmp 112, Operand.tmp 114], argTypes := #[3, 25] }, type := 29, pos := "law.go:219", after := #[{ on := 5, ground := Ground.data }, { on := 7, ground := Ground.data }, { on := 3, ground := Ground.chain }, { on := 3, ground := Ground.guard }], guard := some (3, true) } : Oper)) (v := undef) rfl (by kernel_rfl) (by kernel_rfl) (by kernel_rfl) (fun _ _ _ h => h) (Or.inr ⟨by rfl, rfl⟩) (by assumption) ?_
    try simp only [Act.put, List.setIfInBounds_toArray, List.set_cons_zero, List.set_cons_succ]
    refine wpAnyH_take (i := 9) (oi := ({ dst := some 116, op := Op.move (Operand.tmp 20), type := 22, pos := "law.go:219", after := #[{ on := 3, ground := Ground.guard }], guard := some (3, true) } : Oper)) (v := undef) rfl (by kernel_rfl) (by kernel_rfl) (by kernel_rfl) (fun _ _ _ h => h) (Or.inr ⟨by rfl, rfl⟩) (by assumption) ?_
    try simp only [Act.put, List.setIfInBounds_toArray, List.set_cons_zero, List.set_cons_succ]
    refine wpAnyH_take (i := 10) (oi := ({ dst := some 117, op := Op.indexAddr 22 (Operand.tmp 116) (Operand.const (Value.int IntKind.i64 0)), type := 0, pos := "law.go:219", after := #[{ on := 9, ground := Ground.data }, { on := 3, ground := Ground.guard }], guard := some (3, true) } : Oper)) (v := undef) rfl (by kernel_rfl) (by kernel_rfl) (by kernel_rfl) (fun _ _ _ h => h) (Or.inr ⟨by rfl, rfl⟩) (by assumption) ?_
    try simp only [Act.put, List.setIfInBounds_toArray, List.set_cons_zero, List.set_cons_succ]
    refine wpAnyH_take (i := 11) (oi := ({ dst := some 118, op := Op.load 29 (Operand.tmp 117), type := 29, pos := "law.go:219", after := #[{ on := 10, ground := Ground.data }, { on := 3, ground := Ground.guard }], guard := some (3, true) } : Oper)) (v := undef) rfl (by kernel_rfl) (by kernel_rfl) (by kernel_rfl) (fun _ _ _ h => h) (Or.inr ⟨by rfl, rfl⟩) (by assumption) ?_
    try simp only [Act.put, List.setIfInBounds_toArray, List.set_cons_zero, List.set_cons_succ]
    refine wpAnyH_take (i := 12) (oi := ({ dst := some 119, op := Op.call { callee := Callee.value (Operand.func 13), args := #[Operand.tmp 115, Operand.tmp 118], argTypes := #[29, 29] }, type := 4, pos := "law.go:219", after := #[{ on := 8, ground := Ground.data }, { on := 11, ground := Ground.data }, { on := 8, ground := Ground.chain }, { on := 3, ground := Ground.guard }], guard := some (3, true) } : Oper)) (v := undef) rfl (by kernel_rfl) (by kernel_rfl) (by kernel_rfl) (fun _ _ _ h => h) (Or.inr ⟨by rfl, rfl⟩) (by assumption) ?_
    try simp only [Act.put, List.setIfInBounds_toArray, List.set_cons_zero, List.set_cons_succ]
    refine wpAnyH_take (i := 13) (oi := ({ dst := some 120, op := Op.unOp UnOp.not 4 (Operand.tmp 119), type := 4, pos := "law.go:219", after := #[{ on := 12, ground := Ground.data }, { on := 3, ground := Ground.guard }], guard := some (3, true) } : Oper)) (v := undef) rfl (by kernel_rfl) (by kernel_rfl) (by kernel_rfl) (fun _ _ _ h => h) (Or.inr ⟨by rfl, rfl⟩) (by assumption) ?_
    try simp only [Act.put, List.setIfInBounds_toArray, List.set_cons_zero, List.set_cons_succ]
    refine wpAnyH_take (i := 14) (oi := ({ dst := some 121, op := Op.pick (Operand.tmp 110) (Operand.tmp 120) (Operand.const (Value.bool false)), type := 4, pos := "law.go:219", after := #[{ on := 3, ground := Ground.data }, { on := 13, ground := Ground.data }], guard := none } : Oper)) (v := ?_) rfl (by kernel_rfl) (by kernel_rfl) (by kernel_rfl) (fun _ _ _ h => h) (Or.inl ⟨by rfl, ?_⟩) (by assumption) ?_
    rotate_left
    · (intro w hSw; (try dsimp only at hSw); go_simp; try with_reducible rfl)
    try simp only [Act.put, List.setIfInBounds_toArray, List.set_cons_zero, List.set_cons_succ]
    refine wpAnyH_take (i := 15) (oi := ({ dst := some 122, op := Op.move (Operand.tmp 121), type := 4, pos := "law.go:219", after := #[{ on := 14, ground := Ground.data }, { on := 12, ground := Ground.chain }], guard := none } : Oper)) (v := ?_) rfl (by kernel_rfl) (by kernel_rfl) (by kernel_rfl) (fun _ _ _ h => h) (Or.inl ⟨by rfl, ?_⟩) (by assumption) ?_
    rotate_left
    · (intro w hSw; (try dsimp only at hSw); go_simp; try with_reducible rfl)
    try simp only [Act.put, List.setIfInBounds_toArray, List.set_cons_zero, List.set_cons_succ]
    refine wpAnyH_take (i := 16) (oi := ({ dst := some 123, op := Op.move (Operand.tmp 20), type := 22, pos := "law.go:219", after := #[{ on := 15, ground := Ground.guard }], guard := some (15, true) } : Oper)) (v := undef) rfl (by kernel_rfl) (by kernel_rfl) (by kernel_rfl) (fun _ _ _ h => h) (Or.inr ⟨by rfl, rfl⟩) (by assumption) ?_
    try simp only [Act.put, List.setIfInBounds_toArray, List.set_cons_zero, List.set_cons_succ]
    refine wpAnyH_take (i := 17) (oi := ({ dst := some 124, op := Op.call { callee := Callee.builtin Builtin.len, args := #[Operand.tmp 123], argTypes := #[22] }, type := 3, pos := "law.go:219", after := #[{ on := 16, ground := Ground.data }, { on := 15, ground := Ground.guard }], guard := some (15, true) } : Oper)) (v := undef) rfl (by kernel_rfl) (by kernel_rfl) (by kernel_rfl) (fun _ _ _ h => h) (Or.inr ⟨by rfl, rfl⟩) (by assumption) ?_
    try simp only [Act.put, List.setIfInBounds_toArray, List.set_cons_zero, List.set_cons_succ]
    refine wpAnyH_take (i := 18) (oi := ({ dst := some 125, op := Op.binOp BinOp.eql 3 (Operand.tmp 124) (Operand.const (Value.int IntKind.i64 1)) 3, type := 4, pos := "law.go:219", after := #[{ on := 17, ground := Ground.data }, { on := 15, ground := Ground.guard }], guard := some (15, true) } : Oper)) (v := undef) rfl (by kernel_rfl) (by kernel_rfl) (by kernel_rfl) (fun _ _ _ h => h) (Or.inr ⟨by rfl, rfl⟩) (by assumption) ?_
    try simp only [Act.put, List.setIfInBounds_toArray, List.set_cons_zero, List.set_cons_succ]
    refine wpAnyH_take (i := 19) (oi := ({ dst := some 126, op := Op.pick (Operand.tmp 122) (Operand.tmp 125) (Operand.const (Value.bool false)), type := 4, pos := "law.go:219", after := #[{ on := 15, ground := Ground.data }, { on := 18, ground := Ground.data }], guard := none } : Oper)) (v := ?_) rfl (by kernel_rfl) (by kernel_rfl) (by kernel_rfl) (fun _ _ _ h => h) (Or.inl ⟨by rfl, ?_⟩) (by assumption) ?_
    rotate_left
    · (intro w hSw; (try dsimp only at hSw); go_simp; try with_reducible rfl)
    try simp only [Act.put, List.setIfInBounds_toArray, List.set_cons_zero, List.set_cons_succ]
    refine wpAnyH_done (by kernel_rfl) ?_ _
    replace HG : Hid (Gob w (.slice al n cl) os x (.slice ax nx cx) q (.slice aq nq cq) bv ba w16.drew) := HG.out.drew
    by_cases g1 : W' < 1
    · go_wp2_with fail
      go_ret
      exact ⟨rfl, HG.out.bel⟩
    by_cases g2 : 8 < W'
    · go_wp2_with fail
      go_ret
      exact ⟨rfl, HG.out.bel⟩
    by_cases g3 : H' < 1
    · go_wp2_with fail
      go_ret
      exact ⟨rfl, HG.out.bel⟩
    by_cases g4 : 8 < H'
    · go_wp2_with fail
      go_ret
      exact ⟨rfl, HG.out.bel⟩
    have t0 := HG.out.tp.c0
    have t1 := HG.out.tp.c1
    go_wp2_with fail
    clear t0 t1
    by_cases ha : pixB bv ba = true
    case neg =>
      refine (pixel_any bv ba _ false (by unfold Hid; simpa using ha)).mono ?_
      rintro e wz ⟨rfl, hbz⟩
      go_wp2_with fail
      go_ret
      exact ⟨rfl, (HG.out.on hbz).bel⟩
    refine (pixel_any bv ba _ true ha).mono ?_
    rintro e w20 ⟨rfl, hb20⟩
    replace HG : Hid (Gob w (.slice al n cl) os x (.slice ax nx cx) q (.slice aq nq cq) bv ba w20) := HG.out.on hb20
    clear hb20
    have t0 := HG.out.tp.c0
    have t1 := HG.out.tp.c1
    go_wp2_with fail
    clear t0 t1
    obtain ⟨Wn, rfl⟩ : ∃ k : Nat, W' = (k : Int) := ⟨W'.toNat, by omega⟩
    obtain ⟨Hn, rfl⟩ : ∃ k : Nat, H' = (k : Int) := ⟨H'.toNat, by omega⟩
    obtain ⟨f0, f1, f2, f3⟩ := (pixB_iff bv ba).1 ha
    have HPB := hid_of2 (show 0 ≤ bv ∧ bv ≤ 255 ∧ 0 ≤ ba ∧ ba ≤ 255 from ⟨f0, f1, f2, f3⟩)
    have HBW := hid_of2 (show 1 ≤ Wn ∧ Wn ≤ 8 ∧ 1 ≤ Hn ∧ Hn ≤ 8 from ⟨by omega, by omega, by omega, by omega⟩)
    have HSL2 := hid_of2 (check_zero _ _ _ (seen_check Wn Hn bv ba HBW.out.1 HBW.out.2.1 HBW.out.2.2.1 HBW.out.2.2.2 f0 f1 f2 f3 os (fun o ho => (good_mem HGO.out o ho).2)))
    have HSL3 : Hid ((seenL Wn Hn (bv, ba) os).length ≤ 1000) := by
      obtain ⟨QW, QH, e1, e2, _, p2, _, p4, pl, _⟩ := HSL2.out
      have : QW * QH ≤ 8 * 8 := Nat.mul_le_mul p2 p4
      unfold Hid; omega
    have hsn := fun X (h0 : RdO X (.slice al n cl) os) => seen_any (.slice al n cl) os Wn Hn bv ba X (by have := HGO.out.few; omega) (fun j hj => by have := HGO.out.pix j hj; omega) HGO.out.ok h0 HBW.out.1 HBW.out.2.1 HBW.out.2.2.1 HBW.out.2.2.2 HPB.out.1 HPB.out.2.1 HPB.out.2.2.1 HPB.out.2.2.2
    have hsr := fun X (h0 : RdO X (.slice al n cl) os) => seenOf_any (.slice al n cl) os Wn Hn bv ba X (by have := HGO.out.few; omega) (fun j hj => by have := HGO.out.pix j hj; omega) HGO.out.ok h0 HBW.out.1 HBW.out.2.1 HBW.out.2.2.1 HBW.out.2.2.2 HPB.out.1 HPB.out.2.1 HPB.out.2.2.1 HPB.out.2.2.2
    unfold pixV picV at hsn hsr
    have HSN := hid_of2 hsn
    have HSR := hid_of2 hsr
    clear hsn hsr f0 f1 f2 f3 ha HSL2 g1 g2 g3 g4
    have KEEPT : Hid (∀ W2, Gob w (.slice al n cl) os x (.slice ax nx cx) q (.slice aq nq cq) bv ba W2 → (W2.cell? ⟨w.heap.size + 1 + 1, 0, none⟩ = some (.int .i64 bv) ∧ W2.cell? ⟨w.heap.size + 1 + 1, 1, none⟩ = some (.int .i64 ba))) := fun W2 h2 => ⟨h2.tp.c0, h2.tp.c1⟩
    have HGD := hid_of2 HG.out.drew
    go_region_held3 (fun w' => w'.cell? ⟨w.heap.size + 1 + 1, 0, none⟩ = some (.int .i64 bv) ∧ w'.cell? ⟨w.heap.size + 1 + 1, 1, none⟩ = some (.int .i64 ba))
      (first
        | exact KEEPT.out _ HG3.out
        | exact KEEPT.out _ HG2.out
        | exact KEEPT.out _ HG1.out
        | exact KEEPT.out _ HGD.out
        | fail)
      (first
        | (go_at_call 22; refine (samePic_any (Wn : Int) (Hn : Int) v21 v22 (seenL Wn Hn (bv, ba) os) _ HSL3.out R21 R22).mono ?_; rintro e w23 ⟨rfl, hb23⟩; have HG3 := hid_of2 (HG2.out.on hb23))
        | (go_at_call 24; refine (HSR.out _ HG1.out.rl).mono ?_; rintro e w22 ⟨v22, rfl, r22, hb22⟩; have HG2 := hid_of2 (HG1.out.on hb22); have R22 := hid_of2 r22; replace R21 := hid_of2 (R21.out.on hb22); clear r22)
        | (go_at_call 23; refine (HSN.out _ HGD.out.rl).mono ?_; rintro e w21 ⟨v21, rfl, r21, hb21⟩; have HG1 := hid_of2 (HGD.out.on hb21); have R21 := hid_of2 r21; clear r21)
        | fail)
    go_wp2_with fail
    go_ret
    exact ⟨rfl, HG3.out.bel⟩
end Go.Proofs.Ytadcmmkifcmknaa
