/- Walk of the law TopRect. -/
import Derived.Test.YtbcjliceoodlpacRectG
namespace Go.Proofs.Ytbcjliceoodlpac
open Go.RowKit

theorem eq_rect (X : World) (a b c d : Int) : (binOp .neq 23 (.agg #[.int .i64 a, .int .i64 b, .int .i64 c, .int .i64 d]) (.agg #[.int .i64 a, .int .i64 b, .int .i64 c, .int .i64 d])).run Try.prog X = .ok (.bool false) X := by
  have h : (Op.equalIn 10000 23 (.agg #[.int .i64 a, .int .i64 b, .int .i64 c, .int .i64 d]) (.agg #[.int .i64 a, .int .i64 b, .int .i64 c, .int .i64 d])).run Try.prog X = .ok true X := by
    have u3 := Try.underlying3
    rw [run_equalIn_agg X 9999 23 _ _ (by kernel_rfl) (by kernel_rfl)]
    simp only [Program.fieldsOf, Try.underlying23]
    go_simp
  rw [run_neq_struct, h]
  rfl

theorem eql_rect_no (X : World) (a b c d : Int) (h : ¬ (a = 0 ∧ b = 0 ∧ c = 0 ∧ d = 0)) : (binOp .eql 23 (.agg #[.int .i64 0, .int .i64 0, .int .i64 0, .int .i64 0]) (.agg #[.int .i64 a, .int .i64 b, .int .i64 c, .int .i64 d])).run Try.prog X = .ok (.bool false) X := by
  have h : (Op.equalIn 10000 23 (.agg #[.int .i64 0, .int .i64 0, .int .i64 0, .int .i64 0]) (.agg #[.int .i64 a, .int .i64 b, .int .i64 c, .int .i64 d])).run Try.prog X = .ok false X := by
    have u3 := Try.underlying3
    rw [run_equalIn_agg X 9999 23 _ _ (by kernel_rfl) (by kernel_rfl)]
    simp only [Program.fieldsOf, Try.underlying23]
    by_cases ha : a = 0
    · by_cases hb : b = 0
      · by_cases hc : c = 0
        · have hd : ¬ (0 : Int) = d := by omega
          subst ha hb hc
          have hd' : ((0 : Int) == d) = false := by simpa using hd
          clear h
          go_simp
        · have hd : ¬ (0 : Int) = c := by omega
          subst ha hb
          have hd' : ((0 : Int) == c) = false := by simpa using hd
          clear h hc
          go_simp
      · have hd : ¬ (0 : Int) = b := by omega
        subst ha
        have hd' : ((0 : Int) == b) = false := by simpa using hd
        clear h hb
        go_simp
    · have hd : ¬ (0 : Int) = a := by omega
      have hd' : ((0 : Int) == a) = false := by simpa using hd
      clear h ha
      go_simp
  rw [run_eql_struct, h]
  rfl

set_option maxHeartbeats 4000000 in
set_option maxRecDepth 100000 in
theorem topRect_any (a b c d a' b' c' d' x y : Int) (W : World) (_ : -9223372036854775808 ≤ x) (_ : x ≤ 9223372036854775807) (_ : -9223372036854775808 ≤ y) (_ : y ≤ 9223372036854775807) :
    Calls Try.prog 3 #[rectV a b c d, rectV a' b' c' d', .int .i64 x, .int .i64 y] W fun e w' => e = .returned (.bool true) ∧ Below W.heap.size W w' := by
  have HZ : Hid (bothL 0 0 2 2 2 0 2 2 = (0, 0, 0, 0)) := (by decide : bothL 0 0 2 2 2 0 2 2 = (0, 0, 0, 0))
  have T0 := (four_start W (.int .i64 a) (.int .i64 b) (.int .i64 c) (.int .i64 d) 23 _ rfl).alloc (.cells #[.int .i64 a', .int .i64 b', .int .i64 c', .int .i64 d'] 23)
  have T1 := four_start (W.alloc (.cells #[.int .i64 a, .int .i64 b, .int .i64 c, .int .i64 d] 23)) (.int .i64 a') (.int .i64 b') (.int .i64 c') (.int .i64 d') 23 (W.heap.size + 1) (by simp)
  have hb0 : Below W.heap.size W ((W.alloc (.cells #[.int .i64 a, .int .i64 b, .int .i64 c, .int .i64 d] 23)).alloc (.cells #[.int .i64 a', .int .i64 b', .int .i64 c', .int .i64 d'] 23)) := ((Below.refl _ _).alloc (Nat.le_refl _) _).alloc (by simp) _
  obtain ⟨W0, HW0⟩ : ∃ w, Hid ((W.alloc (.cells #[.int .i64 a, .int .i64 b, .int .i64 c, .int .i64 d] 23)).alloc (.cells #[.int .i64 a', .int .i64 b', .int .i64 c', .int .i64 d'] 23) = w) := ⟨_, (rfl : _ = _)⟩
  rw [HW0.out] at T0 T1 hb0
  obtain ⟨ca, HCA⟩ : ∃ k, Hid (rectC a b c d = k) := ⟨_, (rfl : _ = _)⟩
  obtain ⟨cb, HCB⟩ : ∃ k, Hid (rectC a' b' c' d' = k) := ⟨_, (rfl : _ = _)⟩
  have la : ca ≤ 1 := by rw [← HCA.out]; exact rectC_le _ _ _ _
  have lb : cb ≤ 1 := by rw [← HCB.out]; exact rectC_le _ _ _ _
  unfold rectV
  go_enter Try.func3, Try.ntmps3
  go_wp2_with fail
  rw [HW0.out]
  refine (both_any 0 0 2 2 2 0 2 2 _ (by omega) (by omega) (by omega) (by omega) (by omega) (by omega) (by omega) (by omega) (by omega) (by omega) (by omega) (by omega) (by omega) (by omega) (by omega) (by omega) (0, 0, 0, 0) HZ).mono ?_
  unfold ratV rectV
  simp only
  rintro e w1 ⟨rfl, hb1⟩
  have HG1 : Hid (Gr W a b c d a' b' c' d' w1) := ⟨T0.on hb1, T1.on hb1, hb0.trans (hb1.mono hb0.size)⟩
  clear T0 T1 hb0 HW0 hb1
  obtain ⟨⟨c0, c1, c2, c3, _, _, _, _, _⟩, _, _⟩ := HG1.out
  rcases (show ca = 1 ∨ ca = 0 by omega) with rfl | rfl
  · go_wp2_with fail
    refine (rcheck_any a b c d _ 1 HCA).mono ?_
    rintro e w2 ⟨rfl, hb2⟩
    rw [show errV 1 = .iface 61 (.int .i64 1) from rfl]
    go_wp2_with fail
    go_ret
    exact ⟨rfl, (HG1.out.on hb2).2.2⟩
  · go_wp2_with fail
    refine (rcheck_any a b c d _ 0 HCA).mono ?_
    rintro e w2 ⟨rfl, hb2⟩
    rw [show errV 0 = .nilIface from rfl]
    have HG2 : Hid (Gr W a b c d a' b' c' d' w2) := HG1.out.on hb2
    clear HG1 hb2 c0 c1 c2 c3
    obtain ⟨_, ⟨d0, d1, d2, d3, _, _, _, _, _⟩, _⟩ := HG2.out
    rcases (show cb = 1 ∨ cb = 0 by omega) with rfl | rfl
    · go_wp2_with fail
      refine (rcheck_any a' b' c' d' _ 1 HCB).mono ?_
      rintro e w3 ⟨rfl, hb3⟩
      rw [show errV 1 = .iface 61 (.int .i64 1) from rfl]
      go_wp2_with fail
      go_ret
      exact ⟨rfl, (HG2.out.on hb3).2.2⟩
    · go_wp2_with fail
      refine (rcheck_any a' b' c' d' _ 0 HCB).mono ?_
      rintro e w3 ⟨rfl, hb3⟩
      rw [show errV 0 = .nilIface from rfl]
      have HG3 : Hid (Gr W a b c d a' b' c' d' w3) := HG2.out.on hb3
      clear HG2 hb3 d0 d1 d2 d3
      by_cases hxy : -50 ≤ x ∧ x ≤ 50 ∧ -50 ≤ y ∧ y ≤ 50
      · obtain ⟨x0, x1, y0, y1⟩ := hxy
        obtain ⟨l0, l1, l2, l3, l4, l5, l6, l7⟩ := (rectC_zero a b c d).1 HCA.out
        obtain ⟨m0, m1, m2, m3, m4, m5, m6, m7⟩ := (rectC_zero a' b' c' d').1 HCB.out
        obtain ⟨r, HR⟩ : ∃ r, Hid (bothL a b c d a' b' c' d' = r) := ⟨_, (rfl : _ = _)⟩
        have HR2 : Hid (bothL a' b' c' d' a b c d = r) := by unfold Hid; rw [both_comm, HR.out]
        obtain ⟨n0, n1, n2, n3, n4, n5, n6, n7⟩ := both_bounds a b c d a' b' c' d' 20 l0 l1 l2 l3 l4 l5 l6 l7 m0 m1 m2 m3 m4 m5 m6 m7 r HR.out
        obtain ⟨⟨c0, c1, c2, c3, _, _, _, _, _⟩, ⟨d0, d1, d2, d3, _, _, _, _, _⟩, _⟩ := HG3.out
        go_wp2_with fail
        refine (both_any a b c d a' b' c' d' _ (by omega) (by omega) (by omega) (by omega) (by omega) (by omega) (by omega) (by omega) (by omega) (by omega) (by omega) (by omega) (by omega) (by omega) (by omega) (by omega) r HR).mono ?_
        obtain ⟨rx, ry, rw_, rh⟩ := r
        simp only at n0 n1 n2 n3 n4 n5 n6 n7
        unfold ratV rectV
        simp only
        rintro e w6 ⟨rfl, hb6⟩
        have HG6 : Hid (Gr W a b c d a' b' c' d' w6) := HG3.out.on hb6
        clear HG3 hb6 c0 c1 c2 c3 d0 d1 d2 d3
        have HC0 : Hid (Gs W a b c d a' b' c' d' w6.heap.size rx ry rw_ rh (w6.alloc (.cells #[.int .i64 rx, .int .i64 ry, .int .i64 rw_, .int .i64 rh] 23))) :=
          ⟨HG6.out.on ((Below.refl _ _).alloc (Nat.le_refl _) _), four_start w6 _ _ _ _ _ _ rfl⟩
        obtain ⟨B, HBE⟩ : ∃ B, Hid (w6.heap.size = B) := ⟨_, (rfl : _ = _)⟩
        rw [HBE.out] at HC0
        clear HG6
        go_wp2_with fail
        have HCD : Hid (Gs W a b c d a' b' c' d' B rx ry rw_ rh (w6.alloc (.cells #[.int .i64 rx, .int .i64 ry, .int .i64 rw_, .int .i64 rh] 23)).drew) := HC0.out.drew
        have HGD := HCD
        rw [HBE.out]
        have heq := fun X => eq_rect X rx ry rw_ rh
        obtain ⟨hp, HHP⟩ : ∃ h, Hid (hasB a b c d x y = h) := ⟨_, (rfl : _ = _)⟩
        obtain ⟨hq, HHQ⟩ : ∃ h, Hid (hasB a' b' c' d' x y = h) := ⟨_, (rfl : _ = _)⟩
        have HHC : Hid (hasB rx ry rw_ rh x y = (hp && hq)) := by
          unfold Hid
          have := both_has a b c d a' b' c' d' x y _ HR.out
          simp only at this
          rw [this, HHP.out, HHQ.out]
        clear HC0 HCD
        go_cut [64] from 65 (fun s64 wc => s64 = .bool false ∧ Gs W a b c d a' b' c' d' B rx ry rw_ rh wc)
        case first =>
          cases hp with
          | true =>
            cases hq with
            | true =>
              have HHC2 : Hid (hasB rx ry rw_ rh x y = true) := by unfold Hid; rw [HHC.out]; rfl
              go_region_held3 (fun w' => w'.cell? ⟨W.heap.size, 0, none⟩ = some (.int .i64 a) ∧ w'.cell? ⟨W.heap.size, 1, none⟩ = some (.int .i64 b) ∧ w'.cell? ⟨W.heap.size, 2, none⟩ = some (.int .i64 c) ∧ w'.cell? ⟨W.heap.size, 3, none⟩ = some (.int .i64 d) ∧
              w'.cell? ⟨W.heap.size + 1, 0, none⟩ = some (.int .i64 a') ∧ w'.cell? ⟨W.heap.size + 1, 1, none⟩ = some (.int .i64 b') ∧ w'.cell? ⟨W.heap.size + 1, 2, none⟩ = some (.int .i64 c') ∧ w'.cell? ⟨W.heap.size + 1, 3, none⟩ = some (.int .i64 d') ∧
              w'.cell? ⟨B, 0, none⟩ = some (.int .i64 rx) ∧ w'.cell? ⟨B, 1, none⟩ = some (.int .i64 ry) ∧ w'.cell? ⟨B, 2, none⟩ = some (.int .i64 rw_) ∧ w'.cell? ⟨B, 3, none⟩ = some (.int .i64 rh) ∧ Hid (Gs W a b c d a' b' c' d' B rx ry rw_ rh w'))
                (first
                  | exact ⟨HGd.out.1.1.c0, HGd.out.1.1.c1, HGd.out.1.1.c2, HGd.out.1.1.c3, HGd.out.1.2.1.c0, HGd.out.1.2.1.c1, HGd.out.1.2.1.c2, HGd.out.1.2.1.c3, HGd.out.2.c0, HGd.out.2.c1, HGd.out.2.c2, HGd.out.2.c3, HGd⟩
                  | exact ⟨HGc.out.1.1.c0, HGc.out.1.1.c1, HGc.out.1.1.c2, HGc.out.1.1.c3, HGc.out.1.2.1.c0, HGc.out.1.2.1.c1, HGc.out.1.2.1.c2, HGc.out.1.2.1.c3, HGc.out.2.c0, HGc.out.2.c1, HGc.out.2.c2, HGc.out.2.c3, HGc⟩
                  | exact ⟨HGb.out.1.1.c0, HGb.out.1.1.c1, HGb.out.1.1.c2, HGb.out.1.1.c3, HGb.out.1.2.1.c0, HGb.out.1.2.1.c1, HGb.out.1.2.1.c2, HGb.out.1.2.1.c3, HGb.out.2.c0, HGb.out.2.c1, HGb.out.2.c2, HGb.out.2.c3, HGb⟩
                  | exact ⟨HGa.out.1.1.c0, HGa.out.1.1.c1, HGa.out.1.1.c2, HGa.out.1.1.c3, HGa.out.1.2.1.c0, HGa.out.1.2.1.c1, HGa.out.1.2.1.c2, HGa.out.1.2.1.c3, HGa.out.2.c0, HGa.out.2.c1, HGa.out.2.c2, HGa.out.2.c3, HGa⟩
                  | exact ⟨HGD.out.1.1.c0, HGD.out.1.1.c1, HGD.out.1.1.c2, HGD.out.1.1.c3, HGD.out.1.2.1.c0, HGD.out.1.2.1.c1, HGD.out.1.2.1.c2, HGD.out.1.2.1.c3, HGD.out.2.c0, HGD.out.2.c1, HGD.out.2.c2, HGD.out.2.c3, HGD⟩
                  | fail)
                (first
                  | (go_at_call 8; refine (both_any a' b' c' d' a b c d _ (by omega) (by omega) (by omega) (by omega) (by omega) (by omega) (by omega) (by omega) (by omega) (by omega) (by omega) (by omega) (by omega) (by omega) (by omega) (by omega) (rx, ry, rw_, rh) HR2).mono ?_; unfold ratV rectV; simp only; rintro e wx ⟨rfl, hbx⟩; have HGa : Hid (Gs W a b c d a' b' c' d' B rx ry rw_ rh wx) := HGD.out.on hbx)
                  | (go_at_call 10; have hnew := HGc; refine (has_any a' b' c' d' x y _ (by omega) (by omega) (by omega) (by omega) (by omega) (by omega) (by omega) (by omega) true HHQ).mono ?_; rintro e wx ⟨rfl, hbx⟩; have HGd : Hid (Gs W a b c d a' b' c' d' B rx ry rw_ rh wx) := HGc.out.on hbx)
                  | (go_at_call 10; have hnew := HGb; refine (has_any a b c d x y _ (by omega) (by omega) (by omega) (by omega) (by omega) (by omega) (by omega) (by omega) true HHP).mono ?_; rintro e wx ⟨rfl, hbx⟩; have HGc : Hid (Gs W a b c d a' b' c' d' B rx ry rw_ rh wx) := HGb.out.on hbx)
                  | (go_at_call 10; have hnew := HGa; refine (has_any rx ry rw_ rh x y _ (by omega) (by omega) (by omega) (by omega) (by omega) (by omega) (by omega) (by omega) true HHC2).mono ?_; rintro e wx ⟨rfl, hbx⟩; have HGb : Hid (Gs W a b c d a' b' c' d' B rx ry rw_ rh wx) := HGa.out.on hbx)
                  | fail)
              all_goals (go_wp2_with fail; go_meet)
              all_goals exact ⟨rfl, HGd.out⟩
            | false =>
              have HHC2 : Hid (hasB rx ry rw_ rh x y = false) := by unfold Hid; rw [HHC.out]; rfl
              go_region_held3 (fun w' => w'.cell? ⟨W.heap.size, 0, none⟩ = some (.int .i64 a) ∧ w'.cell? ⟨W.heap.size, 1, none⟩ = some (.int .i64 b) ∧ w'.cell? ⟨W.heap.size, 2, none⟩ = some (.int .i64 c) ∧ w'.cell? ⟨W.heap.size, 3, none⟩ = some (.int .i64 d) ∧
              w'.cell? ⟨W.heap.size + 1, 0, none⟩ = some (.int .i64 a') ∧ w'.cell? ⟨W.heap.size + 1, 1, none⟩ = some (.int .i64 b') ∧ w'.cell? ⟨W.heap.size + 1, 2, none⟩ = some (.int .i64 c') ∧ w'.cell? ⟨W.heap.size + 1, 3, none⟩ = some (.int .i64 d') ∧
              w'.cell? ⟨B, 0, none⟩ = some (.int .i64 rx) ∧ w'.cell? ⟨B, 1, none⟩ = some (.int .i64 ry) ∧ w'.cell? ⟨B, 2, none⟩ = some (.int .i64 rw_) ∧ w'.cell? ⟨B, 3, none⟩ = some (.int .i64 rh) ∧ Hid (Gs W a b c d a' b' c' d' B rx ry rw_ rh w'))
                (first
                  | exact ⟨HGd.out.1.1.c0, HGd.out.1.1.c1, HGd.out.1.1.c2, HGd.out.1.1.c3, HGd.out.1.2.1.c0, HGd.out.1.2.1.c1, HGd.out.1.2.1.c2, HGd.out.1.2.1.c3, HGd.out.2.c0, HGd.out.2.c1, HGd.out.2.c2, HGd.out.2.c3, HGd⟩
                  | exact ⟨HGc.out.1.1.c0, HGc.out.1.1.c1, HGc.out.1.1.c2, HGc.out.1.1.c3, HGc.out.1.2.1.c0, HGc.out.1.2.1.c1, HGc.out.1.2.1.c2, HGc.out.1.2.1.c3, HGc.out.2.c0, HGc.out.2.c1, HGc.out.2.c2, HGc.out.2.c3, HGc⟩
                  | exact ⟨HGb.out.1.1.c0, HGb.out.1.1.c1, HGb.out.1.1.c2, HGb.out.1.1.c3, HGb.out.1.2.1.c0, HGb.out.1.2.1.c1, HGb.out.1.2.1.c2, HGb.out.1.2.1.c3, HGb.out.2.c0, HGb.out.2.c1, HGb.out.2.c2, HGb.out.2.c3, HGb⟩
                  | exact ⟨HGa.out.1.1.c0, HGa.out.1.1.c1, HGa.out.1.1.c2, HGa.out.1.1.c3, HGa.out.1.2.1.c0, HGa.out.1.2.1.c1, HGa.out.1.2.1.c2, HGa.out.1.2.1.c3, HGa.out.2.c0, HGa.out.2.c1, HGa.out.2.c2, HGa.out.2.c3, HGa⟩
                  | exact ⟨HGD.out.1.1.c0, HGD.out.1.1.c1, HGD.out.1.1.c2, HGD.out.1.1.c3, HGD.out.1.2.1.c0, HGD.out.1.2.1.c1, HGD.out.1.2.1.c2, HGD.out.1.2.1.c3, HGD.out.2.c0, HGD.out.2.c1, HGD.out.2.c2, HGD.out.2.c3, HGD⟩
                  | fail)
                (first
                  | (go_at_call 8; refine (both_any a' b' c' d' a b c d _ (by omega) (by omega) (by omega) (by omega) (by omega) (by omega) (by omega) (by omega) (by omega) (by omega) (by omega) (by omega) (by omega) (by omega) (by omega) (by omega) (rx, ry, rw_, rh) HR2).mono ?_; unfold ratV rectV; simp only; rintro e wx ⟨rfl, hbx⟩; have HGa : Hid (Gs W a b c d a' b' c' d' B rx ry rw_ rh wx) := HGD.out.on hbx)
                  | (go_at_call 10; have hnew := HGc; refine (has_any a' b' c' d' x y _ (by omega) (by omega) (by omega) (by omega) (by omega) (by omega) (by omega) (by omega) false HHQ).mono ?_; rintro e wx ⟨rfl, hbx⟩; have HGd : Hid (Gs W a b c d a' b' c' d' B rx ry rw_ rh wx) := HGc.out.on hbx)
                  | (go_at_call 10; have hnew := HGb; refine (has_any a b c d x y _ (by omega) (by omega) (by omega) (by omega) (by omega) (by omega) (by omega) (by omega) true HHP).mono ?_; rintro e wx ⟨rfl, hbx⟩; have HGc : Hid (Gs W a b c d a' b' c' d' B rx ry rw_ rh wx) := HGb.out.on hbx)
                  | (go_at_call 10; have hnew := HGa; refine (has_any rx ry rw_ rh x y _ (by omega) (by omega) (by omega) (by omega) (by omega) (by omega) (by omega) (by omega) false HHC2).mono ?_; rintro e wx ⟨rfl, hbx⟩; have HGb : Hid (Gs W a b c d a' b' c' d' B rx ry rw_ rh wx) := HGa.out.on hbx)
                  | fail)
              all_goals (go_wp2_with fail; go_meet)
              all_goals exact ⟨rfl, HGd.out⟩
          | false =>
            have HHC2 : Hid (hasB rx ry rw_ rh x y = false) := by unfold Hid; rw [HHC.out]; rfl
            refine wp_region_held_drew (S := (fun w' => w'.cell? ⟨W.heap.size, 0, none⟩ = some (.int .i64 a) ∧ w'.cell? ⟨W.heap.size, 1, none⟩ = some (.int .i64 b) ∧ w'.cell? ⟨W.heap.size, 2, none⟩ = some (.int .i64 c) ∧ w'.cell? ⟨W.heap.size, 3, none⟩ = some (.int .i64 d) ∧
              w'.cell? ⟨W.heap.size + 1, 0, none⟩ = some (.int .i64 a') ∧ w'.cell? ⟨W.heap.size + 1, 1, none⟩ = some (.int .i64 b') ∧ w'.cell? ⟨W.heap.size + 1, 2, none⟩ = some (.int .i64 c') ∧ w'.cell? ⟨W.heap.size + 1, 3, none⟩ = some (.int .i64 d') ∧
              w'.cell? ⟨B, 0, none⟩ = some (.int .i64 rx) ∧ w'.cell? ⟨B, 1, none⟩ = some (.int .i64 ry) ∧ w'.cell? ⟨B, 2, none⟩ = some (.int .i64 rw_) ∧ w'.cell? ⟨B, 3, none⟩ = some (.int .i64 rh) ∧ Hid (Gs W a b c d a' b' c' d' B rx ry rw_ rh w'))) (by kernel_rfl) ?_ (fun hHeld => ?_)
            · exact ⟨HGD.out.1.1.c0, HGD.out.1.1.c1, HGD.out.1.1.c2, HGD.out.1.1.c3, HGD.out.1.2.1.c0, HGD.out.1.2.1.c1, HGD.out.1.2.1.c2, HGD.out.1.2.1.c3, HGD.out.2.c0, HGD.out.2.c1, HGD.out.2.c2, HGD.out.2.c3, HGD⟩
            refine wpAnyH_take (i := 0) (oi := ({ dst := some 43, op := Op.load 23 (Operand.tmp 9), type := 23, pos := "parts.go:112", after := #[], guard := none } : Oper)) (v := ?_) rfl (by kernel_rfl) (by kernel_rfl) (by kernel_rfl) (fun _ _ _ h => h) (Or.inl ⟨by rfl, ?_⟩) (by assumption) ?_
            rotate_left
            · (intro w hSw; (try dsimp only at hSw); go_simp; try with_reducible rfl)
            simp only [Act.put, List.setIfInBounds_toArray, List.set_cons_zero, List.set_cons_succ]
            refine wpAnyH_take (i := 1) (oi := ({ dst := some 44, op := Op.load 23 (Operand.tmp 5), type := 23, pos := "parts.go:112", after := #[], guard := none } : Oper)) (v := ?_) rfl (by kernel_rfl) (by kernel_rfl) (by kernel_rfl) (fun _ _ _ h => h) (Or.inl ⟨by rfl, ?_⟩) (by assumption) ?_
            rotate_left
            · (intro w hSw; (try dsimp only at hSw); go_simp; try with_reducible rfl)
            simp only [Act.put, List.setIfInBounds_toArray, List.set_cons_zero, List.set_cons_succ]
            refine wpAnyH_take (i := 2) (oi := ({ dst := some 45, op := Op.load 23 (Operand.tmp 4), type := 23, pos := "parts.go:112", after := #[], guard := none } : Oper)) (v := ?_) rfl (by kernel_rfl) (by kernel_rfl) (by kernel_rfl) (fun _ _ _ h => h) (Or.inl ⟨by rfl, ?_⟩) (by assumption) ?_
            rotate_left
            · (intro w hSw; (try dsimp only at hSw); go_simp; try with_reducible rfl)
            simp only [Act.put, List.setIfInBounds_toArray, List.set_cons_zero, List.set_cons_succ]
            refine wpAnyH_ready (rs := [3]) (by kernel_rfl) (by simp) ?_
            refine AllReadyH.cons (o := ({ dst := some 46, op := Op.call { callee := Callee.value (Operand.func 8), args := #[Operand.tmp 44, Operand.tmp 45], argTypes := #[23, 23] }, type := 23, pos := "parts.go:112", after := #[{ on := 1, ground := Ground.data }, { on := 2, ground := Ground.data }], guard := none } : Oper)) rfl (fun K hK => ?_) AllReadyH.nil
            go_simp
            (refine (both_any a' b' c' d' a b c d _ (by omega) (by omega) (by omega) (by omega) (by omega) (by omega) (by omega) (by omega) (by omega) (by omega) (by omega) (by omega) (by omega) (by omega) (by omega) (by omega) (rx, ry, rw_, rh) HR2).mono ?_; unfold ratV rectV; simp only; rintro e wx ⟨rfl, hbx⟩; have HGa : Hid (Gs W a b c d a' b' c' d' B rx ry rw_ rh wx) := HGD.out.on hbx)
            refine hK.out _ _ ?_ (fun hHeld => ?_)
            · exact ⟨HGa.out.1.1.c0, HGa.out.1.1.c1, HGa.out.1.1.c2, HGa.out.1.1.c3, HGa.out.1.2.1.c0, HGa.out.1.2.1.c1, HGa.out.1.2.1.c2, HGa.out.1.2.1.c3, HGa.out.2.c0, HGa.out.2.c1, HGa.out.2.c2, HGa.out.2.c3, HGa⟩
            clear hK K
            try simp only [Act.put, List.setIfInBounds_toArray, List.set_cons_zero, List.set_cons_succ]
            refine wpAnyH_take (i := 4) (oi := ({ dst := some 47, op := Op.binOp BinOp.neq 23 (Operand.tmp 43) (Operand.tmp 46) 23, type := 4, pos := "parts.go:112", after := #[{ on := 0, ground := Ground.data }, { on := 3, ground := Ground.data }], guard := none } : Oper)) (v := ?_) rfl (by kernel_rfl) (by kernel_rfl) (by kernel_rfl) (fun _ _ _ h => h) (Or.inl ⟨by rfl, ?_⟩) (by assumption) ?_
            rotate_left
            · (intro w hSw; (try dsimp only at hSw); go_simp; try with_reducible rfl)
            simp only [Act.put, List.setIfInBounds_toArray, List.set_cons_zero, List.set_cons_succ]
            refine wpAnyH_take (i := 5) (oi := ({ dst := some 48, op := Op.move (Operand.tmp 47), type := 4, pos := "parts.go:112", after := #[{ on := 4, ground := Ground.data }, { on := 3, ground := Ground.chain }], guard := none } : Oper)) (v := ?_) rfl (by kernel_rfl) (by kernel_rfl) (by kernel_rfl) (fun _ _ _ h => h) (Or.inl ⟨by rfl, ?_⟩) (by assumption) ?_
            rotate_left
            · (intro w hSw; (try dsimp only at hSw); go_simp; try with_reducible rfl)
            simp only [Act.put, List.setIfInBounds_toArray, List.set_cons_zero, List.set_cons_succ]
            refine wpAnyH_take (i := 6) (oi := ({ dst := some 49, op := Op.load 23 (Operand.tmp 9), type := 23, pos := "parts.go:112", after := #[{ on := 5, ground := Ground.guard }], guard := some (5, false) } : Oper)) (v := ?_) rfl (by kernel_rfl) (by kernel_rfl) (by kernel_rfl) (fun _ _ _ h => h) (Or.inl ⟨by rfl, ?_⟩) (by assumption) ?_
            rotate_left
            · (intro w hSw; (try dsimp only at hSw); go_simp; try with_reducible rfl)
            simp only [Act.put, List.setIfInBounds_toArray, List.set_cons_zero, List.set_cons_succ]
            refine wpAnyH_take (i := 7) (oi := ({ dst := some 50, op := Op.move (Operand.tmp 2), type := 3, pos := "parts.go:112", after := #[{ on := 5, ground := Ground.guard }], guard := some (5, false) } : Oper)) (v := ?_) rfl (by kernel_rfl) (by kernel_rfl) (by kernel_rfl) (fun _ _ _ h => h) (Or.inl ⟨by rfl, ?_⟩) (by assumption) ?_
            rotate_left
            · (intro w hSw; (try dsimp only at hSw); go_simp; try with_reducible rfl)
            simp only [Act.put, List.setIfInBounds_toArray, List.set_cons_zero, List.set_cons_succ]
            refine wpAnyH_take (i := 8) (oi := ({ dst := some 51, op := Op.move (Operand.tmp 3), type := 3, pos := "parts.go:112", after := #[{ on := 5, ground := Ground.guard }], guard := some (5, false) } : Oper)) (v := ?_) rfl (by kernel_rfl) (by kernel_rfl) (by kernel_rfl) (fun _ _ _ h => h) (Or.inl ⟨by rfl, ?_⟩) (by assumption) ?_
            rotate_left
            · (intro w hSw; (try dsimp only at hSw); go_simp; try with_reducible rfl)
            simp only [Act.put, List.setIfInBounds_toArray, List.set_cons_zero, List.set_cons_succ]
            refine wpAnyH_take (i := 10) (oi := ({ dst := some 53, op := Op.load 23 (Operand.tmp 4), type := 23, pos := "parts.go:112", after := #[{ on := 5, ground := Ground.guard }], guard := some (5, false) } : Oper)) (v := ?_) rfl (by kernel_rfl) (by kernel_rfl) (by kernel_rfl) (fun _ _ _ h => h) (Or.inl ⟨by rfl, ?_⟩) (by assumption) ?_
            rotate_left
            · (intro w hSw; (try dsimp only at hSw); go_simp; try with_reducible rfl)
            simp only [Act.put, List.setIfInBounds_toArray, List.set_cons_zero, List.set_cons_succ]
            refine wpAnyH_take (i := 11) (oi := ({ dst := some 54, op := Op.move (Operand.tmp 2), type := 3, pos := "parts.go:112", after := #[{ on := 5, ground := Ground.guard }], guard := some (5, false) } : Oper)) (v := ?_) rfl (by kernel_rfl) (by kernel_rfl) (by kernel_rfl) (fun _ _ _ h => h) (Or.inl ⟨by rfl, ?_⟩) (by assumption) ?_
            rotate_left
            · (intro w hSw; (try dsimp only at hSw); go_simp; try with_reducible rfl)
            simp only [Act.put, List.setIfInBounds_toArray, List.set_cons_zero, List.set_cons_succ]
            refine wpAnyH_take (i := 12) (oi := ({ dst := some 55, op := Op.move (Operand.tmp 3), type := 3, pos := "parts.go:112", after := #[{ on := 5, ground := Ground.guard }], guard := some (5, false) } : Oper)) (v := ?_) rfl (by kernel_rfl) (by kernel_rfl) (by kernel_rfl) (fun _ _ _ h => h) (Or.inl ⟨by rfl, ?_⟩) (by assumption) ?_
            rotate_left
            · (intro w hSw; (try dsimp only at hSw); go_simp; try with_reducible rfl)
            simp only [Act.put, List.setIfInBounds_toArray, List.set_cons_zero, List.set_cons_succ]
            refine wpAnyH_ready (rs := [9]) (by kernel_rfl) (by simp) ?_
            refine AllReadyH.cons (o := ({ dst := some 52, op := Op.call { callee := Callee.value (Operand.func 10), args := #[Operand.tmp 49, Operand.tmp 50, Operand.tmp 51], argTypes := #[23, 3, 3] }, type := 4, pos := "parts.go:112", after := #[{ on := 6, ground := Ground.data }, { on := 7, ground := Ground.data }, { on := 8, ground := Ground.data }, { on := 5, ground := Ground.chain }, { on := 5, ground := Ground.guard }], guard := some (5, false) } : Oper)) rfl (fun K hK => ?_) AllReadyH.nil
            go_simp
            (refine (has_any rx ry rw_ rh x y _ (by omega) (by omega) (by omega) (by omega) (by omega) (by omega) (by omega) (by omega) false HHC2).mono ?_; rintro e wx ⟨rfl, hbx⟩; have HGb : Hid (Gs W a b c d a' b' c' d' B rx ry rw_ rh wx) := HGa.out.on hbx)
            refine hK.out _ _ ?_ (fun hHeld => ?_)
            · exact ⟨HGb.out.1.1.c0, HGb.out.1.1.c1, HGb.out.1.1.c2, HGb.out.1.1.c3, HGb.out.1.2.1.c0, HGb.out.1.2.1.c1, HGb.out.1.2.1.c2, HGb.out.1.2.1.c3, HGb.out.2.c0, HGb.out.2.c1, HGb.out.2.c2, HGb.out.2.c3, HGb⟩
            clear hK K
            try simp only [Act.put, List.setIfInBounds_toArray, List.set_cons_zero, List.set_cons_succ]
            refine wpAnyH_ready (rs := [13]) (by kernel_rfl) (by simp) ?_
            refine AllReadyH.cons (o := ({ dst := some 56, op := Op.call { callee := Callee.value (Operand.func 10), args := #[Operand.tmp 53, Operand.tmp 54, Operand.tmp 55], argTypes := #[23, 3, 3] }, type := 4, pos := "parts.go:112", after := #[{ on := 10, ground := Ground.data }, { on := 11, ground := Ground.data }, { on := 12, ground := Ground.data }, { on := 9, ground := Ground.chain }, { on := 5, ground := Ground.guard }], guard := some (5, false) } : Oper)) rfl (fun K hK => ?_) AllReadyH.nil
            go_simp
            (refine (has_any a b c d x y _ (by omega) (by omega) (by omega) (by omega) (by omega) (by omega) (by omega) (by omega) false HHP).mono ?_; rintro e wx ⟨rfl, hbx⟩; have HGc : Hid (Gs W a b c d a' b' c' d' B rx ry rw_ rh wx) := HGb.out.on hbx)
            refine hK.out _ _ ?_ (fun hHeld => ?_)
            · exact ⟨HGc.out.1.1.c0, HGc.out.1.1.c1, HGc.out.1.1.c2, HGc.out.1.1.c3, HGc.out.1.2.1.c0, HGc.out.1.2.1.c1, HGc.out.1.2.1.c2, HGc.out.1.2.1.c3, HGc.out.2.c0, HGc.out.2.c1, HGc.out.2.c2, HGc.out.2.c3, HGc⟩
            clear hK K
            try simp only [Act.put, List.setIfInBounds_toArray, List.set_cons_zero, List.set_cons_succ]
            refine wpAnyH_take (i := 14) (oi := ({ dst := some 57, op := Op.move (Operand.tmp 56), type := 4, pos := "parts.go:112", after := #[{ on := 13, ground := Ground.data }, { on := 13, ground := Ground.chain }, { on := 5, ground := Ground.guard }], guard := some (5, false) } : Oper)) (v := ?_) rfl (by kernel_rfl) (by kernel_rfl) (by kernel_rfl) (fun _ _ _ h => h) (Or.inl ⟨by rfl, ?_⟩) (by assumption) ?_
            rotate_left
            · (intro w hSw; (try dsimp only at hSw); go_simp; try with_reducible rfl)
            simp only [Act.put, List.setIfInBounds_toArray, List.set_cons_zero, List.set_cons_succ]
            refine wpAnyH_take (i := 15) (oi := ({ dst := some 58, op := Op.load 23 (Operand.tmp 5), type := 23, pos := "parts.go:112", after := #[{ on := 14, ground := Ground.guard }], guard := some (14, true) } : Oper)) (v := undef) rfl (by kernel_rfl) (by kernel_rfl) (by kernel_rfl) (fun _ _ _ h => h) (Or.inr ⟨by rfl, rfl⟩) (by assumption) ?_
            simp only [Act.put, List.setIfInBounds_toArray, List.set_cons_zero, List.set_cons_succ]
            refine wpAnyH_take (i := 16) (oi := ({ dst := some 59, op := Op.move (Operand.tmp 2), type := 3, pos := "parts.go:112", after := #[{ on := 14, ground := Ground.guard }], guard := some (14, true) } : Oper)) (v := undef) rfl (by kernel_rfl) (by kernel_rfl) (by kernel_rfl) (fun _ _ _ h => h) (Or.inr ⟨by rfl, rfl⟩) (by assumption) ?_
            simp only [Act.put, List.setIfInBounds_toArray, List.set_cons_zero, List.set_cons_succ]
            refine wpAnyH_take (i := 17) (oi := ({ dst := some 60, op := Op.move (Operand.tmp 3), type := 3, pos := "parts.go:112", after := #[{ on := 14, ground := Ground.guard }], guard := some (14, true) } : Oper)) (v := undef) rfl (by kernel_rfl) (by kernel_rfl) (by kernel_rfl) (fun _ _ _ h => h) (Or.inr ⟨by rfl, rfl⟩) (by assumption) ?_
            simp only [Act.put, List.setIfInBounds_toArray, List.set_cons_zero, List.set_cons_succ]
            refine wpAnyH_take (i := 18) (oi := ({ dst := some 61, op := Op.call { callee := Callee.value (Operand.func 10), args := #[Operand.tmp 58, Operand.tmp 59, Operand.tmp 60], argTypes := #[23, 3, 3] }, type := 4, pos := "parts.go:112", after := #[{ on := 15, ground := Ground.data }, { on := 16, ground := Ground.data }, { on := 17, ground := Ground.data }, { on := 14, ground := Ground.chain }, { on := 14, ground := Ground.guard }], guard := some (14, true) } : Oper)) (v := undef) rfl (by kernel_rfl) (by kernel_rfl) (by kernel_rfl) (fun _ _ _ h => h) (Or.inr ⟨by rfl, rfl⟩) (by assumption) ?_
            simp only [Act.put, List.setIfInBounds_toArray, List.set_cons_zero, List.set_cons_succ]
            refine wpAnyH_take (i := 19) (oi := ({ dst := some 62, op := Op.pick (Operand.tmp 57) (Operand.tmp 61) (Operand.const (Value.bool false)), type := 4, pos := "parts.go:112", after := #[{ on := 14, ground := Ground.data }, { on := 18, ground := Ground.data }, { on := 5, ground := Ground.guard }], guard := some (5, false) } : Oper)) (v := ?_) rfl (by kernel_rfl) (by kernel_rfl) (by kernel_rfl) (fun _ _ _ h => h) (Or.inl ⟨by rfl, ?_⟩) (by assumption) ?_
            rotate_left
            · (intro w hSw; (try dsimp only at hSw); go_simp; try with_reducible rfl)
            simp only [Act.put, List.setIfInBounds_toArray, List.set_cons_zero, List.set_cons_succ]
            refine wpAnyH_take (i := 20) (oi := ({ dst := some 63, op := Op.binOp BinOp.neq 4 (Operand.tmp 52) (Operand.tmp 62) 4, type := 4, pos := "parts.go:112", after := #[{ on := 9, ground := Ground.data }, { on := 19, ground := Ground.data }, { on := 5, ground := Ground.guard }], guard := some (5, false) } : Oper)) (v := ?_) rfl (by kernel_rfl) (by kernel_rfl) (by kernel_rfl) (fun _ _ _ h => h) (Or.inl ⟨by rfl, ?_⟩) (by assumption) ?_
            rotate_left
            · (intro w hSw; (try dsimp only at hSw); go_simp; try with_reducible rfl)
            simp only [Act.put, List.setIfInBounds_toArray, List.set_cons_zero, List.set_cons_succ]
            refine wpAnyH_take (i := 21) (oi := ({ dst := some 64, op := Op.pick (Operand.tmp 48) (Operand.const (Value.bool true)) (Operand.tmp 63), type := 4, pos := "parts.go:112", after := #[{ on := 5, ground := Ground.data }, { on := 20, ground := Ground.data }], guard := none } : Oper)) (v := ?_) rfl (by kernel_rfl) (by kernel_rfl) (by kernel_rfl) (fun _ _ _ h => h) (Or.inl ⟨by rfl, ?_⟩) (by assumption) ?_
            rotate_left
            · (intro w hSw; (try dsimp only at hSw); go_simp; try with_reducible rfl)
            simp only [Act.put, List.setIfInBounds_toArray, List.set_cons_zero, List.set_cons_succ]
            refine wpAnyH_done (by kernel_rfl) ?_ _
            all_goals (go_wp2_with fail; go_meet)
            all_goals exact ⟨rfl, HGc.out⟩
        case rest =>
          obtain ⟨rfl, HC2'⟩ := hcut
          have HC2 : Hid (Gs W a b c d a' b' c' d' B rx ry rw_ rh wc) := HC2'
          clear HHC HHP HHQ HGD heq
          obtain ⟨⟨⟨c0, c1, c2, c3, _, _, _, _, _⟩, _, _⟩, _⟩ := HC2'
          obtain ⟨r, HS⟩ : ∃ r, Hid (bothL a b c d a b c d = r) := ⟨_, (rfl : _ = _)⟩
          go_wp2_with fail
          refine (both_any a b c d a b c d _ (by omega) (by omega) (by omega) (by omega) (by omega) (by omega) (by omega) (by omega) (by omega) (by omega) (by omega) (by omega) (by omega) (by omega) (by omega) (by omega) r HS).mono ?_
          have hs := HS.out
          rw [both_self] at hs
          rintro e w8 ⟨rfl, hb8⟩
          have HC8 : Hid (Gs W a b c d a' b' c' d' B rx ry rw_ rh w8) := HC2.out.on hb8
          clear HC2 hb8 c0 c1 c2 c3 HS HR HR2
          by_cases hcd : c ≤ 0 ∨ d ≤ 0
          · rw [if_pos hcd] at hs
            subst hs
            unfold ratV rectV
            simp only
            have HC9 : Hid (Gs W a b c d a' b' c' d' B rx ry rw_ rh (w8.alloc (.cells #[.int .i64 0, .int .i64 0, .int .i64 0, .int .i64 0] 23))) := HC8.out.on ((Below.refl _ _).alloc (Nat.le_refl _) _)
            obtain ⟨⟨⟨c0, c1, c2, c3, _, _, _, _, _⟩, _, hbl⟩, _⟩ := HC9.out
            have hcd2 : c = 0 ∨ d = 0 := by omega
            clear hcd
            by_cases hall : a = 0 ∧ b = 0 ∧ c = 0 ∧ d = 0
            · obtain ⟨rfl, rfl, rfl, rfl⟩ := hall
              clear hcd2
              go_wp2_with fail
              go_ret
              exact ⟨rfl, hbl⟩
            · have heq := fun X => eql_rect_no X a b c d hall
              clear hall
              by_cases hc0 : c = 0
              · subst hc0
                clear hcd2
                go_wp2_with fail
                go_ret
                exact ⟨rfl, hbl⟩
              · have hd0 : d = 0 := by omega
                subst hd0
                clear hcd2
                go_wp2_with fail
                go_ret
                exact ⟨rfl, hbl⟩
          · rw [if_neg hcd] at hs
            subst hs
            unfold ratV rectV
            simp only
            have HC9 : Hid (Gs W a b c d a' b' c' d' B rx ry rw_ rh (w8.alloc (.cells #[.int .i64 a, .int .i64 b, .int .i64 c, .int .i64 d] 23))) := HC8.out.on ((Below.refl _ _).alloc (Nat.le_refl _) _)
            obtain ⟨⟨⟨c0, c1, c2, c3, _, _, _, _, _⟩, _, hbl⟩, _⟩ := HC9.out
            go_wp2_with fail
            go_ret
            exact ⟨rfl, hbl⟩
      · have hbl := HG3.out.2.2
        by_cases hx1 : x < -50
        · go_wp2_with fail
          go_ret
          exact ⟨rfl, hbl⟩
        · by_cases hx2 : 50 < x
          · go_wp2_with fail
            go_ret
            exact ⟨rfl, hbl⟩
          · by_cases hy1 : y < -50
            · go_wp2_with fail
              go_ret
              exact ⟨rfl, hbl⟩
            · have hy2 : 50 < y := by omega
              go_wp2_with fail
              go_ret
              exact ⟨rfl, hbl⟩
end Go.Proofs.Ytbcjliceoodlpac
