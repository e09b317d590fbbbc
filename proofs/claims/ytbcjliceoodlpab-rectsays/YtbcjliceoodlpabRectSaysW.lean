/- Walk of the law RectSays. -/
import Derived.Test.YtbcjliceoodlpabRectM
import Derived.Test.YtbcjliceoodlpabSameB
import Derived.Test.YtbcjliceoodlpabBlk
namespace Go.Proofs.Ytbcjliceoodlpab
open Go.RowKit

/-- what holds on the road: the two rects lie where they were laid -/
def Gr (W : World) (a b c d a' b' c' d' : Int) (w : World) : Prop :=
  Four w W.heap.size (.int .i64 a) (.int .i64 b) (.int .i64 c) (.int .i64 d) ∧ Four w (W.heap.size + 1) (.int .i64 a') (.int .i64 b') (.int .i64 c') (.int .i64 d') ∧ Below W.heap.size W w
theorem Gr.on {W : World} {a b c d a' b' c' d' : Int} {w w' : World} (h : Gr W a b c d a' b' c' d' w) (hb : Below w.heap.size w w') : Gr W a b c d a' b' c' d' w' :=
  ⟨h.1.on hb, h.2.1.on hb, h.2.2.trans (hb.mono h.2.2.size)⟩
theorem Gr.drew {W : World} {a b c d a' b' c' d' : Int} {w : World} (h : Gr W a b c d a' b' c' d' w) : Gr W a b c d a' b' c' d' w.drew := ⟨h.1.drew, h.2.1.drew, h.2.2.drew⟩

/-- and the third rect -/
def Gs (W : World) (a b c d a' b' c' d' : Int) (B : Nat) (x y z t : Int) (w : World) : Prop :=
  Gr W a b c d a' b' c' d' w ∧ Four w B (.int .i64 x) (.int .i64 y) (.int .i64 z) (.int .i64 t)
theorem Gs.on {W : World} {a b c d a' b' c' d' : Int} {B : Nat} {x y z t : Int} {w w' : World} (h : Gs W a b c d a' b' c' d' B x y z t w) (hb : Below w.heap.size w w') : Gs W a b c d a' b' c' d' B x y z t w' := ⟨h.1.on hb, h.2.on hb⟩
theorem Gs.drew {W : World} {a b c d a' b' c' d' : Int} {B : Nat} {x y z t : Int} {w : World} (h : Gs W a b c d a' b' c' d' B x y z t w) : Gs W a b c d a' b' c' d' B x y z t w.drew := ⟨h.1.drew, h.2.drew⟩
/-- no place ahead of this one is in both -/
def None2 (a b c d a' b' c' d' j i : Int) : Prop := ∀ p q, -21 ≤ q → -21 ≤ p → p < 41 → (q < j ∨ q = j ∧ p < i) → (hasB a b c d p q && hasB a' b' c' d' p q) = false

theorem rcheck_at (x y w h : Int) (W : World) (c : Nat) (HC : Hid (rectC x y w h = c)) (v : Value) (HV : Hid (errV c = v)) :
    Calls Try.prog 21 #[.agg #[.int .i64 x, .int .i64 y, .int .i64 w, .int .i64 h]] W fun e w' => e = .returned v ∧ Below W.heap.size W w' := by
  rw [← HV.out]; exact rcheck_any x y w h W c HC

set_option maxHeartbeats 4000000 in
set_option maxRecDepth 100000 in
theorem rectSays_any (a b c d a' b' c' d' x y : Int) (W : World) (_ : -9223372036854775808 ≤ x) (_ : x ≤ 9223372036854775807) (_ : -9223372036854775808 ≤ y) (_ : y ≤ 9223372036854775807) :
    Calls Try.prog 6 #[rectV a b c d, rectV a' b' c' d', .int .i64 x, .int .i64 y] W fun e w' => e = .returned (.bool true) ∧ Below W.heap.size W w' := by
  have HZ : Hid (hasB 1 1 2 2 2 2 = true) := (by decide : hasB 1 1 2 2 2 2 = true)
  have T0 := (four_start W (.int .i64 a) (.int .i64 b) (.int .i64 c) (.int .i64 d) 52 _ rfl).alloc (.cells #[.int .i64 a', .int .i64 b', .int .i64 c', .int .i64 d'] 52)
  have T1 := four_start (W.alloc (.cells #[.int .i64 a, .int .i64 b, .int .i64 c, .int .i64 d] 52)) (.int .i64 a') (.int .i64 b') (.int .i64 c') (.int .i64 d') 52 (W.heap.size + 1) (by simp)
  have hb0 : Below W.heap.size W ((W.alloc (.cells #[.int .i64 a, .int .i64 b, .int .i64 c, .int .i64 d] 52)).alloc (.cells #[.int .i64 a', .int .i64 b', .int .i64 c', .int .i64 d'] 52)) := ((Below.refl _ _).alloc (Nat.le_refl _) _).alloc (by simp) _
  obtain ⟨W0, HW0⟩ : ∃ w, Hid ((W.alloc (.cells #[.int .i64 a, .int .i64 b, .int .i64 c, .int .i64 d] 52)).alloc (.cells #[.int .i64 a', .int .i64 b', .int .i64 c', .int .i64 d'] 52) = w) := ⟨_, (rfl : _ = _)⟩
  rw [HW0.out] at T0 T1 hb0
  obtain ⟨ca, HCA⟩ : ∃ k, Hid (rectC a b c d = k) := ⟨_, (rfl : _ = _)⟩
  obtain ⟨va, HVA⟩ := errV_some ca
  unfold rectV
  go_enter Try.func6, Try.ntmps6
  go_wp2_with fail
  rw [HW0.out]
  refine (has_any 1 1 2 2 2 2 _ (by omega) (by omega) (by omega) (by omega) (by omega) (by omega) (by omega) (by omega) true HZ).mono ?_
  rintro e w1 ⟨rfl, hb1⟩
  have HG1 : Hid (Gr W a b c d a' b' c' d' w1) := ⟨T0.on hb1, T1.on hb1, hb0.trans (hb1.mono hb0.size)⟩
  clear T0 T1 hb0 HW0 hb1
  go_wp2_with fail
  have HGD : Hid (Gr W a b c d a' b' c' d' w1.drew) := HG1.out.drew
  go_cut [23] from 24 (fun s23 wc => s23 = .bool false ∧ Gr W a b c d a' b' c' d' wc)
  case first =>
    go_region_held3 (fun w' => w'.cell? ⟨W.heap.size, 0, none⟩ = some (.int .i64 a) ∧ w'.cell? ⟨W.heap.size, 1, none⟩ = some (.int .i64 b) ∧ w'.cell? ⟨W.heap.size, 2, none⟩ = some (.int .i64 c) ∧ w'.cell? ⟨W.heap.size, 3, none⟩ = some (.int .i64 d) ∧ Hid (Gr W a b c d a' b' c' d' w'))
      (first
        | exact ⟨HGb.out.1.c0, HGb.out.1.c1, HGb.out.1.c2, HGb.out.1.c3, HGb⟩
        | exact ⟨HGa.out.1.c0, HGa.out.1.c1, HGa.out.1.c2, HGa.out.1.c3, HGa⟩
        | exact ⟨HGD.out.1.c0, HGD.out.1.c1, HGD.out.1.c2, HGD.out.1.c3, HGD⟩
        | fail)
      (first
        | (go_at_call 21; refine (rcheck_at a b c d _ ca HCA va HVA).mono ?_; rintro e wx ⟨rfl, hbx⟩; have HGa : Hid (Gr W a b c d a' b' c' d' wx) := HGD.out.on hbx)
        | (go_at_call 22; refine (rfault_any a b c d _ ca HCA).mono ?_; rintro e wx ⟨rfl, hbx⟩; have HGb : Hid (Gr W a b c d a' b' c' d' wx) := HGa.out.on hbx)
        | (go_at_call 20; refine (same_ok ca va HVA _).mono ?_; rintro e wx ⟨rfl, rfl⟩)
        | fail)
    all_goals (go_wp2_with fail; go_meet)
    all_goals exact ⟨rfl, HGb.out⟩
  case rest =>
    obtain ⟨rfl, HG2'⟩ := hcut
    have HG2 : Hid (Gr W a b c d a' b' c' d' wc) := HG2'
    obtain ⟨⟨c0, c1, c2, c3, _, _, _, _, _⟩, _, _⟩ := HG2'
    clear HG1 HGD
    by_cases hca : ca = 0
    · subst hca
      obtain ⟨cb, HCB⟩ : ∃ k, Hid (rectC a' b' c' d' = k) := ⟨_, (rfl : _ = _)⟩
      go_wp2_with fail
      refine (rfault_any a b c d _ 0 HCA).mono ?_
      rintro e w3 ⟨rfl, hb3⟩
      have HG3 : Hid (Gr W a b c d a' b' c' d' w3) := HG2.out.on hb3
      clear HG2 hb3 c0 c1 c2 c3
      obtain ⟨⟨c0, c1, c2, c3, _, _, _, _, _⟩, ⟨d0, d1, d2, d3, _, _, _, _, _⟩, _⟩ := HG3.out
      by_cases hcb : cb = 0
      · subst hcb
        go_wp2_with fail
        refine (rfault_any a' b' c' d' _ 0 HCB).mono ?_
        rintro e w4 ⟨rfl, hb4⟩
        have HG4 : Hid (Gr W a b c d a' b' c' d' w4) := HG3.out.on hb4
        clear HG3 hb4 c0 c1 c2 c3 d0 d1 d2 d3
        obtain ⟨l0, l1, l2, l3, l4, l5, l6, l7⟩ := (rectC_zero a b c d).1 HCA.out
        obtain ⟨m0, m1, m2, m3, m4, m5, m6, m7⟩ := (rectC_zero a' b' c' d').1 HCB.out
        obtain ⟨hx, HHX⟩ : ∃ h, Hid (hasB a b c d x y = h) := ⟨_, (rfl : _ = _)⟩
        go_wp2_with fail
        have HGD : Hid (Gr W a b c d a' b' c' d' w4.drew) := HG4.out.drew
        have hne : (hx != hx) = false := by simp
        go_cut [40] from 41 (fun s40 wc => s40 = .bool false ∧ Gr W a b c d a' b' c' d' wc)
        case first =>
          go_region_held3 (fun w' => w'.cell? ⟨W.heap.size, 0, none⟩ = some (.int .i64 a) ∧ w'.cell? ⟨W.heap.size, 1, none⟩ = some (.int .i64 b) ∧ w'.cell? ⟨W.heap.size, 2, none⟩ = some (.int .i64 c) ∧ w'.cell? ⟨W.heap.size, 3, none⟩ = some (.int .i64 d) ∧ Hid (Gr W a b c d a' b' c' d' w'))
            (first
              | exact ⟨HGb.out.1.c0, HGb.out.1.c1, HGb.out.1.c2, HGb.out.1.c3, HGb⟩
              | exact ⟨HGa.out.1.c0, HGa.out.1.c1, HGa.out.1.c2, HGa.out.1.c3, HGa⟩
              | exact ⟨HGD.out.1.c0, HGD.out.1.c1, HGD.out.1.c2, HGD.out.1.c3, HGD⟩
              | fail)
            (first
              | (go_at_call 19; refine (has_any a b c d x y _ (by omega) (by omega) (by omega) (by omega) (by omega) (by omega) (by omega) (by omega) hx HHX).mono ?_; rintro e wx ⟨rfl, hbx⟩; have HGa : Hid (Gr W a b c d a' b' c' d' wx) := HGD.out.on hbx)
              | (go_at_call 23; refine (refHas_any a b c d x y _ (by omega) (by omega) (by omega) (by omega) (by omega) (by omega) (by omega) (by omega) hx HHX).mono ?_; rintro e wx ⟨rfl, hbx⟩; have HGb : Hid (Gr W a b c d a' b' c' d' wx) := HGa.out.on hbx)
              | fail)
          all_goals (go_wp2_with fail; go_meet)
          all_goals exact ⟨rfl, HGb.out⟩
        case rest =>
          obtain ⟨rfl, HG5'⟩ := hcut
          have HG5 : Hid (Gr W a b c d a' b' c' d' wc) := HG5'
          obtain ⟨⟨c0, c1, c2, c3, _, _, _, _, _⟩, ⟨d0, d1, d2, d3, _, _, _, _, _⟩, _⟩ := HG5'
          clear HG4 HGD hne HHX
          obtain ⟨r, HR⟩ : ∃ r, Hid (bothL a b c d a' b' c' d' = r) := ⟨_, (rfl : _ = _)⟩
          obtain ⟨n0, n1, n2, n3, n4, n5, n6, n7⟩ := both_bounds a b c d a' b' c' d' 20 l0 l1 l2 l3 l4 l5 l6 l7 m0 m1 m2 m3 m4 m5 m6 m7 r HR.out
          go_wp2_with fail
          refine (both_any a b c d a' b' c' d' _ (by omega) (by omega) (by omega) (by omega) (by omega) (by omega) (by omega) (by omega) (by omega) (by omega) (by omega) (by omega) (by omega) (by omega) (by omega) (by omega) r HR).mono ?_
          obtain ⟨rx, ry, rw_, rh⟩ := r
          simp only at n0 n1 n2 n3 n4 n5 n6 n7
          unfold ratV rectV
          simp only
          rintro e w6 ⟨rfl, hb6⟩
          have HG6 : Hid (Gr W a b c d a' b' c' d' w6) := HG5.out.on hb6
          clear HG5 hb6 c0 c1 c2 c3 d0 d1 d2 d3
          have HC0 : Hid (Gs W a b c d a' b' c' d' w6.heap.size rx ry rw_ rh (w6.alloc (.cells #[.int .i64 rx, .int .i64 ry, .int .i64 rw_, .int .i64 rh] 52))) :=
            ⟨HG6.out.on ((Below.refl _ _).alloc (Nat.le_refl _) _), four_start w6 _ _ _ _ _ _ rfl⟩
          obtain ⟨B, HBE⟩ : ∃ B, Hid (w6.heap.size = B) := ⟨_, (rfl : _ = _)⟩
          rw [HBE.out] at HC0
          clear HG6
          go_wp2_with fail
          rw [HBE.out]
          go_loopw [10, 11] (fun nn jj wr => ∃ (k : Nat) (j : Int), nn = .int .i64 (k : Int) ∧ jj = .int .i64 j ∧ -21 ≤ j ∧ j ≤ 41 ∧ (k : Int) ≤ (j + 21) * 62 ∧ Hid (Gs W a b c d a' b' c' d' B rx ry rw_ rh wr) ∧ Hid (k = 0 → None2 a b c d a' b' c' d' j (-21))) (fun _ jj _ => (41 - intOf jj).toNat)
          case atStart => exact ⟨0, -21, rfl, rfl, by omega, by omega, by omega, HC0, (fun _ p q h1 h2 h3 h4 => by omega)⟩
          case round =>
            obtain ⟨k, j, rfl, rfl, j0, j1, hk, HC, HN⟩ := hrel
            by_cases hj : j < 41
            · go_wp2_with fail
              go_loopw [10, 12] (fun nn ii wr => ∃ (k' : Nat) (i : Int), nn = .int .i64 (k' : Int) ∧ ii = .int .i64 i ∧ -21 ≤ i ∧ i ≤ 41 ∧ (k' : Int) ≤ (j + 21) * 62 + (i + 21) ∧ Hid (Gs W a b c d a' b' c' d' B rx ry rw_ rh wr) ∧ Hid (k' = 0 → None2 a b c d a' b' c' d' j i)) (fun _ ii _ => (41 - intOf ii).toNat)
              case atStart => exact ⟨k, -21, rfl, rfl, by omega, by omega, by omega, HC, HN⟩
              case round =>
                obtain ⟨k', i, rfl, rfl, i0, i1, hk', HC', HN'⟩ := hrel
                by_cases hi : i < 41
                · obtain ⟨hp, HHP⟩ : ∃ h, Hid (hasB a b c d i j = h) := ⟨_, (rfl : _ = _)⟩
                  obtain ⟨hq, HHQ⟩ : ∃ h, Hid (hasB a' b' c' d' i j = h) := ⟨_, (rfl : _ = _)⟩
                  have HHC : Hid (hasB rx ry rw_ rh i j = (hp && hq)) := by
                    unfold Hid
                    have := both_has a b c d a' b' c' d' i j _ HR.out
                    simp only at this
                    rw [this, HHP.out, HHQ.out]
                  obtain ⟨⟨⟨c0, c1, c2, c3, _, _, _, _, _⟩, _, _⟩, _⟩ := HC'.out
                  go_wp2_with fail
                  refine (refHas_any a b c d i j _ (by omega) (by omega) (by omega) (by omega) (by omega) (by omega) (by omega) (by omega) hp HHP).mono ?_
                  rintro e w7 ⟨rfl, hb7⟩
                  have HC7 : Hid (Gs W a b c d a' b' c' d' B rx ry rw_ rh w7) := HC'.out.on hb7
                  clear HC' hb7 c0 c1 c2 c3
                  obtain ⟨⟨_, ⟨d0, d1, d2, d3, _, _, _, _, _⟩, _⟩, _⟩ := HC7.out
                  go_wp2_with fail
                  refine (refHas_any a' b' c' d' i j _ (by omega) (by omega) (by omega) (by omega) (by omega) (by omega) (by omega) (by omega) hq HHQ).mono ?_
                  rintro e w8 ⟨rfl, hb8⟩
                  have HC8 : Hid (Gs W a b c d a' b' c' d' B rx ry rw_ rh w8) := HC7.out.on hb8
                  clear HC7 hb8 d0 d1 d2 d3
                  have HCD : Hid (Gs W a b c d a' b' c' d' B rx ry rw_ rh w8.drew) := HC8.out.drew
                  obtain ⟨_, ⟨e0, e1, e2, e3, _, _, _, _, _⟩⟩ := HC8.out
                  cases hp with
                  | false =>
                    have HHC2 : Hid (hasB rx ry rw_ rh i j = false) := by unfold Hid; rw [HHC.out]; rfl
                    have HN2 : Hid (k' = 0 → None2 a b c d a' b' c' d' j (i + 1)) := fun h0 p q p1 p2 p3 p4 => by
                      by_cases he : q = j ∧ p = i
                      · rw [he.1, he.2, HHP.out]; rfl
                      · exact HN'.out h0 p q p1 p2 p3 (by omega)
                    go_wp2_with fail
                    refine (refHas_any rx ry rw_ rh i j _ (by omega) (by omega) (by omega) (by omega) (by omega) (by omega) (by omega) (by omega) false HHC2).mono ?_
                    rintro e w9 ⟨rfl, hb9⟩
                    have HC9 : Hid (Gs W a b c d a' b' c' d' B rx ry rw_ rh w9) := HC8.out.on hb9
                    go_wp2_with fail
                    go_roundw
                    case rel => exact ⟨k', i + 1, by go_num, by go_num, by omega, by omega, by omega, HC9, HN2⟩
                    case measure => simp [intOf]; omega
                  | true =>
                    cases hq with
                    | false =>
                      have HHC2 : Hid (hasB rx ry rw_ rh i j = false) := by unfold Hid; rw [HHC.out]; rfl
                      have HN2 : Hid (k' = 0 → None2 a b c d a' b' c' d' j (i + 1)) := fun h0 p q p1 p2 p3 p4 => by
                        by_cases he : q = j ∧ p = i
                        · rw [he.1, he.2, HHQ.out]; simp
                        · exact HN'.out h0 p q p1 p2 p3 (by omega)
                      go_wp2_with fail
                      refine (refHas_any rx ry rw_ rh i j _ (by omega) (by omega) (by omega) (by omega) (by omega) (by omega) (by omega) (by omega) false HHC2).mono ?_
                      rintro e w9 ⟨rfl, hb9⟩
                      have HC9 : Hid (Gs W a b c d a' b' c' d' B rx ry rw_ rh w9) := HC8.out.on hb9
                      go_wp2_with fail
                      go_roundw
                      case rel => exact ⟨k', i + 1, by go_num, by go_num, by omega, by omega, by omega, HC9, HN2⟩
                      case measure => simp [intOf]; omega
                    | true =>
                      have HHC2 : Hid (hasB rx ry rw_ rh i j = true) := by unfold Hid; rw [HHC.out]; rfl
                      have HN2 : Hid (k' + 1 = 0 → None2 a b c d a' b' c' d' j (i + 1)) := fun h0 => by omega
                      go_wp2_with fail
                      refine (refHas_any rx ry rw_ rh i j _ (by omega) (by omega) (by omega) (by omega) (by omega) (by omega) (by omega) (by omega) true HHC2).mono ?_
                      rintro e w9 ⟨rfl, hb9⟩
                      have HC9 : Hid (Gs W a b c d a' b' c' d' B rx ry rw_ rh w9) := HC8.out.on hb9
                      go_wp2_with fail
                      go_roundw
                      case rel => exact ⟨k' + 1, i + 1, by go_num, by go_num, by omega, by omega, by omega, HC9, HN2⟩
                      case measure => simp [intOf]; omega
                · have hi41 : i = 41 := by omega
                  subst hi41
                  have HN2 : Hid (k' = 0 → None2 a b c d a' b' c' d' (j + 1) (-21)) := fun h0 p q p1 p2 p3 p4 => HN'.out h0 p q p1 p2 p3 (by omega)
                  go_wp2_with fail
                  go_roundw
                  case rel => exact ⟨k', j + 1, by go_num, by go_num, by omega, by omega, by omega, HC', HN2⟩
                  case measure => simp [intOf]; omega
            · have hj41 : j = 41 := by omega
              subst hj41
              by_cases hk0 : k = 0
              · subst hk0
                have hz : (rx, ry, rw_, rh) = (0, 0, 0, 0) := by
                  by_cases h : (rx, ry, rw_, rh) = (0, 0, 0, 0)
                  · exact h
                  · have h1 := both_empty a b c d a' b' c' d' _ HR.out h
                    have h2 := HN.out rfl rx ry (by omega) (by omega) (by omega) (by omega)
                    simp only at h1
                    rw [h1.1, h1.2] at h2
                    exact absurd h2 (by simp)
                simp only [Prod.mk.injEq] at hz
                obtain ⟨rfl, rfl, rfl, rfl⟩ := hz
                obtain ⟨⟨_, _, hbl⟩, ⟨e0, e1, e2, e3, _, _, _, _, _⟩⟩ := HC.out
                go_wp2_with fail
                go_ret
                exact ⟨rfl, hbl⟩
              · have hkp : (0 : Int) < (k : Int) := by omega
                obtain ⟨⟨_, _, hbl⟩, _⟩ := HC.out
                go_wp2_with fail
                go_ret
                exact ⟨rfl, hbl⟩
      · have hcp : (0 : Int) < (cb : Int) := by omega
        go_wp2_with fail
        refine (rfault_any a' b' c' d' _ cb HCB).mono ?_
        rintro e w4 ⟨rfl, hb4⟩
        go_wp2_with fail
        go_ret
        exact ⟨rfl, (HG3.out.on hb4).2.2⟩
    · have hcp : (0 : Int) < (ca : Int) := by omega
      go_wp2_with fail
      refine (rfault_any a b c d _ ca HCA).mono ?_
      rintro e w3 ⟨rfl, hb3⟩
      go_wp2_with fail
      go_ret
      exact ⟨rfl, (HG2.out.on hb3).2.2⟩
end Go.Proofs.Ytbcjliceoodlpab
