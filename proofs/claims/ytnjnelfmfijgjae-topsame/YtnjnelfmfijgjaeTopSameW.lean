/- Walk of the law TopSame. -/
import Derived.Test.YtnjnelfmfijgjaeSameG1
import Derived.Test.YtnjnelfmfijgjaePicO
import Derived.Test.YtnjnelfmfijgjaePicN
import Derived.Deep.RegionHeld3
namespace Go.Proofs.Ytnjnelfmfijgjae
open Go.RowKit

theorem rdP_one (w : World) (g : Nat) (h : Duo w g (.int .i64 1) (.int .i64 0)) : RdP w (.slice (some ⟨g, 0, none⟩) 1 1) [(1, 0)] := by
  refine ⟨_, 1, rfl, by simp, by omega, fun _ => ⟨g, 0, rfl, h.lt, fun j hj => ?_⟩⟩
  have : j = 0 := by simpa using hj
  subst this
  exact ⟨h.c0, h.c1⟩
theorem duo_new (w : World) (x y : Value) (T : TypeId) : Duo (w.alloc (.cells #[x, y] T)) w.heap.size x y := ⟨by simp, by simp, by simp⟩
theorem hid_of {p : Prop} (h : p) : Hid p := h
theorem errV_not (c : Nat) (h : c ≠ 0) : errV c = .iface 45 (.int .i64 (c : Int)) := by unfold errV; rw [if_neg h]
theorem picBytes_to (W H : Nat) (v : Value) (ps : List (Int × Int)) (w : World) (HR : Hid (RdP w v ps)) (HC : Hid (checkL (W : Int) (H : Int) ps = 0)) (t : ByteArray) (HT : Hid (picBytes W H ps = t.data.toList)) :
    Calls Try.prog 8 #[.agg #[.int .i64 (W : Int), .int .i64 (H : Int), v]] w fun e w' => e = .returned (.tuple #[.string t, .nilIface]) ∧ Below w.heap.size w w' := by
  have h := picBytes_ok W H v ps w HR HC
  rw [HT.out, str_self] at h
  exact h

/-- two pictures are the same just if their bytes are -/
theorem bytes_same (W H W1 H1 : Nat) (ps qs : List (Int × Int)) (h0 : checkL (W : Int) (H : Int) ps = 0) (h1 : checkL (W1 : Int) (H1 : Int) qs = 0) (s t : ByteArray) (hs : picBytes W H ps = s.data.toList) (ht : picBytes W1 H1 qs = t.data.toList) :
    sameC (W : Int) (H : Int) ps (W1 : Int) (H1 : Int) qs = decide (s = t) := by
  by_cases h : s = t
  · subst h
    have e0 := parse_picBytes W H ps h0
    have e1 := parse_picBytes W1 H1 qs h1
    rw [hs, ← ht, e1] at e0
    simp only [Prod.mk.injEq] at e0
    obtain ⟨rfl, rfl, rfl, _⟩ := e0
    simp [sameC]
  · simp only [h, decide_false]
    refine same_no (rfl : _ = _) fun ⟨a, b, c⟩ => h ?_
    have a' : W = W1 := by omega
    have b' : H = H1 := by omega
    subst a' b' c
    have e := hs.symm.trans ht
    cases s
    cases t
    simp only [ByteArray.mk.injEq]
    exact Array.toList_inj.1 e

/-- what holds on the road -/
structure Gsm (w : World) (W0 H0 : Int) (v0 : Value) (ps : List (Int × Int)) (W1 H1 : Int) (v1 : Value) (qs : List (Int × Int)) (w' : World) : Prop where
  t0 : Three w' w.heap.size (.int .i64 W0) (.int .i64 H0) v0
  t1 : Three w' (w.heap.size + 1) (.int .i64 W1) (.int .i64 H1) v1
  r0 : RdP w' v0 ps
  r1 : RdP w' v1 qs
  bel : Below w.heap.size w w'
section
variable {w : World} {W0 H0 : Int} {v0 : Value} {ps : List (Int × Int)} {W1 H1 : Int} {v1 : Value} {qs : List (Int × Int)} {w1 w2 : World}
theorem Gsm.on (h : Gsm w W0 H0 v0 ps W1 H1 v1 qs w1) (hb : Below w1.heap.size w1 w2) : Gsm w W0 H0 v0 ps W1 H1 v1 qs w2 :=
  ⟨h.t0.on hb, h.t1.on hb, h.r0.on hb, h.r1.on hb, h.bel.trans (hb.mono h.bel.size)⟩
theorem Gsm.drew (h : Gsm w W0 H0 v0 ps W1 H1 v1 qs w1) : Gsm w W0 H0 v0 ps W1 H1 v1 qs w1.drew :=
  ⟨h.t0.drew, h.t1.drew, h.r0, h.r1, h.bel.drew⟩
theorem gsm_start (w : World) (W0 H0 : Int) (v0 : Value) (ps : List (Int × Int)) (W1 H1 : Int) (v1 : Value) (qs : List (Int × Int)) (r0 : RdP w v0 ps) (r1 : RdP w v1 qs) :
    Gsm w W0 H0 v0 ps W1 H1 v1 qs ((w.alloc (.cells #[.int .i64 W0, .int .i64 H0, v0] 24)).alloc (.cells #[.int .i64 W1, .int .i64 H1, v1] 24)) := by
  have HT0 := (three_start w (.int .i64 W0) (.int .i64 H0) v0 24).alloc (.cells #[.int .i64 W1, .int .i64 H1, v1] 24)
  have HT1 := three_start (w.alloc (.cells #[.int .i64 W0, .int .i64 H0, v0] 24)) (.int .i64 W1) (.int .i64 H1) v1 24
  have es : (w.alloc (.cells #[.int .i64 W0, .int .i64 H0, v0] 24)).heap.size = w.heap.size + 1 := by simp
  rw [es] at HT1
  have hbz : Below w.heap.size w ((w.alloc (.cells #[.int .i64 W0, .int .i64 H0, v0] 24)).alloc (.cells #[.int .i64 W1, .int .i64 H1, v1] 24)) := ((Below.refl _ _).alloc (Nat.le_refl _) _).alloc (by simp) _
  exact ⟨HT0, HT1, r0.on hbz, r1.on hbz, hbz⟩
end

set_option maxHeartbeats 4000000 in
set_option maxRecDepth 100000 in
theorem topSame_any (W0 H0 : Int) (v0 : Value) (ps : List (Int × Int)) (W1 H1 : Int) (v1 : Value) (qs : List (Int × Int)) (w : World) (R0 : Hid (RdP w v0 ps)) (R1 : Hid (RdP w v1 qs)) :
    Calls Try.prog 3 #[.agg #[.int .i64 W0, .int .i64 H0, v0], .agg #[.int .i64 W1, .int .i64 H1, v1]] w fun e w' => e = .returned (.bool true) ∧ Below w.heap.size w w' := by
  obtain ⟨a0, cap0, hv0, hl0, hm0, _⟩ := R0.out
  obtain ⟨a1, cap1, hv1, hl1, hm1, _⟩ := R1.out
  obtain ⟨n, HN⟩ : ∃ n, Hid (ps.length = n) := ⟨_, (rfl : _ = _)⟩
  obtain ⟨m, HM⟩ : ∃ m, Hid (qs.length = m) := ⟨_, (rfl : _ = _)⟩
  rw [HN.out] at hv0 hl0
  rw [HM.out] at hv1 hl1
  subst hv0 hv1
  have hn2 : n ≤ 9223372036854775807 := by omega
  have hm2 : m ≤ 9223372036854775807 := by omega
  have G0 := gsm_start w W0 H0 (.slice a0 n cap0) ps W1 H1 (.slice a1 m cap1) qs R0.out R1.out
  obtain ⟨w2, HW2⟩ : ∃ w2, Hid ((w.alloc (.cells #[.int .i64 W0, .int .i64 H0, .slice a0 n cap0] 24)).alloc (.cells #[.int .i64 W1, .int .i64 H1, .slice a1 m cap1] 24) = w2) := ⟨_, (rfl : _ = _)⟩
  have hs2 : w2.heap.size = w.heap.size + 1 + 1 := by rw [← HW2.out]; simp
  rw [HW2.out] at G0
  have D0 := (duo_new w2 (.int .i64 1) (.int .i64 0) 26)
  have hb1 : Below w2.heap.size w2 (w2.alloc (.cells #[.int .i64 1, .int .i64 0] 26)) := (Below.refl _ _).alloc (Nat.le_refl _) _
  obtain ⟨w3, HW3⟩ : ∃ w3, Hid (w2.alloc (.cells #[.int .i64 1, .int .i64 0] 26) = w3) := ⟨_, (rfl : _ = _)⟩
  rw [HW3.out] at D0 hb1
  rw [hs2] at D0
  have hb2 : Below w3.heap.size w3 (w3.alloc (.cells #[.int .i64 1, .int .i64 1, .slice (some ⟨w.heap.size + 1 + 1, 0, none⟩) 1 1] 24)) := (Below.refl _ _).alloc (Nat.le_refl _) _
  obtain ⟨w4, HW4⟩ : ∃ w4, Hid (w3.alloc (.cells #[.int .i64 1, .int .i64 1, .slice (some ⟨w.heap.size + 1 + 1, 0, none⟩) 1 1] 24) = w4) := ⟨_, (rfl : _ = _)⟩
  rw [HW4.out] at hb2
  have RO : Hid (RdP w4 (.slice (some ⟨w.heap.size + 1 + 1, 0, none⟩) 1 1) [(1, 0)]) := (rdP_one _ _ D0).on hb2
  have HG : Hid (Gsm w W0 H0 (.slice a0 n cap0) ps W1 H1 (.slice a1 m cap1) qs w4) := (G0.on hb1).on hb2
  clear G0 D0 hb1 hb2 hs2 R0 R1
  go_enter Try.func3, Try.ntmps3
  go_wp2_with fail
  rw [HW2.out, HW3.out, HW4.out]
  refine (same_any 1 1 1 1 _ _ [(1, 0)] [(1, 0)] w4 (by simp) (by simp) RO RO true (by unfold Hid; simp [sameC])).mono ?_
  rintro e w5 ⟨rfl, hb5⟩
  have HG5 := hid_of (HG.out.on hb5)
  clear HG RO hb5
  by_cases hn : n ≤ 80
  · by_cases hm : m ≤ 80
    · obtain ⟨c, HC⟩ : ∃ c, Hid (checkL W0 H0 ps = c) := ⟨_, (rfl : _ = _)⟩
      obtain ⟨d, HD⟩ : ∃ c, Hid (checkL W1 H1 qs = c) := ⟨_, (rfl : _ = _)⟩
      obtain ⟨⟨x0, x1, x2, _, _, _, _⟩, ⟨y0, y1, y2, _, _, _, _⟩, _, _, _⟩ := HG5.out
      go_wp2_with fail
      refine (light_any W0 H0 a0 n cap0 w5 hn2 true (by unfold Hid; simp [hn])).mono ?_
      rintro e w6 ⟨rfl, hb6⟩
      have HG6 := hid_of (HG5.out.on hb6)
      clear HG5 hb6 x0 x1 x2 y0 y1 y2
      obtain ⟨⟨x0, x1, x2, _, _, _, _⟩, ⟨y0, y1, y2, _, _, _, _⟩, _, _, _⟩ := HG6.out
      go_wp2_with fail
      refine (light_any W1 H1 a1 m cap1 w6 hm2 true (by unfold Hid; simp [hm])).mono ?_
      rintro e w7 ⟨rfl, hb7⟩
      have HG7 := hid_of (HG6.out.on hb7)
      clear HG6 hb7 x0 x1 x2 y0 y1 y2
      obtain ⟨⟨x0, x1, x2, _, _, _, _⟩, ⟨y0, y1, y2, _, _, _, _⟩, _, _, _⟩ := HG7.out
      have HR7 : Hid (RdP w7 (.slice a0 n cap0) ps) := HG7.out.r0
      go_wp2_with fail
      refine (check_any W0 H0 _ ps w7 (by rw [HN.out]; omega) HR7 c HC).mono ?_
      rintro e w8 ⟨rfl, hb8⟩
      have HG8 := hid_of (HG7.out.on hb8)
      clear HG7 hb8 HR7 x0 x1 x2 y0 y1 y2
      obtain ⟨⟨x0, x1, x2, _, _, _, _⟩, ⟨y0, y1, y2, _, _, _, _⟩, _, _, _⟩ := HG8.out
      by_cases hc : c = 0
      · subst hc
        rw [errV0]
        have HR8 : Hid (RdP w8 (.slice a1 m cap1) qs) := HG8.out.r1
        go_wp2_with fail
        refine (check_any W1 H1 _ qs w8 (by rw [HM.out]; omega) HR8 d HD).mono ?_
        rintro e w9 ⟨rfl, hb9⟩
        have HG9 := hid_of (HG8.out.on hb9)
        clear HG8 hb9 HR8 x0 x1 x2 y0 y1 y2
        by_cases hd : d = 0
        · subst hd
          rw [errV0]
          obtain ⟨hW1, hW8, hH1, hH8, _, _⟩ := check_ok HC.out
          obtain ⟨hV1, hV8, hI1, hI8, _, _⟩ := check_ok HD.out
          obtain ⟨W0, rfl⟩ : ∃ k : Nat, W0 = (k : Int) := ⟨W0.toNat, by omega⟩
          obtain ⟨H0, rfl⟩ : ∃ k : Nat, H0 = (k : Int) := ⟨H0.toNat, by omega⟩
          obtain ⟨W1, rfl⟩ : ∃ k : Nat, W1 = (k : Int) := ⟨W1.toNat, by omega⟩
          obtain ⟨H1, rfl⟩ : ∃ k : Nat, H1 = (k : Int) := ⟨H1.toNat, by omega⟩
          obtain ⟨s, HS⟩ := bytes_of (picBytes W0 H0 ps)
          obtain ⟨t, HT⟩ := bytes_of (picBytes W1 H1 qs)
          have HBS := hid_of (bytes_same W0 H0 W1 H1 ps qs HC.out HD.out s t HS.out HT.out)
          obtain ⟨⟨x0, x1, x2, _, _, _, _⟩, ⟨y0, y1, y2, _, _, _, _⟩, _, _, _⟩ := HG9.out
          have HR9 : Hid (RdP w9 (.slice a0 n cap0) ps) := HG9.out.r0
          go_wp2_with fail
          refine (picBytes_to W0 H0 _ ps w9 HR9 HC s HS).mono ?_
          rintro e w10 ⟨rfl, hb10⟩
          have HG10 := hid_of (HG9.out.on hb10)
          clear HG9 hb10 HR9 x0 x1 x2 y0 y1 y2
          obtain ⟨⟨x0, x1, x2, _, _, _, _⟩, ⟨y0, y1, y2, _, _, _, _⟩, _, _, _⟩ := HG10.out
          have HR10 : Hid (RdP w10 (.slice a1 m cap1) qs) := HG10.out.r1
          go_wp2_with fail
          refine (picBytes_to W1 H1 _ qs w10 HR10 HD t HT).mono ?_
          rintro e w11 ⟨rfl, hb11⟩
          have HG11 := hid_of (HG10.out.on hb11)
          clear HG10 hb11 HR10 x0 x1 x2 y0 y1 y2
          obtain ⟨⟨x0, x1, x2, _, _, _, _⟩, ⟨y0, y1, y2, _, _, _, _⟩, _, _, _⟩ := HG11.out
          go_wp2_with fail
          have hlp : ps.length ≤ 1000 := by rw [HN.out]; omega
          have hlq : qs.length ≤ 1000 := by rw [HM.out]; omega
          have HPP : Hid (sameC (W0 : Int) (H0 : Int) ps (W0 : Int) (H0 : Int) ps = true) := by unfold Hid; simp [sameC]
          have HGD := hid_of HG11.out.drew
          have KEEP : Hid (∀ W2, Gsm w (W0 : Int) (H0 : Int) (.slice a0 n cap0) ps (W1 : Int) (H1 : Int) (.slice a1 m cap1) qs W2 → (W2.cell? ⟨w.heap.size, 0, none⟩ = some (.int .i64 (W0 : Int)) ∧ W2.cell? ⟨w.heap.size, 1, none⟩ = some (.int .i64 (H0 : Int)) ∧ W2.cell? ⟨w.heap.size, 2, none⟩ = some (.slice a0 n cap0) ∧ W2.cell? ⟨w.heap.size + 1, 0, none⟩ = some (.int .i64 (W1 : Int)) ∧ W2.cell? ⟨w.heap.size + 1, 1, none⟩ = some (.int .i64 (H1 : Int)) ∧ W2.cell? ⟨w.heap.size + 1, 2, none⟩ = some (.slice a1 m cap1))) := by
            intro W2 h2
            obtain ⟨⟨a0, a1, a2, _, _, _, _⟩, ⟨b0, b1, b2, _, _, _, _⟩, _, _, _⟩ := h2
            exact ⟨a0, a1, a2, b0, b1, b2⟩
          by_cases hst : s = t
          · have HPQ : Hid (sameC (W0 : Int) (H0 : Int) ps (W1 : Int) (H1 : Int) qs = true) := by unfold Hid; rw [HBS.out, hst]; simp
            have HQP : Hid (sameC (W1 : Int) (H1 : Int) qs (W0 : Int) (H0 : Int) ps = true) := by
              have h := HPQ.out
              unfold Hid
              simp only [sameC, Bool.and_eq_true, decide_eq_true_eq] at h ⊢
              exact ⟨h.1.symm, h.2.1.symm, h.2.2.symm⟩
            subst hst
            go_region_held3 (fun w' => w'.cell? ⟨w.heap.size, 0, none⟩ = some (.int .i64 (W0 : Int)) ∧ w'.cell? ⟨w.heap.size, 1, none⟩ = some (.int .i64 (H0 : Int)) ∧ w'.cell? ⟨w.heap.size, 2, none⟩ = some (.slice a0 n cap0) ∧ w'.cell? ⟨w.heap.size + 1, 0, none⟩ = some (.int .i64 (W1 : Int)) ∧ w'.cell? ⟨w.heap.size + 1, 1, none⟩ = some (.int .i64 (H1 : Int)) ∧ w'.cell? ⟨w.heap.size + 1, 2, none⟩ = some (.slice a1 m cap1))
                (first | exact KEEP.out _ J4.out | exact KEEP.out _ J3.out | exact KEEP.out _ J2.out | exact KEEP.out _ J1.out | exact KEEP.out _ HGD.out | fail)
                (first
                  | (go_at_call 5; refine (same_any (W0 : Int) (H0 : Int) (W0 : Int) (H0 : Int) _ _ ps ps _ hlp hlp J3.out.r0 J3.out.r0 true HPP).mono ?_; rintro e j4 ⟨rfl, hj4⟩; have J4 := hid_of (J3.out.on hj4))
                  | (go_at_call 5; refine (same_any (W0 : Int) (H0 : Int) (W1 : Int) (H1 : Int) _ _ ps qs _ hlp hlq J2.out.r0 J2.out.r1 true HPQ).mono ?_; rintro e j3 ⟨rfl, hj3⟩; have J3 := hid_of (J2.out.on hj3))
                  | (go_at_call 5; refine (same_any (W1 : Int) (H1 : Int) (W0 : Int) (H0 : Int) _ _ qs ps _ hlq hlp J1.out.r1 J1.out.r0 true HQP).mono ?_; rintro e j2 ⟨rfl, hj2⟩; have J2 := hid_of (J1.out.on hj2))
                  | (go_at_call 5; refine (same_any (W0 : Int) (H0 : Int) (W1 : Int) (H1 : Int) _ _ ps qs _ hlp hlq HGD.out.r0 HGD.out.r1 true HPQ).mono ?_; rintro e j1 ⟨rfl, hj1⟩; have J1 := hid_of (HGD.out.on hj1))
                  | fail)
            go_wp2_with fail
            go_ret
            exact ⟨rfl, J4.out.bel⟩
          · have HPQ : Hid (sameC (W0 : Int) (H0 : Int) ps (W1 : Int) (H1 : Int) qs = false) := by unfold Hid; rw [HBS.out]; simp [hst]
            have HQP : Hid (sameC (W1 : Int) (H1 : Int) qs (W0 : Int) (H0 : Int) ps = false) := by
              refine same_no (rfl : _ = _) fun ⟨h1, h2, h3⟩ => ?_
              have h := HPQ.out
              rw [same_yes (rfl : _ = _) h1.symm h2.symm h3.symm] at h
              cases h
            have hdse : (s.toList == t.toList) = false := by rw [beq_eq_false_iff_ne]; intro h; exact hst (by rw [ByteArray.toList_eq, ByteArray.toList_eq] at h; cases s; cases t; simpa using h)
            have hdst : decide (s = t) = false := by simp [hst]
            go_region_held3 (fun w' => w'.cell? ⟨w.heap.size, 0, none⟩ = some (.int .i64 (W0 : Int)) ∧ w'.cell? ⟨w.heap.size, 1, none⟩ = some (.int .i64 (H0 : Int)) ∧ w'.cell? ⟨w.heap.size, 2, none⟩ = some (.slice a0 n cap0) ∧ w'.cell? ⟨w.heap.size + 1, 0, none⟩ = some (.int .i64 (W1 : Int)) ∧ w'.cell? ⟨w.heap.size + 1, 1, none⟩ = some (.int .i64 (H1 : Int)) ∧ w'.cell? ⟨w.heap.size + 1, 2, none⟩ = some (.slice a1 m cap1))
                (first | exact KEEP.out _ J4.out | exact KEEP.out _ J3.out | exact KEEP.out _ J2.out | exact KEEP.out _ J1.out | exact KEEP.out _ HGD.out | fail)
                (first
                  | (go_at_call 5; refine (same_any (W0 : Int) (H0 : Int) (W0 : Int) (H0 : Int) _ _ ps ps _ hlp hlp J3.out.r0 J3.out.r0 true HPP).mono ?_; rintro e j4 ⟨rfl, hj4⟩; have J4 := hid_of (J3.out.on hj4))
                  | (go_at_call 5; refine (same_any (W0 : Int) (H0 : Int) (W1 : Int) (H1 : Int) _ _ ps qs _ hlp hlq J2.out.r0 J2.out.r1 false HPQ).mono ?_; rintro e j3 ⟨rfl, hj3⟩; have J3 := hid_of (J2.out.on hj3))
                  | (go_at_call 5; refine (same_any (W1 : Int) (H1 : Int) (W0 : Int) (H0 : Int) _ _ qs ps _ hlq hlp J1.out.r1 J1.out.r0 false HQP).mono ?_; rintro e j2 ⟨rfl, hj2⟩; have J2 := hid_of (J1.out.on hj2))
                  | (go_at_call 5; refine (same_any (W0 : Int) (H0 : Int) (W1 : Int) (H1 : Int) _ _ ps qs _ hlp hlq HGD.out.r0 HGD.out.r1 false HPQ).mono ?_; rintro e j1 ⟨rfl, hj1⟩; have J1 := hid_of (HGD.out.on hj1))
                  | fail)
            go_wp2_with fail
            go_ret
            exact ⟨rfl, J4.out.bel⟩
        · rw [errV_not d hd]
          go_wp2_with fail
          go_ret
          exact ⟨rfl, HG9.out.bel⟩
      · rw [errV_not c hc]
        go_wp2_with fail
        go_ret
        exact ⟨rfl, HG8.out.bel⟩
    · obtain ⟨⟨x0, x1, x2, _, _, _, _⟩, ⟨y0, y1, y2, _, _, _, _⟩, _, _, _⟩ := HG5.out
      go_wp2_with fail
      refine (light_any W0 H0 a0 n cap0 w5 hn2 true (by unfold Hid; simp [hn])).mono ?_
      rintro e w6 ⟨rfl, hb6⟩
      have HG6 := hid_of (HG5.out.on hb6)
      clear HG5 hb6 x0 x1 x2 y0 y1 y2
      obtain ⟨⟨x0, x1, x2, _, _, _, _⟩, ⟨y0, y1, y2, _, _, _, _⟩, _, _, _⟩ := HG6.out
      go_wp2_with fail
      refine (light_any W1 H1 a1 m cap1 w6 hm2 false (by unfold Hid; simp [hm])).mono ?_
      rintro e w7 ⟨rfl, hb7⟩
      have HG7 := hid_of (HG6.out.on hb7)
      clear HG6 hb7 x0 x1 x2 y0 y1 y2
      go_wp2_with fail
      go_ret
      exact ⟨rfl, HG7.out.bel⟩
  · obtain ⟨⟨x0, x1, x2, _, _, _, _⟩, ⟨y0, y1, y2, _, _, _, _⟩, _, _, _⟩ := HG5.out
    go_wp2_with fail
    refine (light_any W0 H0 a0 n cap0 w5 hn2 false (by unfold Hid; simp [hn])).mono ?_
    rintro e w6 ⟨rfl, hb6⟩
    have HG6 := hid_of (HG5.out.on hb6)
    clear HG5 hb6 x0 x1 x2 y0 y1 y2
    go_wp2_with fail
    go_ret
    exact ⟨rfl, HG6.out.bel⟩
end Go.Proofs.Ytnjnelfmfijgjae
