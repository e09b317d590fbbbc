/- Walk of the law PictureSays. -/
import Derived.Test.YtjoggjjkafamlaaRefE
import Derived.Test.YtjoggjjkafamlaaRefF
import Derived.Test.YtjoggjjkafamlaaPicL
import Derived.Test.YtjoggjjkafamlaaPicO
import Derived.Test.YtjoggjjkafamlaaPicJ
import Derived.Test.YtjoggjjkafamlaaSame
namespace Go.Proofs.Ytjoggjjkafamlaa
open Go.RowKit

theorem picBytes_at2 (W H : Nat) (v : Value) (ps : List (Int × Int)) (w : World) (HR : Hid (RdP w v ps)) (HC : Hid (checkL (W : Int) (H : Int) ps = 0)) (t : ByteArray) (HT : Hid (picBytes W H ps = t.data.toList)) :
    Calls Try.prog 14 #[.agg #[.int .i64 (W : Int), .int .i64 (H : Int), v]] w fun e w' => e = .returned (.tuple #[.string t, .nilIface]) ∧ Below w.heap.size w w' := by
  have h := picBytes_ok W H v ps w HR HC
  rw [HT.out, str_self] at h
  exact h
theorem rdP_one (w : World) (g : Nat) (a b : Int) (h : Duo w g (.int .i64 a) (.int .i64 b)) : RdP w (.slice (some ⟨g, 0, none⟩) 1 1) [(a, b)] := by
  refine ⟨_, 1, rfl, by simp, by omega, fun _ => ⟨g, 0, rfl, h.lt, fun j hj => ?_⟩⟩
  have : j = 0 := by simpa using hj
  subst this
  exact ⟨h.c0, h.c1⟩
theorem duo_start3 (w : World) (x y : Value) (T : TypeId) : Duo (w.alloc (.cells #[x, y] T)) w.heap.size x y := ⟨by simp, by simp, by simp⟩

set_option maxHeartbeats 4000000 in
set_option maxRecDepth 100000 in
theorem pictures_any (w : World) : Calls Try.prog 12 #[] w fun e w' => e = .returned (.bool true) ∧ Below w.heap.size w w' := by
  have HD := duo_start3 w (.int .i64 7) (.int .i64 7) 60
  have hb0 : Below w.heap.size w (w.alloc (.cells #[.int .i64 7, .int .i64 7] 60)) := (Below.refl _ _).alloc (Nat.le_refl _) _
  go_enter Try.func12, Try.ntmps12
  go_wp2_with fail
  refine (picBytes_at2 1 1 _ [(7, 7)] _ (rdP_one _ _ 7 7 HD) (by unfold Hid; decide) ⟨#[1, 1, 1, 0, 2, 7]⟩ (by unfold Hid; decide)).mono ?_
  rintro e w1 ⟨rfl, hb1⟩
  have hb := hb0.trans (hb1.mono hb0.size)
  go_wp2_with fail
  refine (same_ok 0 _ rfl _).mono ?_
  rintro e w2 ⟨rfl, rfl⟩
  go_wp2_with fail
  go_ret
  exact ⟨rfl, hb⟩

theorem parseRows_len (rs : List UInt8) (W : Nat) : ∀ f k ab, (parseRows rs W f k ab).1.length ≤ f * W
  | 0, k, ab => by simp [parseRows]
  | f + 1, k, ab => by
    rw [parseRows]
    split
    · simp
    · split
      · simp
      · have ih := parseRows_len rs W f (k + 1) (Fb.restL (rs.getD (k * (1 + 2 * W)) 0).toNat ((rs.drop (k * (1 + 2 * W) + 1)).take (2 * W)) ab)
        have h2 : (Fb.restL (rs.getD (k * (1 + 2 * W)) 0).toNat ((rs.drop (k * (1 + 2 * W) + 1)).take (2 * W)) ab).length ≤ 2 * W := by
          unfold Fb.restL; rw [Fb.restTo_len]; exact List.length_take_le _ _
        simp only [List.length_append, pixOf_length, Nat.add_mul, Nat.one_mul]
        omega
theorem parse_len (l : List UInt8) (W' H' c : Nat) (ps : List (Int × Int)) (h : parseL l = (W', H', ps, c)) : ps.length ≤ 64 := by
  unfold parseL at h
  split at h
  · simp at h; obtain ⟨_, _, rfl, _⟩ := h; simp
  · split at h
    · simp at h; obtain ⟨_, _, rfl, _⟩ := h; simp
    · rename_i hs
      split at h
      · simp at h; obtain ⟨_, _, rfl, _⟩ := h; simp
      · split at h
        · simp at h; obtain ⟨_, _, rfl, _⟩ := h; simp
        · split at h
          · simp at h; obtain ⟨_, _, rfl, _⟩ := h; simp
          · simp only [Prod.mk.injEq] at h
            obtain ⟨_, _, rfl, _⟩ := h
            refine Nat.le_trans (parseRows_len _ _ _ _ _) ?_
            have h1 : (l.getD 0 0).toNat ≤ 8 ∧ (l.getD 1 0).toNat ≤ 8 := by
              have ha : sideB ((l.getD 0 0).toNat : Int) = true := by
                cases h : sideB ((l.getD 0 0).toNat : Int) with
                | false => exact absurd (Or.inl h) hs
                | true => rfl
              have hb : sideB ((l.getD 1 0).toNat : Int) = true := by
                cases h : sideB ((l.getD 1 0).toNat : Int) with
                | false => exact absurd (Or.inr h) hs
                | true => rfl
              unfold sideB at ha hb
              simp only [Bool.and_eq_true, decide_eq_true_eq] at ha hb
              omega
            exact Nat.mul_le_mul h1.2 h1.1

/-- what holds at the law's last line -/
def Gh (w : World) (bx by_ : Nat) (p x y : Value) (pw ph xw xh : Int) (ps ps2 : List (Int × Int)) (w' : World) : Prop :=
  Three w' w.heap.size (.int .i64 pw) (.int .i64 ph) p ∧ Three w' bx (.int .i64 xw) (.int .i64 xh) x ∧ Three w' by_ (.int .i64 xw) (.int .i64 xh) y ∧ RdP w' p ps ∧ RdP w' x ps2 ∧ RdP w' y ps2 ∧ Below w.heap.size w w'
theorem Gh.on {w : World} {bx by_ : Nat} {p x y : Value} {pw ph xw xh : Int} {ps ps2 : List (Int × Int)} {w1 w2 : World} (h : Gh w bx by_ p x y pw ph xw xh ps ps2 w1) (hb : Below w1.heap.size w1 w2) : Gh w bx by_ p x y pw ph xw xh ps ps2 w2 :=
  ⟨h.1.on hb, h.2.1.on hb, h.2.2.1.on hb, h.2.2.2.1.on hb, h.2.2.2.2.1.on hb, h.2.2.2.2.2.1.on hb, h.2.2.2.2.2.2.trans (hb.mono h.2.2.2.2.2.2.size)⟩
theorem Gh.drew {w : World} {bx by_ : Nat} {p x y : Value} {pw ph xw xh : Int} {ps ps2 : List (Int × Int)} {w1 : World} (h : Gh w bx by_ p x y pw ph xw xh ps ps2 w1) : Gh w bx by_ p x y pw ph xw xh ps ps2 w1.drew :=
  ⟨h.1.drew, h.2.1.drew, h.2.2.1.drew, h.2.2.2.1, h.2.2.2.2.1, h.2.2.2.2.2.1, h.2.2.2.2.2.2.drew⟩
theorem check_at (W H : Int) (v : Value) (ps : List (Int × Int)) (w : World) (hps : ps.length ≤ 1000000000) (HR : Hid (RdP w v ps)) (c : Nat) (HC : Hid (checkL W H ps = c)) (ev : Value) (HEV : Hid (errV c = ev)) :
    Calls Try.prog 18 #[.agg #[.int .i64 W, .int .i64 H, v]] w fun e w' => e = .returned ev ∧ Below w.heap.size w w' := by
  rw [← HEV.out]; exact check_any W H v ps w hps HR c HC

theorem checkL_le (W H : Int) (ps : List (Int × Int)) : checkL W H ps ≤ 100 := by
  unfold checkL; split
  · omega
  · split
    · omega
    · split <;> omega

theorem bytes_both (W H : Int) (v : Value) (ps : List (Int × Int)) (hps : ps.length ≤ 1000000000) (c : Nat) (HC : Hid (checkL W H ps = c)) (ev : Value) (HEV : Hid (errV c = ev)) : ∃ t : ByteArray,
    Hid (∀ X, RdP X v ps → Calls Try.prog 14 #[.agg #[.int .i64 W, .int .i64 H, v]] X fun e w' => e = .returned (.tuple #[.string t, ev]) ∧ Below X.heap.size X w') ∧
    Hid (∀ X, RdP X v ps → Calls Try.prog 15 #[.agg #[.int .i64 W, .int .i64 H, v]] X fun e w' => e = .returned (.tuple #[.string t, .int .i64 (c : Int)]) ∧ Below X.heap.size X w') := by
  by_cases hc : c = 0
  · subst hc
    obtain ⟨hW1, hW8, hH1, hH8, _, _⟩ := check_ok HC.out
    obtain ⟨W, rfl⟩ : ∃ k : Nat, W = (k : Int) := ⟨W.toNat, by omega⟩
    obtain ⟨H, rfl⟩ : ∃ k : Nat, H = (k : Int) := ⟨H.toNat, by omega⟩
    obtain ⟨t, HT⟩ := bytes_of (picBytes W H ps)
    refine ⟨t, fun X hX => ?_, fun X hX => refBytes_at W H v ps X hX HC t HT⟩
    have h := picBytes_at2 W H v ps X hX HC t HT
    rw [← HEV.out]; exact h
  · refine ⟨⟨#[]⟩, fun X hX => ?_, fun X hX => refBytes_err W H v ps X hps hX c hc (by rw [← HC.out]; exact checkL_le _ _ _) HC⟩
    have h := picBytes_err W H v ps X hps hX c hc HC
    have he : errV c = .iface 57 (.int .i64 (c : Int)) := by unfold errV; rw [if_neg hc]
    rw [← HEV.out, he]; exact h

set_option maxHeartbeats 4000000 in
set_option maxRecDepth 100000 in
theorem pictureSays_any (W H : Int) (v : Value) (ps : List (Int × Int)) (s : ByteArray) (w : World) (HR : Hid (RdP w v ps)) (hs : s.size ≤ maxLen) :
    Calls Try.prog 4 #[.agg #[.int .i64 W, .int .i64 H, v], .string s] w fun e w' => e = .returned (.bool true) ∧ Below w.heap.size w w' := by
  unfold maxLen at hs
  obtain ⟨a, cap, hv, hlc, hcap, hh⟩ := HR.out
  obtain ⟨n, HNN⟩ : ∃ n, Hid (ps.length = n) := ⟨_, (rfl : _ = _)⟩
  clear hh
  rw [HNN.out] at hv hlc
  subst hv
  have H30 := three_start w (.int .i64 W) (.int .i64 H) (.slice a n cap) 33
  have hb0 : Below w.heap.size w (w.alloc (.cells #[.int .i64 W, .int .i64 H, .slice a n cap] 33)) := (Below.refl _ _).alloc (Nat.le_refl _) _
  obtain ⟨w0, HW0⟩ : ∃ w0, Hid (w.alloc (.cells #[.int .i64 W, .int .i64 H, .slice a n cap] 33) = w0) := ⟨_, (rfl : _ = _)⟩
  rw [HW0.out] at H30 hb0
  go_enter Try.func4, Try.ntmps4
  go_wp2_with fail
  rw [HW0.out]
  refine (pictures_any w0).mono ?_
  rintro e w2 ⟨rfl, hb2⟩
  have H32 := H30.on hb2
  have HR2 : Hid (RdP w2 (.slice a n cap) ps) := (HR.out.on hb0).on hb2
  have hbw2 := hb0.trans (hb2.mono hb0.size)
  clear H30 hb0 hb2
  obtain ⟨c0, c1, c2, f0, f1, f2, tl⟩ := H32
  have H32 : Hid (Three w2 w.heap.size (.int .i64 W) (.int .i64 H) (.slice a n cap)) := ⟨c0, c1, c2, f0, f1, f2, tl⟩
  by_cases hn : n ≤ 80
  · go_wp2_with fail
    refine (light_any W H a n cap _ (by omega) true (by unfold Hid; simp [hn])).mono ?_
    rintro e w3 ⟨rfl, hb3⟩
    have H33 := H32.out.on hb3
    have HR3 : Hid (RdP w3 (.slice a n cap) ps) := HR2.out.on hb3
    have hbw3 := hbw2.trans (hb3.mono hbw2.size)
    clear H32 HR2 hbw2 hb3 c0 c1 c2 f0 f1 f2 tl
    obtain ⟨c0, c1, c2, f0, f1, f2, tl⟩ := H33
    have H33 : Hid (Three w3 w.heap.size (.int .i64 W) (.int .i64 H) (.slice a n cap)) := ⟨c0, c1, c2, f0, f1, f2, tl⟩
    by_cases h5 : 500 < s.size
    · go_wp2_with fail
      go_ret
      exact ⟨rfl, hbw3⟩
    · obtain ⟨c, HC⟩ : ∃ c, Hid (checkL W H ps = c) := ⟨_, (rfl : _ = _)⟩
      obtain ⟨ev, HEV⟩ := errV_some c
      have hpl : ps.length ≤ 1000000000 := by rw [HNN.out]; omega
      obtain ⟨t, HB1, HB2⟩ := bytes_both W H (.slice a n cap) ps hpl c HC ev HEV
      go_wp2_with fail
      refine (HB1.out _ HR3.out).mono ?_
      rintro e w4 ⟨rfl, hb4⟩
      have H34 := H33.out.on hb4
      have HR4 : Hid (RdP w4 (.slice a n cap) ps) := HR3.out.on hb4
      have hbw4 := hbw3.trans (hb4.mono hbw3.size)
      clear H33 HR3 hbw3 hb4 c0 c1 c2 f0 f1 f2 tl
      obtain ⟨c0, c1, c2, f0, f1, f2, tl⟩ := H34
      have H34 : Hid (Three w4 w.heap.size (.int .i64 W) (.int .i64 H) (.slice a n cap)) := ⟨c0, c1, c2, f0, f1, f2, tl⟩
      go_wp2_with fail
      refine (HB2.out _ HR4.out).mono ?_
      rintro e w5 ⟨rfl, hb5⟩
      have H35 := H34.out.on hb5
      have HR5 : Hid (RdP w5 (.slice a n cap) ps) := HR4.out.on hb5
      have hbw5 := hbw4.trans (hb5.mono hbw4.size)
      clear H34 HR4 hbw4 hb5 c0 c1 c2 f0 f1 f2 tl
      obtain ⟨z, HZ⟩ : ∃ z, Hid (parseL s.data.toList = z) := ⟨_, (rfl : _ = _)⟩
      obtain ⟨W2, H2, ps2, cc⟩ := z
      obtain ⟨ev2, HEV2⟩ := errV_some cc
      go_wp2_with fail
      refine (parse_any s w5 (by omega) W2 H2 cc ps2 HZ).mono ?_
      rintro e w6 ⟨v6, rfl, HP6, hb6⟩
      rw [HEV2.out]
      have H36 := H35.on hb6
      have HR6 : Hid (RdP w6 (.slice a n cap) ps) := HR5.out.on hb6
      have hbw6 := hbw5.trans (hb6.mono hbw5.size)
      obtain ⟨a6, cap6, hv6⟩ := pow_slice HP6
      obtain ⟨n6, HN6⟩ : ∃ n, Hid (ps2.length = n) := ⟨_, (rfl : _ = _)⟩
      rw [HN6.out] at hv6
      subst hv6
      clear H35 HR5 hbw5 hb6
      have hps2 : ps2.length ≤ 1000 := Nat.le_trans (parse_len _ _ _ _ _ HZ.out) (by omega)
      have hbx : Below w6.heap.size w6 (w6.alloc (.cells #[.int .i64 (W2 : Int), .int .i64 (H2 : Int), .slice a6 n6 cap6] 33)) := (Below.refl _ _).alloc (Nat.le_refl _) _
      have HX7 := three_start w6 (.int .i64 (W2 : Int)) (.int .i64 (H2 : Int)) (.slice a6 n6 cap6) 33
      have H37 := H36.on hbx
      have HR7 : Hid (RdP _ (.slice a n cap) ps) := HR6.out.on hbx
      have HP7 := HP6.on hbx
      have hbw7 := hbw6.trans (hbx.mono hbw6.size)
      clear H36 HR6 hbw6 hbx HP6
      go_wp2_with fail
      refine (refOf_any s _ (by omega) W2 H2 cc ps2 HZ).mono ?_
      rintro e w8 ⟨v8, rfl, HP8, hb8⟩
      have HX8 := HX7.on hb8
      have H38 := H37.on hb8
      have HR8 : Hid (RdP w8 (.slice a n cap) ps) := HR7.out.on hb8
      have HPX := HP7.on hb8
      have hbw8 := hbw7.trans (hb8.mono hbw7.size)
      obtain ⟨a8, cap8, hv8⟩ := pow_slice HP8
      rw [HN6.out] at hv8
      subst hv8
      clear HX7 H37 HR7 hbw7 hb8 HP7
      have hby : Below w8.heap.size w8 (w8.alloc (.cells #[.int .i64 (W2 : Int), .int .i64 (H2 : Int), .slice a8 n6 cap8] 33)) := (Below.refl _ _).alloc (Nat.le_refl _) _
      have HY9 := three_start w8 (.int .i64 (W2 : Int)) (.int .i64 (H2 : Int)) (.slice a8 n6 cap8) 33
      have HX9 := HX8.on hby
      have H39 := H38.on hby
      have HR9 : Hid (RdP _ (.slice a n cap) ps) := HR8.out.on hby
      have HPX9 : Hid (RdP _ (.slice a6 n6 cap6) ps2) := HPX.on hby
      have HPY9 : Hid (RdP _ (.slice a8 n6 cap8) ps2) := HP8.on hby
      have hbw9 := hbw8.trans (hby.mono hbw8.size)
      clear HX8 H38 HR8 HPX HP8 hbw8 hby
      have HGD := (show Gh w w6.heap.size w8.heap.size (.slice a n cap) (.slice a6 n6 cap6) (.slice a8 n6 cap8) W H (W2 : Int) (H2 : Int) ps ps2 _ from ⟨H39, HX9, HY9, HR9.out, HPX9.out, HPY9.out, hbw9⟩).drew
      clear H39 HX9 HY9 HR9 HPX9 HPY9 hbw9
      go_wp2_with fail
      go_region_held3 (fun w' => w'.cell? ⟨w.heap.size, 0, none⟩ = some (.int .i64 W) ∧ w'.cell? ⟨w.heap.size, 1, none⟩ = some (.int .i64 H) ∧ w'.cell? ⟨w.heap.size, 2, none⟩ = some (.slice a n cap) ∧
          w'.cell? ⟨w6.heap.size, 0, none⟩ = some (.int .i64 (W2 : Int)) ∧ w'.cell? ⟨w6.heap.size, 1, none⟩ = some (.int .i64 (H2 : Int)) ∧ w'.cell? ⟨w6.heap.size, 2, none⟩ = some (.slice a6 n6 cap6) ∧
          w'.cell? ⟨w8.heap.size, 0, none⟩ = some (.int .i64 (W2 : Int)) ∧ w'.cell? ⟨w8.heap.size, 1, none⟩ = some (.int .i64 (H2 : Int)) ∧ w'.cell? ⟨w8.heap.size, 2, none⟩ = some (.slice a8 n6 cap8) ∧
          Hid (Gh w w6.heap.size w8.heap.size (.slice a n cap) (.slice a6 n6 cap6) (.slice a8 n6 cap8) W H (W2 : Int) (H2 : Int) ps ps2 w'))
        (first
          | exact ⟨HGc.1.c0, HGc.1.c1, HGc.1.c2, HGc.2.1.c0, HGc.2.1.c1, HGc.2.1.c2, HGc.2.2.1.c0, HGc.2.2.1.c1, HGc.2.2.1.c2, HGc⟩
          | exact ⟨HGb.1.c0, HGb.1.c1, HGb.1.c2, HGb.2.1.c0, HGb.2.1.c1, HGb.2.1.c2, HGb.2.2.1.c0, HGb.2.2.1.c1, HGb.2.2.1.c2, HGb⟩
          | exact ⟨HGa.1.c0, HGa.1.c1, HGa.1.c2, HGa.2.1.c0, HGa.2.1.c1, HGa.2.1.c2, HGa.2.2.1.c0, HGa.2.2.1.c1, HGa.2.2.1.c2, HGa⟩
          | exact ⟨HGD.1.c0, HGD.1.c1, HGD.1.c2, HGD.2.1.c0, HGD.2.1.c1, HGD.2.1.c2, HGD.2.2.1.c0, HGD.2.2.1.c1, HGD.2.2.1.c2, HGD⟩
          | fail)
        (first
          | (go_at_call 18; refine (check_at W H _ ps _ hpl HGD.2.2.2.1 c HC ev HEV).mono ?_; rintro e wx ⟨rfl, hbx⟩; have HGa := HGD.on hbx)
          | (go_at_call 19; refine (fault_any W H _ ps _ hpl HGa.2.2.2.1 c HC).mono ?_; rintro e wx ⟨rfl, hbx⟩; have HGb := HGa.on hbx)
          | (go_at_call 20; refine (samePic_any (W2 : Int) (H2 : Int) _ _ ps2 _ hps2 HGb.2.2.2.2.1 HGb.2.2.2.2.2.1).mono ?_; rintro e wx ⟨rfl, hbx⟩; have HGc := HGb.on hbx)
          | (go_at_call 11; have HGc1 := HGc.1; refine (same_ok cc ev2 HEV2 _).mono ?_; rintro e wx ⟨rfl, rfl⟩)
          | (go_at_call 11; refine (same_ok c ev HEV _).mono ?_; rintro e wx ⟨rfl, rfl⟩)
          | fail)
      all_goals go_wp2_with fail
      all_goals go_ret
      all_goals exact ⟨rfl, HGc.2.2.2.2.2.2⟩
  · go_wp2_with fail
    refine (light_any W H a n cap _ (by omega) false (by unfold Hid; simp [hn])).mono ?_
    rintro e w3 ⟨rfl, hb3⟩
    go_wp2_with fail
    go_ret
    exact ⟨rfl, hbw2.trans (hb3.mono hbw2.size)⟩
end Go.Proofs.Ytjoggjjkafamlaa
