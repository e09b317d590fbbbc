/- Walk: op.Check. -/
import Derived.Test.YtkmolifgfbaboaaDoorOpB2
namespace Go.Proofs.YtkmolifgfbaboaaDoor
open Go.RowKit

/-- the number of the error of an op -/
def opC (q : Pq) : Nat :=
  match kindAt q.kind shps with
  | none => 3
  | some s => if (forL q s).any (fun n => decide (n ≠ 0)) = true then 3 else if (s.id && (decide (q.id < 1) || decide (6 < q.id))) = true ∨ inB q s = false then 1 else if s.pic = true then checkL q.pw q.ph q.ps else 0
theorem shps_ok : ∀ s ∈ shps, s.nums ≤ 4 ∧ (s.id = false → s.pic = false) := by
  intro s hs
  simp only [shps, List.mem_cons, List.not_mem_nil, or_false] at hs
  rcases hs with rfl | rfl | rfl | rfl | rfl | rfl | rfl | rfl | rfl | rfl | rfl | rfl | rfl | rfl | rfl | rfl <;> exact ⟨by decide, by decide⟩
theorem kindAt_mem (kd : Int) : ∀ (l : List Shp) (s : Shp), kindAt kd l = some s → s ∈ l ∧ (s.kind : Int) = kd := by
  intro l
  induction l with
  | nil => intro s h; cases h
  | cons a r ih =>
    intro s h
    unfold kindAt at h
    split at h
    · obtain rfl := Option.some.inj h
      exact ⟨by simp, by assumption⟩
    · obtain ⟨h1, h2⟩ := ih s h
      exact ⟨by simp [h1], h2⟩

set_option maxHeartbeats 8000000 in
set_option maxRecDepth 100000 in
theorem opCheck_any (q : Pq) (u : Value) (w : World) (HS : Hid (Shapes w)) (h1 : 0 < w.heap.size) (HU : Hid (RdP w u q.ps)) (hps : q.ps.length ≤ 1000000000) (c : Nat) (HC : Hid (opC q = c)) :
    Calls Tryd.prog 8 #[opV q u] w fun e w' => e = .returned (errV c) ∧ Below w.heap.size w w' := by
  obtain ⟨ap, cp, hv, hl0, hcp, _⟩ := HU.out
  obtain ⟨np, HNP⟩ : ∃ n, Hid (q.ps.length = n) := ⟨_, (rfl : _ = _)⟩
  rw [HNP.out] at hv hl0
  subst hv
  obtain ⟨X0, HX0⟩ : ∃ X0, Hid (w.alloc (.cells #[.int .i64 q.kind, .int .i64 q.id, .int .i64 q.a, .int .i64 q.b, .int .i64 q.c, .int .i64 q.d, .int .i64 q.pw, .int .i64 q.ph, .slice ap np cp] 27) = X0) := ⟨_, (rfl : _ = _)⟩
  have hbz : Below w.heap.size w X0 := by rw [← HX0.out]; exact (Below.refl _ _).alloc (Nat.le_refl _) _
  have N0 : Nine X0 w.heap.size (.int .i64 q.kind) (.int .i64 q.id) (.int .i64 q.a) (.int .i64 q.b) (.int .i64 q.c) (.int .i64 q.d) (.int .i64 q.pw) (.int .i64 q.ph) (.slice ap np cp) := by rw [← HX0.out]; exact nine_start w _ _ _ _ _ _ _ _ _ 27 w.heap.size rfl
  have HS0 : Hid (Shapes X0) := HS.out.on h1 hbz
  have h1' := Nat.lt_of_lt_of_le h1 hbz.size
  have HU0 : Hid (RdP X0 (.slice ap np cp) q.ps) := HU.out.on hbz
  obtain ⟨o, HO⟩ : ∃ o, Hid (kindAt q.kind shps = o) := ⟨_, (rfl : _ = _)⟩
  have hc := HC.out
  unfold opC at hc
  rw [HO.out] at hc
  go_enter Tryd.func8, Tryd.ntmps8
  go_wp2_with fail
  rw [HX0.out]
  clear HX0
  refine (ofKind_any q.kind X0 HS0 h1').mono ?_
  rw [HO.out]
  rintro e w1 ⟨hb1, he⟩
  have hbb1 := hbz.trans (hb1.mono hbz.size)
  have N1 := N0.on hb1
  have HU1 := hid_of3 (HU0.out.on hb1)
  clear hb1 HS0 HU0 N0
  cases o with
  | none =>
    simp only at he hc
    subst he hc
    have hbx : Below w.heap.size w (w1.alloc (.cells #[.int .i64 0, .string ⟨#[]⟩, .bool false, .int .i64 0, .int .i64 0, .int .i64 0, .bool false] 55)) := hbb1.alloc hbb1.size _
    unfold shp0 Shp.val Shp.bytes
    go_wp2_with fail
    go_ret
    exact ⟨rfl, hbx⟩
  | some s =>
    simp only at he hc
    subst he
    obtain ⟨hs1, hs2⟩ := shps_ok s (kindAt_mem _ _ _ HO.out).1
    have hbx1 : Below w1.heap.size w1 (w1.alloc (.cells #[.int .i64 (s.kind : Int), .string s.bytes, .bool s.id, .int .i64 (s.nums : Int), .int .i64 s.low, .int .i64 s.high, .bool s.pic] 55)) := (Below.refl _ _).alloc (Nat.le_refl _) _
    have S1 := seven_start w1 (.int .i64 (s.kind : Int)) (.string s.bytes) (.bool s.id) (.int .i64 (s.nums : Int)) (.int .i64 s.low) (.int .i64 s.high) (.bool s.pic) 55 w1.heap.size rfl
    have N2 := N1.on hbx1
    have HU2 := hid_of3 (HU1.out.on hbx1)
    have hbb2 := hbb1.trans (hbx1.mono hbb1.size)
    obtain ⟨m0, m1, m2, m3, m4, m5, m6, m7, m8, mf0, mf1, mf2, mf3, mf4, mf5, mf6, mf7, mf8, mlt⟩ := N2
    unfold Shp.val
    go_wp2_with fail
    obtain ⟨X2, HX2⟩ : ∃ X2, Hid (w1.alloc (.cells #[.int .i64 (s.kind : Int), .string s.bytes, .bool s.id, .int .i64 (s.nums : Int), .int .i64 s.low, .int .i64 s.high, .bool s.pic] 55) = X2) := ⟨_, (rfl : _ = _)⟩
    rw [HX2.out] at S1 HU2 hbb2 hbx1
    rw [HX2.out]
    have N2 := N1.on hbx1
    clear m0 m1 m2 m3 m4 m5 m6 m7 m8 mf0 mf1 mf2 mf3 mf4 mf5 mf6 mf7 mf8 mlt HX2 N1 HU1 hbx1
    refine (foreign_any q s ap np cp X2 hs1 hs2 HNP (by omega)).mono ?_
    rintro e w3 ⟨v3, rfl, hr3, hb3⟩
    have HRI := hid_of3 hr3
    obtain ⟨a3, c3, hv3, hl3, hc3, _⟩ := hr3
    have hfl : (forL q s).length ≤ 1000 := by unfold forL nums4; split <;> split <;> simp <;> omega
    obtain ⟨n3, HN3⟩ : ∃ n3, Hid ((forL q s).length = n3) := ⟨_, (rfl : _ = _)⟩
    rw [HN3.out] at hv3
    subst hv3
    have N3 := N2.on hb3
    have S3 := S1.on hb3
    have HU3 := hid_of3 (HU2.out.on hb3)
    have hbb3 := hbb2.trans (hb3.mono hbb2.size)
    clear hb3 N2 S1 HU2 hbb2
    obtain ⟨t, HT⟩ : ∃ t, Hid ((forL q s).any (fun n => decide (n ≠ 0)) = t) := ⟨_, (rfl : _ = _)⟩
    rw [HT.out] at hc
    go_wp2_with fail
    refine (containsN_any _ (forL q s) w3 hfl HRI t HT).mono ?_
    rintro e w4 ⟨rfl, hb4⟩
    have N4 := N3.on hb4
    have S4 := S3.on hb4
    have HU4 := hid_of3 (HU3.out.on hb4)
    have hbb4 := hbb3.trans (hb4.mono hbb3.size)
    clear hb4 N3 S3 HU3 hbb3 HRI
    cases t with
    | true =>
      rw [if_pos rfl] at hc
      subst hc
      go_wp2_with fail
      go_ret
      exact ⟨rfl, hbb4⟩
    | false =>
      rw [if_neg (by simp)] at hc
      have N4h := hid_of3 N4
      have S4h := hid_of3 S4
      obtain ⟨m0, m1, m2, m3, m4, m5, m6, m7, m8, mf0, mf1, mf2, mf3, mf4, mf5, mf6, mf7, mf8, mlt⟩ := N4
      obtain ⟨s0, s1, s2, s3, s4, s5, s6, sf0, sf1, sf2, sf3, sf4, sf5, sf6, slt⟩ := S4
      obtain ⟨bi, HBI⟩ : ∃ b, Hid ((s.id && (decide (q.id < 1) || decide (6 < q.id))) = b) := ⟨_, (rfl : _ = _)⟩
      obtain ⟨bb, HBB⟩ : ∃ b, Hid (inB q s = b) := ⟨_, (rfl : _ = _)⟩
      rw [HBI.out, HBB.out] at hc
      cases hid : s.id with
      | true =>
        rw [hid] at s2 HBI
        by_cases g1 : q.id < 1
        · have : bi = true := by rw [← HBI.out]; simp [g1]
          subst this
          rw [if_pos (.inl rfl)] at hc
          subst hc
          clear hid HBI
          go_wp2_with fail
          go_ret
          exact ⟨rfl, hbb4⟩
        · by_cases g2 : 6 < q.id
          · have : bi = true := by rw [← HBI.out]; simp [g2]
            subst this
            rw [if_pos (.inl rfl)] at hc
            subst hc
            clear hid HBI
            go_wp2_with fail
            go_ret
            exact ⟨rfl, hbb4⟩
          · have : bi = false := by rw [← HBI.out]; simp [g1, g2]
            subst this
            have hib := inBounds_any q s ap np cp w4 hs1 bb HBB
            unfold Shp.val at hib
            rw [hid] at hib
            have N4 := N4h.out
            have S4 := S4h.out
            clear hid HBI
            go_wp2_with fail
            refine hib.mono ?_
            clear hib
            rintro e w5 ⟨rfl, hb5⟩
            have HU5 := hid_of3 (HU4.out.on hb5)
            have hbb5 := hbb4.trans (hb5.mono hbb4.size)
            have N5 := N4.on hb5
            have S5 := S4.on hb5
            clear m0 m1 m2 m3 m4 m5 m6 m7 m8 mf0 mf1 mf2 mf3 mf4 mf5 mf6 mf7 mf8 mlt s0 s1 s2 s3 s4 s5 s6 sf0 sf1 sf2 sf3 sf4 sf5 sf6 slt
            obtain ⟨m0, m1, m2, m3, m4, m5, m6, m7, m8, mf0, mf1, mf2, mf3, mf4, mf5, mf6, mf7, mf8, mlt⟩ := N5
            obtain ⟨s0, s1, s2, s3, s4, s5, s6, sf0, sf1, sf2, sf3, sf4, sf5, sf6, slt⟩ := S5
            clear hb5 HU4 hbb4 N4 S4 N4h S4h
            cases bb with
            | false =>
              rw [if_pos (.inr rfl)] at hc
              subst hc
              go_wp2_with fail
              go_ret
              exact ⟨rfl, hbb5⟩
            | true =>
              rw [if_neg (by simp)] at hc
              cases hp : s.pic with
              | false =>
                rw [hp] at s6 hc
                rw [if_neg (by simp)] at hc
                subst hc
                clear hp
                go_wp2_with fail
                go_ret
                exact ⟨rfl, hbb5⟩
              | true =>
                rw [hp] at s6 hc
                rw [if_pos rfl] at hc
                have HC2 := hid_of3 hc
                clear hp hc
                go_wp2_with fail
                refine (check_any q.pw q.ph _ q.ps _ hps HU5 c HC2).mono ?_
                rintro e w6 ⟨rfl, hb6⟩
                have hbb6 := hbb5.trans (hb6.mono hbb5.size)
                clear hb6
                go_wp2_with fail
                go_ret
                exact ⟨rfl, hbb6⟩
      | false =>
        rw [hid] at s2 HBI
        have : bi = false := by rw [← HBI.out]; rfl
        subst this
        have hib := inBounds_any q s ap np cp w4 hs1 bb HBB
        unfold Shp.val at hib
        rw [hid] at hib
        have N4 := N4h.out
        have S4 := S4h.out
        clear hid HBI
        go_wp2_with fail
        refine hib.mono ?_
        clear hib
        rintro e w5 ⟨rfl, hb5⟩
        have HU5 := hid_of3 (HU4.out.on hb5)
        have hbb5 := hbb4.trans (hb5.mono hbb4.size)
        have N5 := N4.on hb5
        have S5 := S4.on hb5
        clear m0 m1 m2 m3 m4 m5 m6 m7 m8 mf0 mf1 mf2 mf3 mf4 mf5 mf6 mf7 mf8 mlt s0 s1 s2 s3 s4 s5 s6 sf0 sf1 sf2 sf3 sf4 sf5 sf6 slt
        obtain ⟨m0, m1, m2, m3, m4, m5, m6, m7, m8, mf0, mf1, mf2, mf3, mf4, mf5, mf6, mf7, mf8, mlt⟩ := N5
        obtain ⟨s0, s1, s2, s3, s4, s5, s6, sf0, sf1, sf2, sf3, sf4, sf5, sf6, slt⟩ := S5
        clear hb5 HU4 hbb4 N4 S4 N4h S4h
        cases bb with
        | false =>
          rw [if_pos (.inr rfl)] at hc
          subst hc
          go_wp2_with fail
          go_ret
          exact ⟨rfl, hbb5⟩
        | true =>
          rw [if_neg (by simp)] at hc
          cases hp : s.pic with
          | false =>
            rw [hp] at s6 hc
            rw [if_neg (by simp)] at hc
            subst hc
            clear hp
            go_wp2_with fail
            go_ret
            exact ⟨rfl, hbb5⟩
          | true =>
            rw [hp] at s6 hc
            rw [if_pos rfl] at hc
            have HC2 := hid_of3 hc
            clear hp hc
            go_wp2_with fail
            refine (check_any q.pw q.ph _ q.ps _ hps HU5 c HC2).mono ?_
            rintro e w6 ⟨rfl, hb6⟩
            have hbb6 := hbb5.trans (hb6.mono hbb5.size)
            clear hb6
            go_wp2_with fail
            go_ret
            exact ⟨rfl, hbb6⟩
end Go.Proofs.YtkmolifgfbaboaaDoor
