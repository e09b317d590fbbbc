/- Walk of the law TopOver. -/
import Derived.Test.YtbcjliceoodlpacOverA
import Derived.Test.YtbcjliceoodlpacBlk
namespace Go.Proofs.Ytbcjliceoodlpac
open Go.RowKit

def pixB (v a : Int) : Bool := decide (0 ≤ v) && decide (v ≤ 255) && decide (0 ≤ a) && decide (a ≤ 255)
theorem pixB_iff (v a : Int) : pixB v a = true ↔ 0 ≤ v ∧ v ≤ 255 ∧ 0 ≤ a ∧ a ≤ 255 := by unfold pixB; simp [and_assoc]
theorem pixB_no (v a : Int) : pixB v a = false ↔ ¬ (0 ≤ v ∧ v ≤ 255 ∧ 0 ≤ a ∧ a ≤ 255) := by rw [← pixB_iff]; simp

set_option maxRecDepth 100000 in
theorem tpixel_any (v a : Int) (W : World) (b : Bool) (HB : Hid (pixB v a = b)) :
    Calls Try.prog 12 #[pixV v a] W fun e w' => e = .returned (.bool b) ∧ Below W.heap.size W w' := by
  unfold pixV
  by_cases h1 : 0 ≤ v
  · by_cases h2 : v ≤ 255
    · by_cases h3 : 0 ≤ a
      · by_cases h4 : a ≤ 255
        · have hb : b = true := by rw [← HB.out, pixB_iff]; omega
          subst hb
          go_enter Try.func12, Try.ntmps12
          go_wp2
          go_ret
          exact ⟨rfl, (Below.refl _ _).alloc (Nat.le_refl _) _⟩
        · have hb : b = false := by rw [← HB.out, pixB_no]; omega
          subst hb
          go_enter Try.func12, Try.ntmps12
          go_wp2
          go_ret
          exact ⟨rfl, (Below.refl _ _).alloc (Nat.le_refl _) _⟩
      · have hb : b = false := by rw [← HB.out, pixB_no]; omega
        subst hb
        go_enter Try.func12, Try.ntmps12
        go_wp2
        go_ret
        exact ⟨rfl, (Below.refl _ _).alloc (Nat.le_refl _) _⟩
    · have hb : b = false := by rw [← HB.out, pixB_no]; omega
      subst hb
      go_enter Try.func12, Try.ntmps12
      go_wp2
      go_ret
      exact ⟨rfl, (Below.refl _ _).alloc (Nat.le_refl _) _⟩
  · have hb : b = false := by rw [← HB.out, pixB_no]; omega
    subst hb
    go_enter Try.func12, Try.ntmps12
    go_wp2
    go_ret
    exact ⟨rfl, (Below.refl _ _).alloc (Nat.le_refl _) _⟩

set_option maxHeartbeats 2000000 in
set_option maxRecDepth 100000 in
theorem topOver_any (av aa bv ba : Int) (W : World) :
    Calls Try.prog 4 #[pixV av aa, pixV bv ba] W fun e w' => e = .returned (.bool true) ∧ Below W.heap.size W w' := by
  have HZ : Hid (Fb.overL 9 0 3 255 = (3, 255)) := (by decide : Fb.overL 9 0 3 255 = (3, 255))
  have T0 := (two_start W (.int .i64 av) (.int .i64 aa) 31 _ rfl).alloc (.cells #[.int .i64 bv, .int .i64 ba] 31)
  have T1 := two_start (W.alloc (.cells #[.int .i64 av, .int .i64 aa] 31)) (.int .i64 bv) (.int .i64 ba) 31 (W.heap.size + 1) (by simp)
  have hb0 : Below W.heap.size W ((W.alloc (.cells #[.int .i64 av, .int .i64 aa] 31)).alloc (.cells #[.int .i64 bv, .int .i64 ba] 31)) := ((Below.refl _ _).alloc (Nat.le_refl _) _).alloc (by simp) _
  obtain ⟨W0, HW0⟩ : ∃ w, Hid ((W.alloc (.cells #[.int .i64 av, .int .i64 aa] 31)).alloc (.cells #[.int .i64 bv, .int .i64 ba] 31) = w) := ⟨_, (rfl : _ = _)⟩
  rw [HW0.out] at T0 T1 hb0
  unfold pixV
  go_enter Try.func4, Try.ntmps4
  go_wp2_with fail
  rw [HW0.out]
  refine (over_any 9 0 3 255 (by omega) (by omega) (by omega) (by omega) (by omega) (by omega) (by omega) (by omega) _ 3 255 HZ).mono ?_
  unfold pixV
  rintro e w1 ⟨rfl, hb1⟩
  have T2 := T0.on hb1
  have T3 := T1.on hb1
  replace hb1 := hb0.trans (hb1.mono hb0.size)
  clear T0 T1 hb0 HW0
  cases ha : pixB av aa with
  | false =>
    have HA : Hid (pixB av aa = false) := ha
    clear ha
    obtain ⟨c0, c1, _, _, lt0⟩ := T2
    obtain ⟨d0, d1, _, _, lt1⟩ := T3
    go_wp2_with fail
    refine (tpixel_any av aa _ false HA).mono ?_
    rintro e w2 ⟨rfl, hb2⟩
    go_wp2_with fail
    go_ret
    exact ⟨rfl, hb1.trans (hb2.mono hb1.size)⟩
  | true =>
    have HA : Hid (pixB av aa = true) := ha
    obtain ⟨a0, a1, a2, a3⟩ := (pixB_iff av aa).1 ha
    clear ha
    have c0 := T2.c0
    have c1 := T2.c1
    go_wp2_with fail
    refine (tpixel_any av aa _ true HA).mono ?_
    rintro e w2 ⟨rfl, hb2⟩
    replace T2 := T2.on hb2
    replace T3 := T3.on hb2
    replace hb2 := hb1.trans (hb2.mono hb1.size)
    clear hb1 c0 c1
    have d0 := T3.c0
    have d1 := T3.c1
    cases hbb : pixB bv ba with
    | false =>
      have HB : Hid (pixB bv ba = false) := hbb
      clear hbb
      go_wp2_with fail
      refine (tpixel_any bv ba _ false HB).mono ?_
      rintro e w3 ⟨rfl, hb3⟩
      go_wp2_with fail
      go_ret
      exact ⟨rfl, hb2.trans (hb3.mono hb2.size)⟩
    | true =>
      have HB : Hid (pixB bv ba = true) := hbb
      obtain ⟨b0, b1, b2, b3⟩ := (pixB_iff bv ba).1 hbb
      clear hbb
      go_wp2_with fail
      refine (tpixel_any bv ba _ true HB).mono ?_
      rintro e w3 ⟨rfl, hb3⟩
      replace T2 := T2.on hb3
      replace T3 := T3.on hb3
      replace hb3 := hb2.trans (hb3.mono hb2.size)
      clear hb2 d0 d1
      have c0 := T2.c0
      have c1 := T2.c1
      have d0 := T3.c0
      have d1 := T3.c1
      have hfacts := Fb.over_bounds av aa bv ba a0 a1 a2 a3 b0 b1 b2 b3
      obtain ⟨⟨v, a⟩, HR⟩ : ∃ r, Hid (Fb.overL av aa bv ba = r) := ⟨_, (rfl : _ = _)⟩
      rw [HR.out] at hfacts
      obtain ⟨g0, g1, g2, g3, g4, g5, g6, g7, g8⟩ := hfacts
      simp only [Prod.mk.injEq] at g0 g1 g2 g3 g4 g5 g6 g7 g8
      have G6 : Hid (0 < a → min av bv ≤ v ∧ v ≤ max av bv) := g6
      have G7 : Hid (aa = 255 → v = av ∧ a = aa) := g7
      have G8 : Hid (aa = 0 → v = bv ∧ a = ba ∨ ba = 0 ∧ v = 0 ∧ a = 0) := g8
      clear g6 g7 g8
      go_wp2_with fail
      refine (over_any av aa bv ba a0 a1 a2 a3 b0 b1 b2 b3 _ v a HR).mono ?_
      unfold pixV
      rintro e w4 ⟨rfl, hb4⟩
      replace T2 := (T2.on hb4).alloc (.cells #[.int .i64 v, .int .i64 a] 31)
      replace T3 := (T3.on hb4).alloc (.cells #[.int .i64 v, .int .i64 a] 31)
      have hb5 : Below W.heap.size W (w4.alloc (.cells #[.int .i64 v, .int .i64 a] 31)) := (hb3.trans (hb4.mono hb3.size)).alloc ((hb3.trans (hb4.mono hb3.size)).size) _
      clear hb3 hb4 c0 c1 d0 d1
      obtain ⟨c0, c1, _, _, lt0⟩ := T2
      obtain ⟨d0, d1, _, _, lt1⟩ := T3
      have k0 : aa ≤ a := g0
      have k1 : ba - 1 ≤ a := by omega
      have k2 : a ≤ 255 := g2
      clear g0 g1 g2 g3 HA HB HR HZ
      by_cases haa : aa = 255
      · obtain ⟨rfl, rfl⟩ := G7.out haa
        subst haa
        by_cases hm : v < bv
        · clear G6 G7 G8
          go_wp2_with fail
          all_goals go_ret
          all_goals exact ⟨rfl, hb5⟩
        · have hm' : bv ≤ v := by omega
          clear hm G6 G7 G8
          go_wp2_with fail
          all_goals go_ret
          all_goals exact ⟨rfl, hb5⟩
      · by_cases ha0 : aa = 0
        · subst ha0
          by_cases hz : v = bv ∧ a = ba
          · obtain ⟨rfl, rfl⟩ := hz
            by_cases hm : av < v
            · clear G6 G7 G8
              go_wp2_with fail
              all_goals go_ret
              all_goals exact ⟨rfl, hb5⟩
            · have hm' : v ≤ av := by omega
              clear hm G6 G7 G8
              go_wp2_with fail
              all_goals go_ret
              all_goals exact ⟨rfl, hb5⟩
          · obtain ⟨rfl, rfl, rfl⟩ : ba = 0 ∧ v = 0 ∧ a = 0 := by
              rcases G8.out rfl with h | h
              · exact absurd h hz
              · exact h
            have hz' : ¬ bv = 0 := by omega
            have hz2 : ¬ 0 = bv := by omega
            clear hz G6 G7 G8
            go_wp2_with fail
            all_goals go_ret
            all_goals exact ⟨rfl, hb5⟩
        · have hpos : 0 < aa := by omega
          have hpa : 0 < a := by omega
          obtain ⟨m0, m1⟩ := G6.out hpa
          by_cases hm : av < bv
          · have n0 : av ≤ v := by omega
            have n1 : v ≤ bv := by omega
            clear m0 m1 G6 G7 G8
            go_wp2_with fail
            all_goals go_ret
            all_goals exact ⟨rfl, hb5⟩
          · have hm' : bv ≤ av := by omega
            have n0 : bv ≤ v := by omega
            have n1 : v ≤ av := by omega
            clear hm m0 m1 G6 G7 G8
            go_wp2_with fail
            all_goals go_ret
            all_goals exact ⟨rfl, hb5⟩
end Go.Proofs.Ytbcjliceoodlpac
