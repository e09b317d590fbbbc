/- Walks of rect: isPlace, isLength, Check, Has, overlap, Both. -/
import Derived.Test.YtkmolifgfbaboaaDoorBase
import Derived.Deep.Cut
import Derived.Deep.RegionWith
namespace Go.Proofs.YtkmolifgfbaboaaDoor
open Go.RowKit

def placeB (n : Int) : Bool := decide (-20 ≤ n) && decide (n ≤ 20)
def lenB (n : Int) : Bool := decide (0 ≤ n) && decide (n ≤ 20)
def rectB (x y w h : Int) : Bool := placeB x && placeB y && lenB w && lenB h
def hasB (x y w h p q : Int) : Bool := decide (x ≤ p) && decide (p < x + w) && decide (y ≤ q) && decide (q < y + h)
def rectV (x y w h : Int) : Value := .agg #[.int .i64 x, .int .i64 y, .int .i64 w, .int .i64 h]
/-- what is in two -/
def bothL (a b c d a' b' c' d' : Int) : Int × Int × Int × Int :=
  if min (a + c) (a' + c') - max a a' ≤ 0 ∨ min (b + d) (b' + d') - max b b' ≤ 0 then (0, 0, 0, 0)
  else (max a a', max b b', min (a + c) (a' + c') - max a a', min (b + d) (b' + d') - max b b')

theorem place_any (n : Int) (w : World) (b : Bool) (HB : Hid (placeB n = b)) : Calls Tryd.prog 45 #[.int .i64 n] w fun e w' => e = .returned (.bool b) ∧ w = w' := by
  by_cases h1 : -20 ≤ n
  · by_cases h2 : n ≤ 20
    · have hb : b = true := by rw [← HB.out]; unfold placeB; simp [h1, h2]
      subst hb
      go_enter Tryd.func45, Tryd.ntmps45
      go_wp2
      go_ret
      exact ⟨by simp, rfl⟩
    · have hb : b = false := by rw [← HB.out]; unfold placeB; simp [h2]
      subst hb
      go_enter Tryd.func45, Tryd.ntmps45
      go_wp2
      go_ret
      exact ⟨by simp, rfl⟩
  · have hb : b = false := by rw [← HB.out]; unfold placeB; simp [h1]
    subst hb
    go_enter Tryd.func45, Tryd.ntmps45
    go_wp2
    go_ret
    exact ⟨rfl, rfl⟩

theorem length_any (n : Int) (w : World) (b : Bool) (HB : Hid (lenB n = b)) : Calls Tryd.prog 46 #[.int .i64 n] w fun e w' => e = .returned (.bool b) ∧ w = w' := by
  by_cases h1 : 0 ≤ n
  · by_cases h2 : n ≤ 20
    · have hb : b = true := by rw [← HB.out]; unfold lenB; simp [h1, h2]
      subst hb
      go_enter Tryd.func46, Tryd.ntmps46
      go_wp2
      go_ret
      exact ⟨by simp, rfl⟩
    · have hb : b = false := by rw [← HB.out]; unfold lenB; simp [h2]
      subst hb
      go_enter Tryd.func46, Tryd.ntmps46
      go_wp2
      go_ret
      exact ⟨by simp, rfl⟩
  · have hb : b = false := by rw [← HB.out]; unfold lenB; simp [h1]
    subst hb
    go_enter Tryd.func46, Tryd.ntmps46
    go_wp2
    go_ret
    exact ⟨rfl, rfl⟩

theorem hasB_iff (x y w h p q : Int) : hasB x y w h p q = true ↔ x ≤ p ∧ p < x + w ∧ y ≤ q ∧ q < y + h := by unfold hasB; simp [and_assoc]
theorem hasB_no (x y w h p q : Int) : hasB x y w h p q = false ↔ ¬ (x ≤ p ∧ p < x + w ∧ y ≤ q ∧ q < y + h) := by rw [← hasB_iff]; simp

set_option maxRecDepth 100000 in
theorem overlap_any (a c b d : Int) (W : World) (h0 : -10000 ≤ a) (h1 : a ≤ 10000) (h2 : -10000 ≤ c) (h3 : c ≤ 10000) (h4 : -10000 ≤ b) (h5 : b ≤ 10000) (h6 : -10000 ≤ d) (h7 : d ≤ 10000) (m n : Int) (HM : Hid (max a b = m)) (HN : Hid (min (a + c) (b + d) - max a b = n)) :
    Calls Tryd.prog 57 #[.int .i64 a, .int .i64 c, .int .i64 b, .int .i64 d] W fun e w' => e = .returned (.tuple #[.int .i64 m, .int .i64 n]) ∧ W = w' := by
  have hM := HM.out
  have hN := HN.out
  clear HM HN
  by_cases ha : a < b
  · by_cases hc : a + c ≤ b + d
    · have e1 : m = b := by omega
      have e2 : n = a + c - b := by omega
      subst e1 e2
      clear hM hN
      go_enter Tryd.func57, Tryd.ntmps57
      go_wp2
      exact bodyPost_ret (v := .tuple #[_, _]) (by simp [results, Tryd.results57, go_sem]; first | done | exact ⟨rfl, rfl⟩ | rfl) rfl ⟨rfl, rfl⟩
    · have hc' : b + d < a + c := by omega
      have e1 : m = b := by omega
      have e2 : n = b + d - b := by omega
      subst e1 e2
      clear hM hN hc
      go_enter Tryd.func57, Tryd.ntmps57
      go_wp2
      exact bodyPost_ret (v := .tuple #[_, _]) (by simp [results, Tryd.results57, go_sem]; first | done | exact ⟨rfl, rfl⟩ | rfl) rfl ⟨rfl, rfl⟩
  · have ha' : b ≤ a := by omega
    by_cases hc : a + c ≤ b + d
    · have e1 : m = a := by omega
      have e2 : n = a + c - a := by omega
      subst e1 e2
      clear hM hN ha
      go_enter Tryd.func57, Tryd.ntmps57
      go_wp2
      exact bodyPost_ret (v := .tuple #[_, _]) (by simp [results, Tryd.results57, go_sem]; first | done | exact ⟨rfl, rfl⟩ | rfl) rfl ⟨rfl, rfl⟩
    · have hc' : b + d < a + c := by omega
      have e1 : m = a := by omega
      have e2 : n = b + d - a := by omega
      subst e1 e2
      clear hM hN ha hc
      go_enter Tryd.func57, Tryd.ntmps57
      go_wp2
      exact bodyPost_ret (v := .tuple #[_, _]) (by simp [results, Tryd.results57, go_sem]; first | done | exact ⟨rfl, rfl⟩ | rfl) rfl ⟨rfl, rfl⟩

def ratV (r : Int × Int × Int × Int) : Value := rectV r.1 r.2.1 r.2.2.1 r.2.2.2

set_option maxRecDepth 100000 in
theorem both_any (a b c d a' b' c' d' : Int) (W : World) (h0 : -1000 ≤ a) (h1 : a ≤ 1000) (h2 : -1000 ≤ b) (h3 : b ≤ 1000) (h4 : 0 ≤ c) (h5 : c ≤ 1000) (h6 : 0 ≤ d) (h7 : d ≤ 1000)
    (k0 : -1000 ≤ a') (k1 : a' ≤ 1000) (k2 : -1000 ≤ b') (k3 : b' ≤ 1000) (k4 : 0 ≤ c') (k5 : c' ≤ 1000) (k6 : 0 ≤ d') (k7 : d' ≤ 1000) (r : Int × Int × Int × Int) (HR : Hid (bothL a b c d a' b' c' d' = r)) :
    Calls Tryd.prog 53 #[rectV a b c d, rectV a' b' c' d'] W fun e w' => e = .returned (ratV r) ∧ Below W.heap.size W w' := by
  have hR := HR.out
  clear HR
  unfold bothL at hR
  obtain ⟨m, HM⟩ : ∃ m, Hid (max a a' = m) := ⟨_, (rfl : _ = _)⟩
  obtain ⟨n, HN⟩ : ∃ m, Hid (min (a + c) (a' + c') - max a a' = m) := ⟨_, (rfl : _ = _)⟩
  obtain ⟨p, HP⟩ : ∃ m, Hid (max b b' = m) := ⟨_, (rfl : _ = _)⟩
  obtain ⟨q, HQ⟩ : ∃ m, Hid (min (b + d) (b' + d') - max b b' = m) := ⟨_, (rfl : _ = _)⟩
  rw [HN.out, HQ.out, HM.out, HP.out] at hR
  unfold rectV
  have hbel : Below W.heap.size W (((W.alloc (.cells #[.int .i64 a, .int .i64 b, .int .i64 c, .int .i64 d] 39)).alloc (.cells #[.int .i64 a', .int .i64 b', .int .i64 c', .int .i64 d'] 39)).alloc (.cells #[.int .i64 0, .int .i64 0, .int .i64 0, .int .i64 0] 39)) :=
    ((((Below.refl _ _).alloc (Nat.le_refl _) _).alloc (by simp) _).alloc (by simp; omega) _)
  have HBEL : Hid (Below W.heap.size W (((W.alloc (.cells #[.int .i64 a, .int .i64 b, .int .i64 c, .int .i64 d] 39)).alloc (.cells #[.int .i64 a', .int .i64 b', .int .i64 c', .int .i64 d'] 39)).alloc (.cells #[.int .i64 0, .int .i64 0, .int .i64 0, .int .i64 0] 39))) := hbel
  clear hbel
  by_cases hn : n ≤ 0
  · rw [if_pos (.inl hn)] at hR
    subst hR
    go_enter Tryd.func53, Tryd.ntmps53
    go_wp2_with fail
    refine (overlap_any a c a' c' _ (by omega) (by omega) (by omega) (by omega) (by omega) (by omega) (by omega) (by omega) m n HM HN).mono ?_
    rintro e w1 ⟨rfl, rfl⟩
    go_wp2_with fail
    refine (overlap_any b d b' d' _ (by omega) (by omega) (by omega) (by omega) (by omega) (by omega) (by omega) (by omega) p q HP HQ).mono ?_
    rintro e w1 ⟨rfl, rfl⟩
    go_wp2_with fail
    exact bodyPost_ret (v := .agg #[.int .i64 0, .int .i64 0, .int .i64 0, .int .i64 0]) (by simp [results, Tryd.results53, go_sem]) rfl ⟨rfl, HBEL.out⟩
  · by_cases hq : q ≤ 0
    · rw [if_pos (.inr hq)] at hR
      subst hR
      go_enter Tryd.func53, Tryd.ntmps53
      go_wp2_with fail
      refine (overlap_any a c a' c' _ (by omega) (by omega) (by omega) (by omega) (by omega) (by omega) (by omega) (by omega) m n HM HN).mono ?_
      rintro e w1 ⟨rfl, rfl⟩
      go_wp2_with fail
      refine (overlap_any b d b' d' _ (by omega) (by omega) (by omega) (by omega) (by omega) (by omega) (by omega) (by omega) p q HP HQ).mono ?_
      rintro e w1 ⟨rfl, rfl⟩
      go_wp2_with fail
      exact bodyPost_ret (v := .agg #[.int .i64 0, .int .i64 0, .int .i64 0, .int .i64 0]) (by simp [results, Tryd.results53, go_sem]) rfl ⟨rfl, HBEL.out⟩
    · rw [if_neg (by omega)] at hR
      subst hR
      go_enter Tryd.func53, Tryd.ntmps53
      go_wp2_with fail
      refine (overlap_any a c a' c' _ (by omega) (by omega) (by omega) (by omega) (by omega) (by omega) (by omega) (by omega) m n HM HN).mono ?_
      rintro e w1 ⟨rfl, rfl⟩
      go_wp2_with fail
      refine (overlap_any b d b' d' _ (by omega) (by omega) (by omega) (by omega) (by omega) (by omega) (by omega) (by omega) p q HP HQ).mono ?_
      rintro e w1 ⟨rfl, rfl⟩
      go_wp2_with fail
      refine bodyPost_ret (v := .agg #[.int .i64 m, .int .i64 p, .int .i64 n, .int .i64 q]) (by simp [results, Tryd.results53, go_sem]) rfl ⟨rfl, ?_⟩
      exact ((((Below.refl _ _).alloc (Nat.le_refl _) _).alloc (by simp) _).alloc (by simp; omega) _)
end Go.Proofs.YtkmolifgfbaboaaDoor
