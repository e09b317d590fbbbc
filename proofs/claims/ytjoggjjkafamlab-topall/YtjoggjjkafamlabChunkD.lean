/- Walks of chunk's open and First. -/
import Derived.Test.YtjoggjjkafamlabChunkC
namespace Go.Proofs.Ytjoggjjkafamlab
open Go.RowKit

theorem ext_size (s : ByteArray) (hs : s.size ≤ 1000000) (a b : Nat) : (s.extract a b).size ≤ 1000000 := by rw [ByteArray.size_extract]; omega

/-- what is known of a block of two cells -/
structure Two (W : World) (b : Nat) (x y : Value) : Prop where
  c0 : W.cell? ⟨b, 0, none⟩ = some x
  c1 : W.cell? ⟨b, 1, none⟩ = some y
  f0 : W.frozen? ⟨b, 0, none⟩ = false
  f1 : W.frozen? ⟨b, 1, none⟩ = false
  lt : b < W.heap.size

theorem two_start (w : World) (x y : Value) (T : TypeId) : Two (w.alloc (.cells #[x, y] T)) w.heap.size x y :=
  ⟨by simp, by simp, by simp, by simp, by simp⟩
theorem Two.on {W W' : World} {b : Nat} {x y : Value} (h : Two W b x y) (hb : Below W.heap.size W W') : Two W' b x y :=
  ⟨(hb.cell (p := ⟨b, 0, none⟩) h.lt).trans h.c0, (hb.cell (p := ⟨b, 1, none⟩) h.lt).trans h.c1, (hb.frozen (p := ⟨b, 0, none⟩) h.lt).trans h.f0, (hb.frozen (p := ⟨b, 1, none⟩) h.lt).trans h.f1, Nat.lt_of_lt_of_le h.lt hb.size⟩
theorem Two.drew {W : World} {b : Nat} {x y : Value} (h : Two W b x y) : Two W.drew b x y := ⟨h.c0, h.c1, h.f0, h.f1, h.lt⟩
theorem Two.all {W : World} {b : Nat} {x y : Value} (h : Two W b x y) : W.cell? ⟨b, 0, none⟩ = some x ∧ W.cell? ⟨b, 1, none⟩ = some y ∧ W.frozen? ⟨b, 0, none⟩ = false ∧ W.frozen? ⟨b, 1, none⟩ = false ∧ b < W.heap.size := ⟨h.c0, h.c1, h.f0, h.f1, h.lt⟩

set_option maxHeartbeats 2000000 in
set_option maxRecDepth 100000 in
theorem open_any (s : ByteArray) (w : World) (hs : s.size ≤ 1000000) (h8 : 8 ≤ s.size) :
    Calls Try.prog 19 #[.string s] w fun e w' => e = .returned (.agg #[.string (s.extract 0 4), .string (s.extract 6 (s.size - 2))]) ∧ Below w.heap.size w w' := by
  have hx := ext_size s hs
  have hi1 : (6 : Int) ≤ (s.size : Int) - 2 := by omega
  have hi2 : (4 : Int) ≤ (s.size : Int) := by omega
  have hi3 : (s.size : Int) - 2 ≤ (s.size : Int) := by omega
  have hi4 : IntKind.i64.wrap ((s.size : Int) - 2) = (s.size : Int) - 2 := by rw [IntKind.wrap_i64]; omega
  have hi5 : ((s.size : Int) - 2).toNat = s.size - 2 := by omega
  go_enter Try.func19, Try.ntmps19
  go_upto_region 1 with fail
  have HT := two_start w (.string ⟨#[]⟩) (.string ⟨#[]⟩) 29
  go_region_with (first | (go_at_call_of 20 (s.extract 0 4); refine (clone_any _ _ (hx _ _)).mono ?_; rintro e w3 ⟨rfl, hb3⟩; have HT3 := HT.drew.on hb3) | (go_at_call 20; refine (clone_any _ _ (hx _ _)).mono ?_; rintro e w4 ⟨rfl, hb4⟩; have HT4 := HT3.on hb4; obtain ⟨k1, k2, k3, k4, k5⟩ := HT4.all))
  go_wp2_with fail
  refine bodyPost_ret (v := .agg #[.string (s.extract 0 4), .string (s.extract 6 (s.size - 2))]) (by simp [results, Try.results19, go_sem, k1, k2]) rfl ⟨rfl, ?_⟩
  exact (((bt ((Below.refl _ _).alloc (Nat.le_refl _) _).drew hb3).trans (hb4.mono (Nat.le_of_lt HT3.lt))).setCell (Nat.le_refl _) _).setCell (Nat.le_refl _) _

theorem errV_zero : errV 0 = .nilIface := rfl

theorem measure_at (s : ByteArray) (w : World) (hs : s.size ≤ 1000000) (n c : Nat) (v : Value) (HZ : Hid (Fb.measureL s.data.toList = (n, c))) (HV : Hid (errV c = v)) :
    Calls Try.prog 18 #[.string s] w fun e w' => e = .returned (.tuple #[.int .i64 (n : Int), v]) ∧ Below w.heap.size w w' := by
  have h := measure_any s w hs
  rw [HZ.out] at h
  rw [← HV.out]
  exact h

theorem measure_fit {l : List UInt8} {n : Nat} (h : Fb.measureL l = (n, 0)) : 8 ≤ n ∧ n ≤ l.length := by
  unfold Fb.measureL at h
  split at h
  · simp at h
  · split at h
    · simp at h
    · split at h
      · simp at h
        have : 6 ≤ Fb.endL l := by unfold Fb.endL; omega
        omega
      · simp at h

/-- First's answer, as values -/
def firstV (l : List UInt8) : Value := .tuple #[.agg #[str (Fb.firstL l).1, str (Fb.firstL l).2.1], str (Fb.firstL l).2.2.1, errV (Fb.firstL l).2.2.2]

theorem str_ext (s : ByteArray) (a b : Nat) : str ((s.data.toList.drop a).take (b - a)) = .string (s.extract a b) := by
  rw [← ext_data, str_self]

set_option maxHeartbeats 2000000 in
set_option maxRecDepth 100000 in
theorem first_any (s : ByteArray) (w : World) (hs : s.size ≤ 1000000) :
    Calls Try.prog 8 #[.string s] w fun e w' => e = .returned (firstV s.data.toList) ∧ Below w.heap.size w w' := by
  have HL : Hid (s.data.toList.length = s.size) := by unfold Hid; simp
  obtain ⟨z, HZ⟩ : ∃ z, Hid (Fb.measureL s.data.toList = z) := ⟨_, (rfl : _ = _)⟩
  obtain ⟨n, c⟩ := z
  have HT := two_start w (.string ⟨#[]⟩) (.string ⟨#[]⟩) 29
  by_cases hc : c = 0
  · subst hc
    have hfit := measure_fit HZ.out
    rw [HL.out] at hfit
    obtain ⟨hn8, hns⟩ := hfit
    have HF : Hid (firstV s.data.toList = .tuple #[.agg #[.string ((s.extract 0 n).extract 0 4), .string ((s.extract 0 n).extract 6 (n - 2))], .string (s.extract n s.size), .nilIface]) := by
      unfold Hid firstV Fb.firstL
      rw [HZ.out]
      simp only [if_true]
      have e1 : str (s.data.toList.take 4) = .string ((s.extract 0 n).extract 0 4) := by
        rw [← str_ext (s.extract 0 n) 0 4, ext_data]
        simp only [List.drop_zero, Nat.sub_zero, List.take_take]
        rw [Nat.min_eq_left (by omega)]
      have e2 : str (((s.data.toList.take n).drop 6).take (n - 8)) = .string ((s.extract 0 n).extract 6 (n - 2)) := by
        rw [← str_ext (s.extract 0 n) 6 (n - 2), ext_data]
        simp only [List.drop_zero, Nat.sub_zero]
        rw [show n - 2 - 6 = n - 8 by omega]
      have e3 : str (s.data.toList.drop n) = .string (s.extract n s.size) := by
        rw [← str_ext s n s.size, List.take_of_length_le (by rw [List.length_drop, HL.out]; omega)]
      rw [e1, e2, e3]; rfl
    have hx := ext_size s hs
    have hx0 : (s.extract 0 n).size = n := by rw [ByteArray.size_extract]; omega
    have hi1 : (n : Int) ≤ (s.size : Int) := by omega
    have hi2 : (0 : Int) ≤ (n : Int) := by omega
    have hopen : ∀ W, Calls Try.prog 19 #[.string (s.extract 0 n)] W fun e w' => e = .returned (.agg #[.string ((s.extract 0 n).extract 0 4), .string ((s.extract 0 n).extract 6 (n - 2))]) ∧ Below W.heap.size W w' := by
      intro W
      have := open_any (s.extract 0 n) W (hx _ _) (by omega)
      rw [hx0] at this
      exact this
    have HOP : Hid (∀ W, Calls Try.prog 19 #[.string (s.extract 0 n)] W fun e w' => e = .returned (.agg #[.string ((s.extract 0 n).extract 0 4), .string ((s.extract 0 n).extract 6 (n - 2))]) ∧ Below W.heap.size W w') := hopen
    clear hopen hx0
    go_enter Try.func8, Try.ntmps8
    go_wp2_with fail
    refine (measure_at s _ hs n 0 .nilIface HZ rfl).mono ?_
    rintro e w1 ⟨rfl, hb1⟩
    have HT1 := HT.on hb1
    go_upto_region 4 with fail
    go_region_with (first | (go_at_call 19; refine (HOP.out _).mono ?_; rintro e w3 ⟨rfl, hb3⟩; have HT3 := HT1.drew.on hb3) | (go_at_call 20; refine (clone_any _ _ (hx _ _)).mono ?_; rintro e w4 ⟨rfl, hb4⟩; have HT4 := HT3.on hb4; obtain ⟨k1, k2, k3, k4, k5⟩ := HT4.all))
    all_goals go_wp2_with fail
    all_goals refine bodyPost_ret (v := .tuple #[.agg #[.string ((s.extract 0 n).extract 0 4), .string ((s.extract 0 n).extract 6 (n - 2))], .string (s.extract n s.size), .nilIface]) (by simp [results, Try.results8, go_sem, k1, k2]) rfl ⟨by rw [HF.out], ?_⟩
    all_goals exact (((bt (bt ((Below.refl _ _).alloc (Nat.le_refl _) _) hb1).drew hb3).trans (hb4.mono (Nat.le_of_lt HT3.lt))).setCell (Nat.le_refl _) _).setCell (Nat.le_refl _) _
  · have HE : Hid (errV c = .iface 52 (.int .i64 (c : Int))) := by unfold Hid errV; rw [if_neg hc]
    have HF : Hid (firstV s.data.toList = .tuple #[.agg #[.string ⟨#[]⟩, .string ⟨#[]⟩], .string ⟨#[]⟩, .iface 52 (.int .i64 (c : Int))]) := by
      unfold Hid firstV Fb.firstL
      rw [HZ.out]
      simp only [if_neg hc]
      rw [HE.out]; rfl
    go_enter Try.func8, Try.ntmps8
    go_wp2_with fail
    refine (measure_at s _ hs n c _ HZ HE).mono ?_
    rintro e w1 ⟨rfl, hb1⟩
    obtain ⟨k1, k2, k3, k4, k5⟩ := (HT.on hb1).all
    go_wp2_with fail
    refine bodyPost_ret (v := .tuple #[.agg #[.string ⟨#[]⟩, .string ⟨#[]⟩], .string ⟨#[]⟩, .iface 52 (.int .i64 (c : Int))]) (by simp [results, Try.results8, go_sem, k1, k2]) rfl ⟨by rw [HF.out], ?_⟩
    exact ((bt ((Below.refl _ _).alloc (Nat.le_refl _) _) hb1).setCell (Nat.le_refl _) _).setCell (Nat.le_refl _) _
end Go.Proofs.Ytjoggjjkafamlab
