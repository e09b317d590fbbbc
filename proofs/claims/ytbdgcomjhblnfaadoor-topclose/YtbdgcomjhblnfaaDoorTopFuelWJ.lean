/- Walk of the law TopFuel. -/
import Derived.Test.YtbdgcomjhblnfaaDoorM10
namespace Go.Proofs.YtbdgcomjhblnfaaDoor
open Go.RowKit Go.Maps

theorem number_any (c : Nat) (w : World) : Calls Tryd.prog 16 #[errV c] w fun e w' => e = .returned (.int .i64 (c : Int)) ∧ w = w' := by
  cases c with
  | zero => exact number_zero w
  | succ c => rw [errV_pos (by omega)]; exact number_some _ w

set_option maxHeartbeats 8000000 in
set_option maxRecDepth 100000 in
theorem topFuel_any (v : Value) (qs : List Pq) (fuel more : Int) (w : World) (HS : Hid (Shapes w)) (h1 : 0 < w.heap.size) (HR : Hid (RdQ w v qs)) (hf1 : -9223372036854775808 ≤ fuel) :
    Calls Tryd.prog 3 #[v, .int .i64 fuel, .int .i64 more] w fun e w' => e = .returned (.bool true) ∧ Below w.heap.size w w' := by
  obtain ⟨a, cap, hv, _, _⟩ := HR.out.shape
  obtain ⟨n, HN⟩ : ∃ n, Hid (qs.length = n) := ⟨_, (rfl : _ = _)⟩
  rw [HN.out] at hv
  subst hv
  go_enter Tryd.func3, Tryd.ntmps3
  go_wp2_with fail
  refine (works_any _ HS h1).mono ?_
  rintro e w1 ⟨rfl, hb1⟩
  have HS1 : Hid (Shapes w1) := HS.out.on h1 hb1
  have h11 := Nat.lt_of_lt_of_le h1 hb1.size
  have HR1 : Hid (RdQ w1 (.slice a n cap) qs) := HR.out.on hb1
  go_wp2_with fail
  refine (may_any _ qs _ HS1 h11 HR1).mono ?_
  rintro e w2 ⟨b, rfl, hm, hb2⟩
  have hbb2 := hb1.trans (hb2.mono hb1.size)
  clear hb2 HS1 HR1 h11
  cases b with
  | false =>
    go_wp2_with fail
    go_ret
    exact ⟨rfl, hbb2⟩
  | true =>
    have HMY := hid_of2 (hm rfl)
    clear hm
    by_cases q1 : more < 0
    · go_wp2_with fail
      go_ret
      exact ⟨rfl, hbb2⟩
    by_cases q2 : 1000 < fuel
    · go_wp2_with fail
      go_ret
      exact ⟨rfl, hbb2⟩
    by_cases q3 : 1000 < more
    · go_wp2_with fail
      go_ret
      exact ⟨rfl, hbb2⟩
    have HS2 : Hid (Shapes w2) := HS.out.on h1 hbb2
    have h12 := Nat.lt_of_lt_of_le h1 hbb2.size
    have HR2 : Hid (RdQ w2 (.slice a n cap) qs) := HR.out.on hbb2
    go_wp2_with fail
    refine (mplay_any _ qs fuel _ HS2 h12 HR2 HMY.out.ps HMY.out.len hf1).mono ?_
    intro e w3 hp3
    obtain ⟨hb3, a3, n3, k3, c3, fs3, rfl, hr3, ho3⟩ := play_out hp3
    have hbb3 := hbb2.trans (hb3.mono hbb2.size)
    have HS3 : Hid (Shapes w3) := HS.out.on h1 hbb3
    have h13 := Nat.lt_of_lt_of_le h1 hbb3.size
    have HR3 : Hid (RdQ w3 (.slice a n cap) qs) := HR.out.on hbb3
    have HF3 := hid_of2 hr3
    have HP3 := hid_of2 ho3
    clear hp3 hr3 ho3 hb3 HS2 h12 HR2
    go_wp2_with fail
    refine (mplay_any _ qs (fuel + more) _ HS3 h13 HR3 HMY.out.ps HMY.out.len (by omega)).mono ?_
    intro e w4 hp4
    obtain ⟨hb4, a4, n4, k4, c4, fs4, rfl, hr4, ho4⟩ := play_out hp4
    have hbb4 := hbb3.trans (hb4.mono hbb3.size)
    have HF34 : Hid (RdF w4 (.slice a3 n3 k3) fs3) := HF3.out.on hb4
    have HF4 := hid_of2 hr4
    have HP4 := hid_of2 ho4
    clear hp4 hr4 ho4 hb4 HS3 h13 HR3
    go_wp2_with fail
    refine (number_any c3 _).mono ?_
    rintro e w5 ⟨rfl, rfl⟩
    by_cases h8 : c3 = 8
    · have b8 : ((c3 : Int) == 8) = true := by rw [beq_iff_eq]; omega
      have hn3 : n3 = 0 := by
        rcases HP3.out with ⟨h, _⟩ | ⟨_, _, h⟩
        · omega
        · obtain ⟨_, _, hv, _⟩ := HF3.out.shape
          simp only [Value.slice.injEq] at hv
          rw [hv.2.1, h]; rfl
      subst hn3
      clear h8
      go_wp2_with fail
      go_ret
      exact ⟨rfl, hbb4⟩
    · have b8 : ((c3 : Int) == 8) = false := by rw [beq_eq_false_iff_ne]; omega
      have hne : playR qs fuel ≠ .inr 8 := by
        intro h
        rcases HP3.out with ⟨_, h'⟩ | ⟨_, h', _⟩
        · rw [h] at h'; cases h'
        · rw [h] at h'; exact h8 (Sum.inr.inj h').symm
      have hP4 := HP4.out
      rw [playR_more HMY.out.ok (by omega) hne] at hP4
      obtain ⟨e1, e2⟩ := HP3.out.same hP4
      subst e1 e2
      obtain ⟨g1, g2⟩ := HP3.out.good
      have hcc : ((c4 : Int) == (c4 : Int)) = true := by simp
      clear h8 hne hP4
      go_wp2_with fail
      refine (number_any c4 _).mono ?_
      rintro e w6 ⟨rfl, rfl⟩
      go_wp2_with fail
      refine (number_any c4 _).mono ?_
      rintro e w7 ⟨rfl, rfl⟩
      go_wp2_with fail
      refine (sameFs_any _ _ fs4 _ (by omega) (frs_px g2) HF34 HF4).mono ?_
      rintro e w8 ⟨rfl, hb8⟩
      have hbb8 := hbb4.trans (hb8.mono hbb4.size)
      clear hb8
      go_wp2_with fail
      go_ret
      exact ⟨rfl, hbb8⟩
end Go.Proofs.YtbdgcomjhblnfaaDoor
