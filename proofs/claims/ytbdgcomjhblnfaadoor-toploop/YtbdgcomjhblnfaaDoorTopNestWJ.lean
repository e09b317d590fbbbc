/- Walk of the law TopNest. -/
import Derived.Test.YtbdgcomjhblnfaaDoorM10
import Derived.Test.YtbdgcomjhblnfaaDoorTopFuelWJ
namespace Go.Proofs.YtbdgcomjhblnfaaDoor
open Go.RowKit Go.Maps

@[reducible] def nestQ (a b d : Int) : List Pq := [hdQ 1 1, lpQ a, lpQ b, wtQ d, nxQ, nxQ, enQ]
theorem nest_may {a b d : Int} (h : bkC (nestQ a b d) = 0) : (0 ≤ a ∧ a ≤ 9) ∧ (0 ≤ b ∧ b ≤ 9) := by
  have hb := book_of h
  have h1 := hb.ok 1 (by simp)
  have h2 := hb.ok 2 (by simp)
  exact ⟨op_loop _ h1 rfl, op_loop _ h2 rfl⟩
set_option maxHeartbeats 8000000 in
set_option maxRecDepth 100000 in
theorem topNest_any (a b d : Int) (w : World) (HS : Hid (Shapes w)) (h1 : 0 < w.heap.size) :
    Calls Tryd.prog 12 #[.int .i64 a, .int .i64 b, .int .i64 d] w fun e w' => e = .returned (.bool true) ∧ Below w.heap.size w w' := by
  go_enter Tryd.func12, Tryd.ntmps12
  go_wp2_with fail
  refine (works_any _ HS h1).mono ?_
  rintro e w1 ⟨rfl, hb1⟩
  have hb0 : Below w1.heap.size w1 (w1.alloc (.cells (qrCells (litQ (nestQ a b d))).toArray 37)) := (Below.refl _ _).alloc (Nat.le_refl _) _
  have hbb0 := hb1.trans (hb0.mono hb1.size)
  have HR0 : Hid (RdQ (w1.alloc (.cells (qrCells (litQ (nestQ a b d))).toArray 37)) (.slice (some ⟨w1.heap.size, 0, none⟩) 7 7) (nestQ a b d)) := rd_lits (nestQ a b d) (by intro q hq; simp at hq; rcases hq with rfl | rfl | rfl | rfl | rfl | rfl <;> rfl) (by simp)
  have HS0 : Hid (Shapes (w1.alloc (.cells (qrCells (litQ (nestQ a b d))).toArray 37))) := HS.out.on h1 hbb0
  have h10 := Nat.lt_of_lt_of_le h1 hbb0.size
  have HMA := hid_of2 (may_any _ (nestQ a b d) _ HS0 h10 HR0)
  go_wp2_with fail
  refine HMA.out.mono ?_
  rintro e w2 ⟨bl, rfl, hm, hb2⟩
  have hbb2 := hbb0.trans (hb2.mono hbb0.size)
  have HR2 : Hid (RdQ w2 (.slice (some ⟨w1.heap.size, 0, none⟩) 7 7) (nestQ a b d)) := HR0.out.on hb2
  have HS2 : Hid (Shapes w2) := HS.out.on h1 hbb2
  have h12 := Nat.lt_of_lt_of_le h1 hbb2.size
  clear hb2 HMA HR0 HS0 h10 hb0
  cases bl with
  | false =>
    go_wp2_with fail
    go_ret
    exact ⟨rfl, hbb2⟩
  | true =>
    have HMY := hid_of2 (hm rfl)
    clear hm
    obtain ⟨⟨a1, a2⟩, b1, b2⟩ := nest_may HMY.out.ok
    obtain ⟨x, rfl⟩ : ∃ x : Nat, a = (x : Int) := ⟨_, (Int.toNat_of_nonneg a1).symm⟩
    obtain ⟨y, rfl⟩ : ∃ x : Nat, b = (x : Int) := ⟨_, (Int.toNat_of_nonneg b1).symm⟩
    obtain ⟨p, HXY⟩ : ∃ p, Hid (x * y = p) := ⟨_, (rfl : _ = _)⟩
    have hxy : (x : Int) * (y : Int) = (p : Int) := by rw [← HXY.out]; simp
    have hp : p ≤ 81 := by
      rw [← HXY.out]
      have := Nat.mul_le_mul (show x ≤ 9 by omega) (show y ≤ 9 by omega)
      omega
    by_cases h40 : 40 < p
    · have h40i : (40 : Int) < (p : Int) := by omega
      go_wp2_with fail
      go_ret
      exact ⟨rfl, hbb2⟩
    have h40i : ¬ (40 : Int) < (p : Int) := by omega
    obtain ⟨fs, hn1, hn2⟩ := told_nest x y d (by omega) (by rw [HXY.out]; omega)
    have HPL : Hid (playR (nestQ x y d) 400 = .inl fs) := by unfold Hid; rw [playR_ok HMY.out.ok]; exact hn1
    rw [HXY.out] at hn2
    have HN2 := hid_of2 hn2
    clear hn1 hn2
    go_wp2_with fail
    refine (mplay_any _ (nestQ x y d) 400 _ HS2 h12 HR2 HMY.out.ps HMY.out.len (by omega)).mono ?_
    intro e w3 hp3
    obtain ⟨hb3, a3, n3, k3, c3, fs3, rfl, hr3, ho3⟩ := play_out hp3
    have hbb3 := hbb2.trans (hb3.mono hbb2.size)
    rw [HPL.out] at ho3
    rcases ho3 with ⟨rfl, hfs⟩ | ⟨_, hfs, _⟩
    case inr => cases hfs
    obtain rfl := Sum.inl.inj hfs
    obtain ⟨_, _, hv, _⟩ := hr3.shape
    simp only [Value.slice.injEq] at hv
    have hn3 : n3 = p := by rw [hv.2.1, HN2.out]
    subst hn3
    have hpp : ((n3 : Int) == (n3 : Int)) = true := by simp
    clear hv hfs hr3 hp3 hb3
    rw [show errV 0 = Value.nilIface from rfl]
    go_wp2_with fail
    go_ret
    exact ⟨rfl, hbb3⟩
end Go.Proofs.YtbdgcomjhblnfaaDoor
