/- Walks: cmp.Compare, objects.search. -/
import Derived.Test.YtkmolifgfbaboaaDoorOlA
namespace Go.Proofs.YtkmolifgfbaboaaDoor
open Go.RowKit

def cmpC (x y : Int) : Int := if x < y then -1 else if y < x then 1 else 0

set_option maxRecDepth 100000 in
theorem nan_any (x : Int) (w : World) : Calls Tryd.prog 54 #[.int .i64 x] w fun e w' => e = .returned (.bool false) ∧ w' = w := by
  have hx : (x != x) = false := by simp
  go_enter Tryd.func54, Tryd.ntmps54
  go_wp2_with fail
  go_ret
  exact ⟨rfl, rfl⟩

set_option maxRecDepth 100000 in
theorem compare_any (x y : Int) (w : World) (c : Int) (HC : Hid (cmpC x y = c)) : Calls Tryd.prog 49 #[.int .i64 x, .int .i64 y] w fun e w' => e = .returned (.int .i64 c) ∧ w' = w := by
  go_enter Tryd.func49, Tryd.ntmps49
  go_wp2_with fail
  refine (nan_any x w).mono ?_
  rintro e w1 ⟨rfl, rfl⟩
  go_wp2_with fail
  refine (nan_any y w1).mono ?_
  rintro e w2 ⟨rfl, rfl⟩
  have hc := HC.out
  unfold cmpC at hc
  by_cases h1 : x < y
  · rw [if_pos h1] at hc
    subst hc
    go_wp2_with fail
    go_ret
    exact ⟨rfl, rfl⟩
  · rw [if_neg h1] at hc
    by_cases h2 : y < x
    · rw [if_pos h2] at hc
      subst hc
      go_wp2_with fail
      go_ret
      exact ⟨rfl, rfl⟩
    · rw [if_neg h2] at hc
      subst hc
      go_wp2_with fail
      go_ret
      exact ⟨rfl, rfl⟩

set_option maxRecDepth 100000 in
theorem scmp_any (id x y pw ph : Int) (u : Value) (cx cy cw ch : Int) (sh : Bool) (t : Int) (w : World) (c : Int) (HC : Hid (cmpC id t = c)) :
    Calls Tryd.prog 48 #[objV id x y pw ph u cx cy cw ch sh, .int .i64 t] w fun e w' => e = .returned (.int .i64 c) ∧ Below w.heap.size w w' := by
  have hbz : Below w.heap.size w w := Below.refl _ _
  go_enter Tryd.func48, Tryd.ntmps48
  go_wp2_with fail
  refine (compare_any id t _ c HC).mono ?_
  rintro e w1 ⟨rfl, rfl⟩
  go_wp2_with fail
  go_ret
  exact ⟨rfl, hbz.alloc hbz.size _⟩

def SortO (os : List Po) : Prop := ∀ i j, i < j → j < os.length → (os.getD i po0).id < (os.getD j po0).id

/-- where a number stands, or would -/
structure SrchR (os : List Po) (t : Int) (i : Nat) : Prop where
  le : i ≤ os.length
  lo : ∀ j, j < i → (os.getD j po0).id < t
  hi : ∀ j, i ≤ j → j < os.length → t ≤ (os.getD j po0).id

def SrchP (os : List Po) (t : Int) (w : World) (e : Ending) (w' : World) : Prop :=
  ∃ i b, e = .returned (.tuple #[.int .i64 ((i : Nat) : Int), .bool b]) ∧ SrchR os t i ∧ (b = true ↔ i < os.length ∧ (os.getD i po0).id = t) ∧ Below w.heap.size w w'

theorem wp_shr {P : Program} {o : Oper} {a : Act} {w : World} {K : Act → World → Prop} {Q : Exit → Act → World → Prop} (t : TypeId) (x y : Operand) (u : TypeId) (ho : o.op = .binOp .shr t x y u) (vx vy v : Value)
    (hx : a.eval x = vx) (hy : a.eval y = vy) (hr : (binOp .shr t vx vy).run P w = .ok v w) (hK : K (a.put o.dst v) w) : Oper.wp P o a w K Q := by
  unfold Oper.wp execOp
  simp only [ho, hx, hy, eqGuard_shr, Sem.run_bind, Sem.run_pure, Result.andThen_ok, hr]
  exact hK

set_option maxHeartbeats 2000000 in
set_option maxRecDepth 100000 in
theorem bsearch_any (v : Value) (os : List Po) (t : Int) (w : World) (hos : os.length ≤ 1000) (HS : Hid (SortO os)) (HR : Hid (RdO w v os)) :
    Calls Tryd.prog 47 #[v, .int .i64 t, .func (.func 48) #[] #[]] w fun e w' => SrchP os t w e w' := by
  obtain ⟨a, cap, hv, hl, hcap⟩ := HR.out.shape
  obtain ⟨n, HN⟩ : ∃ n, Hid (os.length = n) := ⟨_, (rfl : _ = _)⟩
  rw [HN.out] at hv hl hos
  subst hv
  have hbz : Below w.heap.size w w := Below.refl _ _
  go_enter Tryd.func47, Tryd.ntmps47
  go_wp2_with fail
  go_loopw [9, 10] (fun x y wr => ∃ i j : Nat, x = .int .i64 (i : Int) ∧ y = .int .i64 (j : Int) ∧ i ≤ j ∧ j ≤ n ∧ Hid (∀ k, k < i → (os.getD k po0).id < t) ∧ Hid (∀ k, j ≤ k → k < os.length → t ≤ (os.getD k po0).id) ∧ Below w.heap.size w wr) (fun x y _ => (intOf y).toNat - (intOf x).toNat)
  case atStart => exact ⟨0, n, rfl, rfl, by omega, by omega, fun k hk => by omega, fun k h1 h2 => by rw [HN.out] at h2; omega, hbz⟩
  case round =>
    obtain ⟨i, j, rfl, rfl, hij, hjn, LO, HI, hbr⟩ := hrel
    by_cases hlt : i < j
    · obtain ⟨h, hh⟩ : ∃ h, h = (i + j) / 2 := ⟨_, rfl⟩
      have h1 : i ≤ h := by omega
      have h2 : h < j := by omega
      have hhn : h < n := by omega
      have hmid : ((i : Int) + (j : Int)) / 2 = (h : Int) := by omega
      have hshr : Op.shift .shr .u64 ((i : Int) + (j : Int)) .u64 1 = pure (.int .u64 (h : Int)) := by
        rw [shift_shr .u64 .u64 ((i : Int) + (j : Int)) 1 (by decide) (by decide), show (1 : Int).toNat = 1 from rfl, Int.pow_succ, Int.pow_zero, Int.one_mul, hmid]
      have hshr2 : ∀ X, (binOp .shr 90 (.int .u64 ((i : Int) + (j : Int))) (.int .u64 1)).run Tryd.prog X = .ok (.int .u64 (h : Int)) X := by
        intro X
        rw [binOp_shr, hshr]
        rfl
      obtain ⟨o, HX⟩ : ∃ o, Hid (os.getD h po0 = o) := ⟨_, (rfl : _ = _)⟩
      obtain ⟨g, p, ua, q, uc, rfl, hg, OC, HU, HM⟩ := (HR.out.on hbr).at hhn HX
      obtain ⟨c0, c1, c2, c3, c4, c5, c6, c7, c8, c9, c10⟩ := OC
      obtain ⟨id, x, y, pw, ph, ps, cx, cy, cw, ch, sh⟩ := o
      simp only at c0 c1 c2 c3 c4 c5 c6 c7 c8 c9 c10 HU HM
      obtain ⟨c, HC⟩ : ∃ c, Hid (cmpC id t = c) := ⟨_, (rfl : _ = _)⟩
      go_wp2_with fail
      refine wp_shr _ _ _ _ rfl _ _ _ rfl rfl (hshr2 _) ?_
      simp only [Act.put, List.setIfInBounds_toArray, List.set_cons_zero, List.set_cons_succ]
      clear hshr hshr2 hmid hh
      have hh0 : (0 : Int) ≤ (h : Int) := by omega
      have hh1 : (h : Int) < (n : Int) := by omega
      go_wp2_with fail
      refine (scmp_any id x y pw ph _ cx cy cw ch sh t _ c HC).mono ?_
      rintro e w1 ⟨rfl, hb1⟩
      have hbb1 : Below w.heap.size w w1 := hbr.trans (hb1.mono hbr.size)
      by_cases hc : id < t
      · have : c = -1 := by rw [← HC.out]; unfold cmpC; rw [if_pos hc]
        subst this
        have LO2 : Hid (∀ k, k < h + 1 → (os.getD k po0).id < t) := by
          intro k hk
          rcases Nat.lt_or_ge k h with h3 | h3
          · have := HS.out k h h3 (by rw [HN.out]; exact hhn)
            rw [HX.out] at this
            simp only at this
            omega
          · have : k = h := by omega
            subst this
            rw [HX.out]
            exact hc
        go_wp2_with fail
        go_roundw
        case rel => exact ⟨h + 1, j, by go_num, rfl, by omega, hjn, LO2, HI, hbb1⟩
        case measure => simp [intOf]; omega
      · have hc0 : 0 ≤ c := by rw [← HC.out]; unfold cmpC; rw [if_neg hc]; split <;> omega
        have hc1 : ¬ c < 0 := by omega
        have HI2 : Hid (∀ k, h ≤ k → k < os.length → t ≤ (os.getD k po0).id) := by
          intro k h3 h4
          rcases Nat.lt_or_ge h k with h5 | h5
          · have := HS.out h k h5 h4
            rw [HX.out] at this
            simp only at this
            omega
          · have : k = h := by omega
            subst this
            rw [HX.out]
            simp only
            omega
        go_wp2_with fail
        go_roundw
        case rel => exact ⟨i, h, rfl, rfl, by omega, by omega, LO, HI2, hbb1⟩
        case measure => simp [intOf]; omega
    · have hij2 : i = j := by omega
      subst hij2
      have HSR : Hid (SrchR os t i) := ⟨by rw [HN.out]; exact hjn, LO.out, HI.out⟩
      by_cases hin : i < n
      · obtain ⟨o, HX⟩ : ∃ o, Hid (os.getD i po0 = o) := ⟨_, (rfl : _ = _)⟩
        obtain ⟨g, p, ua, q, uc, rfl, hg, OC, HU, HM⟩ := (HR.out.on hbr).at hin HX
        obtain ⟨id, x, y, pw, ph, ps, cx, cy, cw, ch, sh⟩ := o
        obtain ⟨c, HC⟩ : ∃ c, Hid (cmpC id t = c) := ⟨_, (rfl : _ = _)⟩
        have HBB : Hid ((c == 0) = true ↔ i < os.length ∧ (os.getD i po0).id = t) := by
          unfold Hid
          rw [HX.out, HN.out, ← HC.out]
          unfold cmpC
          simp only [beq_iff_eq]
          constructor
          · intro e
            refine ⟨hin, ?_⟩
            split at e
            · omega
            · split at e <;> omega
          · rintro ⟨_, e⟩
            rw [if_neg (by omega), if_neg (by omega)]
        obtain ⟨c0, c1, c2, c3, c4, c5, c6, c7, c8, c9, c10⟩ := OC
        simp only at c0 c1 c2 c3 c4 c5 c6 c7 c8 c9 c10
        have hi0 : (0 : Int) ≤ (i : Int) := by omega
        have hi1 : (i : Int) < (n : Int) := by omega
        go_wp2_with fail
        refine (scmp_any id x y pw ph _ cx cy cw ch sh t _ c HC).mono ?_
        rintro e w1 ⟨rfl, hb1⟩
        have hbb1 : Below w.heap.size w w1 := hbr.trans (hb1.mono hbr.size)
        go_wp2_with fail
        go_ret2
        exact ⟨i, c == 0, rfl, HSR.out, HBB.out, hbb1⟩
      · have hin2 : ¬ (i : Int) < (n : Int) := by omega
        go_wp2_with fail
        go_ret2
        exact ⟨i, false, rfl, HSR.out, by rw [HN.out]; simp; intro h; omega, hbr⟩

set_option maxRecDepth 100000 in
theorem search_any (v : Value) (os : List Po) (t : Int) (w : World) (hos : os.length ≤ 1000) (HS : Hid (SortO os)) (HR : Hid (RdO w v os)) :
    Calls Tryd.prog 26 #[v, .int .i64 t] w fun e w' => SrchP os t w e w' := by
  obtain ⟨a, cap, hv, _, _⟩ := HR.out.shape
  subst hv
  go_enter Tryd.func26, Tryd.ntmps26
  go_wp2_with fail
  refine (bsearch_any _ os t _ hos HS HR).mono ?_
  rintro e w1 ⟨i, b, rfl, h1, h2, h3⟩
  go_wp2_with fail
  go_ret2
  exact ⟨i, b, rfl, h1, h2, h3⟩
end Go.Proofs.YtkmolifgfbaboaaDoor
