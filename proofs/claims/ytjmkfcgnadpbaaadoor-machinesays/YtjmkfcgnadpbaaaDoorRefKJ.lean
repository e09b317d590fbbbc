/- Walk: the reference's BookFault. -/
import Derived.Test.YtjmkfcgnadpbaaaDoorM9
import Derived.Test.YtjmkfcgnadpbaaaDoorRefPfJ
import Derived.Test.YtjmkfcgnadpbaaaDoorRfEqJ
namespace Go.Proofs.YtjmkfcgnadpbaaaDoor
open Go.RowKit

set_option maxHeartbeats 8000000 in
set_option maxRecDepth 100000 in
theorem bookFault_any (v : Value) (qs : List Pq) (w : World) (HR : Hid (RdQ w v qs)) (hps : ∀ j, j < qs.length → (qs.getD j pq0).ps.length ≤ 1000) (hnq : qs.length ≤ 1000) (c : Nat) (HC : Hid (bkC qs = c)) :
    Calls Tryd.prog 11 #[v] w fun e w' => e = .returned (.int .i64 (c : Int)) ∧ Below w.heap.size w w' := by
  obtain ⟨a, cap, hv, hl, hcap⟩ := HR.out.shape
  have HPS : Hid (∀ j, j < qs.length → (qs.getD j pq0).ps.length ≤ 1000) := hps
  obtain ⟨n, HN⟩ : ∃ n, Hid (qs.length = n) := ⟨_, (rfl : _ = _)⟩
  rw [HN.out] at hv hl hnq
  clear hps
  subst hv
  have HC1 := HC
  unfold bkC at HC1
  rw [HN.out] at HC1
  have hbw : Below w.heap.size w w := Below.refl _ _
  by_cases hn2 : n < 2
  · have hc3 : c = 3 := by have := HC1.out; rw [if_pos (.inl hn2)] at this; exact this.symm
    subst hc3
    have hn2i : (n : Int) < 2 := by omega
    clear HC1 HC
    go_enter Tryd.func11, Tryd.ntmps11
    go_wp2_with fail
    go_ret
    exact ⟨rfl, hbw⟩
  have hn2i : ¬ (n : Int) < 2 := by omega
  obtain ⟨z0, HX0⟩ : ∃ x, Hid (qs.getD 0 pq0 = x) := ⟨_, (rfl : _ = _)⟩
  obtain ⟨zl, HXL⟩ : ∃ x, Hid (qs.getD (n - 1) pq0 = x) := ⟨_, (rfl : _ = _)⟩
  rw [HX0.out, HXL.out] at HC1
  obtain ⟨g, o, _, _, _, ha, hg, OC0, _, _⟩ := HR.out.at (k := 0) (by omega) HX0
  obtain ⟨g', o', _, _, _, ha', _, OCL, _, _⟩ := HR.out.at (k := n - 1) (by omega) HXL
  rw [ha] at ha'
  simp only [Option.some.injEq, Addr.mk.injEq, and_true] at ha'
  obtain ⟨rfl, rfl⟩ := ha'
  subst ha
  have k0 := OC0.c0
  have kl := OCL.c0
  rw [Nat.zero_mul, Nat.add_zero] at k0
  clear OC0 OCL
  have hw1 : IntKind.i64.wrap ((n : Int) - 1) = ((n - 1 : Nat) : Int) := by rw [wrap_s (by omega) (by omega)]; omega
  obtain ⟨m, HM⟩ : ∃ m, Hid (n - 1 = m) := ⟨_, (rfl : _ = _)⟩
  rw [HM.out] at hw1 kl
  have hmn : m < n := by have := HM.out; omega
  have hi1 : (0 : Int) ≤ (m : Int) := by omega
  have hi2 : (m : Int) < (n : Int) := by omega
  have hi3 : (0 : Int) < (n : Int) := by omega
  have hmn1 : Hid (m + 1 = n) := by have := HM.out; unfold Hid; omega
  by_cases hz0 : z0.kind = 1
  case neg =>
    have b0 : (z0.kind != 1) = true := by simpa using hz0
    have hc3 : c = 3 := by have := HC1.out; rw [if_pos (.inr (.inl hz0))] at this; exact this.symm
    subst hc3
    clear HC1 HC hz0
    go_enter Tryd.func11, Tryd.ntmps11
    go_wp2_with fail
    go_ret
    exact ⟨rfl, hbw⟩
  have b0 : (z0.kind != 1) = false := by simpa using hz0
  by_cases hzl : zl.kind = 16
  case neg =>
    have b1 : (zl.kind != 16) = true := by simpa using hzl
    have hc3 : c = 3 := by have := HC1.out; rw [if_pos (.inr (.inr hzl))] at this; exact this.symm
    subst hc3
    clear HC1 HC hzl hz0
    go_enter Tryd.func11, Tryd.ntmps11
    go_wp2_with fail
    go_ret
    exact ⟨rfl, hbw⟩
  have b1 : (zl.kind != 16) = false := by simpa using hzl
  rw [if_neg (by omega)] at HC1
  have HZ0 := hid_of2 hz0
  have HZL := hid_of2 hzl
  clear hz0 hzl
  by_cases hn60 : 60 < n
  · have hc2 : c = 2 := by have := HC1.out; rw [if_pos hn60] at this; exact this.symm
    subst hc2
    have hn60i : (60 : Int) < (n : Int) := by omega
    clear HC1 HC
    go_enter Tryd.func11, Tryd.ntmps11
    go_wp2_with fail
    go_ret
    exact ⟨rfl, hbw⟩
  rw [if_neg hn60] at HC1
  have hn60i : ¬ (60 : Int) < (n : Int) := by omega
  have HC2 : Hid (bkR n 0 (dep qs 0) (qs.drop 0) = c) := by unfold Hid; rw [dep_zero]; exact HC1.out
  clear HC1 HC
  have HD : Hid (∀ k, k ≤ n → -60 ≤ dep qs k ∧ dep qs k ≤ 60) := by
    have : ∀ k, k ≤ qs.length → -(k : Int) ≤ dep qs k ∧ dep qs k ≤ k := by
      intro k
      induction k with
      | zero => intro _; rw [dep_zero]; omega
      | succ k ih =>
        intro hk
        have := ih (by omega)
        rw [dep_succ qs k (by omega)]
        rcases opn_cases (qs.getD k pq0) with ⟨_, h2⟩ | ⟨_, h2⟩ | ⟨_, _, h2⟩ <;> omega
    rw [HN.out] at this
    intro k hk
    have := this k hk
    omega
  go_enter Tryd.func11, Tryd.ntmps11
  go_wp2_with fail
  clear k0 kl hi1 hi2 hi3
  go_loopw [4, 5, 6] (fun d i _ wr => ∃ k : Nat, k ≤ n ∧ i = .int .i64 k ∧ d = .int .i64 (dep qs k) ∧ Hid (bkR n k (dep qs k) (qs.drop k) = c) ∧ Below w.heap.size w wr) (fun _ i _ _ => n - (intOf i).toNat)
  case atStart => exact ⟨0, by omega, rfl, by rw [dep_zero], HC2, Below.refl _ _⟩
  case round =>
    obtain ⟨k, hk, rfl, rfl, HCK, hbr⟩ := hrel
    by_cases hlt : k < n
    · have hlt' : k < qs.length := by rw [HN.out]; exact hlt
      obtain ⟨hdl, hdh⟩ := HD.out k hk
      have hds := dep_succ qs k hlt'
      rw [getD_drop qs k hlt'] at HCK
      obtain ⟨q, HX⟩ : ∃ q, Hid (qs.getD k pq0 = q) := ⟨_, (rfl : _ = _)⟩
      have hpl : q.ps.length ≤ 1000 := by rw [← HX.out]; exact HPS.out k hlt'
      rw [HX.out] at HCK hds
      obtain ⟨d, HDK⟩ : ∃ d, Hid (dep qs k = d) := ⟨_, (rfl : _ = _)⟩
      obtain ⟨d1, HDK1⟩ : ∃ d, Hid (dep qs (k + 1) = d) := ⟨_, (rfl : _ = _)⟩
      rw [HDK.out] at HCK hds hdl hdh ⊢
      rw [HDK1.out] at hds
      have HDS : Hid (d1 = d + opn q) := hds
      clear hds
      obtain ⟨g', o', ua, mu, uc, ha', hg', OC, HU, HMU⟩ := (HR.out.on hbr).at hlt HX
      simp only [Option.some.injEq, Addr.mk.injEq, and_true] at ha'
      obtain ⟨rfl, rfl⟩ := ha'
      have HK0 : Hid (k = 0 → q.kind = 1) := fun h => by subst h; rw [← HX.out, HX0.out]; exact HZ0.out
      have HKL : Hid (k = m → q.kind = 16) := fun h => by subst h; rw [← HX.out, ← HM.out, HXL.out]; exact HZL.out
      obtain ⟨kd, qid, qa, qb, qc, qd, qw, qh, qp⟩ := q
      obtain ⟨c0, c1, c2, c3, c4, c5, c6, c7, c8⟩ := OC
      simp only at c0 c1 c2 c3 c4 c5 c6 c7 c8 HU HMU hpl HK0 HKL
      have hki0 : (0 : Int) ≤ (k : Int) := by omega
      have hki1 : (k : Int) < (n : Int) := by omega
      obtain ⟨cc, HCC⟩ : ∃ cc, Hid (opC ⟨kd, qid, qa, qb, qc, qd, qw, qh, qp⟩ = cc) := ⟨_, (rfl : _ = _)⟩
      have hof := opf_any ⟨kd, qid, qa, qb, qc, qd, qw, qh, qp⟩ (.slice ua mu uc) wr (by simp only; omega) HU
      unfold OpfP at hof
      rw [rf_eq, HCC.out] at hof
      simp only [opV] at hof
      clear hlt' HX
      go_wp2_with fail
      refine hof.mono ?_
      clear hof
      rintro e w2 ⟨rfl, hb2⟩
      have hbb := hbr.trans (hb2.mono hbr.size)
      have c0 := (hb2.cell (p := ⟨g, o + k * 9, none⟩) hg').trans c0
      clear hb2
      have HCK1 := HCK
      unfold bkR at HCK1
      rw [HCC.out] at HCK1
      by_cases hcc : cc = 0
      case neg =>
        have hccp : (0 : Int) < (cc : Int) := by omega
        obtain rfl : cc = c := by have := HCK1.out; rw [if_pos hcc] at this; exact this
        clear HCK HCK1
        go_wp2_with fail
        go_ret
        exact ⟨rfl, hbb⟩
      subst hcc
      rw [if_neg (by omega)] at HCK1
      simp only at HCK1
      have hcc0 : ¬ (0 : Int) < ((0 : Nat) : Int) := by omega
      clear HCK
      by_cases a1 : kd = 1
      · subst a1
        by_cases hk0 : k = 0
        case neg =>
          have hkp : (0 : Int) < (k : Int) := by omega
          have hc3 : c = 3 := by have := HCK1.out; rw [if_pos (.inl (by simp [hk0]))] at this; exact this.symm
          subst hc3
          clear HCK1 hk0
          go_wp2_with fail
          go_ret
          exact ⟨rfl, hbb⟩
        have hkp : ¬ (0 : Int) < (k : Int) := by omega
        have hkn : ¬ k + 1 = n := by have := hmn1.out; omega
        have HON : Hid (opn ⟨1, qid, qa, qb, qc, qd, qw, qh, qp⟩ = 0) := rfl
        rw [HON.out] at HCK1 HDS
        rw [if_neg (by rintro (h | h); exact h (by simp [hk0]); exact h (by simp [hkn]))] at HCK1
        have hkp2 : ¬ 0 < k := by omega
        clear hk0 hkn HK0 HKL
        have HCK2 : Hid ((if d + 0 < 0 then 3 else if 3 < d + 0 then 2 else bkR n (k + 1) (d + 0) (qs.drop (k + 1))) = c) := HCK1
        clear HCK1
        by_cases hlo : d + 0 < 0
        · have hc3 : c = 3 := by have := HCK2.out; rw [if_pos hlo] at this; exact this.symm
          subst hc3
          clear HCK2
          have hlo2 : d < 0 := by omega
          go_wp2_with fail
          go_ret
          exact ⟨rfl, hbb⟩
        rw [if_neg hlo] at HCK2
        by_cases hhi : 3 < d + 0
        · have hc3 : c = 2 := by have := HCK2.out; rw [if_pos hhi] at this; exact this.symm
          subst hc3
          clear HCK2
          have hhi2 : 3 < d := by omega
          have hlo2 : ¬ d < 0 := by omega
          go_wp2_with fail
          go_ret
          exact ⟨rfl, hbb⟩
        rw [if_neg hhi] at HCK2
        have hhi2 : ¬ 3 < d := by omega
        have hlo2 : ¬ d < 0 := by omega
        have HD1 : Hid (d1 = d + 0) := HDS.out
        go_wp2_with fail
        go_roundw
        case rel => exact ⟨k + 1, by omega, by go_num, (congrArg (Value.int .i64) (show d = dep qs (k + 1) by have h1 := HDK1.out; have h2 := HD1.out; omega)), by rw [HDK1.out, HD1.out]; exact HCK2, hbb⟩
        case measure => simp [intOf]; omega
      by_cases a2 : kd = 16
      · subst a2
        by_cases hkl : k + 1 = n
        case neg =>
          have hkp : (k : Int) < (m : Int) := by have := hmn1.out; omega
          have hc3 : c = 3 := by have := HCK1.out; rw [if_pos (.inr (by simp [hkl]))] at this; exact this.symm
          subst hc3
          clear HCK1 hkl
          go_wp2_with fail
          go_ret
          exact ⟨rfl, hbb⟩
        have hkp : ¬ (k : Int) < (m : Int) := by have := hmn1.out; omega
        have hk0 : ¬ k = 0 := by omega
        have HON : Hid (opn ⟨16, qid, qa, qb, qc, qd, qw, qh, qp⟩ = 0) := rfl
        rw [HON.out] at HCK1 HDS
        rw [if_neg (by rintro (h | h); exact h (by simp [hk0]); exact h (by simp [hkl]))] at HCK1
        clear hk0 hkl HK0 HKL
        have HCK2 : Hid ((if d + 0 < 0 then 3 else if 3 < d + 0 then 2 else bkR n (k + 1) (d + 0) (qs.drop (k + 1))) = c) := HCK1
        clear HCK1
        by_cases hlo : d + 0 < 0
        · have hc3 : c = 3 := by have := HCK2.out; rw [if_pos hlo] at this; exact this.symm
          subst hc3
          clear HCK2
          have hlo2 : d < 0 := by omega
          go_wp2_with fail
          go_ret
          exact ⟨rfl, hbb⟩
        rw [if_neg hlo] at HCK2
        by_cases hhi : 3 < d + 0
        · have hc3 : c = 2 := by have := HCK2.out; rw [if_pos hhi] at this; exact this.symm
          subst hc3
          clear HCK2
          have hhi2 : 3 < d := by omega
          have hlo2 : ¬ d < 0 := by omega
          go_wp2_with fail
          go_ret
          exact ⟨rfl, hbb⟩
        rw [if_neg hhi] at HCK2
        have hhi2 : ¬ 3 < d := by omega
        have hlo2 : ¬ d < 0 := by omega
        have HD1 : Hid (d1 = d + 0) := HDS.out
        go_wp2_with fail
        go_roundw
        case rel => exact ⟨k + 1, by omega, by go_num, (congrArg (Value.int .i64) (show d = dep qs (k + 1) by have h1 := HDK1.out; have h2 := HD1.out; omega)), by rw [HDK1.out, HD1.out]; exact HCK2, hbb⟩
        case measure => simp [intOf]; omega
      have b1 : (kd == 1) = false := by simpa using a1
      have b2 : (kd == 16) = false := by simpa using a2
      have hk0 : ¬ k = 0 := fun h => a1 (HK0.out h)
      have hkn : ¬ k + 1 = n := fun h => a2 (HKL.out (by have := hmn1.out; omega))
      have HCN : Hid (¬ (decide (kd = 1) ≠ decide (k = 0) ∨ decide (kd = 16) ≠ decide (k + 1 = n))) := by unfold Hid; simp [a1, a2, hk0, hkn]
      rw [if_neg HCN.out] at HCK1
      clear HCN HK0 HKL hk0 hkn a1 a2
      by_cases a3 : kd = 12
      · subst a3
        have HON : Hid (opn ⟨12, qid, qa, qb, qc, qd, qw, qh, qp⟩ = 1) := rfl
        rw [HON.out] at HCK1 HDS
        have HCK2 : Hid ((if d + 1 < 0 then 3 else if 3 < d + 1 then 2 else bkR n (k + 1) (d + 1) (qs.drop (k + 1))) = c) := HCK1
        clear HCK1
        by_cases hlo : d + 1 < 0
        · have hc3 : c = 3 := by have := HCK2.out; rw [if_pos hlo] at this; exact this.symm
          subst hc3
          clear HCK2
          have hlo2 : (d + 1) < 0 := by omega
          go_wp2_with fail
          go_ret
          exact ⟨rfl, hbb⟩
        rw [if_neg hlo] at HCK2
        by_cases hhi : 3 < d + 1
        · have hc3 : c = 2 := by have := HCK2.out; rw [if_pos hhi] at this; exact this.symm
          subst hc3
          clear HCK2
          have hhi2 : 3 < (d + 1) := by omega
          have hlo2 : ¬ (d + 1) < 0 := by omega
          go_wp2_with fail
          go_ret
          exact ⟨rfl, hbb⟩
        rw [if_neg hhi] at HCK2
        have hhi2 : ¬ 3 < (d + 1) := by omega
        have hlo2 : ¬ (d + 1) < 0 := by omega
        have HD1 : Hid (d1 = d + 1) := HDS.out
        go_wp2_with fail
        go_roundw
        case rel => exact ⟨k + 1, by omega, by go_num, (congrArg (Value.int .i64) (show (d + 1) = dep qs (k + 1) by have h1 := HDK1.out; have h2 := HD1.out; omega)), by rw [HDK1.out, HD1.out]; exact HCK2, hbb⟩
        case measure => simp [intOf]; omega
      by_cases a4 : kd = 13
      · subst a4
        have HON : Hid (opn ⟨13, qid, qa, qb, qc, qd, qw, qh, qp⟩ = (-1)) := rfl
        rw [HON.out] at HCK1 HDS
        have HCK2 : Hid ((if d + (-1) < 0 then 3 else if 3 < d + (-1) then 2 else bkR n (k + 1) (d + (-1)) (qs.drop (k + 1))) = c) := HCK1
        clear HCK1
        by_cases hlo : d + (-1) < 0
        · have hc3 : c = 3 := by have := HCK2.out; rw [if_pos hlo] at this; exact this.symm
          subst hc3
          clear HCK2
          have hlo2 : (d - 1) < 0 := by omega
          go_wp2_with fail
          go_ret
          exact ⟨rfl, hbb⟩
        rw [if_neg hlo] at HCK2
        by_cases hhi : 3 < d + (-1)
        · have hc3 : c = 2 := by have := HCK2.out; rw [if_pos hhi] at this; exact this.symm
          subst hc3
          clear HCK2
          have hhi2 : 3 < (d - 1) := by omega
          have hlo2 : ¬ (d - 1) < 0 := by omega
          go_wp2_with fail
          go_ret
          exact ⟨rfl, hbb⟩
        rw [if_neg hhi] at HCK2
        have hhi2 : ¬ 3 < (d - 1) := by omega
        have hlo2 : ¬ (d - 1) < 0 := by omega
        have HD1 : Hid (d1 = d + (-1)) := HDS.out
        go_wp2_with fail
        go_roundw
        case rel => exact ⟨k + 1, by omega, by go_num, (congrArg (Value.int .i64) (show (d - 1) = dep qs (k + 1) by have h1 := HDK1.out; have h2 := HD1.out; omega)), by rw [HDK1.out, HD1.out]; exact HCK2, hbb⟩
        case measure => simp [intOf]; omega
      have b3 : (kd == 12) = false := by simpa using a3
      have b4 : (kd == 13) = false := by simpa using a4
      have HON : Hid (opn ⟨kd, qid, qa, qb, qc, qd, qw, qh, qp⟩ = 0) := by unfold Hid opn; rw [if_neg a3, if_neg a4]
      rw [HON.out] at HCK1 HDS
      have HCK2 : Hid ((if d + 0 < 0 then 3 else if 3 < d + 0 then 2 else bkR n (k + 1) (d + 0) (qs.drop (k + 1))) = c) := HCK1
      clear HCK1 a3 a4
      by_cases hlo : d + 0 < 0
      · have hc3 : c = 3 := by have := HCK2.out; rw [if_pos hlo] at this; exact this.symm
        subst hc3
        clear HCK2
        have hlo2 : d < 0 := by omega
        go_wp2_with fail
        go_ret
        exact ⟨rfl, hbb⟩
      rw [if_neg hlo] at HCK2
      by_cases hhi : 3 < d + 0
      · have hc3 : c = 2 := by have := HCK2.out; rw [if_pos hhi] at this; exact this.symm
        subst hc3
        clear HCK2
        have hhi2 : 3 < d := by omega
        have hlo2 : ¬ d < 0 := by omega
        go_wp2_with fail
        go_ret
        exact ⟨rfl, hbb⟩
      rw [if_neg hhi] at HCK2
      have hhi2 : ¬ 3 < d := by omega
      have hlo2 : ¬ d < 0 := by omega
      have HD1 : Hid (d1 = d + 0) := HDS.out
      go_wp2_with fail
      go_roundw
      case rel => exact ⟨k + 1, by omega, by go_num, (congrArg (Value.int .i64) (show d = dep qs (k + 1) by have h1 := HDK1.out; have h2 := HD1.out; omega)), by rw [HDK1.out, HD1.out]; exact HCK2, hbb⟩
      case measure => simp [intOf]; omega
    · obtain rfl : k = n := by omega
      have hki : ¬ (k : Int) < (k : Int) := by omega
      rw [List.drop_of_length_le (by rw [HN.out]; exact Nat.le_refl _)] at HCK
      have HCK1 := HCK
      unfold bkR at HCK1
      obtain ⟨d, HDK⟩ : ∃ d, Hid (dep qs k = d) := ⟨_, (rfl : _ = _)⟩
      rw [HDK.out] at HCK1 ⊢
      by_cases hd0 : 0 < d
      · have hc3 : c = 3 := by have := HCK1.out; rw [if_pos hd0] at this; exact this.symm
        subst hc3
        clear HCK HCK1
        go_wp2_with fail
        go_ret
        exact ⟨rfl, hbr⟩
      · have hc3 : c = 0 := by have := HCK1.out; rw [if_neg hd0] at this; exact this.symm
        subst hc3
        clear HCK HCK1
        go_wp2_with fail
        go_ret
        exact ⟨rfl, hbr⟩
end Go.Proofs.YtjmkfcgnadpbaaaDoor
