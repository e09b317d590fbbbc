/- Walk: the reference's EndOf. -/
import Derived.Test.YtceabiodelfdoaaDoorM11
namespace Go.Proofs.YtceabiodelfdoaaDoor
open Go.RowKit

set_option maxHeartbeats 8000000 in
set_option maxRecDepth 100000 in
theorem endOf_any (v : Value) (qs : List Pq) (p j : Nat) (w : World) (HR : Hid (RdQ w v qs)) (HBK : Hid (Book qs)) (HCL : Hid (Clo qs p j)) :
    Calls Tryd.prog 15 #[v, .int .i64 (p : Int)] w fun e w' => e = .returned (.int .i64 (j : Int)) ∧ w' = w := by
  obtain ⟨a, cap, hv, hl, hcap⟩ := HR.out.shape
  obtain ⟨n, HN⟩ : ∃ n, Hid (qs.length = n) := ⟨_, (rfl : _ = _)⟩
  rw [HN.out] at hv hl
  subst hv
  have hn60 : n ≤ 60 := by rw [← HN.out]; exact HBK.out.few
  have hjn : j < n := by rw [← HN.out]; exact HCL.out.on
  have hpj : p < j := HCL.out.lt
  have HD : Hid (∀ k, k ≤ n → 0 ≤ dep qs k ∧ dep qs k ≤ 3) := fun k hk => ⟨HBK.out.low k (by rw [HN.out]; exact hk), HBK.out.high k (by rw [HN.out]; exact hk)⟩
  obtain ⟨dp, HDP⟩ : ∃ d, Hid (dep qs p = d) := ⟨_, (rfl : _ = _)⟩
  go_enter Tryd.func15, Tryd.ntmps15
  go_wp2_with fail
  go_loopw [5, 6] (fun d i wr => ∃ (k : Nat) (D : Int), k ≤ j ∧ i = .int .i64 k ∧ d = .int .i64 D ∧ Hid (p ≤ k ∧ D = dep qs k - dp) ∧ wr = w) (fun _ i _ => n - (intOf i).toNat)
  case atStart => exact ⟨p, 0, by omega, rfl, rfl, ⟨Nat.le_refl _, by rw [HDP.out]; omega⟩, rfl⟩
  case round =>
    obtain ⟨k, D, hk, rfl, rfl, HDK, rfl⟩ := hrel
    have hlt : k < n := by omega
    have hki : (k : Int) < (n : Int) := by omega
    have hki0 : (0 : Int) ≤ (k : Int) := by omega
    have hlt' : k < qs.length := by rw [HN.out]; exact hlt
    have hd0 := HD.out k (by omega)
    have hd1 := HD.out (k + 1) (by omega)
    have hdp := HD.out p (by omega)
    rw [HDP.out] at hdp
    have hds := dep_succ qs k hlt'
    obtain ⟨q, HX⟩ : ∃ q, Hid (qs.getD k pq0 = q) := ⟨_, (rfl : _ = _)⟩
    rw [HX.out] at hds
    obtain ⟨dk, HDK2⟩ : ∃ d, Hid (dep qs k = d) := ⟨_, (rfl : _ = _)⟩
    obtain ⟨d1, HDK1⟩ : ∃ d, Hid (dep qs (k + 1) = d) := ⟨_, (rfl : _ = _)⟩
    rw [HDK2.out] at hds hd0 HDK
    rw [HDK1.out] at hds hd1
    have hDl : -3 ≤ D := by have := HDK.out.2; omega
    have hDh : D ≤ 3 := by have := HDK.out.2; omega
    have HJ : Hid (q.kind = 13 → d1 = dp → k = j) := fun _ h => by
      rcases Nat.lt_or_ge k j with h2 | h2
      · have h3 := HCL.out.over (k + 1) (by have := HDK.out.1; omega) (by omega)
        rw [HDK1.out, HDP.out] at h3
        omega
      · omega
    have HK : Hid (k = j → q.kind = 13 ∧ d1 = dp) := fun h => by
      subst h
      exact ⟨by rw [← HX.out]; exact HCL.out.next, by rw [← HDK1.out, ← HDP.out]; exact HCL.out.same⟩
    have HDS := hid_of2 hds
    have HDD : Hid (dk = D + dp) := by have := HDK.out.2; unfold Hid; omega
    have HPK : Hid (p ≤ k) := HDK.out.1
    obtain ⟨g, o, _, _, _, rfl, hg, OC, _, _⟩ := HR.out.at hlt HX
    obtain ⟨kd, qid, qa, qb, qc, qd, qw, qh, qp⟩ := q
    have c0 := OC.c0
    simp only at c0 HJ HK
    clear hds hd0 hd1 hdp HDK OC HX hlt'
    by_cases a1 : kd = 12
    · subst a1
      have hkj : k < j := by
        rcases Nat.lt_or_ge k j with h | h
        · exact h
        · have := (HK.out (by omega)).1; omega
      have HE : Hid (d1 = D + 1 + dp) := by have h1 := HDS.out; have h2 := HDD.out; unfold opn at h1; simp at h1; unfold Hid; omega
      go_wp2_with fail
      go_roundw
      case rel => exact ⟨k + 1, D + 1, by omega, by go_num, rfl, ⟨by have := HPK.out; omega, by rw [HDK1.out]; have := HE.out; omega⟩, by first | trivial | rfl⟩
      case measure => simp [intOf]; omega
    by_cases a2 : kd = 13
    · subst a2
      have HE : Hid (d1 = D - 1 + dp) := by have h1 := HDS.out; have h2 := HDD.out; unfold opn at h1; simp at h1; unfold Hid; omega
      by_cases hz : D = 1
      · have hkj : k = j := HJ.out rfl (by have := HE.out; omega)
        subst hz hkj
        go_wp2_with fail
        go_ret
        exact ⟨rfl, rfl⟩
      have hz0 : (D - 1 == 0) = false := by simp; omega
      have hkj : k < j := by
        rcases Nat.lt_or_ge k j with h | h
        · exact h
        · have := (HK.out (by omega)).2; have := HE.out; omega
      clear a1 hz
      go_wp2_with fail
      go_roundw
      case rel => exact ⟨k + 1, D - 1, by omega, by go_num, rfl, ⟨by have := HPK.out; omega, by rw [HDK1.out]; have := HE.out; omega⟩, by first | trivial | rfl⟩
      case measure => simp [intOf]; omega
    have b1 : (kd == 12) = false := by simpa using a1
    have b2 : (kd == 13) = false := by simpa using a2
    have hkj : k < j := by
      rcases Nat.lt_or_ge k j with h | h
      · exact h
      · exact absurd (HK.out (by omega)).1 a2
    have HE : Hid (d1 = D + dp) := by have h1 := HDS.out; have h2 := HDD.out; unfold opn at h1; rw [if_neg a1, if_neg a2] at h1; unfold Hid; omega
    clear a1 a2
    go_wp2_with fail
    go_roundw
    case rel => exact ⟨k + 1, D, by omega, by go_num, rfl, ⟨by have := HPK.out; omega, by rw [HDK1.out]; have := HE.out; omega⟩, by first | trivial | rfl⟩
    case measure => simp [intOf]; omega
end Go.Proofs.YtceabiodelfdoaaDoor
