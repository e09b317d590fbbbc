/- Walks: reel.Length, reel.At and the document's. -/
import Derived.Test.YtnjnelfmfijgjadFrA
namespace Go.Proofs.Ytnjnelfmfijgjad
open Go.RowKit

def lenF : List Pf → Int
  | [] => 0
  | f :: r => f.d + lenF r

structure GoodF (fs : List Pf) : Prop where
  low : ∀ f ∈ fs, 0 ≤ f.d
  up : lenF fs ≤ 1000000
  many : fs.length ≤ 1000
  pix : ∀ f ∈ fs, f.ps.length ≤ 80

theorem lenF_app : ∀ a b : List Pf, lenF (a ++ b) = lenF a + lenF b
  | [], b => by simp [lenF]
  | f :: r, b => by simp only [List.cons_append, lenF, lenF_app r b]; omega
theorem lenF_nonneg : ∀ a : List Pf, (∀ f ∈ a, 0 ≤ f.d) → 0 ≤ lenF a
  | [], _ => by simp [lenF]
  | f :: r, h => by
    have h1 := h f (by simp)
    have h2 := lenF_nonneg r (fun g hg => h g (by simp [hg]))
    simp only [lenF]
    omega
theorem getD_mem {fs : List Pf} {k : Nat} (h : k < fs.length) : fs.getD k pf0 ∈ fs := by
  rw [List.getD_eq_getElem?_getD, List.getElem?_eq_getElem h]
  simp
theorem take_next {fs : List Pf} {k : Nat} (h : k < fs.length) : fs.take (k + 1) = fs.take k ++ [fs.getD k pf0] := by
  rw [List.take_succ_eq_append_getElem h, List.getD_eq_getElem?_getD, List.getElem?_eq_getElem h]
  simp
theorem lenF_take {fs : List Pf} (hg : GoodF fs) (k : Nat) : 0 ≤ lenF (fs.take k) ∧ lenF (fs.take k) ≤ 1000000 := by
  have h1 := lenF_nonneg (fs.take k) (fun f hf => hg.low f (List.mem_of_mem_take hf))
  have h2 := lenF_nonneg (fs.drop k) (fun f hf => hg.low f (List.mem_of_mem_drop hf))
  have h3 := lenF_app (fs.take k) (fs.drop k)
  rw [List.take_append_drop] at h3
  have := hg.up
  omega

set_option maxHeartbeats 2000000 in
set_option maxRecDepth 100000 in
theorem length_any (v : Value) (fs : List Pf) (w : World) (HR : Hid (RdF w v fs)) (HG : Hid (GoodF fs)) (t : Int) (HT : Hid (lenF fs = t)) :
    Calls Try.prog 4 #[v] w fun e w' => e = .returned (.int .i64 t) ∧ Below w.heap.size w w' := by
  obtain ⟨a, cap, hv, hl, hm⟩ := HR.out.shape
  obtain ⟨n, HN⟩ : ∃ n, Hid (fs.length = n) := ⟨_, (rfl : _ = _)⟩
  rw [HN.out] at hv hl
  have hn : n ≤ 1000 := by rw [← HN.out]; exact HG.out.many
  subst hv
  have hbz : Below w.heap.size w w := Below.refl _ _
  go_enter Try.func4, Try.ntmps4
  go_wp2_with fail
  go_loopw [3, 8] (fun t i wr => ∃ k : Nat, ∃ s : Int, k ≤ n ∧ t = .int .i64 s ∧ i = .int .i64 k ∧ Below w.heap.size w wr ∧ Hid (lenF (fs.take k) = s)) (fun _ i _ => n - (intOf i).toNat)
  case atStart => exact ⟨0, 0, by omega, rfl, rfl, hbz, (rfl : _ = _)⟩
  case round =>
    obtain ⟨k, s, hk, rfl, rfl, hbr, HS⟩ := hrel
    by_cases hlt : k < n
    · have hlt' : k < fs.length := by rw [HN.out]; exact hlt
      obtain ⟨f, HF⟩ : ∃ f, Hid (fs.getD k pf0 = f) := ⟨_, (rfl : _ = _)⟩
      obtain ⟨g, o, ua, m, uc, rfl, hg, c0, c1, c2, c3, _, _⟩ := (HR.out.on hbr).at hlt HF
      obtain ⟨fW, fH, fp, fd⟩ := f
      simp only at c0 c1 c2 c3
      have HS2 : Hid (lenF (fs.take (k + 1)) = s + fd) := by
        unfold Hid
        rw [take_next hlt', lenF_app, HS.out, HF.out]
        simp [lenF]
      have b1 := lenF_take HG.out k
      rw [HS.out] at b1
      have b2 := lenF_take HG.out (k + 1)
      rw [HS2.out] at b2
      clear hlt'
      go_wp2_with fail
      go_roundw
      case rel => exact ⟨k + 1, s + fd, by omega, by go_num, by go_num, hbr.alloc hbr.size _, HS2⟩
      case measure => simp [intOf]; omega
    · have : s = t := by
        rw [← HT.out, ← HS.out, List.take_of_length_le (by rw [HN.out]; omega)]
      subst this
      go_wp2_with fail
      go_ret
      exact ⟨rfl, hbr⟩

def atF : List Pf → Int → Nat → Int
  | [], _, _ => -1
  | f :: r, m, i => if m < f.d then (i : Int) else atF r (m - f.d) (i + 1)
def atC (fs : List Pf) (m : Int) : Int := if m < 0 then -1 else atF fs m 0

theorem drop_fr (l : List Pf) (k : Nat) (h : k < l.length) : l.drop k = l.getD k pf0 :: l.drop (k + 1) := by
  rw [List.drop_eq_getElem_cons h, List.getD_eq_getElem?_getD, List.getElem?_eq_getElem h]
  rfl

set_option maxHeartbeats 2000000 in
set_option maxRecDepth 100000 in
theorem at_any (v : Value) (fs : List Pf) (m : Int) (w : World) (hm : m ≤ 9223372036854775807) (HR : Hid (RdF w v fs)) (HG : Hid (GoodF fs)) (t : Int) (HT : Hid (atC fs m = t)) :
    Calls Try.prog 5 #[v, .int .i64 m] w fun e w' => e = .returned (.int .i64 t) ∧ Below w.heap.size w w' := by
  obtain ⟨a, cap, hv, hl, hcap⟩ := HR.out.shape
  obtain ⟨n, HN⟩ : ∃ n, Hid (fs.length = n) := ⟨_, (rfl : _ = _)⟩
  rw [HN.out] at hv hl
  have hn : n ≤ 1000 := by rw [← HN.out]; exact HG.out.many
  subst hv
  have hbz : Below w.heap.size w w := Below.refl _ _
  by_cases hm0 : m < 0
  · have : t = -1 := by rw [← HT.out]; simp [atC, hm0]
    subst this
    go_enter Try.func5, Try.ntmps5
    go_wp2_with fail
    go_ret
    exact ⟨rfl, hbz⟩
  · have HT0 : Hid (atF (fs.drop 0) m 0 = t) := by unfold Hid; have h := HT.out; simpa [atC, hm0] using h
    have hmm : 0 ≤ m := by omega
    go_enter Try.func5, Try.ntmps5
    go_wp2_with fail
    go_loopw [1, 11] (fun x i wr => ∃ k : Nat, ∃ s : Int, k ≤ n ∧ x = .int .i64 s ∧ i = .int .i64 k ∧ Below w.heap.size w wr ∧ 0 ≤ s ∧ s ≤ m ∧ Hid (atF (fs.drop k) s k = t)) (fun _ i _ => n - (intOf i).toNat)
    case atStart => exact ⟨0, m, by omega, rfl, rfl, hbz, hmm, Int.le_refl _, HT0⟩
    case round =>
      obtain ⟨k, s, hk, rfl, rfl, hbr, hs0, hs1, HS⟩ := hrel
      by_cases hlt : k < n
      · have hlt' : k < fs.length := by rw [HN.out]; exact hlt
        obtain ⟨f, HF⟩ : ∃ f, Hid (fs.getD k pf0 = f) := ⟨_, (rfl : _ = _)⟩
        have hfd : 0 ≤ f.d := by rw [← HF.out]; exact HG.out.low _ (getD_mem hlt')
        obtain ⟨g, o, ua, q, uc, rfl, hg, c0, c1, c2, c3, _, _⟩ := (HR.out.on hbr).at hlt HF
        have hst := HS.out
        rw [drop_fr _ _ hlt', HF.out] at hst
        obtain ⟨fW, fH, fp, fd⟩ := f
        simp only [atF] at c0 c1 c2 c3 hfd hst
        clear hlt'
        by_cases hsd : s < fd
        · have : t = (k : Int) := by rw [← hst, if_pos hsd]
          subst this
          clear hst
          go_wp2_with fail
          go_ret
          exact ⟨rfl, hbr.alloc hbr.size _⟩
        · have HS2 : Hid (atF (fs.drop (k + 1)) (s - fd) (k + 1) = t) := by unfold Hid; rw [← hst, if_neg hsd]
          clear hst
          go_wp2_with fail
          go_roundw
          case rel => exact ⟨k + 1, s - fd, by omega, by go_num, by go_num, hbr.alloc hbr.size _, by omega, by omega, HS2⟩
          case measure => simp [intOf]; omega
      · have : t = -1 := by
          rw [← HS.out, List.drop_of_length_le (by rw [HN.out]; omega)]
          simp [atF]
        subst this
        go_wp2_with fail
        go_ret
        exact ⟨rfl, hbr⟩

set_option maxHeartbeats 2000000 in
set_option maxRecDepth 100000 in
theorem refLength_any (v : Value) (fs : List Pf) (w : World) (HR : Hid (RdF w v fs)) (HG : Hid (GoodF fs)) (t : Int) (HT : Hid (lenF fs = t)) :
    Calls Try.prog 9 #[v] w fun e w' => e = .returned (.int .i64 t) ∧ Below w.heap.size w w' := by
  obtain ⟨a, cap, hv, hl, hm⟩ := HR.out.shape
  obtain ⟨n, HN⟩ : ∃ n, Hid (fs.length = n) := ⟨_, (rfl : _ = _)⟩
  rw [HN.out] at hv hl
  have hn : n ≤ 1000 := by rw [← HN.out]; exact HG.out.many
  subst hv
  have hbz : Below w.heap.size w w := Below.refl _ _
  go_enter Try.func9, Try.ntmps9
  go_wp2_with fail
  go_loopw [3, 4] (fun t i wr => ∃ k : Nat, ∃ s : Int, k ≤ n ∧ t = .int .i64 s ∧ i = .int .i64 k ∧ Below w.heap.size w wr ∧ Hid (lenF (fs.take k) = s)) (fun _ i _ => n - (intOf i).toNat)
  case atStart => exact ⟨0, 0, by omega, rfl, rfl, hbz, (rfl : _ = _)⟩
  case round =>
    obtain ⟨k, s, hk, rfl, rfl, hbr, HS⟩ := hrel
    by_cases hlt : k < n
    · have hlt' : k < fs.length := by rw [HN.out]; exact hlt
      obtain ⟨f, HF⟩ : ∃ f, Hid (fs.getD k pf0 = f) := ⟨_, (rfl : _ = _)⟩
      obtain ⟨g, o, ua, m, uc, rfl, hg, c0, c1, c2, c3, _, _⟩ := (HR.out.on hbr).at hlt HF
      obtain ⟨fW, fH, fp, fd⟩ := f
      simp only at c0 c1 c2 c3
      have HS2 : Hid (lenF (fs.take (k + 1)) = s + fd) := by
        unfold Hid
        rw [take_next hlt', lenF_app, HS.out, HF.out]
        simp [lenF]
      have b1 := lenF_take HG.out k
      rw [HS.out] at b1
      have b2 := lenF_take HG.out (k + 1)
      rw [HS2.out] at b2
      clear hlt'
      go_wp2_with fail
      go_roundw
      case rel => exact ⟨k + 1, s + fd, by omega, by go_num, by go_num, hbr, HS2⟩
      case measure => simp [intOf]; omega
    · have : s = t := by
        rw [← HT.out, ← HS.out, List.take_of_length_le (by rw [HN.out]; omega)]
      subst this
      go_wp2_with fail
      go_ret
      exact ⟨rfl, hbr⟩

set_option maxHeartbeats 2000000 in
set_option maxRecDepth 100000 in
theorem refAt_any (v : Value) (fs : List Pf) (m : Int) (w : World) (hm : m ≤ 9223372036854775807) (hm2 : -9223372036854775808 ≤ m) (HR : Hid (RdF w v fs)) (HG : Hid (GoodF fs)) (t : Int) (HT : Hid (atC fs m = t)) :
    Calls Try.prog 10 #[v, .int .i64 m] w fun e w' => e = .returned (.int .i64 t) ∧ Below w.heap.size w w' := by
  obtain ⟨a, cap, hv, hl, hcap⟩ := HR.out.shape
  obtain ⟨n, HN⟩ : ∃ n, Hid (fs.length = n) := ⟨_, (rfl : _ = _)⟩
  rw [HN.out] at hv hl
  have hn : n ≤ 1000 := by rw [← HN.out]; exact HG.out.many
  subst hv
  have hbz : Below w.heap.size w w := Below.refl _ _
  go_enter Try.func10, Try.ntmps10
  go_wp2_with fail
  go_loopw [5, 6] (fun x i wr => ∃ k : Nat, ∃ s : Int, k ≤ n ∧ x = .int .i64 s ∧ i = .int .i64 k ∧ Below w.heap.size w wr ∧ Hid (lenF (fs.take k) = s) ∧ Hid ((m < 0 ∧ t = -1) ∨ (0 ≤ m ∧ s ≤ m ∧ atF (fs.drop k) (m - s) k = t))) (fun _ i _ => n - (intOf i).toNat)
  case atStart =>
    refine ⟨0, 0, by omega, rfl, rfl, hbz, (rfl : _ = _), ?_⟩
    have h := HT.out
    unfold atC at h
    by_cases hm0 : m < 0
    · rw [if_pos hm0] at h
      exact .inl ⟨hm0, h.symm⟩
    · rw [if_neg hm0] at h
      exact .inr ⟨by omega, by omega, by simpa using h⟩
  case round =>
    obtain ⟨k, s, hk, rfl, rfl, hbr, HS, HM⟩ := hrel
    by_cases hlt : k < n
    · have hlt' : k < fs.length := by rw [HN.out]; exact hlt
      obtain ⟨f, HF⟩ : ∃ f, Hid (fs.getD k pf0 = f) := ⟨_, (rfl : _ = _)⟩
      obtain ⟨g, o, ua, q, uc, rfl, hg, c0, c1, c2, c3, _, _⟩ := (HR.out.on hbr).at hlt HF
      have hst := HM.out
      rw [drop_fr _ _ hlt', HF.out] at hst
      obtain ⟨fW, fH, fp, fd⟩ := f
      simp only [atF] at c0 c1 c2 c3 hst
      have HS2 : Hid (lenF (fs.take (k + 1)) = s + fd) := by
        unfold Hid
        rw [take_next hlt', lenF_app, HS.out, HF.out]
        simp [lenF]
      have b1 := lenF_take HG.out k
      rw [HS.out] at b1
      have b2 := lenF_take HG.out (k + 1)
      rw [HS2.out] at b2
      clear hlt'
      by_cases hsd : s ≤ m ∧ m < s + fd
      · have : t = (k : Int) := by
          rcases hst with h | h
          · omega
          · rw [← h.2.2, if_pos (by omega)]
        subst this
        clear hst
        obtain ⟨h1, h2⟩ := hsd
        go_wp2_with fail
        go_ret
        exact ⟨rfl, hbr⟩
      · have HM2 : Hid ((m < 0 ∧ t = -1) ∨ (0 ≤ m ∧ s + fd ≤ m ∧ atF (fs.drop (k + 1)) (m - (s + fd)) (k + 1) = t)) := by
          rcases hst with h | h
          · exact .inl h
          · refine .inr ⟨h.1, by omega, ?_⟩
            rw [← h.2.2, if_neg (by omega), show m - (s + fd) = m - s - fd by omega]
        clear hst
        by_cases h1 : s ≤ m
        · have h2 : ¬ m < s + fd := fun h => hsd ⟨h1, h⟩
          clear hsd
          go_wp2_with fail
          go_roundw
          case rel => exact ⟨k + 1, s + fd, by omega, by go_num, by go_num, hbr, HS2, HM2⟩
          case measure => simp [intOf]; omega
        · clear hsd
          go_wp2_with fail
          go_roundw
          case rel => exact ⟨k + 1, s + fd, by omega, by go_num, by go_num, hbr, HS2, HM2⟩
          case measure => simp [intOf]; omega
    · have : t = -1 := by
        rcases HM.out with h | h
        · exact h.2
        · rw [← h.2.2, List.drop_of_length_le (by rw [HN.out]; omega)]
          simp [atF]
      subst this
      go_wp2_with fail
      go_ret
      exact ⟨rfl, hbr⟩
end Go.Proofs.Ytnjnelfmfijgjad
