/- What Do keeps: lists. -/
import Derived.Test.YtkmolifgfbaboaaDoorOpC
import Derived.Test.YtkmolifgfbaboaaDoorSeenL
import Derived.Test.YtkmolifgfbaboaaDoorAddM
namespace Go.Proofs.YtkmolifgfbaboaaDoor
open Go.RowKit

theorem sort_pair (os : List Po) : SortO os ↔ os.Pairwise (fun a b => a.id < b.id) := by
  rw [List.pairwise_iff_getElem]
  have e : ∀ k (hk : k < os.length), os.getD k po0 = os[k] := fun k hk => by rw [List.getD_eq_getElem?_getD, List.getElem?_eq_getElem hk]; rfl
  constructor
  · intro h i j hi hj hij
    have := h i j hij hj
    rw [e i hi, e j hj] at this
    exact this
  · intro h i j hij hj
    have := h i j (by omega) hj hij
    rw [e i (by omega), e j hj]
    exact this
theorem setO_sort (x : Po) (os : List Po) (h : SortO os) : SortO (setO os x) := by
  rw [sort_pair] at h ⊢
  induction os with
  | nil => simp [setO]
  | cons a r ih =>
    rw [List.pairwise_cons] at h
    unfold setO
    split
    · rename_i hx
      rw [List.pairwise_cons]
      refine ⟨fun b hb => ?_, by rw [List.pairwise_cons]; exact h⟩
      rcases List.mem_cons.1 hb with rfl | hb
      · exact hx
      · have := h.1 b hb
        omega
    · split
      · rename_i he
        rw [List.pairwise_cons]
        exact ⟨fun b hb => by have := h.1 b hb; omega, h.2⟩
      · rw [List.pairwise_cons]
        refine ⟨fun b hb => ?_, ih h.2⟩
        rcases setO_mem x r b hb with rfl | hb
        · omega
        · exact h.1 b hb
theorem dropO_sort (os : List Po) (t : Int) (h : SortO os) : SortO (dropO os t) := by
  rw [sort_pair] at h ⊢
  exact h.filter _
theorem find_set (x : Po) (t : Int) (hx : x.id ≠ t) : ∀ os : List Po, (setO os x).find? (fun o => decide (o.id = t)) = os.find? (fun o => decide (o.id = t)) := by
  intro os
  induction os with
  | nil => simp [setO, hx]
  | cons a r ih =>
    unfold setO
    split
    · rw [List.find?_cons_of_neg (by simpa using hx)]
    · split
      · rename_i he
        rw [List.find?_cons_of_neg (by simpa using hx), List.find?_cons_of_neg (by simp; omega)]
      · by_cases ha : a.id = t
        · rw [List.find?_cons_of_pos (by simpa using ha), List.find?_cons_of_pos (by simpa using ha)]
        · rw [List.find?_cons_of_neg (by simpa using ha), List.find?_cons_of_neg (by simpa using ha), ih]
theorem find_drop (d t : Int) (hd : d ≠ t) : ∀ os : List Po, (dropO os d).find? (fun o => decide (o.id = t)) = os.find? (fun o => decide (o.id = t)) := by
  intro os
  unfold dropO
  induction os with
  | nil => rfl
  | cons a r ih =>
    by_cases ha : a.id = d
    · rw [List.filter_cons_of_neg (by simp [ha]), ih, List.find?_cons_of_neg (by simp; omega)]
    · rw [List.filter_cons_of_pos (by simp [ha])]
      by_cases h2 : a.id = t
      · rw [List.find?_cons_of_pos (by simpa using h2), List.find?_cons_of_pos (by simpa using h2)]
      · rw [List.find?_cons_of_neg (by simpa using h2), List.find?_cons_of_neg (by simpa using h2), ih]

/-- what an op that may be has -/
theorem op_shape (q : Pq) (h : opC q = 0) (s : Shp) (hs : kindAt q.kind shps = some s) : (forL q s).any (fun n => decide (n ≠ 0)) = false ∧ (s.id = true → 1 ≤ q.id ∧ q.id ≤ 6) ∧ inB q s = true ∧ (s.pic = true → checkL q.pw q.ph q.ps = 0) := by
  unfold opC at h
  rw [hs] at h
  simp only at h
  split at h
  · omega
  · rename_i h1
    split at h
    · omega
    · rename_i h2
      refine ⟨by simpa using h1, fun hi => ?_, ?_, fun hp => ?_⟩
      · rw [hi] at h2
        simp at h2
        omega
      · cases hb : inB q s with
        | true => rfl
        | false => exact absurd (.inr hb) h2
      · rw [if_pos hp] at h
        exact h
theorem op_pic (q : Pq) (h : opC q = 0) (hk : q.kind = 8 ∨ q.kind = 9) : checkL q.pw q.ph q.ps = 0 ∧ -20 ≤ q.a ∧ q.a ≤ 20 ∧ -20 ≤ q.b ∧ q.b ≤ 20 := by
  rcases hk with hk | hk
  · obtain ⟨_, _, h3, h4⟩ := op_shape q h ⟨8, [80, 65, 68, 68], true, 2, (-20), 20, true⟩ (by rw [hk]; rfl)
    refine ⟨h4 rfl, ?_⟩
    simp [inB, nums4] at h3
    omega
  · obtain ⟨_, _, h3, h4⟩ := op_shape q h ⟨9, [80, 80, 85, 84], true, 2, (-20), 20, true⟩ (by rw [hk]; rfl)
    refine ⟨h4 rfl, ?_⟩
    simp [inB, nums4] at h3
    omega
theorem op_pict (q : Pq) (h : opC q = 0) (hk : q.kind = 2) : checkL q.pw q.ph q.ps = 0 ∧ 1 ≤ q.id ∧ q.id ≤ 6 := by
  obtain ⟨_, h2, _, h4⟩ := op_shape q h ⟨2, [80, 73, 67, 84], true, 0, 0, 0, true⟩ (by rw [hk]; rfl)
  exact ⟨h4 rfl, h2 rfl⟩
theorem op_move (q : Pq) (h : opC q = 0) (hk : q.kind = 3) : -20 ≤ q.a ∧ q.a ≤ 20 ∧ -20 ≤ q.b ∧ q.b ≤ 20 := by
  obtain ⟨_, _, h3, _⟩ := op_shape q h ⟨3, [77, 79, 86, 69], true, 2, (-20), 20, false⟩ (by rw [hk]; rfl)
  simp [inB, nums4] at h3
  omega
theorem op_clip (q : Pq) (h : opC q = 0) (hk : q.kind = 4) : rectC q.a q.b q.c q.d = 0 := by
  obtain ⟨_, _, h3, _⟩ := op_shape q h ⟨4, [67, 76, 73, 80], true, 4, 0, 0, false⟩ (by rw [hk]; rfl)
  simpa [inB] using h3
theorem op_copy (q : Pq) (h : opC q = 0) (hk : q.kind = 6) : 1 ≤ q.a ∧ q.a ≤ 6 := by
  obtain ⟨_, _, h3, _⟩ := op_shape q h ⟨6, [67, 79, 80, 89], true, 1, 1, 6, false⟩ (by rw [hk]; rfl)
  simp [inB, nums4] at h3
  omega

theorem fault_iff (o : Po) : o.fault' = 0 ↔ (1 ≤ o.id ∧ o.id ≤ 6) ∧ rectC o.x o.y 0 0 = 0 ∧ rectC o.cx o.cy o.cw o.ch = 0 ∧ checkL o.pw o.ph o.ps = 0 := by
  unfold Po.fault' objC
  have r1 := rectC_cases o.x o.y 0 0
  have r2 := rectC_cases o.cx o.cy o.cw o.ch
  constructor
  · intro h
    split at h
    · omega
    split at h
    · omega
    split at h
    · omega
    exact ⟨by omega, by omega, by omega, h⟩
  · rintro ⟨h1, h2, h3, h4⟩
    rw [if_neg (by omega), if_neg (by omega), if_neg (by omega)]
    exact h4
theorem check_len (W H : Int) (ps : List (Int × Int)) (h : checkL W H ps = 0) : ps.length ≤ 64 := by
  obtain ⟨PW, PH, _, _, _, p2, _, p4, p5, _⟩ := check_zero _ _ _ h
  have := Nat.mul_le_mul p2 p4
  omega
/-- an object that is changed may be -/
theorem act_good (q : Pq) (h : opC q = 0) (o x : Po) (ho : o.fault' = 0) (hx : actO q o = some x) : x.fault' = 0 := by
  rw [fault_iff] at ho ⊢
  obtain ⟨h1, h2, h3, h4⟩ := ho
  obtain ⟨PW, PH, e1, e2, p1, p2, p3, p4, p5, _⟩ := check_zero _ _ _ h4
  unfold actO at hx
  split at hx
  · rename_i hk
    obtain rfl := Option.some.inj hx
    have := op_move q h hk
    exact ⟨h1, by show rectC q.a q.b 0 0 = 0; rw [rectC_zero]; omega, h3, h4⟩
  split at hx
  · rename_i hk
    obtain rfl := Option.some.inj hx
    exact ⟨h1, h2, op_clip q h hk, h4⟩
  split at hx
  · obtain rfl := Option.some.inj hx
    exact ⟨h1, h2, h3, h4⟩
  split at hx
  · rename_i hk
    obtain rfl := Option.some.inj hx
    exact ⟨op_copy q h hk, h2, h3, h4⟩
  split at hx
  · rename_i hk
    obtain rfl := Option.some.inj hx
    obtain ⟨zc, z1, z2, z3, z4⟩ := op_pic q h (.inl hk)
    obtain ⟨ZW, ZH, e3, e4, _⟩ := check_zero _ _ _ zc
    refine ⟨h1, h2, h3, ?_⟩
    show checkL o.pw o.ph (chL addP o.pw.toNat o.ps q.pw.toNat q.ph.toNat q.ps q.a q.b 0 0 o.pw o.ph) = 0
    rw [e1, e2] at h4 ⊢
    rw [e3, e4] at zc ⊢
    exact ch_check _ add_ok PW PH o.ps _ _ q.ps q.a q.b 0 0 _ _ h4 (by simpa using zc)
  split at hx
  · rename_i hk
    obtain rfl := Option.some.inj hx
    obtain ⟨zc, z1, z2, z3, z4⟩ := op_pic q h (.inr hk)
    obtain ⟨ZW, ZH, e3, e4, _⟩ := check_zero _ _ _ zc
    refine ⟨h1, h2, h3, ?_⟩
    show checkL o.pw o.ph (chL (fun _ z => z) o.pw.toNat o.ps q.pw.toNat q.ph.toNat q.ps q.a q.b 0 0 o.pw o.ph) = 0
    rw [e1, e2] at h4 ⊢
    rw [e3, e4] at zc ⊢
    exact ch_check _ (fun _ _ _ h => h) PW PH o.ps _ _ q.ps q.a q.b 0 0 _ _ h4 (by simpa using zc)
  · cases hx
end Go.Proofs.YtkmolifgfbaboaaDoor
