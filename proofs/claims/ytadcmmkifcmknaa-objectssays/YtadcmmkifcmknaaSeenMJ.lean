/- What is seen: lists. -/
import Derived.Test.YtadcmmkifcmknaaM6
import Derived.Test.YtadcmmkifcmknaaOlGJ
import Derived.Test.YtadcmmkifcmknaaSeenLJ
namespace Go.Proofs.Ytadcmmkifcmknaa
open Go.RowKit

/-- an object that isn't shown -/
def Po.hide (o : Po) : Po := { o with sh := false }
theorem layO_hide (W : Nat) (ps : List (Int × Int)) (o : Po) : layO W ps o.hide = ps := rfl
theorem seen_hide (W : Nat) (t : Int) : ∀ (os : List Po) (acc : List (Int × Int)), (os.map (fun o => if o.id = t then o.hide else o)).foldl (layO W) acc = (os.filter (fun o => decide (o.id ≠ t))).foldl (layO W) acc := by
  intro os
  induction os with
  | nil => intro acc; rfl
  | cons a r ih =>
    intro acc
    by_cases h : a.id = t
    · simp only [List.map_cons, List.foldl_cons, h, if_true]
      rw [layO_hide, ih, List.filter_cons_of_neg (by simp [h])]
    · simp only [List.map_cons, List.foldl_cons, if_neg h]
      rw [ih, List.filter_cons_of_pos (by simp [h]), List.foldl_cons]
theorem set_hide (os : List Po) (hs : SortO os) (i : Nat) (hi : i < os.length) (t : Int) (ht : (os.getD i po0).id = t) : os.set i (os.getD i po0).hide = os.map (fun o => if o.id = t then o.hide else o) := by
  apply List.ext_getElem
  · simp
  · intro j h1 h2
    have hj : j < os.length := by simpa using h2
    have e : ∀ k (hk : k < os.length), os.getD k po0 = os[k] := fun k hk => by rw [List.getD_eq_getElem?_getD, List.getElem?_eq_getElem hk]; rfl
    rw [List.getElem_set, List.getElem_map]
    by_cases hij : i = j
    · subst hij
      rw [if_pos rfl, if_pos (by rw [← e i hi]; exact ht), e i hi]
    · rw [if_neg hij, if_neg]
      intro h
      rw [← e j hj] at h
      rcases Nat.lt_or_ge i j with h3 | h3
      · have := hs i j h3 hj
        omega
      · have := hs j i (by omega) hi
        omega
theorem setO_last (x : Po) : ∀ (os : List Po), SortO os → (∀ o ∈ os, o.id ≤ x.id) → ∃ pre, setO os x = pre ++ [x] ∧ ∀ o ∈ pre, o ∈ os := by
  intro os
  induction os with
  | nil => intro _ _; exact ⟨[], rfl, by simp⟩
  | cons a r ih =>
    intro hs hle
    obtain ⟨h1, h2⟩ := sort_tail hs
    unfold setO
    have ha := hle a (by simp)
    rw [if_neg (by omega)]
    by_cases h : a.id = x.id
    · rw [if_pos h]
      cases r with
      | nil => exact ⟨[], rfl, by simp⟩
      | cons b r =>
        have := h2 b (by simp)
        have := hle b (by simp)
        omega
    · rw [if_neg h]
      obtain ⟨pre, e, hm⟩ := ih h1 (fun o ho => hle o (by simp [ho]))
      exact ⟨a :: pre, by rw [e]; rfl, fun o ho => by
        rcases List.mem_cons.1 ho with h | h
        · simp [h]
        · simp [hm o h]⟩
theorem seen_check (W H : Nat) (bv ba : Int) (h1 : 1 ≤ W) (h2 : W ≤ 8) (h3 : 1 ≤ H) (h4 : H ≤ 8) (h5 : 0 ≤ bv) (h6 : bv ≤ 255) (h7 : 0 ≤ ba) (h8 : ba ≤ 255) (os : List Po) (hok : ∀ o ∈ os, o.fault' = 0) : checkL (W : Int) (H : Int) (seenL W H (bv, ba) os) = 0 := by
  unfold seenL
  have hc := check_plain W H bv ba h1 h2 h3 h4 h5 h6 h7 h8
  generalize List.replicate (W * H) (bv, ba) = acc at hc
  induction os generalizing acc with
  | nil => exact hc
  | cons a r ih =>
    rw [List.foldl_cons]
    exact ih (fun o ho => hok o (by simp [ho])) _ (layO_check W H acc a hc (hok a (by simp)))
theorem over_all (v bv ba : Int) : Fb.overL v 255 bv ba = (v, 255) := by
  unfold Fb.overL Fb.thru
  simp
/-- what covers all is seen alone -/
theorem lay_all (W H : Nat) (h1 : 1 ≤ W) (h2 : W ≤ 8) (h3 : 1 ≤ H) (h4 : H ≤ 8) (v : Int) (ps : List (Int × Int)) (hl : ps.length = W * H) : layL W ps W H (List.replicate (W * H) (v, 255)) 0 0 0 0 20 20 true = List.replicate (W * H) (v, 255) := by
  apply List.ext_getElem
  · rw [lay_len, hl, List.length_replicate]
  · intro k hk1 hk2
    have hk : k < ps.length := by rw [lay_len] at hk1; exact hk1
    have hg := lay_getD W ps W H (List.replicate (W * H) (v, 255)) 0 0 0 0 20 20 true k hk
    rw [List.getD_eq_getElem?_getD, List.getElem?_eq_getElem hk1] at hg
    simp only [Option.getD_some] at hg
    rw [hg]
    obtain ⟨m1, m2⟩ := mod_div_lt W H k (by omega) (by omega)
    rw [if_pos]
    · unfold gq
      have hidx : ((((k / W : Nat) : Int) - 0) * (W : Int) + ((k % W : Nat) : Int) - 0).toNat = k := by
        have := Nat.div_add_mod k W
        rw [Int.sub_zero, Int.sub_zero, ← Int.natCast_mul, ← Int.natCast_add, Nat.mul_comm, this]
        simp
      rw [hidx, List.getD_eq_getElem?_getD (l := List.replicate (W * H) (v, 255)), List.getElem?_replicate, if_pos (by omega)]
      simp only [Option.getD_some]
      rw [over_all]
      simp
    · unfold hasB
      generalize k % W = m at *
      generalize k / W = d at *
      simp
      omega
/-- a list of objects that shares its pixels -/
theorem rdO_sh {w : World} {B : Nat} {v : Value} {qs : List (Po × Value)} (h : w.ownsRow B 29 11 v qs.length (obCells qs)) (h2 : ∀ q ∈ qs, RdP w q.2 q.1.ps) : RdO w v (qs.map Prod.fst) := by
  rcases h.2 with ⟨rfl, h0⟩ | ⟨g, cap, cur, rfl, hb, hg, hn, hm, hs, ht⟩
  · have : qs = [] := List.length_eq_zero_iff.1 h0
    subst this
    exact ⟨none, 0, rfl, by simp, by omega, fun h => absurd rfl h⟩
  · unfold maxLen at hm
    refine ⟨some ⟨g, 0, none⟩, cap, by simp, by simpa using hn, by omega, fun hne => ⟨g, 0, rfl, ?_, fun j hj => ?_⟩⟩
    · rcases Nat.lt_or_ge g w.heap.size with h1 | h1
      · exact h1
      · rw [Array.getElem?_eq_none h1] at hg; cases hg
    · rw [List.length_map] at hj
      have e : (qs.map Prod.fst).getD j po0 = (qs.getD j qo0).1 := by
        simp [List.getD_eq_getElem?_getD, List.getElem?_eq_getElem hj]
      have hmem : qs.getD j qo0 ∈ qs := by
        rw [List.getD_eq_getElem?_getD, List.getElem?_eq_getElem hj]
        simp
      rw [e]
      have hc : ∀ x, x < 11 → w.cell? ⟨g, 0 + j * 11 + x, none⟩ = (oCells (qs.getD j qo0).1 (qs.getD j qo0).2)[x]? := fun x hx => by
        rw [Nat.zero_add, h.cellAt (j * 11 + x) (by omega)]
        exact obCells_at qs j x hj hx
      exact ⟨(qs.getD j qo0).2, ⟨hc 0 (by omega), hc 1 (by omega), hc 2 (by omega), hc 3 (by omega), hc 4 (by omega), hc 5 (by omega), hc 6 (by omega), hc 7 (by omega), hc 8 (by omega), hc 9 (by omega), hc 10 (by omega)⟩, h2 _ hmem⟩
end Go.Proofs.Ytadcmmkifcmknaa
