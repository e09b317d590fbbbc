/- Lists of objects: what Do gives, what is found. -/
import Derived.Test.YtkmolifgfbaboaaDoorDoM
import Derived.Test.YtkmolifgfbaboaaDoorOlB
namespace Go.Proofs.YtkmolifgfbaboaaDoor
open Go.RowKit

/-- what Do gives where the op may be -/
theorem do_good (os : List Po) (q : Pq) (hg : GoodO os) (h : opC q = 0) (rs : List Po) (hr : doO os q = .inl rs) : (∀ o ∈ rs, o.fault' = 0 ∧ o.ps.length ≤ 80) ∧ SortO rs ∧ rs.length ≤ 100 := by
  have hm := fun o ho => ((all_mem (P := fun o => o.fault = 0) os).1 hg.ok o ho : o.fault' = 0)
  have h80 : ∀ o : Po, o.fault' = 0 → o.fault' = 0 ∧ o.ps.length ≤ 80 := fun o ho => ⟨ho, by have := check_len _ _ _ ((fault_iff o).1 ho).2.2.2; omega⟩
  have hf := hg.few
  have hset : ∀ x : Po, x.fault' = 0 → (∀ o ∈ setO os x, o.fault' = 0 ∧ o.ps.length ≤ 80) ∧ SortO (setO os x) ∧ (setO os x).length ≤ 100 := fun x hx =>
    ⟨fun o ho => by
      rcases setO_mem x os o ho with rfl | ho
      · exact h80 _ hx
      · exact h80 o (hm o ho), setO_sort x os hg.sort, by have := setO_len x os; omega⟩
  unfold doO at hr
  split at hr
  · rename_i hk
    obtain rfl := Sum.inl.inj hr
    obtain ⟨h1, h2⟩ := op_pict q h hk
    exact hset _ ((fault_iff _).2 ⟨h2, by show rectC 0 0 0 0 = 0; decide, by show rectC 0 0 20 20 = 0; decide, h1⟩)
  · split at hr
    · cases hr
    · rename_i o ho
      have hom := List.mem_of_find?_eq_some ho
      split at hr
      · obtain rfl := Sum.inl.inj hr
        exact ⟨fun z hz => h80 z (hm z (List.mem_filter.1 hz).1), dropO_sort os _ hg.sort, by have := List.length_filter_le (fun o : Po => decide (o.id ≠ q.id)) os; unfold dropO; omega⟩
      · split at hr
        · cases hr
        · rename_i x hx
          obtain rfl := Sum.inl.inj hr
          exact hset x (act_good q h o x (hm o hom) hx)
theorem do_pre (os : List Po) (q : Pq) (hg : GoodO os) (h : opC q = 0) (hq : q.ps.length ≤ 80) : DoPre os q :=
  ⟨by have := hg.few; omega, fun j hj => by have := hg.pix j hj; omega, hg.sort, fun j hj => ((fault_iff _).1 (hg.ok j hj)).2.2.2, by omega, op_pic q h⟩
/-- another object is found as before -/
theorem do_find (os : List Po) (q : Pq) (rs : List Po) (hr : doO os q = .inl rs) (t : Int) (h1 : q.id ≠ t) (h2 : ¬ (q.kind = 6 ∧ q.a = t)) : rs.find? (fun o => decide (o.id = t)) = os.find? (fun o => decide (o.id = t)) := by
  unfold doO at hr
  split at hr
  · obtain rfl := Sum.inl.inj hr
    exact find_set _ t h1 os
  · split at hr
    · cases hr
    · rename_i o ho
      have hoi : o.id = q.id := by simpa using List.find?_some ho
      split at hr
      · obtain rfl := Sum.inl.inj hr
        exact find_drop _ t h1 os
      · split at hr
        · cases hr
        · rename_i x hx
          obtain rfl := Sum.inl.inj hr
          refine find_set x t ?_ os
          unfold actO at hx
          split at hx
          · obtain rfl := Option.some.inj hx; show o.id ≠ t; omega
          split at hx
          · obtain rfl := Option.some.inj hx; show o.id ≠ t; omega
          split at hx
          · obtain rfl := Option.some.inj hx; show o.id ≠ t; omega
          split at hx
          · rename_i hk
            obtain rfl := Option.some.inj hx
            intro e
            exact h2 ⟨hk, e⟩
          split at hx
          · obtain rfl := Option.some.inj hx; show o.id ≠ t; omega
          split at hx
          · obtain rfl := Option.some.inj hx; show o.id ≠ t; omega
          · cases hx
/-- Get's answer, by find? -/
theorem get_find {os : List Po} {t : Int} {w : World} {e : Ending} {w' : World} (h : GetP os t w e w') (hs : SortO os) : Below w.heap.size w w' ∧ ((∃ o u, os.find? (fun o => decide (o.id = t)) = some o ∧ o ∈ os ∧ e = .returned (.tuple #[poV o u, .bool true]) ∧ RdP w' u o.ps) ∨ (os.find? (fun o => decide (o.id = t)) = none ∧ e = .returned (.tuple #[poV po0 (.slice none 0 0), .bool false]))) := by
  obtain ⟨hb, h⟩ := h
  refine ⟨hb, ?_⟩
  rcases h with ⟨i, u, hi, hit, he, ho⟩ | ⟨hno, he⟩
  · exact .inl ⟨_, u, find_at os t hs i hi hit, getD_mem_po hi, he, rdP_own ho⟩
  · exact .inr ⟨find_no os t hno, he⟩

theorem good_mem2 {os : List Po} (h : GoodO os) : ∀ o ∈ os, o.ps.length ≤ 80 := fun o ho => (all_mem (P := fun o => o.ps.length ≤ 80) os).1 h.pix o ho
/-- objects that may be, in order -/
structure FineO (os : List Po) : Prop where
  ok : ∀ o ∈ os, o.fault' = 0
  sort : SortO os
theorem FineO.few {os : List Po} (h : FineO os) : os.length ≤ 6 := by
  have hid : ∀ j, j < os.length → (j : Int) + 1 ≤ (os.getD j po0).id := by
    intro j
    induction j with
    | zero => intro hj; have := ((fault_iff _).1 (h.ok _ (getD_mem_po hj))).1.1; omega
    | succ j ih =>
      intro hj
      have h1 := ih (by omega)
      have h2 := h.sort j (j + 1) (by omega) hj
      omega
  rcases Nat.eq_zero_or_pos os.length with h0 | h0
  · omega
  · have h1 := hid (os.length - 1) (by omega)
    have h2 := ((fault_iff _).1 (h.ok _ (getD_mem_po (k := os.length - 1) (by omega)))).1.2
    omega
theorem FineO.good {os : List Po} (h : FineO os) : GoodO os :=
  ⟨h.few, (all_mem (P := fun o => o.ps.length ≤ 80) os).2 (fun o ho => by have := check_len _ _ _ ((fault_iff o).1 (h.ok o ho)).2.2.2; omega), (all_mem (P := fun o => o.fault = 0) os).2 h.ok, h.sort⟩
theorem GoodO.fine {os : List Po} (h : GoodO os) : FineO os := ⟨fun o ho => ((all_mem (P := fun o => o.fault = 0) os).1 h.ok o ho : o.fault' = 0), h.sort⟩
theorem do_fine {os : List Po} {q : Pq} (hg : FineO os) (h : opC q = 0) {rs : List Po} (hr : doO os q = .inl rs) : FineO rs := by
  obtain ⟨h1, h2, _⟩ := do_good os q hg.good h rs hr
  exact ⟨fun o ho => (h1 o ho).1, h2⟩
end Go.Proofs.YtkmolifgfbaboaaDoor
