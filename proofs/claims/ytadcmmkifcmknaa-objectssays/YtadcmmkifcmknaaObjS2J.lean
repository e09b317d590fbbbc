/- Walk of the law ObjectsSays. -/
import Derived.Test.YtadcmmkifcmknaaObjS1J
import Derived.Test.YtadcmmkifcmknaaSogAJ
import Derived.Test.YtadcmmkifcmknaaSobAJ
import Derived.Test.YtadcmmkifcmknaaLPixJ
import Derived.Test.YtadcmmkifcmknaaRefD6J
import Derived.Test.YtadcmmkifcmknaaRefPzJ
import Derived.Test.YtadcmmkifcmknaaRefPfJ
import Derived.Test.YtadcmmkifcmknaaRefVJ
import Derived.Test.YtadcmmkifcmknaaOlBJ
import Derived.Test.YtadcmmkifcmknaaTopSeenWJ
namespace Go.Proofs.Ytadcmmkifcmknaa
open Go.RowKit

/-- what holds on the road -/
structure Gob (w : World) (v : Value) (os : List Po) (x : Po) (vo : Value) (q : Pq) (vq : Value) (bv ba : Int) (w' : World) : Prop where
  eo : Eleven w' w.heap.size (.int .i64 x.id) (.int .i64 x.x) (.int .i64 x.y) (.int .i64 x.pw) (.int .i64 x.ph) vo (.int .i64 x.cx) (.int .i64 x.cy) (.int .i64 x.cw) (.int .i64 x.ch) (.bool x.sh)
  nq : Nine w' (w.heap.size + 1) (.int .i64 q.kind) (.int .i64 q.id) (.int .i64 q.a) (.int .i64 q.b) (.int .i64 q.c) (.int .i64 q.d) (.int .i64 q.pw) (.int .i64 q.ph) vq
  tp : Two w' (w.heap.size + 1 + 1) (.int .i64 bv) (.int .i64 ba)
  ro : RdP w' vo x.ps
  rq : RdP w' vq q.ps
  rl : RdO w' v os
  bel : Below w.heap.size w w'
section
variable {w : World} {v : Value} {os : List Po} {x : Po} {vo : Value} {q : Pq} {vq : Value} {bv ba : Int} {w1 w2 : World}
theorem Gob.on (h : Gob w v os x vo q vq bv ba w1) (hb : Below w1.heap.size w1 w2) : Gob w v os x vo q vq bv ba w2 :=
  ⟨h.eo.on hb, h.nq.on hb, h.tp.on hb, h.ro.on hb, h.rq.on hb, h.rl.on hb, h.bel.trans (hb.mono h.bel.size)⟩
theorem Gob.drew (h : Gob w v os x vo q vq bv ba w1) : Gob w v os x vo q vq bv ba w1.drew :=
  ⟨h.eo.drew, h.nq.drew, h.tp.drew, h.ro, h.rq, h.rl.on (Below.refl _ _).drew, h.bel.drew⟩
end
theorem good_pre {os : List Po} {q : Pq} (h : GoodO os) (h1 : q.ps.length ≤ 80) (h2 : rfC q = 0) : DoPre os q :=
  ⟨by have := h.few; omega, fun j hj => by have := h.pix j hj; omega, h.sort, fun j hj => (objC_zero _ _ _ _ _ _ _ _ _ _ (h.ok j hj)).2.2.2.2.2.2.2.2.2.2.2.2.2.2, by omega, rfC_pre h2⟩

/-- what Get, of the program and of the reference, answers -/
def gotO (os : List Po) (t : Int) : Po × Bool := match os.find? (fun o => decide (o.id = t)) with | some o => (o, true) | none => (po0, false)
theorem got_at (os : List Po) (t : Int) (hs : SortO os) (i : Nat) (hi : i < os.length) (h : (os.getD i po0).id = t) : gotO os t = (os.getD i po0, true) := by
  unfold gotO; rw [find_at os t hs i hi h]
theorem got_no (os : List Po) (t : Int) (h : ∀ j, j < os.length → (os.getD j po0).id ≠ t) : gotO os t = (po0, false) := by
  unfold gotO; rw [find_no os t h]
theorem got_pix {os : List Po} (h : GoodO os) (t : Int) : (gotO os t).1.ps.length ≤ 80 := by
  unfold gotO
  split
  · exact (good_mem h _ (List.mem_of_find?_eq_some ‹_›)).1
  · simp
theorem get_got (v : Value) (os : List Po) (t : Int) (w : World) (h : GoodO os) (HR : Hid (RdO w v os)) (y : Po) (b : Bool) (HY : Hid (gotO os t = (y, b))) :
    Calls Try.prog 11 #[v, .int .i64 t] w fun e w' => ∃ u, e = .returned (.tuple #[poV y u, .bool b]) ∧ RdP w' u y.ps ∧ Below w.heap.size w w' := by
  refine (get_any v os t w (by have := h.few; omega) (fun j hj => by have := h.pix j hj; omega) h.sort HR).mono ?_
  rintro e w' ⟨hb, ⟨i, u, hi, hit, rfl, hou⟩ | ⟨hno, rfl⟩⟩
  · have e := HY.out
    rw [got_at os t h.sort i hi hit] at e
    obtain ⟨rfl, rfl⟩ := Prod.mk.inj e
    exact ⟨u, rfl, rdP_own hou, hb⟩
  · have e := HY.out
    rw [got_no os t hno] at e
    obtain ⟨rfl, rfl⟩ := Prod.mk.inj e
    exact ⟨_, rfl, ⟨none, 0, rfl, by simp, by omega, fun h => absurd rfl h⟩, hb⟩
theorem rget_got (v : Value) (os : List Po) (t : Int) (w : World) (h : GoodO os) (HR : Hid (RdO w v os)) (y : Po) (b : Bool) (HY : Hid (gotO os t = (y, b))) :
    Calls Try.prog 12 #[v, .int .i64 t] w fun e w' => ∃ u, e = .returned (.tuple #[poV y u, .bool b]) ∧ RdP w' u y.ps ∧ Below w.heap.size w w' := by
  refine (rget_any v os t w (by have := h.few; omega) HR).mono ?_
  rintro e w' ⟨hb, ⟨i, u, hi, hit, rfl, hou⟩ | ⟨hno, rfl⟩⟩
  · have e := HY.out
    rw [got_at os t h.sort i hi hit] at e
    obtain ⟨rfl, rfl⟩ := Prod.mk.inj e
    exact ⟨u, rfl, hou, hb⟩
  · have e := HY.out
    rw [got_no os t hno] at e
    obtain ⟨rfl, rfl⟩ := Prod.mk.inj e
    exact ⟨_, rfl, ⟨none, 0, rfl, by simp, by omega, fun h => absurd rfl h⟩, hb⟩
theorem setO_keep (x : Po) : ∀ (os : List Po), 1 ≤ (setO os x).length := by
  intro os
  cases os with
  | nil => simp [setO]
  | cons a r => unfold setO; split <;> (try split) <;> simp
theorem doO_fits {os os' : List Po} {q : Pq} (h : GoodO os) (hq : q.ps.length ≤ 80) (hd : doO os q = .inl os') : os'.length ≤ 7 ∧ ∀ o ∈ os', o.ps.length ≤ 80 := by
  have hf := h.few
  have hm := fun o ho => (good_mem h o ho).1
  have key : ∀ x : Po, x.ps.length ≤ 80 → (setO os x).length ≤ 7 ∧ ∀ o ∈ setO os x, o.ps.length ≤ 80 := fun x hx => by
    refine ⟨by have := setO_len x os; omega, fun o ho => ?_⟩
    rcases setO_mem x os o ho with rfl | h1
    · exact hx
    · exact hm o h1
  unfold doO at hd
  split at hd
  · obtain rfl := Sum.inl.inj hd
    exact key _ hq
  · split at hd
    · cases hd
    · rename_i o ho
      have hmo := hm o (List.mem_of_find?_eq_some ho)
      split at hd
      · obtain rfl := Sum.inl.inj hd
        refine ⟨?_, fun o ho => hm o (List.mem_filter.1 ho).1⟩
        have := List.length_filter_le (fun o : Po => decide (o.id ≠ q.id)) os
        unfold dropO
        omega
      · split at hd
        · cases hd
        · rename_i y hy
          obtain rfl := Sum.inl.inj hd
          refine key y ?_
          unfold actO at hy
          repeat' split at hy
          all_goals first | (cases hy; done) | (obtain rfl := Option.some.inj hy; first | exact hmo | (show (chL _ _ _ _ _ _ _ _ _ _ _ _).length ≤ 80; rw [ch_len]; exact hmo))
theorem fresh_len {os os' : List Po} {q : Pq} (hd : doO os q = .inl os') (hk : q.kind = 2) : 1 ≤ os'.length ∧ (os'.length = 1 → os'.getD 0 po0 = freshO q) := by
  unfold doO at hd
  rw [if_pos hk] at hd
  obtain rfl := Sum.inl.inj hd
  refine ⟨setO_keep _ _, fun h1 => ?_⟩
  cases os with
  | nil => rfl
  | cons a r =>
    unfold setO at h1 ⊢
    split at h1
    · simp at h1
    · split at h1
      · rw [if_neg (by assumption), if_pos (by assumption)]; rfl
      · have := setO_keep (freshO q) r
        simp at h1
        have h2 := List.length_pos_iff.1 (show 0 < (setO r (freshO q)).length by omega)
        exact absurd h1 h2

end Go.Proofs.Ytadcmmkifcmknaa
