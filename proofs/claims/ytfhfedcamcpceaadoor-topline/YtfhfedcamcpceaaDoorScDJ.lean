/- Walk: script.build. -- s1 -/
import Derived.Test.YtfhfedcamcpceaaDoorM4
import Derived.Test.YtfhfedcamcpceaaDoorScCJ
import Derived.Test.YtfhfedcamcpceaaDoorReadAJ
namespace Go.Proofs.YtfhfedcamcpceaaDoor
open Go.RowKit
open Go.Lib hiding intOf

/-- an op of its numbers; false: they don't fit -/
def bres (s : Shp) (ns : List Int) : Pq × Bool := if Sc.fitN s ns = true then (Sc.opN s ns, true) else (q00, false)
def BuildP (r : Pq × Bool) (w : World) (e : Ending) (w' : World) : Prop := ∃ u, e = .returned (.tuple #[opV r.1 u, .bool r.2]) ∧ w'.ownsRow w.heap.size 88 2 u r.1.ps.length (pixCells r.1.ps) ∧ Below w.heap.size w w'
theorem build_no {r : Pq × Bool} {w w' : World} (h : Hid (r = (q00, false))) (hb : Below w.heap.size w w') : BuildP r w (.returned (.tuple #[.agg #[.int .i64 0, .int .i64 0, .int .i64 0, .int .i64 0, .int .i64 0, .int .i64 0, .int .i64 0, .int .i64 0, .slice none 0 0], .bool false])) w' := by
  rw [h.out]; exact ⟨.slice none 0 0, rfl, World.ownsRow_nil _ _ _ _, hb⟩
theorem RdI.shape {w : World} {v : Value} {ns : List Int} (h : RdI w v ns) : ∃ a cap, v = .slice a ns.length cap ∧ ns.length ≤ cap ∧ cap ≤ 9223372036854775807 := by
  obtain ⟨a, cap, hv, hl, hc, _⟩ := h; exact ⟨a, cap, hv, hl, hc⟩
/-- the numbers of an op, behind its ID -/
def fN (rs : List Int) (nn : Nat) (j : Nat) : Int := if j < nn then rs.getD j 0 else 0
def tailR (kd : Nat) (idn : Int) (nn : Nat) (fp : Bool) (rs : List Int) : Pq × Bool :=
  if rs.length < nn ∨ (fp = false ∧ nn < rs.length) then (q00, false)
  else if fp = false then (⟨kd, idn, fN rs nn 0, fN rs nn 1, fN rs nn 2, fN rs nn 3, 0, 0, []⟩, true)
  else if (picN (rs.drop nn)).2.2.2 = true then (⟨kd, idn, fN rs nn 0, fN rs nn 1, fN rs nn 2, fN rs nn 3, (picN (rs.drop nn)).1, (picN (rs.drop nn)).2.1, (picN (rs.drop nn)).2.2.1⟩, true) else (q00, false)
theorem drop_getD (l : List Int) (k j : Nat) : (l.drop k).getD j 0 = l.getD (k + j) 0 := by rw [List.getD_eq_getElem?_getD, List.getD_eq_getElem?_getD, List.getElem?_drop]
theorem bres_tail (s : Shp) (ns : List Int) (h : ¬ (s.id = true ∧ ns.length = 0)) : bres s ns = tailR s.kind (if s.id then ns.getD 0 0 else 0) s.nums s.pic (Sc.restN s ns) := by
  have hf : Sc.fitN s ns = (!decide ((Sc.restN s ns).length < s.nums) && (s.pic || decide ((Sc.restN s ns).length ≤ s.nums)) && (!s.pic || (decide (s.nums + 2 ≤ (Sc.restN s ns).length) && decide (((Sc.restN s ns).length - s.nums) % 2 = 0)))) := by
    unfold Sc.fitN
    have : (s.id && decide (ns.length = 0)) = false := by
      cases hi : s.id with
      | false => rfl
      | true => simp only [Bool.true_and, decide_eq_false_iff_not]; exact fun e => h ⟨hi, e⟩
    rw [this]
    simp
  unfold bres tailR
  rw [hf]
  generalize hrs : Sc.restN s ns = rs
  cases hp : s.pic with
  | false =>
    by_cases h1 : rs.length < s.nums
    · rw [if_neg (by simp [h1]), if_pos (.inl h1)]
    · by_cases h2 : s.nums < rs.length
      · rw [if_neg (by simp [h1]; omega), if_pos (.inr ⟨rfl, h2⟩)]
      · rw [if_pos (by simp [h1]; omega), if_neg (by simp; omega), if_pos rfl]
        unfold Sc.opN Sc.num4 fN
        rw [hp, hrs]
        rfl
  | true =>
    by_cases h1 : rs.length < s.nums
    · rw [if_neg (by simp [h1]), if_pos (.inl h1)]
    · have hl : (rs.drop s.nums).length = rs.length - s.nums := List.length_drop
      by_cases h3 : s.nums + 2 ≤ rs.length ∧ (rs.length - s.nums) % 2 = 0
      · rw [if_pos (by simp [h1]; exact ⟨h3.1, h3.2⟩), if_neg (by simp [h1]), if_neg (by simp)]
        have hpn : picN (rs.drop s.nums) = (rs.getD s.nums 0, rs.getD (s.nums + 1) 0, Sc.pairN (rs.drop (s.nums + 2)), true) := by
          unfold picN
          rw [hl, if_pos ⟨by omega, h3.2⟩, drop_getD, drop_getD, List.drop_drop]
          rfl
        rw [hpn]
        simp only [if_true]
        unfold Sc.opN Sc.num4 fN
        rw [hp, hrs]
        rfl
      · rw [if_neg (by simp [h1]; intro e1; have : ¬ (rs.length - s.nums) % 2 = 0 := fun e2 => h3 ⟨e1, e2⟩; omega), if_neg (by simp [h1]), if_neg (by simp)]
        have hpn : (picN (rs.drop s.nums)).2.2.2 = false := by
          unfold picN
          rw [hl, if_neg (by intro e; exact h3 ⟨by omega, e.2⟩)]
        rw [hpn, if_neg (by simp)]
theorem RdI.onB {w w' : World} {g o n cap B : Nat} {ns : List Int} (h : RdI w (.slice (some ⟨g, o, none⟩) n cap) ns) (hb : Below B w w') (hg : g < B) : RdI w' (.slice (some ⟨g, o, none⟩) n cap) ns := by
  obtain ⟨a, cap', hv, hl, hc, hh⟩ := h
  refine ⟨a, cap', hv, hl, hc, fun hne => ?_⟩
  obtain ⟨g', off, ha, hg', hcell⟩ := hh hne
  simp only [Value.slice.injEq] at hv
  rw [ha] at hv
  have e := hv.1
  simp only [Option.some.injEq, Addr.mk.injEq, and_true] at e
  obtain ⟨rfl, rfl⟩ := e
  exact ⟨g, o, ha, Nat.lt_of_lt_of_le hg' hb.size, fun j hj => (hb.cell (p := ⟨g, o + j, none⟩) hg).trans (hcell j hj)⟩
/-- from a place on -/
theorem RdI.from {w : World} {g o n cap : Nat} {ns : List Int} (h : RdI w (.slice (some ⟨g, o, none⟩) n cap) ns) (k : Nat) (hk : k ≤ n) : RdI w (.slice (some ⟨g, o + k, none⟩) (n - k) (cap - k)) (ns.drop k) ∧ n ≤ cap := by
  obtain ⟨a', cap', hv, hl, hc, hh⟩ := h
  simp only [Value.slice.injEq] at hv
  obtain ⟨ha, hn, rfl⟩ := hv
  have hdl : (ns.drop k).length = n - k := by rw [List.length_drop]; omega
  refine ⟨⟨_, _, by rw [hdl], by omega, by omega, fun hne => ?_⟩, by omega⟩
  obtain ⟨g', o', ha', hg, hcell⟩ := hh (by intro e; rw [e] at hne; simp at hne)
  rw [ha'] at ha
  simp only [Option.some.injEq, Addr.mk.injEq, and_true] at ha
  obtain ⟨rfl, rfl⟩ := ha
  refine ⟨g, o + k, rfl, hg, fun j hj => ?_⟩
  have := hcell (k + j) (by omega)
  rw [show o + k + j = o + (k + j) by omega, this]
  congr 2
  rw [List.getD_eq_getElem?_getD, List.getD_eq_getElem?_getD, List.getElem?_drop]
/-- from a place on: the slice that the model makes -/
theorem RdI.cut {w : World} {g o n cap : Nat} {ns : List Int} (h : RdI w (.slice (some ⟨g, o, none⟩) n cap) ns) (k : Nat) (hk : k ≤ n) : ∃ o1, Hid ((if cap = k then some (⟨g, o, none⟩ : Addr) else some ⟨g, o + k, none⟩) = some ⟨g, o1, none⟩) ∧ Hid (RdI w (.slice (some ⟨g, o1, none⟩) (n - k) (cap - k)) (ns.drop k)) ∧ n ≤ cap := by
  obtain ⟨h1, h2⟩ := h.from k hk
  by_cases hc : cap = k
  · refine ⟨o, by unfold Hid; rw [if_pos hc], ?_, h2⟩
    obtain ⟨a', cap', hv, hl, hcc, hh⟩ := h1
    refine ⟨some ⟨g, o, none⟩, cap', ?_, hl, hcc, fun hne => ?_⟩
    · simp only [Value.slice.injEq] at hv
      rw [← hv.2.1, ← hv.2.2]
    · simp only [Value.slice.injEq] at hv
      have : 0 < (ns.drop k).length := List.length_pos_iff.2 hne
      omega
  · exact ⟨o + k, by unfold Hid; rw [if_neg hc], h1, h2⟩
theorem slots_of {W : World} {c : Nat} {f : Nat → Int} {T : TypeId} (h : W.heap[c]? = some (.cells ([.int .i64 (f 0), .int .i64 (f 1), .int .i64 (f 2), .int .i64 (f 3)] : List Value).toArray T (0, 0))) : Slots W.drew c f := by
  have h2 : W.heap[c]? = some (.cells #[.int .i64 (f 0), .int .i64 (f 1), .int .i64 (f 2), .int .i64 (f 3)] T (0, 0)) := by simpa using h
  refine ⟨fun j hj => ?_, fun j hj => ?_⟩
  · show W.cell? ⟨c, j, none⟩ = _
    rw [cell_of_row W c j _ _ _ h2]
    rcases (show j = 0 ∨ j = 1 ∨ j = 2 ∨ j = 3 by omega) with rfl | rfl | rfl | rfl <;> rfl
  · show W.frozen? ⟨c, j, none⟩ = _
    unfold World.frozen?
    rw [h2]
    simp
theorem nums_cases : ∀ s ∈ shps, s.nums = 0 ∨ s.nums = 1 ∨ s.nums = 2 ∨ s.nums = 4 := by decide
/-- the array's cells behind the copy -/
theorem four_new (rs : List Int) (nn : Nat) (hn : nn ≤ 4) (hr : nn ≤ rs.length) : intCells (rs.take nn) ++ ([.int .i64 0, .int .i64 0, .int .i64 0, .int .i64 0] : List Value).drop nn =
    [.int .i64 (if 0 < nn then rs.getD 0 0 else 0), .int .i64 (if 1 < nn then rs.getD 1 0 else 0), .int .i64 (if 2 < nn then rs.getD 2 0 else 0), .int .i64 (if 3 < nn then rs.getD 3 0 else 0)] := by
  rcases (show nn = 0 ∨ nn = 1 ∨ nn = 2 ∨ nn = 3 ∨ nn = 4 by omega) with rfl | rfl | rfl | rfl | rfl
  all_goals
    rcases rs with _ | ⟨a, _ | ⟨b, _ | ⟨c, _ | ⟨d, r⟩⟩⟩⟩ <;> first | (simp at hr; done) | simp [intCells]
theorem set9_below {B A : Nat} {w X : World} (h : Below B w X) (hA : B ≤ A) (v0 v1 v2 v3 v4 v5 v6 v7 v8 : Value) :
    Below B w (((((((((X.setCell ⟨A, 0, none⟩ v0).setCell ⟨A, 1, none⟩ v1).setCell ⟨A, 2, none⟩ v2).setCell ⟨A, 3, none⟩ v3).setCell ⟨A, 4, none⟩ v4).setCell ⟨A, 5, none⟩ v5).setCell ⟨A, 6, none⟩ v6).setCell ⟨A, 7, none⟩ v7).setCell ⟨A, 8, none⟩ v8) :=
  ((((((((h.setCell hA _).setCell hA _).setCell hA _).setCell hA _).setCell hA _).setCell hA _).setCell hA _).setCell hA _).setCell hA _
theorem set3_below {B A : Nat} {w X : World} (h : Below B w X) (hA : B ≤ A) (v6 v7 v8 : Value) : Below B w (((X.setCell ⟨A, 6, none⟩ v6).setCell ⟨A, 7, none⟩ v7).setCell ⟨A, 8, none⟩ v8) := ((h.setCell hA _).setCell hA _).setCell hA _
theorem set3_own {w : World} {B A : Nat} {e : TypeId} {size : Nat} {v : Value} {n : Nat} {xs : List Value} (h : w.ownsRow B e size v n xs) (hA : A < B) (v6 v7 v8 : Value) : (((w.setCell ⟨A, 6, none⟩ v6).setCell ⟨A, 7, none⟩ v7).setCell ⟨A, 8, none⟩ v8).ownsRow B e size v n xs :=
  ownsRow_setCell_below (ownsRow_setCell_below (ownsRow_setCell_below h hA _) hA _) hA _
theorem set9_own {w : World} {B A : Nat} {e : TypeId} {size : Nat} {v : Value} {n : Nat} {xs : List Value} (h : w.ownsRow B e size v n xs) (hA : A < B) (v0 v1 v2 v3 v4 v5 v6 v7 v8 : Value) :
    (((((((((w.setCell ⟨A, 0, none⟩ v0).setCell ⟨A, 1, none⟩ v1).setCell ⟨A, 2, none⟩ v2).setCell ⟨A, 3, none⟩ v3).setCell ⟨A, 4, none⟩ v4).setCell ⟨A, 5, none⟩ v5).setCell ⟨A, 6, none⟩ v6).setCell ⟨A, 7, none⟩ v7).setCell ⟨A, 8, none⟩ v8).ownsRow B e size v n xs :=
  ownsRow_setCell_below (ownsRow_setCell_below (ownsRow_setCell_below (ownsRow_setCell_below (ownsRow_setCell_below (ownsRow_setCell_below (ownsRow_setCell_below (ownsRow_setCell_below (ownsRow_setCell_below h hA _) hA _) hA _) hA _) hA _) hA _) hA _) hA _) hA _
theorem Nine.put1 {W : World} {b : Nat} {x0 x1 x2 x3 x4 x5 x6 x7 x8 : Value} (h : Nine W b x0 x1 x2 x3 x4 x5 x6 x7 x8) (y : Value) : Nine (W.setCell ⟨b, 1, none⟩ y) b x0 y x2 x3 x4 x5 x6 x7 x8 :=
  ⟨(World.cell?_setCell_other _ ⟨b, 1, none⟩ ⟨b, 0, none⟩ _ (by simp)).trans h.c0, World.cell?_setCell_same _ _ _ h.c1, (World.cell?_setCell_other _ ⟨b, 1, none⟩ ⟨b, 2, none⟩ _ (by simp)).trans h.c2, (World.cell?_setCell_other _ ⟨b, 1, none⟩ ⟨b, 3, none⟩ _ (by simp)).trans h.c3, (World.cell?_setCell_other _ ⟨b, 1, none⟩ ⟨b, 4, none⟩ _ (by simp)).trans h.c4, (World.cell?_setCell_other _ ⟨b, 1, none⟩ ⟨b, 5, none⟩ _ (by simp)).trans h.c5, (World.cell?_setCell_other _ ⟨b, 1, none⟩ ⟨b, 6, none⟩ _ (by simp)).trans h.c6, (World.cell?_setCell_other _ ⟨b, 1, none⟩ ⟨b, 7, none⟩ _ (by simp)).trans h.c7, (World.cell?_setCell_other _ ⟨b, 1, none⟩ ⟨b, 8, none⟩ _ (by simp)).trans h.c8, (World.frozen?_setCell _ _ _ _).trans h.f0, (World.frozen?_setCell _ _ _ _).trans h.f1, (World.frozen?_setCell _ _ _ _).trans h.f2, (World.frozen?_setCell _ _ _ _).trans h.f3, (World.frozen?_setCell _ _ _ _).trans h.f4, (World.frozen?_setCell _ _ _ _).trans h.f5, (World.frozen?_setCell _ _ _ _).trans h.f6, (World.frozen?_setCell _ _ _ _).trans h.f7, (World.frozen?_setCell _ _ _ _).trans h.f8, by simpa using h.lt⟩
theorem Nine.put2 {W : World} {b : Nat} {x0 x1 x2 x3 x4 x5 x6 x7 x8 : Value} (h : Nine W b x0 x1 x2 x3 x4 x5 x6 x7 x8) (y : Value) : Nine (W.setCell ⟨b, 2, none⟩ y) b x0 x1 y x3 x4 x5 x6 x7 x8 :=
  ⟨(World.cell?_setCell_other _ ⟨b, 2, none⟩ ⟨b, 0, none⟩ _ (by simp)).trans h.c0, (World.cell?_setCell_other _ ⟨b, 2, none⟩ ⟨b, 1, none⟩ _ (by simp)).trans h.c1, World.cell?_setCell_same _ _ _ h.c2, (World.cell?_setCell_other _ ⟨b, 2, none⟩ ⟨b, 3, none⟩ _ (by simp)).trans h.c3, (World.cell?_setCell_other _ ⟨b, 2, none⟩ ⟨b, 4, none⟩ _ (by simp)).trans h.c4, (World.cell?_setCell_other _ ⟨b, 2, none⟩ ⟨b, 5, none⟩ _ (by simp)).trans h.c5, (World.cell?_setCell_other _ ⟨b, 2, none⟩ ⟨b, 6, none⟩ _ (by simp)).trans h.c6, (World.cell?_setCell_other _ ⟨b, 2, none⟩ ⟨b, 7, none⟩ _ (by simp)).trans h.c7, (World.cell?_setCell_other _ ⟨b, 2, none⟩ ⟨b, 8, none⟩ _ (by simp)).trans h.c8, (World.frozen?_setCell _ _ _ _).trans h.f0, (World.frozen?_setCell _ _ _ _).trans h.f1, (World.frozen?_setCell _ _ _ _).trans h.f2, (World.frozen?_setCell _ _ _ _).trans h.f3, (World.frozen?_setCell _ _ _ _).trans h.f4, (World.frozen?_setCell _ _ _ _).trans h.f5, (World.frozen?_setCell _ _ _ _).trans h.f6, (World.frozen?_setCell _ _ _ _).trans h.f7, (World.frozen?_setCell _ _ _ _).trans h.f8, by simpa using h.lt⟩
theorem Nine.put3 {W : World} {b : Nat} {x0 x1 x2 x3 x4 x5 x6 x7 x8 : Value} (h : Nine W b x0 x1 x2 x3 x4 x5 x6 x7 x8) (y : Value) : Nine (W.setCell ⟨b, 3, none⟩ y) b x0 x1 x2 y x4 x5 x6 x7 x8 :=
  ⟨(World.cell?_setCell_other _ ⟨b, 3, none⟩ ⟨b, 0, none⟩ _ (by simp)).trans h.c0, (World.cell?_setCell_other _ ⟨b, 3, none⟩ ⟨b, 1, none⟩ _ (by simp)).trans h.c1, (World.cell?_setCell_other _ ⟨b, 3, none⟩ ⟨b, 2, none⟩ _ (by simp)).trans h.c2, World.cell?_setCell_same _ _ _ h.c3, (World.cell?_setCell_other _ ⟨b, 3, none⟩ ⟨b, 4, none⟩ _ (by simp)).trans h.c4, (World.cell?_setCell_other _ ⟨b, 3, none⟩ ⟨b, 5, none⟩ _ (by simp)).trans h.c5, (World.cell?_setCell_other _ ⟨b, 3, none⟩ ⟨b, 6, none⟩ _ (by simp)).trans h.c6, (World.cell?_setCell_other _ ⟨b, 3, none⟩ ⟨b, 7, none⟩ _ (by simp)).trans h.c7, (World.cell?_setCell_other _ ⟨b, 3, none⟩ ⟨b, 8, none⟩ _ (by simp)).trans h.c8, (World.frozen?_setCell _ _ _ _).trans h.f0, (World.frozen?_setCell _ _ _ _).trans h.f1, (World.frozen?_setCell _ _ _ _).trans h.f2, (World.frozen?_setCell _ _ _ _).trans h.f3, (World.frozen?_setCell _ _ _ _).trans h.f4, (World.frozen?_setCell _ _ _ _).trans h.f5, (World.frozen?_setCell _ _ _ _).trans h.f6, (World.frozen?_setCell _ _ _ _).trans h.f7, (World.frozen?_setCell _ _ _ _).trans h.f8, by simpa using h.lt⟩
theorem Nine.put4 {W : World} {b : Nat} {x0 x1 x2 x3 x4 x5 x6 x7 x8 : Value} (h : Nine W b x0 x1 x2 x3 x4 x5 x6 x7 x8) (y : Value) : Nine (W.setCell ⟨b, 4, none⟩ y) b x0 x1 x2 x3 y x5 x6 x7 x8 :=
  ⟨(World.cell?_setCell_other _ ⟨b, 4, none⟩ ⟨b, 0, none⟩ _ (by simp)).trans h.c0, (World.cell?_setCell_other _ ⟨b, 4, none⟩ ⟨b, 1, none⟩ _ (by simp)).trans h.c1, (World.cell?_setCell_other _ ⟨b, 4, none⟩ ⟨b, 2, none⟩ _ (by simp)).trans h.c2, (World.cell?_setCell_other _ ⟨b, 4, none⟩ ⟨b, 3, none⟩ _ (by simp)).trans h.c3, World.cell?_setCell_same _ _ _ h.c4, (World.cell?_setCell_other _ ⟨b, 4, none⟩ ⟨b, 5, none⟩ _ (by simp)).trans h.c5, (World.cell?_setCell_other _ ⟨b, 4, none⟩ ⟨b, 6, none⟩ _ (by simp)).trans h.c6, (World.cell?_setCell_other _ ⟨b, 4, none⟩ ⟨b, 7, none⟩ _ (by simp)).trans h.c7, (World.cell?_setCell_other _ ⟨b, 4, none⟩ ⟨b, 8, none⟩ _ (by simp)).trans h.c8, (World.frozen?_setCell _ _ _ _).trans h.f0, (World.frozen?_setCell _ _ _ _).trans h.f1, (World.frozen?_setCell _ _ _ _).trans h.f2, (World.frozen?_setCell _ _ _ _).trans h.f3, (World.frozen?_setCell _ _ _ _).trans h.f4, (World.frozen?_setCell _ _ _ _).trans h.f5, (World.frozen?_setCell _ _ _ _).trans h.f6, (World.frozen?_setCell _ _ _ _).trans h.f7, (World.frozen?_setCell _ _ _ _).trans h.f8, by simpa using h.lt⟩
theorem Nine.put5 {W : World} {b : Nat} {x0 x1 x2 x3 x4 x5 x6 x7 x8 : Value} (h : Nine W b x0 x1 x2 x3 x4 x5 x6 x7 x8) (y : Value) : Nine (W.setCell ⟨b, 5, none⟩ y) b x0 x1 x2 x3 x4 y x6 x7 x8 :=
  ⟨(World.cell?_setCell_other _ ⟨b, 5, none⟩ ⟨b, 0, none⟩ _ (by simp)).trans h.c0, (World.cell?_setCell_other _ ⟨b, 5, none⟩ ⟨b, 1, none⟩ _ (by simp)).trans h.c1, (World.cell?_setCell_other _ ⟨b, 5, none⟩ ⟨b, 2, none⟩ _ (by simp)).trans h.c2, (World.cell?_setCell_other _ ⟨b, 5, none⟩ ⟨b, 3, none⟩ _ (by simp)).trans h.c3, (World.cell?_setCell_other _ ⟨b, 5, none⟩ ⟨b, 4, none⟩ _ (by simp)).trans h.c4, World.cell?_setCell_same _ _ _ h.c5, (World.cell?_setCell_other _ ⟨b, 5, none⟩ ⟨b, 6, none⟩ _ (by simp)).trans h.c6, (World.cell?_setCell_other _ ⟨b, 5, none⟩ ⟨b, 7, none⟩ _ (by simp)).trans h.c7, (World.cell?_setCell_other _ ⟨b, 5, none⟩ ⟨b, 8, none⟩ _ (by simp)).trans h.c8, (World.frozen?_setCell _ _ _ _).trans h.f0, (World.frozen?_setCell _ _ _ _).trans h.f1, (World.frozen?_setCell _ _ _ _).trans h.f2, (World.frozen?_setCell _ _ _ _).trans h.f3, (World.frozen?_setCell _ _ _ _).trans h.f4, (World.frozen?_setCell _ _ _ _).trans h.f5, (World.frozen?_setCell _ _ _ _).trans h.f6, (World.frozen?_setCell _ _ _ _).trans h.f7, (World.frozen?_setCell _ _ _ _).trans h.f8, by simpa using h.lt⟩
theorem Nine.put6 {W : World} {b : Nat} {x0 x1 x2 x3 x4 x5 x6 x7 x8 : Value} (h : Nine W b x0 x1 x2 x3 x4 x5 x6 x7 x8) (y : Value) : Nine (W.setCell ⟨b, 6, none⟩ y) b x0 x1 x2 x3 x4 x5 y x7 x8 :=
  ⟨(World.cell?_setCell_other _ ⟨b, 6, none⟩ ⟨b, 0, none⟩ _ (by simp)).trans h.c0, (World.cell?_setCell_other _ ⟨b, 6, none⟩ ⟨b, 1, none⟩ _ (by simp)).trans h.c1, (World.cell?_setCell_other _ ⟨b, 6, none⟩ ⟨b, 2, none⟩ _ (by simp)).trans h.c2, (World.cell?_setCell_other _ ⟨b, 6, none⟩ ⟨b, 3, none⟩ _ (by simp)).trans h.c3, (World.cell?_setCell_other _ ⟨b, 6, none⟩ ⟨b, 4, none⟩ _ (by simp)).trans h.c4, (World.cell?_setCell_other _ ⟨b, 6, none⟩ ⟨b, 5, none⟩ _ (by simp)).trans h.c5, World.cell?_setCell_same _ _ _ h.c6, (World.cell?_setCell_other _ ⟨b, 6, none⟩ ⟨b, 7, none⟩ _ (by simp)).trans h.c7, (World.cell?_setCell_other _ ⟨b, 6, none⟩ ⟨b, 8, none⟩ _ (by simp)).trans h.c8, (World.frozen?_setCell _ _ _ _).trans h.f0, (World.frozen?_setCell _ _ _ _).trans h.f1, (World.frozen?_setCell _ _ _ _).trans h.f2, (World.frozen?_setCell _ _ _ _).trans h.f3, (World.frozen?_setCell _ _ _ _).trans h.f4, (World.frozen?_setCell _ _ _ _).trans h.f5, (World.frozen?_setCell _ _ _ _).trans h.f6, (World.frozen?_setCell _ _ _ _).trans h.f7, (World.frozen?_setCell _ _ _ _).trans h.f8, by simpa using h.lt⟩
theorem Nine.put7 {W : World} {b : Nat} {x0 x1 x2 x3 x4 x5 x6 x7 x8 : Value} (h : Nine W b x0 x1 x2 x3 x4 x5 x6 x7 x8) (y : Value) : Nine (W.setCell ⟨b, 7, none⟩ y) b x0 x1 x2 x3 x4 x5 x6 y x8 :=
  ⟨(World.cell?_setCell_other _ ⟨b, 7, none⟩ ⟨b, 0, none⟩ _ (by simp)).trans h.c0, (World.cell?_setCell_other _ ⟨b, 7, none⟩ ⟨b, 1, none⟩ _ (by simp)).trans h.c1, (World.cell?_setCell_other _ ⟨b, 7, none⟩ ⟨b, 2, none⟩ _ (by simp)).trans h.c2, (World.cell?_setCell_other _ ⟨b, 7, none⟩ ⟨b, 3, none⟩ _ (by simp)).trans h.c3, (World.cell?_setCell_other _ ⟨b, 7, none⟩ ⟨b, 4, none⟩ _ (by simp)).trans h.c4, (World.cell?_setCell_other _ ⟨b, 7, none⟩ ⟨b, 5, none⟩ _ (by simp)).trans h.c5, (World.cell?_setCell_other _ ⟨b, 7, none⟩ ⟨b, 6, none⟩ _ (by simp)).trans h.c6, World.cell?_setCell_same _ _ _ h.c7, (World.cell?_setCell_other _ ⟨b, 7, none⟩ ⟨b, 8, none⟩ _ (by simp)).trans h.c8, (World.frozen?_setCell _ _ _ _).trans h.f0, (World.frozen?_setCell _ _ _ _).trans h.f1, (World.frozen?_setCell _ _ _ _).trans h.f2, (World.frozen?_setCell _ _ _ _).trans h.f3, (World.frozen?_setCell _ _ _ _).trans h.f4, (World.frozen?_setCell _ _ _ _).trans h.f5, (World.frozen?_setCell _ _ _ _).trans h.f6, (World.frozen?_setCell _ _ _ _).trans h.f7, (World.frozen?_setCell _ _ _ _).trans h.f8, by simpa using h.lt⟩
theorem Nine.put8 {W : World} {b : Nat} {x0 x1 x2 x3 x4 x5 x6 x7 x8 : Value} (h : Nine W b x0 x1 x2 x3 x4 x5 x6 x7 x8) (y : Value) : Nine (W.setCell ⟨b, 8, none⟩ y) b x0 x1 x2 x3 x4 x5 x6 x7 y :=
  ⟨(World.cell?_setCell_other _ ⟨b, 8, none⟩ ⟨b, 0, none⟩ _ (by simp)).trans h.c0, (World.cell?_setCell_other _ ⟨b, 8, none⟩ ⟨b, 1, none⟩ _ (by simp)).trans h.c1, (World.cell?_setCell_other _ ⟨b, 8, none⟩ ⟨b, 2, none⟩ _ (by simp)).trans h.c2, (World.cell?_setCell_other _ ⟨b, 8, none⟩ ⟨b, 3, none⟩ _ (by simp)).trans h.c3, (World.cell?_setCell_other _ ⟨b, 8, none⟩ ⟨b, 4, none⟩ _ (by simp)).trans h.c4, (World.cell?_setCell_other _ ⟨b, 8, none⟩ ⟨b, 5, none⟩ _ (by simp)).trans h.c5, (World.cell?_setCell_other _ ⟨b, 8, none⟩ ⟨b, 6, none⟩ _ (by simp)).trans h.c6, (World.cell?_setCell_other _ ⟨b, 8, none⟩ ⟨b, 7, none⟩ _ (by simp)).trans h.c7, World.cell?_setCell_same _ _ _ h.c8, (World.frozen?_setCell _ _ _ _).trans h.f0, (World.frozen?_setCell _ _ _ _).trans h.f1, (World.frozen?_setCell _ _ _ _).trans h.f2, (World.frozen?_setCell _ _ _ _).trans h.f3, (World.frozen?_setCell _ _ _ _).trans h.f4, (World.frozen?_setCell _ _ _ _).trans h.f5, (World.frozen?_setCell _ _ _ _).trans h.f6, (World.frozen?_setCell _ _ _ _).trans h.f7, (World.frozen?_setCell _ _ _ _).trans h.f8, by simpa using h.lt⟩
theorem Nine.other {W : World} {b b' j : Nat} {x0 x1 x2 x3 x4 x5 x6 x7 x8 u : Value} (h : Nine W b x0 x1 x2 x3 x4 x5 x6 x7 x8) (hne : b ≠ b') : Nine (W.setCell ⟨b', j, none⟩ u) b x0 x1 x2 x3 x4 x5 x6 x7 x8 := by
  obtain ⟨c0, c1, c2, c3, c4, c5, c6, c7, c8, f0, f1, f2, f3, f4, f5, f6, f7, f8, lt⟩ := h
  have k : ∀ i, (W.setCell ⟨b', j, none⟩ u).cell? ⟨b, i, none⟩ = W.cell? ⟨b, i, none⟩ := fun i => World.cell?_of_block (Below.heap_setCell W ⟨b', j, none⟩ u b hne)
  have q : ∀ i, (W.setCell ⟨b', j, none⟩ u).frozen? ⟨b, i, none⟩ = W.frozen? ⟨b, i, none⟩ := fun i => World.frozen?_of_block (Below.heap_setCell W ⟨b', j, none⟩ u b hne)
  exact ⟨(k 0).trans c0, (k 1).trans c1, (k 2).trans c2, (k 3).trans c3, (k 4).trans c4, (k 5).trans c5, (k 6).trans c6, (k 7).trans c7, (k 8).trans c8, (q 0).trans f0, (q 1).trans f1, (q 2).trans f2, (q 3).trans f3, (q 4).trans f4, (q 5).trans f5, (q 6).trans f6, (q 7).trans f7, (q 8).trans f8, by simpa using lt⟩

set_option maxHeartbeats 16000000 in
set_option maxRecDepth 100000 in
theorem buildS_any (kd : Nat) (s : Shp) (g o n cap : Nat) (ns : List Int) (w : World) (HS : Hid (Shapes w)) (h1 : 3 < w.heap.size) (HK : Hid (kindAt (kd : Int) shps = some s)) (hgw : g < w.heap.size) (HR : Hid (RdI w (.slice (some ⟨g, o, none⟩) n cap) ns)) (HN : Hid (ns.length = n)) (hn : n ≤ 1000000) (r : Pq × Bool) (HB : Hid (bres s ns = r)) :
    Calls Tryd.prog 47 #[.int .i64 (kd : Int), .slice (some ⟨g, o, none⟩) n cap] w fun e w' => BuildP r w e w' := by
  obtain ⟨hl, hcap⟩ : n ≤ cap ∧ cap ≤ 9223372036854775807 := by
    obtain ⟨a', cap', hv, hl, hcap⟩ := HR.out.shape
    rw [HN.out] at hv hl
    simp only [Value.slice.injEq] at hv
    obtain ⟨_, _, rfl⟩ := hv
    exact ⟨hl, hcap⟩
  obtain ⟨X0, HX0⟩ : ∃ X0, Hid (w.alloc (.cells #[.int .i64 0, .int .i64 0, .int .i64 0, .int .i64 0, .int .i64 0, .int .i64 0, .int .i64 0, .int .i64 0, .slice none 0 0] 26) = X0) := ⟨_, (rfl : _ = _)⟩
  have hbx : Below w.heap.size w X0 := by rw [← HX0.out]; exact (Below.refl _ _).alloc (Nat.le_refl _) _
  have NX : Hid (Nine X0 w.heap.size (.int .i64 0) (.int .i64 0) (.int .i64 0) (.int .i64 0) (.int .i64 0) (.int .i64 0) (.int .i64 0) (.int .i64 0) (.slice none 0 0)) := by rw [← HX0.out]; exact nine_start _ _ _ _ _ _ _ _ _ _ _ _ rfl
  have HPA := hid_of3 (opParts_any (kd : Int) s X0 (HS.out.on h1 hbx) (Nat.lt_of_lt_of_le h1 hbx.size) HK)
  go_enter Tryd.func47, Tryd.ntmps47
  go_wp2_with fail
  rw [HX0.out]
  refine HPA.out.mono ?_
  rintro e w1 ⟨rfl, hb1⟩
  clear HPA HX0
  have HKD : Hid (s.kind = kd) := by have := (kindAt_mem _ _ _ HK.out).2; unfold Hid; omega
  obtain ⟨fid, HFI⟩ : ∃ f, Hid (s.id = f) := ⟨_, (rfl : _ = _)⟩
  obtain ⟨nn, HNN⟩ : ∃ f, Hid (s.nums = f) := ⟨_, (rfl : _ = _)⟩
  obtain ⟨fp, HFP⟩ : ∃ f, Hid (s.pic = f) := ⟨_, (rfl : _ = _)⟩
  rw [HFI.out, HNN.out, HFP.out]
  obtain ⟨X1, HX1⟩ : ∃ X1, Hid (w1.alloc (.cells #[.int .i64 (kd : Int), .int .i64 0, .int .i64 0, .int .i64 0, .int .i64 0, .int .i64 0, .int .i64 0, .int .i64 0, .slice none 0 0] 26) = X1) := ⟨_, (rfl : _ = _)⟩
  have hbx1 : Below w1.heap.size w1 X1 := by rw [← HX1.out]; exact (Below.refl _ _).alloc (Nat.le_refl _) _
  have NA : Hid (Nine X1 w.heap.size (.int .i64 0) (.int .i64 0) (.int .i64 0) (.int .i64 0) (.int .i64 0) (.int .i64 0) (.int .i64 0) (.int .i64 0) (.slice none 0 0)) := (NX.out.on hb1).on hbx1
  have NO : Hid (Nine X1 w1.heap.size (.int .i64 (kd : Int)) (.int .i64 0) (.int .i64 0) (.int .i64 0) (.int .i64 0) (.int .i64 0) (.int .i64 0) (.int .i64 0) (.slice none 0 0)) := by rw [← HX1.out]; exact nine_start _ _ _ _ _ _ _ _ _ _ _ _ rfl
  have hbw1 : Below w.heap.size w w1 := hbx.trans (hb1.mono hbx.size)
  have hbX : Below w.heap.size w X1 := hbw1.trans (hbx1.mono hbw1.size)
  have hA : w.heap.size < w1.heap.size := Nat.lt_of_lt_of_le NX.out.lt hb1.size
  have HRX : Hid (RdI X1 (.slice (some ⟨g, o, none⟩) n cap) ns) := HR.out.on hbX
  go_upto_region 3 with fail
  rw [HX1.out]
  clear HX1 NX hb1 hbx1
  cases fid with
  | true =>
    by_cases hn0 : n = 0
    · subst hn0
      have hr : Hid (r = (q00, false)) := by
        unfold Hid
        rw [← HB.out]
        unfold bres
        rw [if_neg]
        unfold Sc.fitN
        rw [HFI.out, HN.out]
        simp
      obtain ⟨r0, r1, r2, r3, r4, r5, r6, r7, r8, rf0, rf1, rf2, rf3, rf4, rf5, rf6, rf7, rf8, rlt⟩ := NA.out
      go_wp2_with fail
      refine bodyPost_ret (v := .tuple #[.agg #[.int .i64 0, .int .i64 0, .int .i64 0, .int .i64 0, .int .i64 0, .int .i64 0, .int .i64 0, .int .i64 0, .slice none 0 0], .bool false]) (by simp [results, Tryd.results47, go_sem, r0, r1, r2, r3, r4, r5, r6, r7, r8]) rfl (build_no hr ?_)
      exact set9_below hbX (Nat.le_refl _) _ _ _ _ _ _ _ _ _
    · obtain ⟨x0, HX0⟩ : ∃ x, Hid (ns.getD 0 0 = x) := ⟨_, (rfl : _ = _)⟩
      obtain ⟨g', o', he, -, cx⟩ := HRX.out.at (k := 0) (by omega) HN HX0
      simp only [Option.some.injEq, Addr.mk.injEq, and_true] at he
      obtain ⟨rfl, rfl⟩ := he
      rw [Nat.add_zero] at cx
      have hgb : g ≠ w1.heap.size := by omega
      have hn1 : 0 < n := by omega
      have hn1i : (0 : Int) < (n : Int) := by omega
      have hn2 : 1 ≤ n := by omega
      have hn2i : (1 : Int) ≤ (n : Int) := by omega
      obtain ⟨k0, k1, k2, k3, k4, k5, k6, k7, k8, kf0, kf1, kf2, kf3, kf4, kf5, kf6, kf7, kf8, klt⟩ := NO.out
      go_upto_region 6 with fail
      refine wp_region_held_drew (S := (fun w' => w'.cell? ⟨g, o, none⟩ = some (.int .i64 x0))) (by kernel_rfl) ?_ (fun hHeld => ?_)
      · exact cx
      refine wpAnyH_take (i := 0) (oi := ({ dst := some 26, op := Op.move (Operand.tmp 1), type := 60, pos := "script.go:139", after := #[], guard := none } : Oper)) (v := ?_) rfl (by kernel_rfl) (by kernel_rfl) (by kernel_rfl) (fun _ _ _ h => h) (Or.inl ⟨by rfl, ?_⟩) (by assumption) ?_
      rotate_left
      · (intro w hSw; (try dsimp only at hSw); go_simp; try with_reducible rfl)
      try simp only [Act.put, List.setIfInBounds_toArray, List.set_cons_zero, List.set_cons_succ]
      refine wpAnyH_take (i := 1) (oi := ({ dst := some 27, op := Op.indexAddr 60 (Operand.tmp 26) (Operand.const (Value.int IntKind.i64 0)), type := 0, pos := "script.go:139", after := #[{ on := 0, ground := Ground.data }], guard := none } : Oper)) (v := ?_) rfl (by kernel_rfl) (by kernel_rfl) (by kernel_rfl) (fun _ _ _ h => h) (Or.inl ⟨by rfl, ?_⟩) (by assumption) ?_
      rotate_left
      · (intro w hSw; (try dsimp only at hSw); go_simp; try with_reducible rfl)
      try simp only [Act.put, List.setIfInBounds_toArray, List.set_cons_zero, List.set_cons_succ]
      refine wpAnyH_take (i := 2) (oi := ({ dst := some 28, op := Op.load 3 (Operand.tmp 27), type := 3, pos := "script.go:139", after := #[{ on := 1, ground := Ground.data }], guard := none } : Oper)) (v := ?_) rfl (by kernel_rfl) (by kernel_rfl) (by kernel_rfl) (fun _ _ _ h => h) (Or.inl ⟨by rfl, ?_⟩) (by assumption) ?_
      rotate_left
      · (intro w hSw; (try dsimp only at hSw); go_simp; try with_reducible rfl)
      try simp only [Act.put, List.setIfInBounds_toArray, List.set_cons_zero, List.set_cons_succ]
      refine wpAnyH_take (i := 3) (oi := ({ dst := some 29, op := Op.move (Operand.tmp 1), type := 60, pos := "script.go:139", after := #[], guard := none } : Oper)) (v := ?_) rfl (by kernel_rfl) (by kernel_rfl) (by kernel_rfl) (fun _ _ _ h => h) (Or.inl ⟨by rfl, ?_⟩) (by assumption) ?_
      rotate_left
      · (intro w hSw; (try dsimp only at hSw); go_simp; try with_reducible rfl)
      try simp only [Act.put, List.setIfInBounds_toArray, List.set_cons_zero, List.set_cons_succ]
      refine wpAnyH_take (i := 4) (oi := ({ dst := some 30, op := Op.slice 60 (Operand.tmp 29) (some (Operand.const (Value.int IntKind.i64 1))) none none, type := 60, pos := "script.go:139", after := #[{ on := 3, ground := Ground.data }], guard := none } : Oper)) (v := ?_) rfl (by kernel_rfl) (by kernel_rfl) (by kernel_rfl) (fun _ _ _ h => h) (Or.inl ⟨by rfl, ?_⟩) (by assumption) ?_
      rotate_left
      · (intro w hSw; (try dsimp only at hSw); go_simp; try with_reducible rfl)
      try simp only [Act.put, List.setIfInBounds_toArray, List.set_cons_zero, List.set_cons_succ]
      refine wpAnyH_take (i := 5) (oi := ({ dst := some 31, op := Op.fieldAddr 26 (Operand.tmp 9) 1, type := 0, pos := "script.go:139", after := #[{ on := 0, ground := Ground.phase }, { on := 1, ground := Ground.phase }, { on := 2, ground := Ground.phase }, { on := 3, ground := Ground.textOnly Departure.lateStores }, { on := 4, ground := Ground.textOnly Departure.lateStoresUnsure }], guard := none } : Oper)) (v := ?_) rfl (by kernel_rfl) (by kernel_rfl) (by kernel_rfl) (fun _ _ _ h => h) (Or.inl ⟨by rfl, ?_⟩) (by assumption) ?_
      rotate_left
      · (intro w hSw; (try dsimp only at hSw); go_simp; try with_reducible rfl)
      try simp only [Act.put, List.setIfInBounds_toArray, List.set_cons_zero, List.set_cons_succ]
      refine wpAnyH_ready (rs := [6]) (by kernel_rfl) (by simp) ?_
      refine AllReadyH.cons (o := ({ dst := none, op := Op.store 3 (Operand.tmp 31) (Operand.tmp 28), type := 0, pos := "script.go:139", after := #[{ on := 5, ground := Ground.data }, { on := 2, ground := Ground.data }, { on := 0, ground := Ground.phase }, { on := 1, ground := Ground.phase }, { on := 2, ground := Ground.phase }, { on := 3, ground := Ground.textOnly Departure.lateStores }, { on := 4, ground := Ground.textOnly Departure.lateStoresUnsure }], guard := none } : Oper)) rfl (fun K_ hK => ?_) AllReadyH.nil
      go_simp
      refine hK.out _ _ ?_ (fun hHeld => ?_)
      · exact (World.cell?_of_block (Below.heap_setCell X1.drew ⟨w1.heap.size, 1, none⟩ _ g hgb)).trans cx
      clear hK K_
      try simp only [Act.put, List.setIfInBounds_toArray, List.set_cons_zero, List.set_cons_succ]
      refine wpAnyH_take (i := 7) (oi := ({ dst := some 1, op := Op.assign (Operand.tmp 30), type := 60, pos := "script.go:139", after := #[{ on := 4, ground := Ground.data }, { on := 6, ground := Ground.chain }, { on := 0, ground := Ground.phase }, { on := 1, ground := Ground.phase }, { on := 2, ground := Ground.phase }, { on := 3, ground := Ground.phase }, { on := 4, ground := Ground.phase }, { on := 5, ground := Ground.phase }, { on := 6, ground := Ground.phase }], guard := none } : Oper)) (v := ?_) rfl (by kernel_rfl) (by kernel_rfl) (by kernel_rfl) (fun _ _ _ h => h) (Or.inl ⟨by rfl, ?_⟩) (by assumption) ?_
      rotate_left
      · (intro w hSw; (try dsimp only at hSw); go_simp; try with_reducible rfl)
      try simp only [Act.put, List.setIfInBounds_toArray, List.set_cons_zero, List.set_cons_succ]
      refine wpAnyH_done (by kernel_rfl) ?_ _
      obtain ⟨o1, HO1, HRS0, -⟩ := HRX.out.cut 1 hn2
      rw [HO1.out]
      obtain ⟨m, HMM⟩ : ∃ m, Hid (n - 1 = m) := ⟨_, (rfl : _ = _)⟩
      obtain ⟨vc, HVC⟩ : ∃ m, Hid (cap - 1 = m) := ⟨_, (rfl : _ = _)⟩
      obtain ⟨X2, HX2⟩ : ∃ X, Hid ((X1.setCell ⟨w1.heap.size, 1, none⟩ (.int .i64 x0)).drew = X) := ⟨_, (rfl : _ = _)⟩
      have hb2 : Below w.heap.size w X2 := by rw [← HX2.out]; exact (hbX.setCell (Nat.le_of_lt hA) _).drew
      have hbq : Below w1.heap.size X1 X2 := by rw [← HX2.out]; exact ((Below.refl w1.heap.size X1).setCell (show w1.heap.size ≤ (Addr.mk w1.heap.size 1 none).block from Nat.le_refl _) _).drew
      have NA2 : Hid (Nine X2 w.heap.size (.int .i64 0) (.int .i64 0) (.int .i64 0) (.int .i64 0) (.int .i64 0) (.int .i64 0) (.int .i64 0) (.int .i64 0) (.slice none 0 0)) := NA.out.onB hbq hA
      have NO2 : Hid (Nine X2 w1.heap.size (.int .i64 (kd : Int)) (.int .i64 x0) (.int .i64 0) (.int .i64 0) (.int .i64 0) (.int .i64 0) (.int .i64 0) (.int .i64 0) (.slice none 0 0)) := by rw [← HX2.out]; exact (NO.out.put1 _).drew
      have HRS : Hid (RdI X2 (.slice (some ⟨g, o1, none⟩) m vc) (ns.drop 1)) := by
        rw [← HMM.out, ← HVC.out]
        exact HRS0.out.onB hbq (by omega)
      have HLM : Hid ((ns.drop 1).length = m) := by unfold Hid; rw [List.length_drop, HN.out]; exact HMM.out
      rw [HX2.out, HMM.out, HVC.out]
      have hvm : m ≤ vc := by have := HMM.out; have := HVC.out; omega
      have hm6 : m ≤ 1000000 := by have := HMM.out; omega
      clear HX2 HRX HRS0 HO1 NA NO hbX hbq cx k0 k1 k2 k3 k4 k5 k6 k7 k8 kf0 kf1 kf2 kf3 kf4 kf5 kf6 kf7 kf8 klt HMM HVC hn1 hn1i hn2 hn2i hl hcap
      have HT : Hid (tailR kd x0 nn fp (ns.drop 1) = r) := by
        unfold Hid
        rw [← HB.out, bres_tail s ns (by rw [HFI.out, HN.out]; exact fun h => hn0 h.2), HNN.out, HFP.out, HFI.out, HKD.out]
        unfold Sc.restN
        rw [HFI.out]
        rw [if_pos rfl, if_pos rfl, HX0.out]
      obtain ⟨rs, HRSV⟩ : ∃ rs, Hid ((ns.drop 1) = rs) := ⟨_, (rfl : _ = _)⟩
      rw [HRSV.out] at HT HRS HLM
      clear HRSV
      by_cases hlt : m < nn
      · have hr : Hid (r = (q00, false)) := by
          unfold Hid; rw [← HT.out]; unfold tailR; rw [HLM.out, if_pos (.inl hlt)]
        have hlti : (m : Int) < (nn : Int) := by omega
        obtain ⟨r0, r1, r2, r3, r4, r5, r6, r7, r8, rf0, rf1, rf2, rf3, rf4, rf5, rf6, rf7, rf8, rlt⟩ := NA2.out
        go_wp2_with fail
        refine bodyPost_ret (v := .tuple #[.agg #[.int .i64 0, .int .i64 0, .int .i64 0, .int .i64 0, .int .i64 0, .int .i64 0, .int .i64 0, .int .i64 0, .slice none 0 0], .bool false]) (by simp [results, Tryd.results47, go_sem, r0, r1, r2, r3, r4, r5, r6, r7, r8]) rfl (build_no hr ?_)
        exact set9_below hb2 (Nat.le_refl _) _ _ _ _ _ _ _ _ _
      have hlti : ¬ (m : Int) < (nn : Int) := by omega
      have hgo : fp = true ∨ m = nn ∨ (fp = false ∧ nn < m) := by cases fp <;> simp; omega
      by_cases hgt : fp = false ∧ nn < m
      · obtain ⟨rfl, hgt⟩ := hgt
        have hr : Hid (r = (q00, false)) := by
          unfold Hid; rw [← HT.out]; unfold tailR; rw [HLM.out, if_pos (.inr ⟨rfl, hgt⟩)]
        have hgti : (nn : Int) < (m : Int) := by omega
        obtain ⟨r0, r1, r2, r3, r4, r5, r6, r7, r8, rf0, rf1, rf2, rf3, rf4, rf5, rf6, rf7, rf8, rlt⟩ := NA2.out
        go_wp2_with fail
        refine bodyPost_ret (v := .tuple #[.agg #[.int .i64 0, .int .i64 0, .int .i64 0, .int .i64 0, .int .i64 0, .int .i64 0, .int .i64 0, .int .i64 0, .slice none 0 0], .bool false]) (by simp [results, Tryd.results47, go_sem, r0, r1, r2, r3, r4, r5, r6, r7, r8]) rfl (build_no hr ?_)
        exact set9_below hb2 (Nat.le_refl _) _ _ _ _ _ _ _ _ _
      have hor : (decide ((nn : Int) < (m : Int)) && !fp) = false := by
        cases fp
        · have : ¬ (nn : Int) < (m : Int) := fun h => hgt ⟨rfl, by omega⟩
          simp; omega
        · simp
      clear hgo hor
      have hsz : (Tryd.prog.info? 3).map (·.size) = some 1 := by kernel_rfl
      have hnn4 : nn ≤ 4 := by rw [← HNN.out]; exact (shps_ok s (kindAt_mem _ _ _ HK.out).1).1
      have hnni : (nn : Int) ≤ (vc : Int) := by omega
      have hnnv : nn ≤ vc := by omega
      obtain ⟨X3, HX3⟩ : ∃ X, Hid (X2.alloc (.cells #[.int .i64 0, .int .i64 0, .int .i64 0, .int .i64 0] 104) = X) := ⟨_, (rfl : _ = _)⟩
      have hb23 : Below X2.heap.size X2 X3 := by rw [← HX3.out]; exact (Below.refl _ _).alloc (Nat.le_refl _) _
      have hs2 := hb2.size
      have hb3 : Below w.heap.size w X3 := hb2.trans (hb23.mono hs2)
      have NA3 := hid_of3 (NA2.out.on hb23)
      have NO3 := hid_of3 (NO2.out.on hb23)
      have HRS3 := hid_of3 (HRS.out.on hb23)
      have HH3 : Hid (X3.heap[X2.heap.size]? = some (.cells ([.int .i64 0, .int .i64 0, .int .i64 0, .int .i64 0] : List Value).toArray 104 (0, 0))) := by rw [← HX3.out]; exact heap_alloc_new X2 _
      have hrl : nn ≤ rs.length := by rw [HLM.out]; omega
      have HNEW := hid_of3 (four_new rs nn hnn4 hrl)
      have HTL : Hid ((intCells (rs.take nn)).length = nn) := by unfold Hid intCells; rw [List.length_map, List.length_take]; omega
      have HSRC : Hid (∀ j v, (intCells (rs.take nn))[j]? = some v → X3.cell? ((⟨g, o1, none⟩ : Addr).add j) = some v) := by
        intro j v hv
        have hj : j < nn := by have := (List.getElem?_eq_some_iff.1 hv).1; rwa [HTL.out] at this
        obtain ⟨x, HX⟩ : ∃ x, Hid (rs.getD j 0 = x) := ⟨_, (rfl : _ = _)⟩
        obtain ⟨g', o', he, -, cx⟩ := HRS3.out.at (k := j) (by omega) HLM HX
        simp only [Option.some.injEq, Addr.mk.injEq, and_true] at he
        obtain ⟨rfl, rfl⟩ := he
        rw [addr_add, cx, ← hv]
        unfold intCells
        rw [List.getElem?_map, List.getElem?_take, if_pos hj, List.getElem?_eq_getElem (by omega), ← HX.out, List.getD_eq_getElem?_getD, List.getElem?_eq_getElem (show j < rs.length by omega)]
        rfl
      by_cases hgt2 : nn < m
      · have hfp : fp = true := by cases fp; exact absurd ⟨rfl, hgt2⟩ hgt; rfl
        subst hfp
        have hgti : (nn : Int) < (m : Int) := by omega
        go_upto_region 10 with fail
        rw [HX3.out]
        go_still_tail 4, (by kernel_rfl)
        go_wp2_with (refine wpList_copy_k 1 rfl (.tmp 47) (.tmp 50) 60 60 rfl 3 Tryd.underlying60 hsz X2.heap.size 0 4 4 ⟨g, o1, none⟩ nn vc rfl rfl [.int .i64 0, .int .i64 0, .int .i64 0, .int .i64 0] 104 HH3.out (intCells (rs.take nn)) nn (Nat.min_eq_left hnn4) (by rw [HTL.out]; omega) HSRC.out (by rw [HTL.out]; simp; omega) (intCells_one _) [.int .i64 (fN rs nn 0), .int .i64 (fN rs nn 1), .int .i64 (fN rs nn 2), .int .i64 (fN rs nn 3)] (by rw [List.take_zero, List.nil_append, HTL.out, Nat.zero_add]; exact HNEW.out) ?_)
        intro X4 hh4 hg4
        have hb34 : Below X2.heap.size X3 X4 := (Below.refl _ X3).drew.grown hg4.out hb23.size (fun k hk => by cases hk; exact Nat.le_refl _)
        have hAc := NA2.out.lt
        have hbc := NO2.out.lt
        have hgc : g < X2.heap.size := by omega
        have NA4 := hid_of3 (NA3.out.onB hb34 hAc)
        have NO4 := hid_of3 (NO3.out.onB hb34 hbc)
        have HRS4 := hid_of3 (HRS3.out.onB hb34 hgc)
        have hb4 : Below w.heap.size w X4 := hb3.trans (hb34.mono hs2)
        have HSD : Hid (Slots X4.drew X2.heap.size (fN rs nn)) := slots_of hh4.out
        have hcb : X2.heap.size ≠ w1.heap.size := by omega
        obtain ⟨v0, HV0⟩ : ∃ v, Hid (fN rs nn 0 = v) := ⟨_, (rfl : _ = _)⟩
        obtain ⟨v1, HV1⟩ : ∃ v, Hid (fN rs nn 1 = v) := ⟨_, (rfl : _ = _)⟩
        obtain ⟨v2, HV2⟩ : ∃ v, Hid (fN rs nn 2 = v) := ⟨_, (rfl : _ = _)⟩
        obtain ⟨v3, HV3⟩ : ∃ v, Hid (fN rs nn 3 = v) := ⟨_, (rfl : _ = _)⟩
        have KS : Hid (∀ W', Slots W' X2.heap.size (fN rs nn) → (W'.cell? ⟨X2.heap.size, 0, none⟩ = some (.int .i64 v0) ∧ W'.cell? ⟨X2.heap.size, 1, none⟩ = some (.int .i64 v1) ∧ W'.cell? ⟨X2.heap.size, 2, none⟩ = some (.int .i64 v2) ∧ W'.cell? ⟨X2.heap.size, 3, none⟩ = some (.int .i64 v3))) := by
          intro W' h
          rw [← HV0.out, ← HV1.out, ← HV2.out, ← HV3.out]
          exact ⟨h.cell 0 (by omega), h.cell 1 (by omega), h.cell 2 (by omega), h.cell 3 (by omega)⟩
        obtain ⟨k0, k1, k2, k3, k4, k5, k6, k7, k8, kf0, kf1, kf2, kf3, kf4, kf5, kf6, kf7, kf8, klt⟩ := NO4.out
        go_wp2_with fail
        refine wp_region_held_drew (S := (fun W' => W'.cell? ⟨X2.heap.size, 0, none⟩ = some (.int .i64 v0) ∧ W'.cell? ⟨X2.heap.size, 1, none⟩ = some (.int .i64 v1) ∧ W'.cell? ⟨X2.heap.size, 2, none⟩ = some (.int .i64 v2) ∧ W'.cell? ⟨X2.heap.size, 3, none⟩ = some (.int .i64 v3))) (by kernel_rfl) ?_ (fun hHeld => ?_)
        · exact KS.out _ HSD.out
        refine wpAnyH_take (i := 0) (oi := ({ dst := some 52, op := Op.indexAddr 104 (Operand.tmp 10) (Operand.const (Value.int IntKind.i64 0)), type := 0, pos := "script.go:146", after := #[], guard := none } : Oper)) (v := ?_) rfl (by kernel_rfl) (by kernel_rfl) (by kernel_rfl) (fun _ _ _ h => h) (Or.inl ⟨by rfl, ?_⟩) (by assumption) ?_
        rotate_left
        · (intro w hSw; (try dsimp only at hSw); go_simp; try with_reducible rfl)
        try simp only [Act.put, List.setIfInBounds_toArray, List.set_cons_zero, List.set_cons_succ]
        refine wpAnyH_take (i := 1) (oi := ({ dst := some 53, op := Op.load 3 (Operand.tmp 52), type := 3, pos := "script.go:146", after := #[{ on := 0, ground := Ground.data }], guard := none } : Oper)) (v := ?_) rfl (by kernel_rfl) (by kernel_rfl) (by kernel_rfl) (fun _ _ _ h => h) (Or.inl ⟨by rfl, ?_⟩) (by assumption) ?_
        rotate_left
        · (intro w hSw; (try dsimp only at hSw); go_simp; try with_reducible rfl)
        try simp only [Act.put, List.setIfInBounds_toArray, List.set_cons_zero, List.set_cons_succ]
        refine wpAnyH_take (i := 2) (oi := ({ dst := some 54, op := Op.indexAddr 104 (Operand.tmp 10) (Operand.const (Value.int IntKind.i64 1)), type := 0, pos := "script.go:146", after := #[{ on := 9, ground := Ground.gcOnly Departure.lateStores }], guard := none } : Oper)) (v := ?_) rfl (by kernel_rfl) (by kernel_rfl) (by kernel_rfl) (fun _ _ _ h => h) (Or.inl ⟨by rfl, ?_⟩) (by assumption) ?_
        rotate_left
        · (intro w hSw; (try dsimp only at hSw); go_simp; try with_reducible rfl)
        try simp only [Act.put, List.setIfInBounds_toArray, List.set_cons_zero, List.set_cons_succ]
        refine wpAnyH_take (i := 3) (oi := ({ dst := some 55, op := Op.load 3 (Operand.tmp 54), type := 3, pos := "script.go:146", after := #[{ on := 2, ground := Ground.data }, { on := 9, ground := Ground.gcOnly Departure.lateStores }], guard := none } : Oper)) (v := ?_) rfl (by kernel_rfl) (by kernel_rfl) (by kernel_rfl) (fun _ _ _ h => h) (Or.inl ⟨by rfl, ?_⟩) (by assumption) ?_
        rotate_left
        · (intro w hSw; (try dsimp only at hSw); go_simp; try with_reducible rfl)
        try simp only [Act.put, List.setIfInBounds_toArray, List.set_cons_zero, List.set_cons_succ]
        refine wpAnyH_take (i := 4) (oi := ({ dst := some 56, op := Op.indexAddr 104 (Operand.tmp 10) (Operand.const (Value.int IntKind.i64 2)), type := 0, pos := "script.go:146", after := #[{ on := 11, ground := Ground.gcOnly Departure.lateStores }], guard := none } : Oper)) (v := ?_) rfl (by kernel_rfl) (by kernel_rfl) (by kernel_rfl) (fun _ _ _ h => h) (Or.inl ⟨by rfl, ?_⟩) (by assumption) ?_
        rotate_left
        · (intro w hSw; (try dsimp only at hSw); go_simp; try with_reducible rfl)
        try simp only [Act.put, List.setIfInBounds_toArray, List.set_cons_zero, List.set_cons_succ]
        refine wpAnyH_take (i := 5) (oi := ({ dst := some 57, op := Op.load 3 (Operand.tmp 56), type := 3, pos := "script.go:146", after := #[{ on := 4, ground := Ground.data }, { on := 11, ground := Ground.gcOnly Departure.lateStores }], guard := none } : Oper)) (v := ?_) rfl (by kernel_rfl) (by kernel_rfl) (by kernel_rfl) (fun _ _ _ h => h) (Or.inl ⟨by rfl, ?_⟩) (by assumption) ?_
        rotate_left
        · (intro w hSw; (try dsimp only at hSw); go_simp; try with_reducible rfl)
        try simp only [Act.put, List.setIfInBounds_toArray, List.set_cons_zero, List.set_cons_succ]
        refine wpAnyH_take (i := 6) (oi := ({ dst := some 58, op := Op.indexAddr 104 (Operand.tmp 10) (Operand.const (Value.int IntKind.i64 3)), type := 0, pos := "script.go:146", after := #[{ on := 13, ground := Ground.gcOnly Departure.lateStores }], guard := none } : Oper)) (v := ?_) rfl (by kernel_rfl) (by kernel_rfl) (by kernel_rfl) (fun _ _ _ h => h) (Or.inl ⟨by rfl, ?_⟩) (by assumption) ?_
        rotate_left
        · (intro w hSw; (try dsimp only at hSw); go_simp; try with_reducible rfl)
        try simp only [Act.put, List.setIfInBounds_toArray, List.set_cons_zero, List.set_cons_succ]
        refine wpAnyH_take (i := 7) (oi := ({ dst := some 59, op := Op.load 3 (Operand.tmp 58), type := 3, pos := "script.go:146", after := #[{ on := 6, ground := Ground.data }, { on := 13, ground := Ground.gcOnly Departure.lateStores }], guard := none } : Oper)) (v := ?_) rfl (by kernel_rfl) (by kernel_rfl) (by kernel_rfl) (fun _ _ _ h => h) (Or.inl ⟨by rfl, ?_⟩) (by assumption) ?_
        rotate_left
        · (intro w hSw; (try dsimp only at hSw); go_simp; try with_reducible rfl)
        try simp only [Act.put, List.setIfInBounds_toArray, List.set_cons_zero, List.set_cons_succ]
        refine wpAnyH_take (i := 8) (oi := ({ dst := some 60, op := Op.fieldAddr 26 (Operand.tmp 9) 2, type := 0, pos := "script.go:146", after := #[{ on := 0, ground := Ground.phase }, { on := 1, ground := Ground.phase }, { on := 2, ground := Ground.textOnly Departure.lateStores }, { on := 3, ground := Ground.textOnly Departure.lateStores }, { on := 4, ground := Ground.textOnly Departure.lateStores }, { on := 5, ground := Ground.textOnly Departure.lateStores }, { on := 6, ground := Ground.textOnly Departure.lateStores }, { on := 7, ground := Ground.textOnly Departure.lateStores }], guard := none } : Oper)) (v := ?_) rfl (by kernel_rfl) (by kernel_rfl) (by kernel_rfl) (fun _ _ _ h => h) (Or.inl ⟨by rfl, ?_⟩) (by assumption) ?_
        rotate_left
        · (intro w hSw; (try dsimp only at hSw); go_simp; try with_reducible rfl)
        try simp only [Act.put, List.setIfInBounds_toArray, List.set_cons_zero, List.set_cons_succ]
        refine wpAnyH_ready (rs := [9]) (by kernel_rfl) (by simp) ?_
        refine AllReadyH.cons (o := ({ dst := none, op := Op.store 3 (Operand.tmp 60) (Operand.tmp 53), type := 0, pos := "script.go:146", after := #[{ on := 8, ground := Ground.data }, { on := 1, ground := Ground.data }, { on := 0, ground := Ground.phase }, { on := 1, ground := Ground.phase }, { on := 2, ground := Ground.textOnly Departure.lateStores }, { on := 3, ground := Ground.textOnly Departure.lateStores }, { on := 4, ground := Ground.textOnly Departure.lateStores }, { on := 5, ground := Ground.textOnly Departure.lateStores }, { on := 6, ground := Ground.textOnly Departure.lateStores }, { on := 7, ground := Ground.textOnly Departure.lateStores }], guard := none } : Oper)) rfl (fun K_ hK => ?_) AllReadyH.nil
        go_simp
        refine hK.out _ _ ?_ (fun hHeld => ?_)
        · exact KS.out _ (HSD.out.other hcb 2 _)
        clear hK K_
        try simp only [Act.put, List.setIfInBounds_toArray, List.set_cons_zero, List.set_cons_succ]
        refine wpAnyH_take (i := 10) (oi := ({ dst := some 61, op := Op.fieldAddr 26 (Operand.tmp 9) 3, type := 0, pos := "script.go:146", after := #[{ on := 0, ground := Ground.phase }, { on := 1, ground := Ground.phase }, { on := 2, ground := Ground.phase }, { on := 3, ground := Ground.phase }, { on := 4, ground := Ground.textOnly Departure.lateStores }, { on := 5, ground := Ground.textOnly Departure.lateStores }, { on := 6, ground := Ground.textOnly Departure.lateStores }, { on := 7, ground := Ground.textOnly Departure.lateStores }, { on := 8, ground := Ground.phase }, { on := 9, ground := Ground.phase }], guard := none } : Oper)) (v := ?_) rfl (by kernel_rfl) (by kernel_rfl) (by kernel_rfl) (fun _ _ _ h => h) (Or.inl ⟨by rfl, ?_⟩) (by assumption) ?_
        rotate_left
        · (intro w hSw; (try dsimp only at hSw); go_simp; try with_reducible rfl)
        try simp only [Act.put, List.setIfInBounds_toArray, List.set_cons_zero, List.set_cons_succ]
        refine wpAnyH_ready (rs := [11]) (by kernel_rfl) (by simp) ?_
        refine AllReadyH.cons (o := ({ dst := none, op := Op.store 3 (Operand.tmp 61) (Operand.tmp 55), type := 0, pos := "script.go:146", after := #[{ on := 10, ground := Ground.data }, { on := 3, ground := Ground.data }, { on := 9, ground := Ground.chain }, { on := 0, ground := Ground.phase }, { on := 1, ground := Ground.phase }, { on := 2, ground := Ground.phase }, { on := 3, ground := Ground.phase }, { on := 4, ground := Ground.textOnly Departure.lateStores }, { on := 5, ground := Ground.textOnly Departure.lateStores }, { on := 6, ground := Ground.textOnly Departure.lateStores }, { on := 7, ground := Ground.textOnly Departure.lateStores }, { on := 8, ground := Ground.phase }, { on := 9, ground := Ground.phase }], guard := none } : Oper)) rfl (fun K_ hK => ?_) AllReadyH.nil
        go_simp
        refine hK.out _ _ ?_ (fun hHeld => ?_)
        · exact KS.out _ ((HSD.out.other hcb 2 _).other hcb 3 _)
        clear hK K_
        try simp only [Act.put, List.setIfInBounds_toArray, List.set_cons_zero, List.set_cons_succ]
        refine wpAnyH_take (i := 12) (oi := ({ dst := some 62, op := Op.fieldAddr 26 (Operand.tmp 9) 4, type := 0, pos := "script.go:146", after := #[{ on := 0, ground := Ground.phase }, { on := 1, ground := Ground.phase }, { on := 2, ground := Ground.phase }, { on := 3, ground := Ground.phase }, { on := 4, ground := Ground.phase }, { on := 5, ground := Ground.phase }, { on := 6, ground := Ground.textOnly Departure.lateStores }, { on := 7, ground := Ground.textOnly Departure.lateStores }, { on := 8, ground := Ground.phase }, { on := 9, ground := Ground.phase }, { on := 10, ground := Ground.phase }, { on := 11, ground := Ground.phase }], guard := none } : Oper)) (v := ?_) rfl (by kernel_rfl) (by kernel_rfl) (by kernel_rfl) (fun _ _ _ h => h) (Or.inl ⟨by rfl, ?_⟩) (by assumption) ?_
        rotate_left
        · (intro w hSw; (try dsimp only at hSw); go_simp; try with_reducible rfl)
        try simp only [Act.put, List.setIfInBounds_toArray, List.set_cons_zero, List.set_cons_succ]
        refine wpAnyH_ready (rs := [13]) (by kernel_rfl) (by simp) ?_
        refine AllReadyH.cons (o := ({ dst := none, op := Op.store 3 (Operand.tmp 62) (Operand.tmp 57), type := 0, pos := "script.go:146", after := #[{ on := 12, ground := Ground.data }, { on := 5, ground := Ground.data }, { on := 11, ground := Ground.chain }, { on := 0, ground := Ground.phase }, { on := 1, ground := Ground.phase }, { on := 2, ground := Ground.phase }, { on := 3, ground := Ground.phase }, { on := 4, ground := Ground.phase }, { on := 5, ground := Ground.phase }, { on := 6, ground := Ground.textOnly Departure.lateStores }, { on := 7, ground := Ground.textOnly Departure.lateStores }, { on := 8, ground := Ground.phase }, { on := 9, ground := Ground.phase }, { on := 10, ground := Ground.phase }, { on := 11, ground := Ground.phase }], guard := none } : Oper)) rfl (fun K_ hK => ?_) AllReadyH.nil
        go_simp
        refine hK.out _ _ ?_ (fun hHeld => ?_)
        · exact KS.out _ (((HSD.out.other hcb 2 _).other hcb 3 _).other hcb 4 _)
        clear hK K_
        try simp only [Act.put, List.setIfInBounds_toArray, List.set_cons_zero, List.set_cons_succ]
        refine wpAnyH_take (i := 14) (oi := ({ dst := some 63, op := Op.fieldAddr 26 (Operand.tmp 9) 5, type := 0, pos := "script.go:146", after := #[{ on := 0, ground := Ground.phase }, { on := 1, ground := Ground.phase }, { on := 2, ground := Ground.phase }, { on := 3, ground := Ground.phase }, { on := 4, ground := Ground.phase }, { on := 5, ground := Ground.phase }, { on := 6, ground := Ground.phase }, { on := 7, ground := Ground.phase }, { on := 8, ground := Ground.phase }, { on := 9, ground := Ground.phase }, { on := 10, ground := Ground.phase }, { on := 11, ground := Ground.phase }, { on := 12, ground := Ground.phase }, { on := 13, ground := Ground.phase }], guard := none } : Oper)) (v := ?_) rfl (by kernel_rfl) (by kernel_rfl) (by kernel_rfl) (fun _ _ _ h => h) (Or.inl ⟨by rfl, ?_⟩) (by assumption) ?_
        rotate_left
        · (intro w hSw; (try dsimp only at hSw); go_simp; try with_reducible rfl)
        try simp only [Act.put, List.setIfInBounds_toArray, List.set_cons_zero, List.set_cons_succ]
        refine wpAnyH_ready (rs := [15]) (by kernel_rfl) (by simp) ?_
        refine AllReadyH.cons (o := ({ dst := none, op := Op.store 3 (Operand.tmp 63) (Operand.tmp 59), type := 0, pos := "script.go:146", after := #[{ on := 14, ground := Ground.data }, { on := 7, ground := Ground.data }, { on := 13, ground := Ground.chain }, { on := 0, ground := Ground.phase }, { on := 1, ground := Ground.phase }, { on := 2, ground := Ground.phase }, { on := 3, ground := Ground.phase }, { on := 4, ground := Ground.phase }, { on := 5, ground := Ground.phase }, { on := 6, ground := Ground.phase }, { on := 7, ground := Ground.phase }, { on := 8, ground := Ground.phase }, { on := 9, ground := Ground.phase }, { on := 10, ground := Ground.phase }, { on := 11, ground := Ground.phase }, { on := 12, ground := Ground.phase }, { on := 13, ground := Ground.phase }], guard := none } : Oper)) rfl (fun K_ hK => ?_) AllReadyH.nil
        go_simp
        refine hK.out _ _ ?_ (fun hHeld => ?_)
        · exact KS.out _ ((((HSD.out.other hcb 2 _).other hcb 3 _).other hcb 4 _).other hcb 5 _)
        clear hK K_
        try simp only [Act.put, List.setIfInBounds_toArray, List.set_cons_zero, List.set_cons_succ]
        refine wpAnyH_done (by kernel_rfl) ?_ _
        obtain ⟨X5, HX5⟩ : ∃ X, Hid (((((X4.setCell ⟨w1.heap.size, 2, none⟩ (.int .i64 v0)).setCell ⟨w1.heap.size, 3, none⟩ (.int .i64 v1)).setCell ⟨w1.heap.size, 4, none⟩ (.int .i64 v2)).setCell ⟨w1.heap.size, 5, none⟩ (.int .i64 v3)).drew = X) := ⟨_, (rfl : _ = _)⟩
        have hb45 : Below w1.heap.size X4 X5 := by rw [← HX5.out]; exact (((((Below.refl w1.heap.size X4).setCell (show w1.heap.size ≤ (Addr.mk w1.heap.size 2 none).block from Nat.le_refl _) _).setCell (show w1.heap.size ≤ (Addr.mk w1.heap.size 3 none).block from Nat.le_refl _) _).setCell (show w1.heap.size ≤ (Addr.mk w1.heap.size 4 none).block from Nat.le_refl _) _).setCell (show w1.heap.size ≤ (Addr.mk w1.heap.size 5 none).block from Nat.le_refl _) _).drew
        have NA5 := hid_of3 (NA4.out.onB hb45 hA)
        have NO5 := hid_of3 (show Nine X5 w1.heap.size (.int .i64 (kd : Int)) (.int .i64 x0) (.int .i64 v0) (.int .i64 v1) (.int .i64 v2) (.int .i64 v3) (.int .i64 0) (.int .i64 0) (.slice none 0 0) by rw [← HX5.out]; exact ((((NO4.out.put2 _).put3 _).put4 _).put5 _).drew)
        have HRS5 := hid_of3 (HRS4.out.onB hb45 (by omega))
        have hb5 : Below w.heap.size w X5 := hb4.trans (hb45.mono (by omega))
        have hs5 : X4.heap.size ≤ X5.heap.size := hb45.size
        have hX4 : X2.heap.size < X4.heap.size := (Array.getElem?_eq_some_iff.1 hh4.out).1
        rw [HX5.out]
        clear k0 k1 k2 k3 k4 k5 k6 k7 k8 kf0 kf1 kf2 kf3 kf4 kf5 kf6 kf7 kf8 klt hb45 KS HSD HRS4 NO4 NA4 NO3 NA3 HRS3 HX5 hh4 hg4 HSRC HNEW HTL
        obtain ⟨hru, hnv⟩ := HRS5.out.from nn (by omega)
        have HRU := hid_of3 hru
        clear hru
        obtain ⟨⟨pW, pH, ps, pb⟩, HP⟩ : ∃ p, Hid (picN (rs.drop nn) = p) := ⟨_, (rfl : _ = _)⟩
        have HRES : Hid (r = if pb = true then (⟨kd, x0, v0, v1, v2, v3, pW, pH, ps⟩, true) else (q00, false)) := by
          unfold Hid; rw [← HT.out]; unfold tailR; rw [HLM.out, if_neg (by simp; omega), if_neg (by simp), HP.out, HV0.out, HV1.out, HV2.out, HV3.out]
        have HBP := hid_of3 (buildPic_any _ (rs.drop nn) X5 HRU (by rw [List.length_drop, HLM.out]; omega) pW pH ps pb HP)
        have hnnm : nn ≤ m := by omega
        have hnnmi : (nn : Int) ≤ (m : Int) := by omega
        go_wp2_with fail
        refine HBP.out.mono ?_
        rintro e X6 ⟨u, rfl, hu, hb6⟩
        obtain ⟨ua, uc, hue⟩ := own_any hu
        obtain ⟨uk, HUK⟩ : ∃ k, Hid (ps.length = k) := ⟨_, (rfl : _ = _)⟩
        rw [HUK.out] at hue hu
        subst hue
        have HU6 := hid_of3 hu
        have NA6 := hid_of3 (NA5.out.on hb6)
        have NO6 := hid_of3 (NO5.out.on hb6)
        have hbb6 : Below w.heap.size w X6 := hb5.trans (hb6.mono hb5.size)
        have hs6 := hb6.size
        obtain ⟨X7, HX7⟩ : ∃ X, Hid (X6.alloc (.cells #[.int .i64 pW, .int .i64 pH, .slice ua uk uc] 24) = X) := ⟨_, (rfl : _ = _)⟩
        have hb67 : Below X6.heap.size X6 X7 := by rw [← HX7.out]; exact (Below.refl _ _).alloc (Nat.le_refl _) _
        have hb7 : Below w.heap.size w X7 := hbb6.trans (hb67.mono hbb6.size)
        have NA7 := hid_of3 (NA6.out.on hb67)
        have NO7 := hid_of3 (NO6.out.on hb67)
        have TP7 := hid_of3 (show Three X7 X6.heap.size (.int .i64 pW) (.int .i64 pH) (.slice ua uk uc) by rw [← HX7.out]; exact three_start X6 _ _ _ _)
        have HU7 := hid_of3 (own_on2 HU6.out hb67)
        go_upto_region 15 with fail
        rw [HX7.out]
        clear HX7 HBP hu hb6 NA5 NO5 NA6 NO6 HU6 hb67 HRS5 HRU
        obtain ⟨r0, r1, r2, r3, r4, r5, r6, r7, r8, rf0, rf1, rf2, rf3, rf4, rf5, rf6, rf7, rf8, rlt⟩ := NA7.out
        have hA5 : w.heap.size < X5.heap.size := by omega
        have hB5 : w1.heap.size < X5.heap.size := by omega
        cases pb with
        | false =>
          have hr : Hid (r = (q00, false)) := by unfold Hid; rw [HRES.out, if_neg (by simp)]
          go_wp2_with fail
          refine bodyPost_ret (v := .tuple #[.agg #[.int .i64 0, .int .i64 0, .int .i64 0, .int .i64 0, .int .i64 0, .int .i64 0, .int .i64 0, .int .i64 0, .slice none 0 0], .bool false]) (by simp [results, Tryd.results47, go_sem, r0, r1, r2, r3, r4, r5, r6, r7, r8]) rfl (build_no hr ?_)
          exact set9_below hb7 (Nat.le_refl _) _ _ _ _ _ _ _ _ _
        | true =>
          have hr : Hid (r = (⟨kd, x0, v0, v1, v2, v3, pW, pH, ps⟩, true)) := by unfold Hid; rw [HRES.out, if_pos rfl]
          obtain ⟨t0, t1, t2, tf0, tf1, tf2, tlt⟩ := TP7.out
          obtain ⟨k0, k1, k2, k3, k4, k5, k6, k7, k8, kf0, kf1, kf2, kf3, kf4, kf5, kf6, kf7, kf8, klt⟩ := NO7.out
          go_wp2_with fail
          refine bodyPost_ret (v := .tuple #[.agg #[.int .i64 (kd : Int), .int .i64 x0, .int .i64 v0, .int .i64 v1, .int .i64 v2, .int .i64 v3, .int .i64 pW, .int .i64 pH, .slice ua uk uc], .bool true]) (by simp [results, Tryd.results47, go_sem, r0, r1, r2, r3, r4, r5, r6, r7, r8]) rfl ?_
          rw [hr.out]
          refine ⟨.slice ua uk uc, rfl, ?_, ?_⟩
          · rw [HUK.out]
            exact own_mono (set9_own (set3_own HU7.out hB5 _ _ _) hA5 _ _ _ _ _ _ _ _ _) (Nat.le_of_lt hA5)
          · exact set9_below (set3_below hb7 (Nat.le_of_lt hA) _ _ _) (Nat.le_refl _) _ _ _ _ _ _ _ _ _
      · have hgti : ¬ (nn : Int) < (m : Int) := by omega
        go_upto_region 10 with fail
        rw [HX3.out]
        go_still_tail 4, (by kernel_rfl)
        go_wp2_with (refine wpList_copy_k 1 rfl (.tmp 47) (.tmp 50) 60 60 rfl 3 Tryd.underlying60 hsz X2.heap.size 0 4 4 ⟨g, o1, none⟩ nn vc rfl rfl [.int .i64 0, .int .i64 0, .int .i64 0, .int .i64 0] 104 HH3.out (intCells (rs.take nn)) nn (Nat.min_eq_left hnn4) (by rw [HTL.out]; omega) HSRC.out (by rw [HTL.out]; simp; omega) (intCells_one _) [.int .i64 (fN rs nn 0), .int .i64 (fN rs nn 1), .int .i64 (fN rs nn 2), .int .i64 (fN rs nn 3)] (by rw [List.take_zero, List.nil_append, HTL.out, Nat.zero_add]; exact HNEW.out) ?_)
        intro X4 hh4 hg4
        have hb34 : Below X2.heap.size X3 X4 := (Below.refl _ X3).drew.grown hg4.out hb23.size (fun k hk => by cases hk; exact Nat.le_refl _)
        have hAc := NA2.out.lt
        have hbc := NO2.out.lt
        have hgc : g < X2.heap.size := by omega
        have NA4 := hid_of3 (NA3.out.onB hb34 hAc)
        have NO4 := hid_of3 (NO3.out.onB hb34 hbc)
        have HRS4 := hid_of3 (HRS3.out.onB hb34 hgc)
        have hb4 : Below w.heap.size w X4 := hb3.trans (hb34.mono hs2)
        have HSD : Hid (Slots X4.drew X2.heap.size (fN rs nn)) := slots_of hh4.out
        have hcb : X2.heap.size ≠ w1.heap.size := by omega
        obtain ⟨v0, HV0⟩ : ∃ v, Hid (fN rs nn 0 = v) := ⟨_, (rfl : _ = _)⟩
        obtain ⟨v1, HV1⟩ : ∃ v, Hid (fN rs nn 1 = v) := ⟨_, (rfl : _ = _)⟩
        obtain ⟨v2, HV2⟩ : ∃ v, Hid (fN rs nn 2 = v) := ⟨_, (rfl : _ = _)⟩
        obtain ⟨v3, HV3⟩ : ∃ v, Hid (fN rs nn 3 = v) := ⟨_, (rfl : _ = _)⟩
        have KS : Hid (∀ W', Slots W' X2.heap.size (fN rs nn) → (W'.cell? ⟨X2.heap.size, 0, none⟩ = some (.int .i64 v0) ∧ W'.cell? ⟨X2.heap.size, 1, none⟩ = some (.int .i64 v1) ∧ W'.cell? ⟨X2.heap.size, 2, none⟩ = some (.int .i64 v2) ∧ W'.cell? ⟨X2.heap.size, 3, none⟩ = some (.int .i64 v3))) := by
          intro W' h
          rw [← HV0.out, ← HV1.out, ← HV2.out, ← HV3.out]
          exact ⟨h.cell 0 (by omega), h.cell 1 (by omega), h.cell 2 (by omega), h.cell 3 (by omega)⟩
        obtain ⟨k0, k1, k2, k3, k4, k5, k6, k7, k8, kf0, kf1, kf2, kf3, kf4, kf5, kf6, kf7, kf8, klt⟩ := NO4.out
        go_wp2_with fail
        refine wp_region_held_drew (S := (fun W' => W'.cell? ⟨X2.heap.size, 0, none⟩ = some (.int .i64 v0) ∧ W'.cell? ⟨X2.heap.size, 1, none⟩ = some (.int .i64 v1) ∧ W'.cell? ⟨X2.heap.size, 2, none⟩ = some (.int .i64 v2) ∧ W'.cell? ⟨X2.heap.size, 3, none⟩ = some (.int .i64 v3))) (by kernel_rfl) ?_ (fun hHeld => ?_)
        · exact KS.out _ HSD.out
        refine wpAnyH_take (i := 0) (oi := ({ dst := some 52, op := Op.indexAddr 104 (Operand.tmp 10) (Operand.const (Value.int IntKind.i64 0)), type := 0, pos := "script.go:146", after := #[], guard := none } : Oper)) (v := ?_) rfl (by kernel_rfl) (by kernel_rfl) (by kernel_rfl) (fun _ _ _ h => h) (Or.inl ⟨by rfl, ?_⟩) (by assumption) ?_
        rotate_left
        · (intro w hSw; (try dsimp only at hSw); go_simp; try with_reducible rfl)
        try simp only [Act.put, List.setIfInBounds_toArray, List.set_cons_zero, List.set_cons_succ]
        refine wpAnyH_take (i := 1) (oi := ({ dst := some 53, op := Op.load 3 (Operand.tmp 52), type := 3, pos := "script.go:146", after := #[{ on := 0, ground := Ground.data }], guard := none } : Oper)) (v := ?_) rfl (by kernel_rfl) (by kernel_rfl) (by kernel_rfl) (fun _ _ _ h => h) (Or.inl ⟨by rfl, ?_⟩) (by assumption) ?_
        rotate_left
        · (intro w hSw; (try dsimp only at hSw); go_simp; try with_reducible rfl)
        try simp only [Act.put, List.setIfInBounds_toArray, List.set_cons_zero, List.set_cons_succ]
        refine wpAnyH_take (i := 2) (oi := ({ dst := some 54, op := Op.indexAddr 104 (Operand.tmp 10) (Operand.const (Value.int IntKind.i64 1)), type := 0, pos := "script.go:146", after := #[{ on := 9, ground := Ground.gcOnly Departure.lateStores }], guard := none } : Oper)) (v := ?_) rfl (by kernel_rfl) (by kernel_rfl) (by kernel_rfl) (fun _ _ _ h => h) (Or.inl ⟨by rfl, ?_⟩) (by assumption) ?_
        rotate_left
        · (intro w hSw; (try dsimp only at hSw); go_simp; try with_reducible rfl)
        try simp only [Act.put, List.setIfInBounds_toArray, List.set_cons_zero, List.set_cons_succ]
        refine wpAnyH_take (i := 3) (oi := ({ dst := some 55, op := Op.load 3 (Operand.tmp 54), type := 3, pos := "script.go:146", after := #[{ on := 2, ground := Ground.data }, { on := 9, ground := Ground.gcOnly Departure.lateStores }], guard := none } : Oper)) (v := ?_) rfl (by kernel_rfl) (by kernel_rfl) (by kernel_rfl) (fun _ _ _ h => h) (Or.inl ⟨by rfl, ?_⟩) (by assumption) ?_
        rotate_left
        · (intro w hSw; (try dsimp only at hSw); go_simp; try with_reducible rfl)
        try simp only [Act.put, List.setIfInBounds_toArray, List.set_cons_zero, List.set_cons_succ]
        refine wpAnyH_take (i := 4) (oi := ({ dst := some 56, op := Op.indexAddr 104 (Operand.tmp 10) (Operand.const (Value.int IntKind.i64 2)), type := 0, pos := "script.go:146", after := #[{ on := 11, ground := Ground.gcOnly Departure.lateStores }], guard := none } : Oper)) (v := ?_) rfl (by kernel_rfl) (by kernel_rfl) (by kernel_rfl) (fun _ _ _ h => h) (Or.inl ⟨by rfl, ?_⟩) (by assumption) ?_
        rotate_left
        · (intro w hSw; (try dsimp only at hSw); go_simp; try with_reducible rfl)
        try simp only [Act.put, List.setIfInBounds_toArray, List.set_cons_zero, List.set_cons_succ]
        refine wpAnyH_take (i := 5) (oi := ({ dst := some 57, op := Op.load 3 (Operand.tmp 56), type := 3, pos := "script.go:146", after := #[{ on := 4, ground := Ground.data }, { on := 11, ground := Ground.gcOnly Departure.lateStores }], guard := none } : Oper)) (v := ?_) rfl (by kernel_rfl) (by kernel_rfl) (by kernel_rfl) (fun _ _ _ h => h) (Or.inl ⟨by rfl, ?_⟩) (by assumption) ?_
        rotate_left
        · (intro w hSw; (try dsimp only at hSw); go_simp; try with_reducible rfl)
        try simp only [Act.put, List.setIfInBounds_toArray, List.set_cons_zero, List.set_cons_succ]
        refine wpAnyH_take (i := 6) (oi := ({ dst := some 58, op := Op.indexAddr 104 (Operand.tmp 10) (Operand.const (Value.int IntKind.i64 3)), type := 0, pos := "script.go:146", after := #[{ on := 13, ground := Ground.gcOnly Departure.lateStores }], guard := none } : Oper)) (v := ?_) rfl (by kernel_rfl) (by kernel_rfl) (by kernel_rfl) (fun _ _ _ h => h) (Or.inl ⟨by rfl, ?_⟩) (by assumption) ?_
        rotate_left
        · (intro w hSw; (try dsimp only at hSw); go_simp; try with_reducible rfl)
        try simp only [Act.put, List.setIfInBounds_toArray, List.set_cons_zero, List.set_cons_succ]
        refine wpAnyH_take (i := 7) (oi := ({ dst := some 59, op := Op.load 3 (Operand.tmp 58), type := 3, pos := "script.go:146", after := #[{ on := 6, ground := Ground.data }, { on := 13, ground := Ground.gcOnly Departure.lateStores }], guard := none } : Oper)) (v := ?_) rfl (by kernel_rfl) (by kernel_rfl) (by kernel_rfl) (fun _ _ _ h => h) (Or.inl ⟨by rfl, ?_⟩) (by assumption) ?_
        rotate_left
        · (intro w hSw; (try dsimp only at hSw); go_simp; try with_reducible rfl)
        try simp only [Act.put, List.setIfInBounds_toArray, List.set_cons_zero, List.set_cons_succ]
        refine wpAnyH_take (i := 8) (oi := ({ dst := some 60, op := Op.fieldAddr 26 (Operand.tmp 9) 2, type := 0, pos := "script.go:146", after := #[{ on := 0, ground := Ground.phase }, { on := 1, ground := Ground.phase }, { on := 2, ground := Ground.textOnly Departure.lateStores }, { on := 3, ground := Ground.textOnly Departure.lateStores }, { on := 4, ground := Ground.textOnly Departure.lateStores }, { on := 5, ground := Ground.textOnly Departure.lateStores }, { on := 6, ground := Ground.textOnly Departure.lateStores }, { on := 7, ground := Ground.textOnly Departure.lateStores }], guard := none } : Oper)) (v := ?_) rfl (by kernel_rfl) (by kernel_rfl) (by kernel_rfl) (fun _ _ _ h => h) (Or.inl ⟨by rfl, ?_⟩) (by assumption) ?_
        rotate_left
        · (intro w hSw; (try dsimp only at hSw); go_simp; try with_reducible rfl)
        try simp only [Act.put, List.setIfInBounds_toArray, List.set_cons_zero, List.set_cons_succ]
        refine wpAnyH_ready (rs := [9]) (by kernel_rfl) (by simp) ?_
        refine AllReadyH.cons (o := ({ dst := none, op := Op.store 3 (Operand.tmp 60) (Operand.tmp 53), type := 0, pos := "script.go:146", after := #[{ on := 8, ground := Ground.data }, { on := 1, ground := Ground.data }, { on := 0, ground := Ground.phase }, { on := 1, ground := Ground.phase }, { on := 2, ground := Ground.textOnly Departure.lateStores }, { on := 3, ground := Ground.textOnly Departure.lateStores }, { on := 4, ground := Ground.textOnly Departure.lateStores }, { on := 5, ground := Ground.textOnly Departure.lateStores }, { on := 6, ground := Ground.textOnly Departure.lateStores }, { on := 7, ground := Ground.textOnly Departure.lateStores }], guard := none } : Oper)) rfl (fun K_ hK => ?_) AllReadyH.nil
        go_simp
        refine hK.out _ _ ?_ (fun hHeld => ?_)
        · exact KS.out _ (HSD.out.other hcb 2 _)
        clear hK K_
        try simp only [Act.put, List.setIfInBounds_toArray, List.set_cons_zero, List.set_cons_succ]
        refine wpAnyH_take (i := 10) (oi := ({ dst := some 61, op := Op.fieldAddr 26 (Operand.tmp 9) 3, type := 0, pos := "script.go:146", after := #[{ on := 0, ground := Ground.phase }, { on := 1, ground := Ground.phase }, { on := 2, ground := Ground.phase }, { on := 3, ground := Ground.phase }, { on := 4, ground := Ground.textOnly Departure.lateStores }, { on := 5, ground := Ground.textOnly Departure.lateStores }, { on := 6, ground := Ground.textOnly Departure.lateStores }, { on := 7, ground := Ground.textOnly Departure.lateStores }, { on := 8, ground := Ground.phase }, { on := 9, ground := Ground.phase }], guard := none } : Oper)) (v := ?_) rfl (by kernel_rfl) (by kernel_rfl) (by kernel_rfl) (fun _ _ _ h => h) (Or.inl ⟨by rfl, ?_⟩) (by assumption) ?_
        rotate_left
        · (intro w hSw; (try dsimp only at hSw); go_simp; try with_reducible rfl)
        try simp only [Act.put, List.setIfInBounds_toArray, List.set_cons_zero, List.set_cons_succ]
        refine wpAnyH_ready (rs := [11]) (by kernel_rfl) (by simp) ?_
        refine AllReadyH.cons (o := ({ dst := none, op := Op.store 3 (Operand.tmp 61) (Operand.tmp 55), type := 0, pos := "script.go:146", after := #[{ on := 10, ground := Ground.data }, { on := 3, ground := Ground.data }, { on := 9, ground := Ground.chain }, { on := 0, ground := Ground.phase }, { on := 1, ground := Ground.phase }, { on := 2, ground := Ground.phase }, { on := 3, ground := Ground.phase }, { on := 4, ground := Ground.textOnly Departure.lateStores }, { on := 5, ground := Ground.textOnly Departure.lateStores }, { on := 6, ground := Ground.textOnly Departure.lateStores }, { on := 7, ground := Ground.textOnly Departure.lateStores }, { on := 8, ground := Ground.phase }, { on := 9, ground := Ground.phase }], guard := none } : Oper)) rfl (fun K_ hK => ?_) AllReadyH.nil
        go_simp
        refine hK.out _ _ ?_ (fun hHeld => ?_)
        · exact KS.out _ ((HSD.out.other hcb 2 _).other hcb 3 _)
        clear hK K_
        try simp only [Act.put, List.setIfInBounds_toArray, List.set_cons_zero, List.set_cons_succ]
        refine wpAnyH_take (i := 12) (oi := ({ dst := some 62, op := Op.fieldAddr 26 (Operand.tmp 9) 4, type := 0, pos := "script.go:146", after := #[{ on := 0, ground := Ground.phase }, { on := 1, ground := Ground.phase }, { on := 2, ground := Ground.phase }, { on := 3, ground := Ground.phase }, { on := 4, ground := Ground.phase }, { on := 5, ground := Ground.phase }, { on := 6, ground := Ground.textOnly Departure.lateStores }, { on := 7, ground := Ground.textOnly Departure.lateStores }, { on := 8, ground := Ground.phase }, { on := 9, ground := Ground.phase }, { on := 10, ground := Ground.phase }, { on := 11, ground := Ground.phase }], guard := none } : Oper)) (v := ?_) rfl (by kernel_rfl) (by kernel_rfl) (by kernel_rfl) (fun _ _ _ h => h) (Or.inl ⟨by rfl, ?_⟩) (by assumption) ?_
        rotate_left
        · (intro w hSw; (try dsimp only at hSw); go_simp; try with_reducible rfl)
        try simp only [Act.put, List.setIfInBounds_toArray, List.set_cons_zero, List.set_cons_succ]
        refine wpAnyH_ready (rs := [13]) (by kernel_rfl) (by simp) ?_
        refine AllReadyH.cons (o := ({ dst := none, op := Op.store 3 (Operand.tmp 62) (Operand.tmp 57), type := 0, pos := "script.go:146", after := #[{ on := 12, ground := Ground.data }, { on := 5, ground := Ground.data }, { on := 11, ground := Ground.chain }, { on := 0, ground := Ground.phase }, { on := 1, ground := Ground.phase }, { on := 2, ground := Ground.phase }, { on := 3, ground := Ground.phase }, { on := 4, ground := Ground.phase }, { on := 5, ground := Ground.phase }, { on := 6, ground := Ground.textOnly Departure.lateStores }, { on := 7, ground := Ground.textOnly Departure.lateStores }, { on := 8, ground := Ground.phase }, { on := 9, ground := Ground.phase }, { on := 10, ground := Ground.phase }, { on := 11, ground := Ground.phase }], guard := none } : Oper)) rfl (fun K_ hK => ?_) AllReadyH.nil
        go_simp
        refine hK.out _ _ ?_ (fun hHeld => ?_)
        · exact KS.out _ (((HSD.out.other hcb 2 _).other hcb 3 _).other hcb 4 _)
        clear hK K_
        try simp only [Act.put, List.setIfInBounds_toArray, List.set_cons_zero, List.set_cons_succ]
        refine wpAnyH_take (i := 14) (oi := ({ dst := some 63, op := Op.fieldAddr 26 (Operand.tmp 9) 5, type := 0, pos := "script.go:146", after := #[{ on := 0, ground := Ground.phase }, { on := 1, ground := Ground.phase }, { on := 2, ground := Ground.phase }, { on := 3, ground := Ground.phase }, { on := 4, ground := Ground.phase }, { on := 5, ground := Ground.phase }, { on := 6, ground := Ground.phase }, { on := 7, ground := Ground.phase }, { on := 8, ground := Ground.phase }, { on := 9, ground := Ground.phase }, { on := 10, ground := Ground.phase }, { on := 11, ground := Ground.phase }, { on := 12, ground := Ground.phase }, { on := 13, ground := Ground.phase }], guard := none } : Oper)) (v := ?_) rfl (by kernel_rfl) (by kernel_rfl) (by kernel_rfl) (fun _ _ _ h => h) (Or.inl ⟨by rfl, ?_⟩) (by assumption) ?_
        rotate_left
        · (intro w hSw; (try dsimp only at hSw); go_simp; try with_reducible rfl)
        try simp only [Act.put, List.setIfInBounds_toArray, List.set_cons_zero, List.set_cons_succ]
        refine wpAnyH_ready (rs := [15]) (by kernel_rfl) (by simp) ?_
        refine AllReadyH.cons (o := ({ dst := none, op := Op.store 3 (Operand.tmp 63) (Operand.tmp 59), type := 0, pos := "script.go:146", after := #[{ on := 14, ground := Ground.data }, { on := 7, ground := Ground.data }, { on := 13, ground := Ground.chain }, { on := 0, ground := Ground.phase }, { on := 1, ground := Ground.phase }, { on := 2, ground := Ground.phase }, { on := 3, ground := Ground.phase }, { on := 4, ground := Ground.phase }, { on := 5, ground := Ground.phase }, { on := 6, ground := Ground.phase }, { on := 7, ground := Ground.phase }, { on := 8, ground := Ground.phase }, { on := 9, ground := Ground.phase }, { on := 10, ground := Ground.phase }, { on := 11, ground := Ground.phase }, { on := 12, ground := Ground.phase }, { on := 13, ground := Ground.phase }], guard := none } : Oper)) rfl (fun K_ hK => ?_) AllReadyH.nil
        go_simp
        refine hK.out _ _ ?_ (fun hHeld => ?_)
        · exact KS.out _ ((((HSD.out.other hcb 2 _).other hcb 3 _).other hcb 4 _).other hcb 5 _)
        clear hK K_
        try simp only [Act.put, List.setIfInBounds_toArray, List.set_cons_zero, List.set_cons_succ]
        refine wpAnyH_done (by kernel_rfl) ?_ _
        obtain ⟨X5, HX5⟩ : ∃ X, Hid (((((X4.setCell ⟨w1.heap.size, 2, none⟩ (.int .i64 v0)).setCell ⟨w1.heap.size, 3, none⟩ (.int .i64 v1)).setCell ⟨w1.heap.size, 4, none⟩ (.int .i64 v2)).setCell ⟨w1.heap.size, 5, none⟩ (.int .i64 v3)).drew = X) := ⟨_, (rfl : _ = _)⟩
        have hb45 : Below w1.heap.size X4 X5 := by rw [← HX5.out]; exact (((((Below.refl w1.heap.size X4).setCell (show w1.heap.size ≤ (Addr.mk w1.heap.size 2 none).block from Nat.le_refl _) _).setCell (show w1.heap.size ≤ (Addr.mk w1.heap.size 3 none).block from Nat.le_refl _) _).setCell (show w1.heap.size ≤ (Addr.mk w1.heap.size 4 none).block from Nat.le_refl _) _).setCell (show w1.heap.size ≤ (Addr.mk w1.heap.size 5 none).block from Nat.le_refl _) _).drew
        have NA5 := hid_of3 (NA4.out.onB hb45 hA)
        have NO5 := hid_of3 (show Nine X5 w1.heap.size (.int .i64 (kd : Int)) (.int .i64 x0) (.int .i64 v0) (.int .i64 v1) (.int .i64 v2) (.int .i64 v3) (.int .i64 0) (.int .i64 0) (.slice none 0 0) by rw [← HX5.out]; exact ((((NO4.out.put2 _).put3 _).put4 _).put5 _).drew)
        have HRS5 := hid_of3 (HRS4.out.onB hb45 (by omega))
        have hb5 : Below w.heap.size w X5 := hb4.trans (hb45.mono (by omega))
        have hs5 : X4.heap.size ≤ X5.heap.size := hb45.size
        have hX4 : X2.heap.size < X4.heap.size := (Array.getElem?_eq_some_iff.1 hh4.out).1
        rw [HX5.out]
        clear k0 k1 k2 k3 k4 k5 k6 k7 k8 kf0 kf1 kf2 kf3 kf4 kf5 kf6 kf7 kf8 klt hb45 KS HSD HRS4 NO4 NA4 NO3 NA3 HRS3 HX5 hh4 hg4 HSRC HNEW HTL
        cases fp with
        | false =>
          have HRES : Hid (r = (⟨kd, x0, v0, v1, v2, v3, 0, 0, []⟩, true)) := by
            unfold Hid; rw [← HT.out]; unfold tailR; rw [HLM.out, if_neg (by simp; omega), if_pos rfl, HV0.out, HV1.out, HV2.out, HV3.out]
          obtain ⟨r0, r1, r2, r3, r4, r5, r6, r7, r8, rf0, rf1, rf2, rf3, rf4, rf5, rf6, rf7, rf8, rlt⟩ := NA5.out
          obtain ⟨k0, k1, k2, k3, k4, k5, k6, k7, k8, kf0, kf1, kf2, kf3, kf4, kf5, kf6, kf7, kf8, klt⟩ := NO5.out
          go_wp2_with fail
          refine bodyPost_ret (v := .tuple #[.agg #[.int .i64 (kd : Int), .int .i64 x0, .int .i64 v0, .int .i64 v1, .int .i64 v2, .int .i64 v3, .int .i64 0, .int .i64 0, .slice none 0 0], .bool true]) (by simp [results, Tryd.results47, go_sem, r0, r1, r2, r3, r4, r5, r6, r7, r8]) rfl ?_
          rw [HRES.out]
          refine ⟨.slice none 0 0, rfl, World.ownsRow_nil _ _ _ _, ?_⟩
          exact set9_below hb5 (Nat.le_refl _) _ _ _ _ _ _ _ _ _
        | true =>
          have hdn : rs.drop nn = [] := List.drop_of_length_le (by rw [HLM.out]; omega)
          have hz : m - nn = 0 := by omega
          have HP : Hid (picN ([] : List Int) = (0, 0, [], false)) := rfl
          have hr : Hid (r = (q00, false)) := by
            unfold Hid; rw [← HT.out]; unfold tailR; rw [HLM.out, if_neg (by simp; omega), if_neg (by simp), hdn, HP.out, if_neg (by simp)]
          have HBP0 : Hid (∀ (a' : Option Addr) (l' c' : Nat), l' = 0 → c' ≤ 9223372036854775807 → Calls Tryd.prog 71 #[.slice a' l' c'] X5 fun e w' => ∃ u, e = .returned (.tuple #[.agg #[.int .i64 0, .int .i64 0, u], .bool false]) ∧ w'.ownsRow X5.heap.size 88 2 u ([] : List (Int × Int)).length (pixCells []) ∧ Below X5.heap.size X5 w') := by
            intro a' l' c' hl' hc'
            subst hl'
            exact buildPic_any _ [] X5 ⟨a', c', rfl, by simp, hc', fun h => absurd rfl h⟩ (by simp) 0 0 [] false HP
          have hnnm : nn ≤ m := by omega
          have hnnmi : (nn : Int) ≤ (m : Int) := by omega
          have hcc : vc ≤ 9223372036854775807 := by
            obtain ⟨a', cap', hv', hl', hc'⟩ := HRS5.out.shape
            simp only [Value.slice.injEq] at hv'
            obtain ⟨_, _, rfl⟩ := hv'
            exact hc'
          clear hdn hz
          by_cases hvn : vc = nn
          all_goals
            try subst hvn
            go_wp2_with fail
            refine (HBP0.out _ _ _ (by omega) (by omega)).mono ?_
            rintro e X6 ⟨u, rfl, hu, hb6⟩
            obtain ⟨ua, uc, hue⟩ := own_any hu
            rw [List.length_nil] at hue
            subst hue
            have NA6 := hid_of3 (NA5.out.on hb6)
            have hbb6 : Below w.heap.size w X6 := hb5.trans (hb6.mono hb5.size)
            obtain ⟨X7, HX7⟩ : ∃ X, Hid (X6.alloc (.cells #[.int .i64 0, .int .i64 0, .slice ua 0 uc] 24) = X) := ⟨_, (rfl : _ = _)⟩
            have hb67 : Below X6.heap.size X6 X7 := by rw [← HX7.out]; exact (Below.refl _ _).alloc (Nat.le_refl _) _
            have hb7 : Below w.heap.size w X7 := hbb6.trans (hb67.mono hbb6.size)
            have NA7 := hid_of3 (NA6.out.on hb67)
            go_upto_region 15 with fail
            rw [HX7.out]
            clear HX7 HBP0 hu hb6 NA5 NO5 NA6 hb67 HRS5
            obtain ⟨r0, r1, r2, r3, r4, r5, r6, r7, r8, rf0, rf1, rf2, rf3, rf4, rf5, rf6, rf7, rf8, rlt⟩ := NA7.out
            go_wp2_with fail
            refine bodyPost_ret (v := .tuple #[.agg #[.int .i64 0, .int .i64 0, .int .i64 0, .int .i64 0, .int .i64 0, .int .i64 0, .int .i64 0, .int .i64 0, .slice none 0 0], .bool false]) (by simp [results, Tryd.results47, go_sem, r0, r1, r2, r3, r4, r5, r6, r7, r8]) rfl (build_no hr ?_)
            exact set9_below hb7 (Nat.le_refl _) _ _ _ _ _ _ _ _ _
  | false =>
    have hn0 : True := trivial
    obtain ⟨o1, HO1⟩ : ∃ o1, Hid (o = o1) := ⟨_, (rfl : _ = _)⟩
    obtain ⟨X2, HX2⟩ : ∃ X, Hid (X1 = X) := ⟨_, (rfl : _ = _)⟩
    obtain ⟨m, HMM⟩ : ∃ m, Hid (n = m) := ⟨_, (rfl : _ = _)⟩
    obtain ⟨vc, HVC⟩ : ∃ m, Hid (cap = m) := ⟨_, (rfl : _ = _)⟩
    rw [HX2.out] at NA NO HRX hbX
    rw [HO1.out, HMM.out, HVC.out] at HRX
    rw [HX2.out, HO1.out, HMM.out, HVC.out]
    have hb2 : Below w.heap.size w X2 := hbX
    have NA2 := NA
    have NO2 := NO
    have HRS := HRX
    have HLM : Hid (ns.length = m) := by rw [← HMM.out]; exact HN
    have hvm : m ≤ vc := by have := HMM.out; have := HVC.out; omega
    have hm6 : m ≤ 1000000 := by have := HMM.out; omega
    clear HX2 HRX HO1 NA NO hbX HMM HVC hn0 hl hcap
    have HT : Hid (tailR kd 0 nn fp ns = r) := by
      unfold Hid
      rw [← HB.out, bres_tail s ns (by rw [HFI.out, HN.out]; simp), HNN.out, HFP.out, HFI.out, HKD.out]
      unfold Sc.restN
      rw [HFI.out]
      rw [if_neg (by simp), if_neg (by simp)]
    obtain ⟨rs, HRSV⟩ : ∃ rs, Hid (ns = rs) := ⟨_, (rfl : _ = _)⟩
    rw [HRSV.out] at HT HRS HLM
    clear HRSV
    by_cases hlt : m < nn
    · have hr : Hid (r = (q00, false)) := by
        unfold Hid; rw [← HT.out]; unfold tailR; rw [HLM.out, if_pos (.inl hlt)]
      have hlti : (m : Int) < (nn : Int) := by omega
      obtain ⟨r0, r1, r2, r3, r4, r5, r6, r7, r8, rf0, rf1, rf2, rf3, rf4, rf5, rf6, rf7, rf8, rlt⟩ := NA2.out
      go_wp2_with fail
      refine bodyPost_ret (v := .tuple #[.agg #[.int .i64 0, .int .i64 0, .int .i64 0, .int .i64 0, .int .i64 0, .int .i64 0, .int .i64 0, .int .i64 0, .slice none 0 0], .bool false]) (by simp [results, Tryd.results47, go_sem, r0, r1, r2, r3, r4, r5, r6, r7, r8]) rfl (build_no hr ?_)
      exact set9_below hb2 (Nat.le_refl _) _ _ _ _ _ _ _ _ _
    have hlti : ¬ (m : Int) < (nn : Int) := by omega
    have hgo : fp = true ∨ m = nn ∨ (fp = false ∧ nn < m) := by cases fp <;> simp; omega
    by_cases hgt : fp = false ∧ nn < m
    · obtain ⟨rfl, hgt⟩ := hgt
      have hr : Hid (r = (q00, false)) := by
        unfold Hid; rw [← HT.out]; unfold tailR; rw [HLM.out, if_pos (.inr ⟨rfl, hgt⟩)]
      have hgti : (nn : Int) < (m : Int) := by omega
      obtain ⟨r0, r1, r2, r3, r4, r5, r6, r7, r8, rf0, rf1, rf2, rf3, rf4, rf5, rf6, rf7, rf8, rlt⟩ := NA2.out
      go_wp2_with fail
      refine bodyPost_ret (v := .tuple #[.agg #[.int .i64 0, .int .i64 0, .int .i64 0, .int .i64 0, .int .i64 0, .int .i64 0, .int .i64 0, .int .i64 0, .slice none 0 0], .bool false]) (by simp [results, Tryd.results47, go_sem, r0, r1, r2, r3, r4, r5, r6, r7, r8]) rfl (build_no hr ?_)
      exact set9_below hb2 (Nat.le_refl _) _ _ _ _ _ _ _ _ _
    have hor : (decide ((nn : Int) < (m : Int)) && !fp) = false := by
      cases fp
      · have : ¬ (nn : Int) < (m : Int) := fun h => hgt ⟨rfl, by omega⟩
        simp; omega
      · simp
    clear hgo hor
    have hsz : (Tryd.prog.info? 3).map (·.size) = some 1 := by kernel_rfl
    have hnn4 : nn ≤ 4 := by rw [← HNN.out]; exact (shps_ok s (kindAt_mem _ _ _ HK.out).1).1
    have hnni : (nn : Int) ≤ (vc : Int) := by omega
    have hnnv : nn ≤ vc := by omega
    obtain ⟨X3, HX3⟩ : ∃ X, Hid (X2.alloc (.cells #[.int .i64 0, .int .i64 0, .int .i64 0, .int .i64 0] 104) = X) := ⟨_, (rfl : _ = _)⟩
    have hb23 : Below X2.heap.size X2 X3 := by rw [← HX3.out]; exact (Below.refl _ _).alloc (Nat.le_refl _) _
    have hs2 := hb2.size
    have hb3 : Below w.heap.size w X3 := hb2.trans (hb23.mono hs2)
    have NA3 := hid_of3 (NA2.out.on hb23)
    have NO3 := hid_of3 (NO2.out.on hb23)
    have HRS3 := hid_of3 (HRS.out.on hb23)
    have HH3 : Hid (X3.heap[X2.heap.size]? = some (.cells ([.int .i64 0, .int .i64 0, .int .i64 0, .int .i64 0] : List Value).toArray 104 (0, 0))) := by rw [← HX3.out]; exact heap_alloc_new X2 _
    have hrl : nn ≤ rs.length := by rw [HLM.out]; omega
    have HNEW := hid_of3 (four_new rs nn hnn4 hrl)
    have HTL : Hid ((intCells (rs.take nn)).length = nn) := by unfold Hid intCells; rw [List.length_map, List.length_take]; omega
    have HSRC : Hid (∀ j v, (intCells (rs.take nn))[j]? = some v → X3.cell? ((⟨g, o1, none⟩ : Addr).add j) = some v) := by
      intro j v hv
      have hj : j < nn := by have := (List.getElem?_eq_some_iff.1 hv).1; rwa [HTL.out] at this
      obtain ⟨x, HX⟩ : ∃ x, Hid (rs.getD j 0 = x) := ⟨_, (rfl : _ = _)⟩
      obtain ⟨g', o', he, -, cx⟩ := HRS3.out.at (k := j) (by omega) HLM HX
      simp only [Option.some.injEq, Addr.mk.injEq, and_true] at he
      obtain ⟨rfl, rfl⟩ := he
      rw [addr_add, cx, ← hv]
      unfold intCells
      rw [List.getElem?_map, List.getElem?_take, if_pos hj, List.getElem?_eq_getElem (by omega), ← HX.out, List.getD_eq_getElem?_getD, List.getElem?_eq_getElem (show j < rs.length by omega)]
      rfl
    by_cases hgt2 : nn < m
    · have hfp : fp = true := by cases fp; exact absurd ⟨rfl, hgt2⟩ hgt; rfl
      subst hfp
      have hgti : (nn : Int) < (m : Int) := by omega
      go_upto_region 10 with fail
      rw [HX3.out]
      go_still_tail 4, (by kernel_rfl)
      go_wp2_with (refine wpList_copy_k 1 rfl (.tmp 47) (.tmp 50) 60 60 rfl 3 Tryd.underlying60 hsz X2.heap.size 0 4 4 ⟨g, o1, none⟩ nn vc rfl rfl [.int .i64 0, .int .i64 0, .int .i64 0, .int .i64 0] 104 HH3.out (intCells (rs.take nn)) nn (Nat.min_eq_left hnn4) (by rw [HTL.out]; omega) HSRC.out (by rw [HTL.out]; simp; omega) (intCells_one _) [.int .i64 (fN rs nn 0), .int .i64 (fN rs nn 1), .int .i64 (fN rs nn 2), .int .i64 (fN rs nn 3)] (by rw [List.take_zero, List.nil_append, HTL.out, Nat.zero_add]; exact HNEW.out) ?_)
      intro X4 hh4 hg4
      have hb34 : Below X2.heap.size X3 X4 := (Below.refl _ X3).drew.grown hg4.out hb23.size (fun k hk => by cases hk; exact Nat.le_refl _)
      have hAc := NA2.out.lt
      have hbc := NO2.out.lt
      have hgc : g < X2.heap.size := by omega
      have NA4 := hid_of3 (NA3.out.onB hb34 hAc)
      have NO4 := hid_of3 (NO3.out.onB hb34 hbc)
      have HRS4 := hid_of3 (HRS3.out.onB hb34 hgc)
      have hb4 : Below w.heap.size w X4 := hb3.trans (hb34.mono hs2)
      have HSD : Hid (Slots X4.drew X2.heap.size (fN rs nn)) := slots_of hh4.out
      have hcb : X2.heap.size ≠ w1.heap.size := by omega
      obtain ⟨v0, HV0⟩ : ∃ v, Hid (fN rs nn 0 = v) := ⟨_, (rfl : _ = _)⟩
      obtain ⟨v1, HV1⟩ : ∃ v, Hid (fN rs nn 1 = v) := ⟨_, (rfl : _ = _)⟩
      obtain ⟨v2, HV2⟩ : ∃ v, Hid (fN rs nn 2 = v) := ⟨_, (rfl : _ = _)⟩
      obtain ⟨v3, HV3⟩ : ∃ v, Hid (fN rs nn 3 = v) := ⟨_, (rfl : _ = _)⟩
      have KS : Hid (∀ W', Slots W' X2.heap.size (fN rs nn) → (W'.cell? ⟨X2.heap.size, 0, none⟩ = some (.int .i64 v0) ∧ W'.cell? ⟨X2.heap.size, 1, none⟩ = some (.int .i64 v1) ∧ W'.cell? ⟨X2.heap.size, 2, none⟩ = some (.int .i64 v2) ∧ W'.cell? ⟨X2.heap.size, 3, none⟩ = some (.int .i64 v3))) := by
        intro W' h
        rw [← HV0.out, ← HV1.out, ← HV2.out, ← HV3.out]
        exact ⟨h.cell 0 (by omega), h.cell 1 (by omega), h.cell 2 (by omega), h.cell 3 (by omega)⟩
      obtain ⟨k0, k1, k2, k3, k4, k5, k6, k7, k8, kf0, kf1, kf2, kf3, kf4, kf5, kf6, kf7, kf8, klt⟩ := NO4.out
      go_wp2_with fail
      refine wp_region_held_drew (S := (fun W' => W'.cell? ⟨X2.heap.size, 0, none⟩ = some (.int .i64 v0) ∧ W'.cell? ⟨X2.heap.size, 1, none⟩ = some (.int .i64 v1) ∧ W'.cell? ⟨X2.heap.size, 2, none⟩ = some (.int .i64 v2) ∧ W'.cell? ⟨X2.heap.size, 3, none⟩ = some (.int .i64 v3))) (by kernel_rfl) ?_ (fun hHeld => ?_)
      · exact KS.out _ HSD.out
      refine wpAnyH_take (i := 0) (oi := ({ dst := some 52, op := Op.indexAddr 104 (Operand.tmp 10) (Operand.const (Value.int IntKind.i64 0)), type := 0, pos := "script.go:146", after := #[], guard := none } : Oper)) (v := ?_) rfl (by kernel_rfl) (by kernel_rfl) (by kernel_rfl) (fun _ _ _ h => h) (Or.inl ⟨by rfl, ?_⟩) (by assumption) ?_
      rotate_left
      · (intro w hSw; (try dsimp only at hSw); go_simp; try with_reducible rfl)
      try simp only [Act.put, List.setIfInBounds_toArray, List.set_cons_zero, List.set_cons_succ]
      refine wpAnyH_take (i := 1) (oi := ({ dst := some 53, op := Op.load 3 (Operand.tmp 52), type := 3, pos := "script.go:146", after := #[{ on := 0, ground := Ground.data }], guard := none } : Oper)) (v := ?_) rfl (by kernel_rfl) (by kernel_rfl) (by kernel_rfl) (fun _ _ _ h => h) (Or.inl ⟨by rfl, ?_⟩) (by assumption) ?_
      rotate_left
      · (intro w hSw; (try dsimp only at hSw); go_simp; try with_reducible rfl)
      try simp only [Act.put, List.setIfInBounds_toArray, List.set_cons_zero, List.set_cons_succ]
      refine wpAnyH_take (i := 2) (oi := ({ dst := some 54, op := Op.indexAddr 104 (Operand.tmp 10) (Operand.const (Value.int IntKind.i64 1)), type := 0, pos := "script.go:146", after := #[{ on := 9, ground := Ground.gcOnly Departure.lateStores }], guard := none } : Oper)) (v := ?_) rfl (by kernel_rfl) (by kernel_rfl) (by kernel_rfl) (fun _ _ _ h => h) (Or.inl ⟨by rfl, ?_⟩) (by assumption) ?_
      rotate_left
      · (intro w hSw; (try dsimp only at hSw); go_simp; try with_reducible rfl)
      try simp only [Act.put, List.setIfInBounds_toArray, List.set_cons_zero, List.set_cons_succ]
      refine wpAnyH_take (i := 3) (oi := ({ dst := some 55, op := Op.load 3 (Operand.tmp 54), type := 3, pos := "script.go:146", after := #[{ on := 2, ground := Ground.data }, { on := 9, ground := Ground.gcOnly Departure.lateStores }], guard := none } : Oper)) (v := ?_) rfl (by kernel_rfl) (by kernel_rfl) (by kernel_rfl) (fun _ _ _ h => h) (Or.inl ⟨by rfl, ?_⟩) (by assumption) ?_
      rotate_left
      · (intro w hSw; (try dsimp only at hSw); go_simp; try with_reducible rfl)
      try simp only [Act.put, List.setIfInBounds_toArray, List.set_cons_zero, List.set_cons_succ]
      refine wpAnyH_take (i := 4) (oi := ({ dst := some 56, op := Op.indexAddr 104 (Operand.tmp 10) (Operand.const (Value.int IntKind.i64 2)), type := 0, pos := "script.go:146", after := #[{ on := 11, ground := Ground.gcOnly Departure.lateStores }], guard := none } : Oper)) (v := ?_) rfl (by kernel_rfl) (by kernel_rfl) (by kernel_rfl) (fun _ _ _ h => h) (Or.inl ⟨by rfl, ?_⟩) (by assumption) ?_
      rotate_left
      · (intro w hSw; (try dsimp only at hSw); go_simp; try with_reducible rfl)
      try simp only [Act.put, List.setIfInBounds_toArray, List.set_cons_zero, List.set_cons_succ]
      refine wpAnyH_take (i := 5) (oi := ({ dst := some 57, op := Op.load 3 (Operand.tmp 56), type := 3, pos := "script.go:146", after := #[{ on := 4, ground := Ground.data }, { on := 11, ground := Ground.gcOnly Departure.lateStores }], guard := none } : Oper)) (v := ?_) rfl (by kernel_rfl) (by kernel_rfl) (by kernel_rfl) (fun _ _ _ h => h) (Or.inl ⟨by rfl, ?_⟩) (by assumption) ?_
      rotate_left
      · (intro w hSw; (try dsimp only at hSw); go_simp; try with_reducible rfl)
      try simp only [Act.put, List.setIfInBounds_toArray, List.set_cons_zero, List.set_cons_succ]
      refine wpAnyH_take (i := 6) (oi := ({ dst := some 58, op := Op.indexAddr 104 (Operand.tmp 10) (Operand.const (Value.int IntKind.i64 3)), type := 0, pos := "script.go:146", after := #[{ on := 13, ground := Ground.gcOnly Departure.lateStores }], guard := none } : Oper)) (v := ?_) rfl (by kernel_rfl) (by kernel_rfl) (by kernel_rfl) (fun _ _ _ h => h) (Or.inl ⟨by rfl, ?_⟩) (by assumption) ?_
      rotate_left
      · (intro w hSw; (try dsimp only at hSw); go_simp; try with_reducible rfl)
      try simp only [Act.put, List.setIfInBounds_toArray, List.set_cons_zero, List.set_cons_succ]
      refine wpAnyH_take (i := 7) (oi := ({ dst := some 59, op := Op.load 3 (Operand.tmp 58), type := 3, pos := "script.go:146", after := #[{ on := 6, ground := Ground.data }, { on := 13, ground := Ground.gcOnly Departure.lateStores }], guard := none } : Oper)) (v := ?_) rfl (by kernel_rfl) (by kernel_rfl) (by kernel_rfl) (fun _ _ _ h => h) (Or.inl ⟨by rfl, ?_⟩) (by assumption) ?_
      rotate_left
      · (intro w hSw; (try dsimp only at hSw); go_simp; try with_reducible rfl)
      try simp only [Act.put, List.setIfInBounds_toArray, List.set_cons_zero, List.set_cons_succ]
      refine wpAnyH_take (i := 8) (oi := ({ dst := some 60, op := Op.fieldAddr 26 (Operand.tmp 9) 2, type := 0, pos := "script.go:146", after := #[{ on := 0, ground := Ground.phase }, { on := 1, ground := Ground.phase }, { on := 2, ground := Ground.textOnly Departure.lateStores }, { on := 3, ground := Ground.textOnly Departure.lateStores }, { on := 4, ground := Ground.textOnly Departure.lateStores }, { on := 5, ground := Ground.textOnly Departure.lateStores }, { on := 6, ground := Ground.textOnly Departure.lateStores }, { on := 7, ground := Ground.textOnly Departure.lateStores }], guard := none } : Oper)) (v := ?_) rfl (by kernel_rfl) (by kernel_rfl) (by kernel_rfl) (fun _ _ _ h => h) (Or.inl ⟨by rfl, ?_⟩) (by assumption) ?_
      rotate_left
      · (intro w hSw; (try dsimp only at hSw); go_simp; try with_reducible rfl)
      try simp only [Act.put, List.setIfInBounds_toArray, List.set_cons_zero, List.set_cons_succ]
      refine wpAnyH_ready (rs := [9]) (by kernel_rfl) (by simp) ?_
      refine AllReadyH.cons (o := ({ dst := none, op := Op.store 3 (Operand.tmp 60) (Operand.tmp 53), type := 0, pos := "script.go:146", after := #[{ on := 8, ground := Ground.data }, { on := 1, ground := Ground.data }, { on := 0, ground := Ground.phase }, { on := 1, ground := Ground.phase }, { on := 2, ground := Ground.textOnly Departure.lateStores }, { on := 3, ground := Ground.textOnly Departure.lateStores }, { on := 4, ground := Ground.textOnly Departure.lateStores }, { on := 5, ground := Ground.textOnly Departure.lateStores }, { on := 6, ground := Ground.textOnly Departure.lateStores }, { on := 7, ground := Ground.textOnly Departure.lateStores }], guard := none } : Oper)) rfl (fun K_ hK => ?_) AllReadyH.nil
      go_simp
      refine hK.out _ _ ?_ (fun hHeld => ?_)
      · exact KS.out _ (HSD.out.other hcb 2 _)
      clear hK K_
      try simp only [Act.put, List.setIfInBounds_toArray, List.set_cons_zero, List.set_cons_succ]
      refine wpAnyH_take (i := 10) (oi := ({ dst := some 61, op := Op.fieldAddr 26 (Operand.tmp 9) 3, type := 0, pos := "script.go:146", after := #[{ on := 0, ground := Ground.phase }, { on := 1, ground := Ground.phase }, { on := 2, ground := Ground.phase }, { on := 3, ground := Ground.phase }, { on := 4, ground := Ground.textOnly Departure.lateStores }, { on := 5, ground := Ground.textOnly Departure.lateStores }, { on := 6, ground := Ground.textOnly Departure.lateStores }, { on := 7, ground := Ground.textOnly Departure.lateStores }, { on := 8, ground := Ground.phase }, { on := 9, ground := Ground.phase }], guard := none } : Oper)) (v := ?_) rfl (by kernel_rfl) (by kernel_rfl) (by kernel_rfl) (fun _ _ _ h => h) (Or.inl ⟨by rfl, ?_⟩) (by assumption) ?_
      rotate_left
      · (intro w hSw; (try dsimp only at hSw); go_simp; try with_reducible rfl)
      try simp only [Act.put, List.setIfInBounds_toArray, List.set_cons_zero, List.set_cons_succ]
      refine wpAnyH_ready (rs := [11]) (by kernel_rfl) (by simp) ?_
      refine AllReadyH.cons (o := ({ dst := none, op := Op.store 3 (Operand.tmp 61) (Operand.tmp 55), type := 0, pos := "script.go:146", after := #[{ on := 10, ground := Ground.data }, { on := 3, ground := Ground.data }, { on := 9, ground := Ground.chain }, { on := 0, ground := Ground.phase }, { on := 1, ground := Ground.phase }, { on := 2, ground := Ground.phase }, { on := 3, ground := Ground.phase }, { on := 4, ground := Ground.textOnly Departure.lateStores }, { on := 5, ground := Ground.textOnly Departure.lateStores }, { on := 6, ground := Ground.textOnly Departure.lateStores }, { on := 7, ground := Ground.textOnly Departure.lateStores }, { on := 8, ground := Ground.phase }, { on := 9, ground := Ground.phase }], guard := none } : Oper)) rfl (fun K_ hK => ?_) AllReadyH.nil
      go_simp
      refine hK.out _ _ ?_ (fun hHeld => ?_)
      · exact KS.out _ ((HSD.out.other hcb 2 _).other hcb 3 _)
      clear hK K_
      try simp only [Act.put, List.setIfInBounds_toArray, List.set_cons_zero, List.set_cons_succ]
      refine wpAnyH_take (i := 12) (oi := ({ dst := some 62, op := Op.fieldAddr 26 (Operand.tmp 9) 4, type := 0, pos := "script.go:146", after := #[{ on := 0, ground := Ground.phase }, { on := 1, ground := Ground.phase }, { on := 2, ground := Ground.phase }, { on := 3, ground := Ground.phase }, { on := 4, ground := Ground.phase }, { on := 5, ground := Ground.phase }, { on := 6, ground := Ground.textOnly Departure.lateStores }, { on := 7, ground := Ground.textOnly Departure.lateStores }, { on := 8, ground := Ground.phase }, { on := 9, ground := Ground.phase }, { on := 10, ground := Ground.phase }, { on := 11, ground := Ground.phase }], guard := none } : Oper)) (v := ?_) rfl (by kernel_rfl) (by kernel_rfl) (by kernel_rfl) (fun _ _ _ h => h) (Or.inl ⟨by rfl, ?_⟩) (by assumption) ?_
      rotate_left
      · (intro w hSw; (try dsimp only at hSw); go_simp; try with_reducible rfl)
      try simp only [Act.put, List.setIfInBounds_toArray, List.set_cons_zero, List.set_cons_succ]
      refine wpAnyH_ready (rs := [13]) (by kernel_rfl) (by simp) ?_
      refine AllReadyH.cons (o := ({ dst := none, op := Op.store 3 (Operand.tmp 62) (Operand.tmp 57), type := 0, pos := "script.go:146", after := #[{ on := 12, ground := Ground.data }, { on := 5, ground := Ground.data }, { on := 11, ground := Ground.chain }, { on := 0, ground := Ground.phase }, { on := 1, ground := Ground.phase }, { on := 2, ground := Ground.phase }, { on := 3, ground := Ground.phase }, { on := 4, ground := Ground.phase }, { on := 5, ground := Ground.phase }, { on := 6, ground := Ground.textOnly Departure.lateStores }, { on := 7, ground := Ground.textOnly Departure.lateStores }, { on := 8, ground := Ground.phase }, { on := 9, ground := Ground.phase }, { on := 10, ground := Ground.phase }, { on := 11, ground := Ground.phase }], guard := none } : Oper)) rfl (fun K_ hK => ?_) AllReadyH.nil
      go_simp
      refine hK.out _ _ ?_ (fun hHeld => ?_)
      · exact KS.out _ (((HSD.out.other hcb 2 _).other hcb 3 _).other hcb 4 _)
      clear hK K_
      try simp only [Act.put, List.setIfInBounds_toArray, List.set_cons_zero, List.set_cons_succ]
      refine wpAnyH_take (i := 14) (oi := ({ dst := some 63, op := Op.fieldAddr 26 (Operand.tmp 9) 5, type := 0, pos := "script.go:146", after := #[{ on := 0, ground := Ground.phase }, { on := 1, ground := Ground.phase }, { on := 2, ground := Ground.phase }, { on := 3, ground := Ground.phase }, { on := 4, ground := Ground.phase }, { on := 5, ground := Ground.phase }, { on := 6, ground := Ground.phase }, { on := 7, ground := Ground.phase }, { on := 8, ground := Ground.phase }, { on := 9, ground := Ground.phase }, { on := 10, ground := Ground.phase }, { on := 11, ground := Ground.phase }, { on := 12, ground := Ground.phase }, { on := 13, ground := Ground.phase }], guard := none } : Oper)) (v := ?_) rfl (by kernel_rfl) (by kernel_rfl) (by kernel_rfl) (fun _ _ _ h => h) (Or.inl ⟨by rfl, ?_⟩) (by assumption) ?_
      rotate_left
      · (intro w hSw; (try dsimp only at hSw); go_simp; try with_reducible rfl)
      try simp only [Act.put, List.setIfInBounds_toArray, List.set_cons_zero, List.set_cons_succ]
      refine wpAnyH_ready (rs := [15]) (by kernel_rfl) (by simp) ?_
      refine AllReadyH.cons (o := ({ dst := none, op := Op.store 3 (Operand.tmp 63) (Operand.tmp 59), type := 0, pos := "script.go:146", after := #[{ on := 14, ground := Ground.data }, { on := 7, ground := Ground.data }, { on := 13, ground := Ground.chain }, { on := 0, ground := Ground.phase }, { on := 1, ground := Ground.phase }, { on := 2, ground := Ground.phase }, { on := 3, ground := Ground.phase }, { on := 4, ground := Ground.phase }, { on := 5, ground := Ground.phase }, { on := 6, ground := Ground.phase }, { on := 7, ground := Ground.phase }, { on := 8, ground := Ground.phase }, { on := 9, ground := Ground.phase }, { on := 10, ground := Ground.phase }, { on := 11, ground := Ground.phase }, { on := 12, ground := Ground.phase }, { on := 13, ground := Ground.phase }], guard := none } : Oper)) rfl (fun K_ hK => ?_) AllReadyH.nil
      go_simp
      refine hK.out _ _ ?_ (fun hHeld => ?_)
      · exact KS.out _ ((((HSD.out.other hcb 2 _).other hcb 3 _).other hcb 4 _).other hcb 5 _)
      clear hK K_
      try simp only [Act.put, List.setIfInBounds_toArray, List.set_cons_zero, List.set_cons_succ]
      refine wpAnyH_done (by kernel_rfl) ?_ _
      obtain ⟨X5, HX5⟩ : ∃ X, Hid (((((X4.setCell ⟨w1.heap.size, 2, none⟩ (.int .i64 v0)).setCell ⟨w1.heap.size, 3, none⟩ (.int .i64 v1)).setCell ⟨w1.heap.size, 4, none⟩ (.int .i64 v2)).setCell ⟨w1.heap.size, 5, none⟩ (.int .i64 v3)).drew = X) := ⟨_, (rfl : _ = _)⟩
      have hb45 : Below w1.heap.size X4 X5 := by rw [← HX5.out]; exact (((((Below.refl w1.heap.size X4).setCell (show w1.heap.size ≤ (Addr.mk w1.heap.size 2 none).block from Nat.le_refl _) _).setCell (show w1.heap.size ≤ (Addr.mk w1.heap.size 3 none).block from Nat.le_refl _) _).setCell (show w1.heap.size ≤ (Addr.mk w1.heap.size 4 none).block from Nat.le_refl _) _).setCell (show w1.heap.size ≤ (Addr.mk w1.heap.size 5 none).block from Nat.le_refl _) _).drew
      have NA5 := hid_of3 (NA4.out.onB hb45 hA)
      have NO5 := hid_of3 (show Nine X5 w1.heap.size (.int .i64 (kd : Int)) (.int .i64 0) (.int .i64 v0) (.int .i64 v1) (.int .i64 v2) (.int .i64 v3) (.int .i64 0) (.int .i64 0) (.slice none 0 0) by rw [← HX5.out]; exact ((((NO4.out.put2 _).put3 _).put4 _).put5 _).drew)
      have HRS5 := hid_of3 (HRS4.out.onB hb45 (by omega))
      have hb5 : Below w.heap.size w X5 := hb4.trans (hb45.mono (by omega))
      have hs5 : X4.heap.size ≤ X5.heap.size := hb45.size
      have hX4 : X2.heap.size < X4.heap.size := (Array.getElem?_eq_some_iff.1 hh4.out).1
      rw [HX5.out]
      clear k0 k1 k2 k3 k4 k5 k6 k7 k8 kf0 kf1 kf2 kf3 kf4 kf5 kf6 kf7 kf8 klt hb45 KS HSD HRS4 NO4 NA4 NO3 NA3 HRS3 HX5 hh4 hg4 HSRC HNEW HTL
      obtain ⟨hru, hnv⟩ := HRS5.out.from nn (by omega)
      have HRU := hid_of3 hru
      clear hru
      obtain ⟨⟨pW, pH, ps, pb⟩, HP⟩ : ∃ p, Hid (picN (rs.drop nn) = p) := ⟨_, (rfl : _ = _)⟩
      have HRES : Hid (r = if pb = true then (⟨kd, 0, v0, v1, v2, v3, pW, pH, ps⟩, true) else (q00, false)) := by
        unfold Hid; rw [← HT.out]; unfold tailR; rw [HLM.out, if_neg (by simp; omega), if_neg (by simp), HP.out, HV0.out, HV1.out, HV2.out, HV3.out]
      have HBP := hid_of3 (buildPic_any _ (rs.drop nn) X5 HRU (by rw [List.length_drop, HLM.out]; omega) pW pH ps pb HP)
      have hnnm : nn ≤ m := by omega
      have hnnmi : (nn : Int) ≤ (m : Int) := by omega
      go_wp2_with fail
      refine HBP.out.mono ?_
      rintro e X6 ⟨u, rfl, hu, hb6⟩
      obtain ⟨ua, uc, hue⟩ := own_any hu
      obtain ⟨uk, HUK⟩ : ∃ k, Hid (ps.length = k) := ⟨_, (rfl : _ = _)⟩
      rw [HUK.out] at hue hu
      subst hue
      have HU6 := hid_of3 hu
      have NA6 := hid_of3 (NA5.out.on hb6)
      have NO6 := hid_of3 (NO5.out.on hb6)
      have hbb6 : Below w.heap.size w X6 := hb5.trans (hb6.mono hb5.size)
      have hs6 := hb6.size
      obtain ⟨X7, HX7⟩ : ∃ X, Hid (X6.alloc (.cells #[.int .i64 pW, .int .i64 pH, .slice ua uk uc] 24) = X) := ⟨_, (rfl : _ = _)⟩
      have hb67 : Below X6.heap.size X6 X7 := by rw [← HX7.out]; exact (Below.refl _ _).alloc (Nat.le_refl _) _
      have hb7 : Below w.heap.size w X7 := hbb6.trans (hb67.mono hbb6.size)
      have NA7 := hid_of3 (NA6.out.on hb67)
      have NO7 := hid_of3 (NO6.out.on hb67)
      have TP7 := hid_of3 (show Three X7 X6.heap.size (.int .i64 pW) (.int .i64 pH) (.slice ua uk uc) by rw [← HX7.out]; exact three_start X6 _ _ _ _)
      have HU7 := hid_of3 (own_on2 HU6.out hb67)
      go_upto_region 15 with fail
      rw [HX7.out]
      clear HX7 HBP hu hb6 NA5 NO5 NA6 NO6 HU6 hb67 HRS5 HRU
      obtain ⟨r0, r1, r2, r3, r4, r5, r6, r7, r8, rf0, rf1, rf2, rf3, rf4, rf5, rf6, rf7, rf8, rlt⟩ := NA7.out
      have hA5 : w.heap.size < X5.heap.size := by omega
      have hB5 : w1.heap.size < X5.heap.size := by omega
      cases pb with
      | false =>
        have hr : Hid (r = (q00, false)) := by unfold Hid; rw [HRES.out, if_neg (by simp)]
        go_wp2_with fail
        refine bodyPost_ret (v := .tuple #[.agg #[.int .i64 0, .int .i64 0, .int .i64 0, .int .i64 0, .int .i64 0, .int .i64 0, .int .i64 0, .int .i64 0, .slice none 0 0], .bool false]) (by simp [results, Tryd.results47, go_sem, r0, r1, r2, r3, r4, r5, r6, r7, r8]) rfl (build_no hr ?_)
        exact set9_below hb7 (Nat.le_refl _) _ _ _ _ _ _ _ _ _
      | true =>
        have hr : Hid (r = (⟨kd, 0, v0, v1, v2, v3, pW, pH, ps⟩, true)) := by unfold Hid; rw [HRES.out, if_pos rfl]
        obtain ⟨t0, t1, t2, tf0, tf1, tf2, tlt⟩ := TP7.out
        obtain ⟨k0, k1, k2, k3, k4, k5, k6, k7, k8, kf0, kf1, kf2, kf3, kf4, kf5, kf6, kf7, kf8, klt⟩ := NO7.out
        go_wp2_with fail
        refine bodyPost_ret (v := .tuple #[.agg #[.int .i64 (kd : Int), .int .i64 0, .int .i64 v0, .int .i64 v1, .int .i64 v2, .int .i64 v3, .int .i64 pW, .int .i64 pH, .slice ua uk uc], .bool true]) (by simp [results, Tryd.results47, go_sem, r0, r1, r2, r3, r4, r5, r6, r7, r8]) rfl ?_
        rw [hr.out]
        refine ⟨.slice ua uk uc, rfl, ?_, ?_⟩
        · rw [HUK.out]
          exact own_mono (set9_own (set3_own HU7.out hB5 _ _ _) hA5 _ _ _ _ _ _ _ _ _) (Nat.le_of_lt hA5)
        · exact set9_below (set3_below hb7 (Nat.le_of_lt hA) _ _ _) (Nat.le_refl _) _ _ _ _ _ _ _ _ _
    · have hgti : ¬ (nn : Int) < (m : Int) := by omega
      go_upto_region 10 with fail
      rw [HX3.out]
      go_still_tail 4, (by kernel_rfl)
      go_wp2_with (refine wpList_copy_k 1 rfl (.tmp 47) (.tmp 50) 60 60 rfl 3 Tryd.underlying60 hsz X2.heap.size 0 4 4 ⟨g, o1, none⟩ nn vc rfl rfl [.int .i64 0, .int .i64 0, .int .i64 0, .int .i64 0] 104 HH3.out (intCells (rs.take nn)) nn (Nat.min_eq_left hnn4) (by rw [HTL.out]; omega) HSRC.out (by rw [HTL.out]; simp; omega) (intCells_one _) [.int .i64 (fN rs nn 0), .int .i64 (fN rs nn 1), .int .i64 (fN rs nn 2), .int .i64 (fN rs nn 3)] (by rw [List.take_zero, List.nil_append, HTL.out, Nat.zero_add]; exact HNEW.out) ?_)
      intro X4 hh4 hg4
      have hb34 : Below X2.heap.size X3 X4 := (Below.refl _ X3).drew.grown hg4.out hb23.size (fun k hk => by cases hk; exact Nat.le_refl _)
      have hAc := NA2.out.lt
      have hbc := NO2.out.lt
      have hgc : g < X2.heap.size := by omega
      have NA4 := hid_of3 (NA3.out.onB hb34 hAc)
      have NO4 := hid_of3 (NO3.out.onB hb34 hbc)
      have HRS4 := hid_of3 (HRS3.out.onB hb34 hgc)
      have hb4 : Below w.heap.size w X4 := hb3.trans (hb34.mono hs2)
      have HSD : Hid (Slots X4.drew X2.heap.size (fN rs nn)) := slots_of hh4.out
      have hcb : X2.heap.size ≠ w1.heap.size := by omega
      obtain ⟨v0, HV0⟩ : ∃ v, Hid (fN rs nn 0 = v) := ⟨_, (rfl : _ = _)⟩
      obtain ⟨v1, HV1⟩ : ∃ v, Hid (fN rs nn 1 = v) := ⟨_, (rfl : _ = _)⟩
      obtain ⟨v2, HV2⟩ : ∃ v, Hid (fN rs nn 2 = v) := ⟨_, (rfl : _ = _)⟩
      obtain ⟨v3, HV3⟩ : ∃ v, Hid (fN rs nn 3 = v) := ⟨_, (rfl : _ = _)⟩
      have KS : Hid (∀ W', Slots W' X2.heap.size (fN rs nn) → (W'.cell? ⟨X2.heap.size, 0, none⟩ = some (.int .i64 v0) ∧ W'.cell? ⟨X2.heap.size, 1, none⟩ = some (.int .i64 v1) ∧ W'.cell? ⟨X2.heap.size, 2, none⟩ = some (.int .i64 v2) ∧ W'.cell? ⟨X2.heap.size, 3, none⟩ = some (.int .i64 v3))) := by
        intro W' h
        rw [← HV0.out, ← HV1.out, ← HV2.out, ← HV3.out]
        exact ⟨h.cell 0 (by omega), h.cell 1 (by omega), h.cell 2 (by omega), h.cell 3 (by omega)⟩
      obtain ⟨k0, k1, k2, k3, k4, k5, k6, k7, k8, kf0, kf1, kf2, kf3, kf4, kf5, kf6, kf7, kf8, klt⟩ := NO4.out
      go_wp2_with fail
      refine wp_region_held_drew (S := (fun W' => W'.cell? ⟨X2.heap.size, 0, none⟩ = some (.int .i64 v0) ∧ W'.cell? ⟨X2.heap.size, 1, none⟩ = some (.int .i64 v1) ∧ W'.cell? ⟨X2.heap.size, 2, none⟩ = some (.int .i64 v2) ∧ W'.cell? ⟨X2.heap.size, 3, none⟩ = some (.int .i64 v3))) (by kernel_rfl) ?_ (fun hHeld => ?_)
      · exact KS.out _ HSD.out
      refine wpAnyH_take (i := 0) (oi := ({ dst := some 52, op := Op.indexAddr 104 (Operand.tmp 10) (Operand.const (Value.int IntKind.i64 0)), type := 0, pos := "script.go:146", after := #[], guard := none } : Oper)) (v := ?_) rfl (by kernel_rfl) (by kernel_rfl) (by kernel_rfl) (fun _ _ _ h => h) (Or.inl ⟨by rfl, ?_⟩) (by assumption) ?_
      rotate_left
      · (intro w hSw; (try dsimp only at hSw); go_simp; try with_reducible rfl)
      try simp only [Act.put, List.setIfInBounds_toArray, List.set_cons_zero, List.set_cons_succ]
      refine wpAnyH_take (i := 1) (oi := ({ dst := some 53, op := Op.load 3 (Operand.tmp 52), type := 3, pos := "script.go:146", after := #[{ on := 0, ground := Ground.data }], guard := none } : Oper)) (v := ?_) rfl (by kernel_rfl) (by kernel_rfl) (by kernel_rfl) (fun _ _ _ h => h) (Or.inl ⟨by rfl, ?_⟩) (by assumption) ?_
      rotate_left
      · (intro w hSw; (try dsimp only at hSw); go_simp; try with_reducible rfl)
      try simp only [Act.put, List.setIfInBounds_toArray, List.set_cons_zero, List.set_cons_succ]
      refine wpAnyH_take (i := 2) (oi := ({ dst := some 54, op := Op.indexAddr 104 (Operand.tmp 10) (Operand.const (Value.int IntKind.i64 1)), type := 0, pos := "script.go:146", after := #[{ on := 9, ground := Ground.gcOnly Departure.lateStores }], guard := none } : Oper)) (v := ?_) rfl (by kernel_rfl) (by kernel_rfl) (by kernel_rfl) (fun _ _ _ h => h) (Or.inl ⟨by rfl, ?_⟩) (by assumption) ?_
      rotate_left
      · (intro w hSw; (try dsimp only at hSw); go_simp; try with_reducible rfl)
      try simp only [Act.put, List.setIfInBounds_toArray, List.set_cons_zero, List.set_cons_succ]
      refine wpAnyH_take (i := 3) (oi := ({ dst := some 55, op := Op.load 3 (Operand.tmp 54), type := 3, pos := "script.go:146", after := #[{ on := 2, ground := Ground.data }, { on := 9, ground := Ground.gcOnly Departure.lateStores }], guard := none } : Oper)) (v := ?_) rfl (by kernel_rfl) (by kernel_rfl) (by kernel_rfl) (fun _ _ _ h => h) (Or.inl ⟨by rfl, ?_⟩) (by assumption) ?_
      rotate_left
      · (intro w hSw; (try dsimp only at hSw); go_simp; try with_reducible rfl)
      try simp only [Act.put, List.setIfInBounds_toArray, List.set_cons_zero, List.set_cons_succ]
      refine wpAnyH_take (i := 4) (oi := ({ dst := some 56, op := Op.indexAddr 104 (Operand.tmp 10) (Operand.const (Value.int IntKind.i64 2)), type := 0, pos := "script.go:146", after := #[{ on := 11, ground := Ground.gcOnly Departure.lateStores }], guard := none } : Oper)) (v := ?_) rfl (by kernel_rfl) (by kernel_rfl) (by kernel_rfl) (fun _ _ _ h => h) (Or.inl ⟨by rfl, ?_⟩) (by assumption) ?_
      rotate_left
      · (intro w hSw; (try dsimp only at hSw); go_simp; try with_reducible rfl)
      try simp only [Act.put, List.setIfInBounds_toArray, List.set_cons_zero, List.set_cons_succ]
      refine wpAnyH_take (i := 5) (oi := ({ dst := some 57, op := Op.load 3 (Operand.tmp 56), type := 3, pos := "script.go:146", after := #[{ on := 4, ground := Ground.data }, { on := 11, ground := Ground.gcOnly Departure.lateStores }], guard := none } : Oper)) (v := ?_) rfl (by kernel_rfl) (by kernel_rfl) (by kernel_rfl) (fun _ _ _ h => h) (Or.inl ⟨by rfl, ?_⟩) (by assumption) ?_
      rotate_left
      · (intro w hSw; (try dsimp only at hSw); go_simp; try with_reducible rfl)
      try simp only [Act.put, List.setIfInBounds_toArray, List.set_cons_zero, List.set_cons_succ]
      refine wpAnyH_take (i := 6) (oi := ({ dst := some 58, op := Op.indexAddr 104 (Operand.tmp 10) (Operand.const (Value.int IntKind.i64 3)), type := 0, pos := "script.go:146", after := #[{ on := 13, ground := Ground.gcOnly Departure.lateStores }], guard := none } : Oper)) (v := ?_) rfl (by kernel_rfl) (by kernel_rfl) (by kernel_rfl) (fun _ _ _ h => h) (Or.inl ⟨by rfl, ?_⟩) (by assumption) ?_
      rotate_left
      · (intro w hSw; (try dsimp only at hSw); go_simp; try with_reducible rfl)
      try simp only [Act.put, List.setIfInBounds_toArray, List.set_cons_zero, List.set_cons_succ]
      refine wpAnyH_take (i := 7) (oi := ({ dst := some 59, op := Op.load 3 (Operand.tmp 58), type := 3, pos := "script.go:146", after := #[{ on := 6, ground := Ground.data }, { on := 13, ground := Ground.gcOnly Departure.lateStores }], guard := none } : Oper)) (v := ?_) rfl (by kernel_rfl) (by kernel_rfl) (by kernel_rfl) (fun _ _ _ h => h) (Or.inl ⟨by rfl, ?_⟩) (by assumption) ?_
      rotate_left
      · (intro w hSw; (try dsimp only at hSw); go_simp; try with_reducible rfl)
      try simp only [Act.put, List.setIfInBounds_toArray, List.set_cons_zero, List.set_cons_succ]
      refine wpAnyH_take (i := 8) (oi := ({ dst := some 60, op := Op.fieldAddr 26 (Operand.tmp 9) 2, type := 0, pos := "script.go:146", after := #[{ on := 0, ground := Ground.phase }, { on := 1, ground := Ground.phase }, { on := 2, ground := Ground.textOnly Departure.lateStores }, { on := 3, ground := Ground.textOnly Departure.lateStores }, { on := 4, ground := Ground.textOnly Departure.lateStores }, { on := 5, ground := Ground.textOnly Departure.lateStores }, { on := 6, ground := Ground.textOnly Departure.lateStores }, { on := 7, ground := Ground.textOnly Departure.lateStores }], guard := none } : Oper)) (v := ?_) rfl (by kernel_rfl) (by kernel_rfl) (by kernel_rfl) (fun _ _ _ h => h) (Or.inl ⟨by rfl, ?_⟩) (by assumption) ?_
      rotate_left
      · (intro w hSw; (try dsimp only at hSw); go_simp; try with_reducible rfl)
      try simp only [Act.put, List.setIfInBounds_toArray, List.set_cons_zero, List.set_cons_succ]
      refine wpAnyH_ready (rs := [9]) (by kernel_rfl) (by simp) ?_
      refine AllReadyH.cons (o := ({ dst := none, op := Op.store 3 (Operand.tmp 60) (Operand.tmp 53), type := 0, pos := "script.go:146", after := #[{ on := 8, ground := Ground.data }, { on := 1, ground := Ground.data }, { on := 0, ground := Ground.phase }, { on := 1, ground := Ground.phase }, { on := 2, ground := Ground.textOnly Departure.lateStores }, { on := 3, ground := Ground.textOnly Departure.lateStores }, { on := 4, ground := Ground.textOnly Departure.lateStores }, { on := 5, ground := Ground.textOnly Departure.lateStores }, { on := 6, ground := Ground.textOnly Departure.lateStores }, { on := 7, ground := Ground.textOnly Departure.lateStores }], guard := none } : Oper)) rfl (fun K_ hK => ?_) AllReadyH.nil
      go_simp
      refine hK.out _ _ ?_ (fun hHeld => ?_)
      · exact KS.out _ (HSD.out.other hcb 2 _)
      clear hK K_
      try simp only [Act.put, List.setIfInBounds_toArray, List.set_cons_zero, List.set_cons_succ]
      refine wpAnyH_take (i := 10) (oi := ({ dst := some 61, op := Op.fieldAddr 26 (Operand.tmp 9) 3, type := 0, pos := "script.go:146", after := #[{ on := 0, ground := Ground.phase }, { on := 1, ground := Ground.phase }, { on := 2, ground := Ground.phase }, { on := 3, ground := Ground.phase }, { on := 4, ground := Ground.textOnly Departure.lateStores }, { on := 5, ground := Ground.textOnly Departure.lateStores }, { on := 6, ground := Ground.textOnly Departure.lateStores }, { on := 7, ground := Ground.textOnly Departure.lateStores }, { on := 8, ground := Ground.phase }, { on := 9, ground := Ground.phase }], guard := none } : Oper)) (v := ?_) rfl (by kernel_rfl) (by kernel_rfl) (by kernel_rfl) (fun _ _ _ h => h) (Or.inl ⟨by rfl, ?_⟩) (by assumption) ?_
      rotate_left
      · (intro w hSw; (try dsimp only at hSw); go_simp; try with_reducible rfl)
      try simp only [Act.put, List.setIfInBounds_toArray, List.set_cons_zero, List.set_cons_succ]
      refine wpAnyH_ready (rs := [11]) (by kernel_rfl) (by simp) ?_
      refine AllReadyH.cons (o := ({ dst := none, op := Op.store 3 (Operand.tmp 61) (Operand.tmp 55), type := 0, pos := "script.go:146", after := #[{ on := 10, ground := Ground.data }, { on := 3, ground := Ground.data }, { on := 9, ground := Ground.chain }, { on := 0, ground := Ground.phase }, { on := 1, ground := Ground.phase }, { on := 2, ground := Ground.phase }, { on := 3, ground := Ground.phase }, { on := 4, ground := Ground.textOnly Departure.lateStores }, { on := 5, ground := Ground.textOnly Departure.lateStores }, { on := 6, ground := Ground.textOnly Departure.lateStores }, { on := 7, ground := Ground.textOnly Departure.lateStores }, { on := 8, ground := Ground.phase }, { on := 9, ground := Ground.phase }], guard := none } : Oper)) rfl (fun K_ hK => ?_) AllReadyH.nil
      go_simp
      refine hK.out _ _ ?_ (fun hHeld => ?_)
      · exact KS.out _ ((HSD.out.other hcb 2 _).other hcb 3 _)
      clear hK K_
      try simp only [Act.put, List.setIfInBounds_toArray, List.set_cons_zero, List.set_cons_succ]
      refine wpAnyH_take (i := 12) (oi := ({ dst := some 62, op := Op.fieldAddr 26 (Operand.tmp 9) 4, type := 0, pos := "script.go:146", after := #[{ on := 0, ground := Ground.phase }, { on := 1, ground := Ground.phase }, { on := 2, ground := Ground.phase }, { on := 3, ground := Ground.phase }, { on := 4, ground := Ground.phase }, { on := 5, ground := Ground.phase }, { on := 6, ground := Ground.textOnly Departure.lateStores }, { on := 7, ground := Ground.textOnly Departure.lateStores }, { on := 8, ground := Ground.phase }, { on := 9, ground := Ground.phase }, { on := 10, ground := Ground.phase }, { on := 11, ground := Ground.phase }], guard := none } : Oper)) (v := ?_) rfl (by kernel_rfl) (by kernel_rfl) (by kernel_rfl) (fun _ _ _ h => h) (Or.inl ⟨by rfl, ?_⟩) (by assumption) ?_
      rotate_left
      · (intro w hSw; (try dsimp only at hSw); go_simp; try with_reducible rfl)
      try simp only [Act.put, List.setIfInBounds_toArray, List.set_cons_zero, List.set_cons_succ]
      refine wpAnyH_ready (rs := [13]) (by kernel_rfl) (by simp) ?_
      refine AllReadyH.cons (o := ({ dst := none, op := Op.store 3 (Operand.tmp 62) (Operand.tmp 57), type := 0, pos := "script.go:146", after := #[{ on := 12, ground := Ground.data }, { on := 5, ground := Ground.data }, { on := 11, ground := Ground.chain }, { on := 0, ground := Ground.phase }, { on := 1, ground := Ground.phase }, { on := 2, ground := Ground.phase }, { on := 3, ground := Ground.phase }, { on := 4, ground := Ground.phase }, { on := 5, ground := Ground.phase }, { on := 6, ground := Ground.textOnly Departure.lateStores }, { on := 7, ground := Ground.textOnly Departure.lateStores }, { on := 8, ground := Ground.phase }, { on := 9, ground := Ground.phase }, { on := 10, ground := Ground.phase }, { on := 11, ground := Ground.phase }], guard := none } : Oper)) rfl (fun K_ hK => ?_) AllReadyH.nil
      go_simp
      refine hK.out _ _ ?_ (fun hHeld => ?_)
      · exact KS.out _ (((HSD.out.other hcb 2 _).other hcb 3 _).other hcb 4 _)
      clear hK K_
      try simp only [Act.put, List.setIfInBounds_toArray, List.set_cons_zero, List.set_cons_succ]
      refine wpAnyH_take (i := 14) (oi := ({ dst := some 63, op := Op.fieldAddr 26 (Operand.tmp 9) 5, type := 0, pos := "script.go:146", after := #[{ on := 0, ground := Ground.phase }, { on := 1, ground := Ground.phase }, { on := 2, ground := Ground.phase }, { on := 3, ground := Ground.phase }, { on := 4, ground := Ground.phase }, { on := 5, ground := Ground.phase }, { on := 6, ground := Ground.phase }, { on := 7, ground := Ground.phase }, { on := 8, ground := Ground.phase }, { on := 9, ground := Ground.phase }, { on := 10, ground := Ground.phase }, { on := 11, ground := Ground.phase }, { on := 12, ground := Ground.phase }, { on := 13, ground := Ground.phase }], guard := none } : Oper)) (v := ?_) rfl (by kernel_rfl) (by kernel_rfl) (by kernel_rfl) (fun _ _ _ h => h) (Or.inl ⟨by rfl, ?_⟩) (by assumption) ?_
      rotate_left
      · (intro w hSw; (try dsimp only at hSw); go_simp; try with_reducible rfl)
      try simp only [Act.put, List.setIfInBounds_toArray, List.set_cons_zero, List.set_cons_succ]
      refine wpAnyH_ready (rs := [15]) (by kernel_rfl) (by simp) ?_
      refine AllReadyH.cons (o := ({ dst := none, op := Op.store 3 (Operand.tmp 63) (Operand.tmp 59), type := 0, pos := "script.go:146", after := #[{ on := 14, ground := Ground.data }, { on := 7, ground := Ground.data }, { on := 13, ground := Ground.chain }, { on := 0, ground := Ground.phase }, { on := 1, ground := Ground.phase }, { on := 2, ground := Ground.phase }, { on := 3, ground := Ground.phase }, { on := 4, ground := Ground.phase }, { on := 5, ground := Ground.phase }, { on := 6, ground := Ground.phase }, { on := 7, ground := Ground.phase }, { on := 8, ground := Ground.phase }, { on := 9, ground := Ground.phase }, { on := 10, ground := Ground.phase }, { on := 11, ground := Ground.phase }, { on := 12, ground := Ground.phase }, { on := 13, ground := Ground.phase }], guard := none } : Oper)) rfl (fun K_ hK => ?_) AllReadyH.nil
      go_simp
      refine hK.out _ _ ?_ (fun hHeld => ?_)
      · exact KS.out _ ((((HSD.out.other hcb 2 _).other hcb 3 _).other hcb 4 _).other hcb 5 _)
      clear hK K_
      try simp only [Act.put, List.setIfInBounds_toArray, List.set_cons_zero, List.set_cons_succ]
      refine wpAnyH_done (by kernel_rfl) ?_ _
      obtain ⟨X5, HX5⟩ : ∃ X, Hid (((((X4.setCell ⟨w1.heap.size, 2, none⟩ (.int .i64 v0)).setCell ⟨w1.heap.size, 3, none⟩ (.int .i64 v1)).setCell ⟨w1.heap.size, 4, none⟩ (.int .i64 v2)).setCell ⟨w1.heap.size, 5, none⟩ (.int .i64 v3)).drew = X) := ⟨_, (rfl : _ = _)⟩
      have hb45 : Below w1.heap.size X4 X5 := by rw [← HX5.out]; exact (((((Below.refl w1.heap.size X4).setCell (show w1.heap.size ≤ (Addr.mk w1.heap.size 2 none).block from Nat.le_refl _) _).setCell (show w1.heap.size ≤ (Addr.mk w1.heap.size 3 none).block from Nat.le_refl _) _).setCell (show w1.heap.size ≤ (Addr.mk w1.heap.size 4 none).block from Nat.le_refl _) _).setCell (show w1.heap.size ≤ (Addr.mk w1.heap.size 5 none).block from Nat.le_refl _) _).drew
      have NA5 := hid_of3 (NA4.out.onB hb45 hA)
      have NO5 := hid_of3 (show Nine X5 w1.heap.size (.int .i64 (kd : Int)) (.int .i64 0) (.int .i64 v0) (.int .i64 v1) (.int .i64 v2) (.int .i64 v3) (.int .i64 0) (.int .i64 0) (.slice none 0 0) by rw [← HX5.out]; exact ((((NO4.out.put2 _).put3 _).put4 _).put5 _).drew)
      have HRS5 := hid_of3 (HRS4.out.onB hb45 (by omega))
      have hb5 : Below w.heap.size w X5 := hb4.trans (hb45.mono (by omega))
      have hs5 : X4.heap.size ≤ X5.heap.size := hb45.size
      have hX4 : X2.heap.size < X4.heap.size := (Array.getElem?_eq_some_iff.1 hh4.out).1
      rw [HX5.out]
      clear k0 k1 k2 k3 k4 k5 k6 k7 k8 kf0 kf1 kf2 kf3 kf4 kf5 kf6 kf7 kf8 klt hb45 KS HSD HRS4 NO4 NA4 NO3 NA3 HRS3 HX5 hh4 hg4 HSRC HNEW HTL
      cases fp with
      | false =>
        have HRES : Hid (r = (⟨kd, 0, v0, v1, v2, v3, 0, 0, []⟩, true)) := by
          unfold Hid; rw [← HT.out]; unfold tailR; rw [HLM.out, if_neg (by simp; omega), if_pos rfl, HV0.out, HV1.out, HV2.out, HV3.out]
        obtain ⟨r0, r1, r2, r3, r4, r5, r6, r7, r8, rf0, rf1, rf2, rf3, rf4, rf5, rf6, rf7, rf8, rlt⟩ := NA5.out
        obtain ⟨k0, k1, k2, k3, k4, k5, k6, k7, k8, kf0, kf1, kf2, kf3, kf4, kf5, kf6, kf7, kf8, klt⟩ := NO5.out
        go_wp2_with fail
        refine bodyPost_ret (v := .tuple #[.agg #[.int .i64 (kd : Int), .int .i64 0, .int .i64 v0, .int .i64 v1, .int .i64 v2, .int .i64 v3, .int .i64 0, .int .i64 0, .slice none 0 0], .bool true]) (by simp [results, Tryd.results47, go_sem, r0, r1, r2, r3, r4, r5, r6, r7, r8]) rfl ?_
        rw [HRES.out]
        refine ⟨.slice none 0 0, rfl, World.ownsRow_nil _ _ _ _, ?_⟩
        exact set9_below hb5 (Nat.le_refl _) _ _ _ _ _ _ _ _ _
      | true =>
        have hdn : rs.drop nn = [] := List.drop_of_length_le (by rw [HLM.out]; omega)
        have hz : m - nn = 0 := by omega
        have HP : Hid (picN ([] : List Int) = (0, 0, [], false)) := rfl
        have hr : Hid (r = (q00, false)) := by
          unfold Hid; rw [← HT.out]; unfold tailR; rw [HLM.out, if_neg (by simp; omega), if_neg (by simp), hdn, HP.out, if_neg (by simp)]
        have HBP0 : Hid (∀ (a' : Option Addr) (l' c' : Nat), l' = 0 → c' ≤ 9223372036854775807 → Calls Tryd.prog 71 #[.slice a' l' c'] X5 fun e w' => ∃ u, e = .returned (.tuple #[.agg #[.int .i64 0, .int .i64 0, u], .bool false]) ∧ w'.ownsRow X5.heap.size 88 2 u ([] : List (Int × Int)).length (pixCells []) ∧ Below X5.heap.size X5 w') := by
          intro a' l' c' hl' hc'
          subst hl'
          exact buildPic_any _ [] X5 ⟨a', c', rfl, by simp, hc', fun h => absurd rfl h⟩ (by simp) 0 0 [] false HP
        have hnnm : nn ≤ m := by omega
        have hnnmi : (nn : Int) ≤ (m : Int) := by omega
        have hcc : vc ≤ 9223372036854775807 := by
          obtain ⟨a', cap', hv', hl', hc'⟩ := HRS5.out.shape
          simp only [Value.slice.injEq] at hv'
          obtain ⟨_, _, rfl⟩ := hv'
          exact hc'
        clear hdn hz
        by_cases hvn : vc = nn
        all_goals
          try subst hvn
          go_wp2_with fail
          refine (HBP0.out _ _ _ (by omega) (by omega)).mono ?_
          rintro e X6 ⟨u, rfl, hu, hb6⟩
          obtain ⟨ua, uc, hue⟩ := own_any hu
          rw [List.length_nil] at hue
          subst hue
          have NA6 := hid_of3 (NA5.out.on hb6)
          have hbb6 : Below w.heap.size w X6 := hb5.trans (hb6.mono hb5.size)
          obtain ⟨X7, HX7⟩ : ∃ X, Hid (X6.alloc (.cells #[.int .i64 0, .int .i64 0, .slice ua 0 uc] 24) = X) := ⟨_, (rfl : _ = _)⟩
          have hb67 : Below X6.heap.size X6 X7 := by rw [← HX7.out]; exact (Below.refl _ _).alloc (Nat.le_refl _) _
          have hb7 : Below w.heap.size w X7 := hbb6.trans (hb67.mono hbb6.size)
          have NA7 := hid_of3 (NA6.out.on hb67)
          go_upto_region 15 with fail
          rw [HX7.out]
          clear HX7 HBP0 hu hb6 NA5 NO5 NA6 hb67 HRS5
          obtain ⟨r0, r1, r2, r3, r4, r5, r6, r7, r8, rf0, rf1, rf2, rf3, rf4, rf5, rf6, rf7, rf8, rlt⟩ := NA7.out
          go_wp2_with fail
          refine bodyPost_ret (v := .tuple #[.agg #[.int .i64 0, .int .i64 0, .int .i64 0, .int .i64 0, .int .i64 0, .int .i64 0, .int .i64 0, .int .i64 0, .slice none 0 0], .bool false]) (by simp [results, Tryd.results47, go_sem, r0, r1, r2, r3, r4, r5, r6, r7, r8]) rfl (build_no hr ?_)
          exact set9_below hb7 (Nat.le_refl _) _ _ _ _ _ _ _ _ _
end Go.Proofs.YtfhfedcamcpceaaDoor
