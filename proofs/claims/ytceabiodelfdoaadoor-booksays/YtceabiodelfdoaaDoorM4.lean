/- Some of the walks, in one text. -/
import Derived.Test.YtceabiodelfdoaaDoorM3
import Derived.Deep.RegionHeld3
/- Walks: op.inBounds, op.foreign. -/
namespace Go.Proofs.YtceabiodelfdoaaDoor
open Go.RowKit

def intCells (ns : List Int) : List Value := ns.map (fun n => .int .i64 n)
theorem Tryd.infoInt : (Tryd.prog.info? 3).map (fun i => (i.zero, i.size, i.bytes)) = some (some (.int .i64 0), 1, 8) := by kernel_rfl
theorem intCells_at (ns : List Int) (j : Nat) (h : j < ns.length) : (intCells ns)[j]? = some (.int .i64 (ns.getD j 0)) := by
  unfold intCells
  rw [List.getElem?_map, List.getD_eq_getElem?_getD, List.getElem?_eq_getElem h]
  rfl
theorem intCells_one (ns : List Int) : ∀ v ∈ intCells ns, v.oneCell' = true := by
  intro v hv
  obtain ⟨n, _, rfl⟩ := List.mem_map.1 hv
  rfl
theorem rdI_own {w : World} {B : Nat} {v : Value} {ns : List Int} {n : Nat} (h : w.ownsRow B 3 1 v n (intCells ns)) (hn : ns.length = n) : RdI w v ns := by
  subst hn
  rcases h.2 with ⟨rfl, h0⟩ | ⟨g, cap, cur, rfl, hb, hg, hn, hm, hs, ht⟩
  · have : ns = [] := List.length_eq_zero_iff.1 h0
    subst this
    exact ⟨none, 0, rfl, by simp, by omega, fun h => absurd rfl h⟩
  · unfold maxLen at hm
    refine ⟨some ⟨g, 0, none⟩, cap, by simp, by simpa using hn, by omega, fun hne => ⟨g, 0, rfl, ?_, fun j hj => ?_⟩⟩
    · rcases Nat.lt_or_ge g w.heap.size with h1 | h1
      · exact h1
      · rw [Array.getElem?_eq_none h1] at hg; cases hg
    · rw [Nat.zero_add, h.cellAt j (by omega)]
      exact intCells_at ns j hj
/-- the four numbers of an op, from a place on, or up to it -/
def nums4 (q : Pq) : List Int := [q.a, q.b, q.c, q.d]
theorem four_take {w : World} {g : Nat} (q : Pq) (h : w.heap[g]? = some (.cells #[.int .i64 q.a, .int .i64 q.b, .int .i64 q.c, .int .i64 q.d] 3 (0, 0))) (n : Nat) (hn : n ≤ 4) : RdI w (.slice (some ⟨g, 0, none⟩) n 4) ((nums4 q).take n) := by
  refine ⟨some ⟨g, 0, none⟩, 4, by simp [nums4, Nat.min_eq_left hn], by simp [nums4]; omega, by omega, fun _ => ⟨g, 0, rfl, (Array.getElem?_eq_some_iff.1 h).1, fun j hj => ?_⟩⟩
  have hj2 : j < n := by simp [nums4] at hj; omega
  rw [cell_of_row w g (0 + j) _ _ _ h]
  have : j = 0 ∨ j = 1 ∨ j = 2 ∨ j = 3 := by omega
  rw [List.getD_eq_getElem?_getD, List.getElem?_take, if_pos hj2]
  rcases this with rfl | rfl | rfl | rfl <;> rfl
theorem four_cells {w : World} {g : Nat} (q : Pq) (h : w.heap[g]? = some (.cells #[.int .i64 q.a, .int .i64 q.b, .int .i64 q.c, .int .i64 q.d] 3 (0, 0))) (n : Nat) : ∀ j v, (intCells ((nums4 q).drop n))[j]? = some v → w.cell? ((⟨g, n, none⟩ : Addr).add j) = some v := by
  intro j v hj
  have e : (⟨g, n, none⟩ : Addr).add j = ⟨g, n + j, none⟩ := by unfold Addr.add; split <;> simp_all
  rw [e, cell_of_row w g (n + j) _ _ _ h]
  unfold intCells at hj
  rw [List.getElem?_map, List.getElem?_drop] at hj
  have hl : n + j < 4 := by
    rcases Nat.lt_or_ge (n + j) 4 with h1 | h1
    · exact h1
    · rw [List.getElem?_eq_none (by simpa [nums4] using h1)] at hj; cases hj
  have : n + j = 0 ∨ n + j = 1 ∨ n + j = 2 ∨ n + j = 3 := by omega
  rcases this with h | h | h | h <;> (rw [h] at hj ⊢; exact hj)
/-- append onto a list that is full -/
theorem run_append_full (w : World) (ns ms : List Int) (b : Addr) (n : Nat) (hn : ns.length = n) (hcell : ∀ j v, (intCells ns)[j]? = some v → w.cell? (b.add j) = some v) (a : Addr) (m c : Nat) (hm : ms.length = m) (hm1 : 1 ≤ m) (hmc : ∀ j v, (intCells ms)[j]? = some v → w.cell? (a.add j) = some v) (hlim : n + m ≤ 1000) (ty : TypeId) :
    ∃ v' w', (Builtin.append_ #[78, 78] ty #[.slice (some b) n n, .slice (some a) m c]).run Tryd.prog w = .ok v' w' ∧ w'.ownsRow w.heap.size 3 1 v' (n + m) (intCells (ns ++ ms)) ∧ Below w.heap.size w w' := by
  obtain ⟨i0, hi, hz0, hz1, hz2⟩ := info_parts Tryd.infoInt
  have hr := run_append_grow (P := Tryd.prog) w 78 ty 3 i0 (.int .i64 0) Tryd.underlying78 hi hz0 b n n (intCells ns) (by rw [hz1]; simp [intCells, hn]) hcell a m c (intCells ms) (by rw [hz1]; simp [intCells, hm]) hmc (by omega) (by omega) (growslice_fits (by omega) (by rw [hz2]; omega))
  refine ⟨_, _, hr, ⟨by simp [intCells, hn, hm], .inr ⟨w.heap.size, _, _, rfl, Nat.le_refl _, heap_alloc_new w.drew _, grownCap_ge _ _ _ _, grownCap_le_maxLen _ _ _ _ (by unfold maxLen; omega), ?_, ?_⟩⟩, (Below.refl _ _).drew.alloc (Nat.le_refl _) _⟩
  · have := grownCap_ge w (n + m) n 3
    simp [size_zeroCells, intCells, hn, hm, Value.cells]
    omega
  · have e : intCells (ns ++ ms) = intCells ns ++ intCells ms := by simp [intCells]
    have hl : (intCells ns ++ intCells ms).length = (n + m) * 1 := by simp [intCells, hn, hm]
    rw [e]
    simp only [Array.toList_append, List.append_assoc]
    rw [← List.append_assoc, ← hl]
    exact List.take_left
/-- are the numbers as the kind has them? -/
def inB (q : Pq) (s : Shp) : Bool := if s.kind = 4 then decide (rectC q.a q.b q.c q.d = 0) else !((nums4 q).take s.nums).any (fun n => (decide (n < s.low) || decide (s.high < n)))
/-- the numbers that are 0 -/
def forL (q : Pq) (s : Shp) : List Int := (nums4 q).drop s.nums ++ (if s.id then [] else [q.id]) ++ (if s.pic then [] else [q.pw, q.ph, (q.ps.length : Int)])

set_option maxHeartbeats 4000000 in
set_option maxRecDepth 100000 in
theorem inBounds_any (q : Pq) (s : Shp) (ap : Option Addr) (np cp : Nat) (w : World) (hnums : s.nums ≤ 4) (t : Bool) (HT : Hid (inB q s = t)) :
    Calls Tryd.prog 52 #[opV q (.slice ap np cp), s.val] w fun e w' => e = .returned (.bool t) ∧ Below w.heap.size w w' := by
  obtain ⟨X0, HX0⟩ : ∃ X0, Hid (((w.alloc (.cells #[.int .i64 q.kind, .int .i64 q.id, .int .i64 q.a, .int .i64 q.b, .int .i64 q.c, .int .i64 q.d, .int .i64 q.pw, .int .i64 q.ph, .slice ap np cp] 45)).alloc (.cells #[.int .i64 (s.kind : Int), .string s.bytes, .bool s.id, .int .i64 (s.nums : Int), .int .i64 s.low, .int .i64 s.high, .bool s.pic] 92)) = X0) := ⟨_, (rfl : _ = _)⟩
  have hbz : Below w.heap.size w X0 := by rw [← HX0.out]; exact ((Below.refl _ _).alloc (Nat.le_refl _) _).alloc (by simp) _
  have N0 : Hid (Nine X0 w.heap.size (.int .i64 q.kind) (.int .i64 q.id) (.int .i64 q.a) (.int .i64 q.b) (.int .i64 q.c) (.int .i64 q.d) (.int .i64 q.pw) (.int .i64 q.ph) (.slice ap np cp)) := by rw [← HX0.out]; exact (nine_start w _ _ _ _ _ _ _ _ _ 45 w.heap.size rfl).alloc _
  have S0 : Hid (Seven X0 (w.heap.size + 1) (.int .i64 (s.kind : Int)) (.string s.bytes) (.bool s.id) (.int .i64 (s.nums : Int)) (.int .i64 s.low) (.int .i64 s.high) (.bool s.pic)) := by rw [← HX0.out]; exact seven_start _ _ _ _ _ _ _ _ 92 (w.heap.size + 1) (by simp)
  unfold Shp.val
  have ht := HT.out
  unfold inB at ht
  by_cases h4 : s.kind = 4
  · rw [if_pos h4] at ht
    have hk : ((s.kind : Int) == 4) = true := by simp [h4]
    clear h4
    go_enter Tryd.func52, Tryd.ntmps52
    go_wp2_with fail
    rw [HX0.out]
    obtain ⟨c, HC⟩ : ∃ c, Hid (rectC q.a q.b q.c q.d = c) := ⟨_, (rfl : _ = _)⟩
    rw [HC.out] at ht
    have hc := rectC_cases q.a q.b q.c q.d
    rw [HC.out] at hc
    refine (rcheck_any q.a q.b q.c q.d _ c HC).mono ?_
    rintro e w1 ⟨rfl, hb1⟩
    have hbb1 := hbz.trans (hb1.mono hbz.size)
    clear hb1
    rcases hc with rfl | rfl
    · rw [show errV 0 = Value.nilIface from rfl]
      have : t = true := by rw [← ht]; rfl
      subst this
      go_wp2_with fail
      go_ret
      exact ⟨rfl, hbb1⟩
    · rw [errV_one]
      have : t = false := by rw [← ht]; rfl
      subst this
      go_wp2_with fail
      go_ret
      exact ⟨rfl, hbb1⟩
  · rw [if_neg h4] at ht
    have hk : ((s.kind : Int) == 4) = false := by simp; omega
    obtain ⟨t0, HT0⟩ : ∃ t0, Hid (((nums4 q).take s.nums).any (fun n => (decide (n < s.low) || decide (s.high < n))) = t0) := ⟨_, (rfl : _ = _)⟩
    rw [HT0.out] at ht
    subst ht
    have hi1 : (0 : Int) ≤ (s.nums : Int) := by omega
    have hi2 : (s.nums : Int) ≤ 4 := by omega
    have hi3 : IntKind.i64.wrap (s.nums : Int) = (s.nums : Int) := by rw [IntKind.wrap_i64]; omega
    have KEEP : Hid (∀ w', Below X0.heap.size X0 w' → (w'.cell? ⟨w.heap.size + 1, 3, none⟩ = some (.int .i64 (s.nums : Int)) ∧ w'.cell? ⟨w.heap.size, 0, none⟩ = some (.int .i64 q.kind) ∧ w'.cell? ⟨w.heap.size, 1, none⟩ = some (.int .i64 q.id) ∧ w'.cell? ⟨w.heap.size, 2, none⟩ = some (.int .i64 q.a) ∧ w'.cell? ⟨w.heap.size, 3, none⟩ = some (.int .i64 q.b) ∧ w'.cell? ⟨w.heap.size, 4, none⟩ = some (.int .i64 q.c) ∧ w'.cell? ⟨w.heap.size, 5, none⟩ = some (.int .i64 q.d) ∧ w'.cell? ⟨w.heap.size, 6, none⟩ = some (.int .i64 q.pw) ∧ w'.cell? ⟨w.heap.size, 7, none⟩ = some (.int .i64 q.ph) ∧ w'.cell? ⟨w.heap.size, 8, none⟩ = some (.slice ap np cp))) := by
      intro w' h
      obtain ⟨m0, m1, m2, m3, m4, m5, m6, m7, m8, mf0, mf1, mf2, mf3, mf4, mf5, mf6, mf7, mf8, mlt⟩ := N0.out.on h
      exact ⟨(S0.out.on h).c3, m0, m1, m2, m3, m4, m5, m6, m7, m8⟩
    clear h4
    go_enter Tryd.func52, Tryd.ntmps52
    go_wp2_with fail
    rw [HX0.out]
    clear HX0
    refine wp_region_held_drew (S := (fun w' => w'.cell? ⟨w.heap.size + 1, 3, none⟩ = some (.int .i64 (s.nums : Int)) ∧ w'.cell? ⟨w.heap.size, 0, none⟩ = some (.int .i64 q.kind) ∧ w'.cell? ⟨w.heap.size, 1, none⟩ = some (.int .i64 q.id) ∧ w'.cell? ⟨w.heap.size, 2, none⟩ = some (.int .i64 q.a) ∧ w'.cell? ⟨w.heap.size, 3, none⟩ = some (.int .i64 q.b) ∧ w'.cell? ⟨w.heap.size, 4, none⟩ = some (.int .i64 q.c) ∧ w'.cell? ⟨w.heap.size, 5, none⟩ = some (.int .i64 q.d) ∧ w'.cell? ⟨w.heap.size, 6, none⟩ = some (.int .i64 q.pw) ∧ w'.cell? ⟨w.heap.size, 7, none⟩ = some (.int .i64 q.ph) ∧ w'.cell? ⟨w.heap.size, 8, none⟩ = some (.slice ap np cp))) (by kernel_rfl) ?_ (fun hHeld => ?_)
    · exact KEEP.out _ (Below.refl _ _).drew
    refine wpAnyH_take (i := 0) (oi := ({ dst := some 19, op := Op.load 45 (Operand.tmp 2), type := 45, pos := "op.go:151", after := #[], guard := none } : Oper)) (v := ?_) rfl (by kernel_rfl) (by kernel_rfl) (by kernel_rfl) (fun _ _ _ h => h) (Or.inl ⟨by rfl, ?_⟩) (by assumption) ?_
    rotate_left
    · (intro w hSw; (try dsimp only at hSw); go_simp; try with_reducible rfl)
    try simp only [Act.put, List.setIfInBounds_toArray, List.set_cons_zero, List.set_cons_succ]
    refine wpAnyH_take (i := 2) (oi := ({ dst := some 21, op := Op.fieldAddr 92 (Operand.tmp 3) 3, type := 0, pos := "op.go:151", after := #[], guard := none } : Oper)) (v := ?_) rfl (by kernel_rfl) (by kernel_rfl) (by kernel_rfl) (fun _ _ _ h => h) (Or.inl ⟨by rfl, ?_⟩) (by assumption) ?_
    rotate_left
    · (intro w hSw; (try dsimp only at hSw); go_simp; try with_reducible rfl)
    try simp only [Act.put, List.setIfInBounds_toArray, List.set_cons_zero, List.set_cons_succ]
    refine wpAnyH_take (i := 3) (oi := ({ dst := some 22, op := Op.load 3 (Operand.tmp 21), type := 3, pos := "op.go:151", after := #[{ on := 2, ground := Ground.data }], guard := none } : Oper)) (v := ?_) rfl (by kernel_rfl) (by kernel_rfl) (by kernel_rfl) (fun _ _ _ h => h) (Or.inl ⟨by rfl, ?_⟩) (by assumption) ?_
    rotate_left
    · (intro w hSw; (try dsimp only at hSw); go_simp; try with_reducible rfl)
    try simp only [Act.put, List.setIfInBounds_toArray, List.set_cons_zero, List.set_cons_succ]
    refine wpAnyH_take (i := 5) (oi := ({ dst := some 24, op := Op.makeFunc (Fn.func 73) #[] #[Operand.tmp 3], type := 105, pos := "op.go:151", after := #[], guard := none } : Oper)) (v := ?_) rfl (by kernel_rfl) (by kernel_rfl) (by kernel_rfl) (fun _ _ _ h => h) (Or.inl ⟨by rfl, ?_⟩) (by assumption) ?_
    rotate_left
    · (intro w hSw; (try dsimp only at hSw); go_simp; try with_reducible rfl)
    try simp only [Act.put, List.setIfInBounds_toArray, List.set_cons_zero, List.set_cons_succ]
    refine wpAnyH_ready (rs := [1]) (by kernel_rfl) (by simp) ?_
    refine AllReadyH.cons (o := ({ dst := some 20, op := Op.call { callee := Callee.value (Operand.func 55), args := #[Operand.tmp 19], argTypes := #[45] }, type := 78, pos := "op.go:151", after := #[{ on := 0, ground := Ground.data }], guard := none } : Oper)) rfl (fun K_ hK => ?_) AllReadyH.nil
    go_simp
    refine (numbers_any q (.slice ap np cp) X0.drew).mono ?_
    rintro e w1 ⟨g1, rfl, hg1, hh1, hb1⟩
    have HB1 : Hid (Below X0.heap.size X0 w1) := ⟨hb1.os, hb1.tape, hb1.output, hb1.size, hb1.block⟩
    have HRI := hid_of3 (four_take q hh1 s.nums hnums)
    clear hh1 hb1
    refine hK.out _ _ ?_ (fun hHeld => ?_)
    · exact KEEP.out _ HB1.out
    clear hK K_
    try simp only [Act.put, List.setIfInBounds_toArray, List.set_cons_zero, List.set_cons_succ]
    refine wpAnyH_take (i := 4) (oi := ({ dst := some 23, op := Op.slice 78 (Operand.tmp 20) none (some (Operand.tmp 22)) none, type := 78, pos := "op.go:151", after := #[{ on := 1, ground := Ground.data }, { on := 3, ground := Ground.data }], guard := none } : Oper)) (v := ?_) rfl (by kernel_rfl) (by kernel_rfl) (by kernel_rfl) (fun _ _ _ h => h) (Or.inl ⟨by rfl, ?_⟩) (by assumption) ?_
    rotate_left
    · (intro w hSw; (try dsimp only at hSw); go_simp; try with_reducible rfl)
    try simp only [Act.put, List.setIfInBounds_toArray, List.set_cons_zero, List.set_cons_succ]
    refine wpAnyH_ready (rs := [6]) (by kernel_rfl) (by simp) ?_
    refine AllReadyH.cons (o := ({ dst := some 25, op := Op.call { callee := Callee.value (Operand.func 49), args := #[Operand.tmp 23, Operand.tmp 24], argTypes := #[78, 105] }, type := 4, pos := "op.go:151", after := #[{ on := 4, ground := Ground.data }, { on := 5, ground := Ground.data }, { on := 1, ground := Ground.chain }], guard := none } : Oper)) rfl (fun K_ hK => ?_) AllReadyH.nil
    go_simp
    refine (containsB_any _ ((nums4 q).take s.nums) s.low s.high (w.heap.size + 1) w1 (by simp [nums4]; omega) HRI ((S0.out.on HB1.out).lt) ((S0.out.on HB1.out).c4) ((S0.out.on HB1.out).c5) t0 HT0).mono ?_
    rintro e w2 ⟨rfl, hb2⟩
    have HB2 : Hid (Below X0.heap.size X0 w2) := HB1.out.trans (hb2.mono HB1.out.size)
    clear hb2
    refine hK.out _ _ ?_ (fun hHeld => ?_)
    · exact KEEP.out _ HB2.out
    clear hK K_
    try simp only [Act.put, List.setIfInBounds_toArray, List.set_cons_zero, List.set_cons_succ]
    refine wpAnyH_take (i := 7) (oi := ({ dst := some 26, op := Op.unOp UnOp.not 4 (Operand.tmp 25), type := 4, pos := "op.go:151", after := #[{ on := 6, ground := Ground.data }], guard := none } : Oper)) (v := ?_) rfl (by kernel_rfl) (by kernel_rfl) (by kernel_rfl) (fun _ _ _ h => h) (Or.inl ⟨by rfl, ?_⟩) (by assumption) ?_
    rotate_left
    · (intro w hSw; (try dsimp only at hSw); go_simp; try with_reducible rfl)
    try simp only [Act.put, List.setIfInBounds_toArray, List.set_cons_zero, List.set_cons_succ]
    refine wpAnyH_take (i := 8) (oi := ({ dst := some 4, op := Op.assign (Operand.tmp 26), type := 4, pos := "op.go:151", after := #[{ on := 7, ground := Ground.data }, { on := 6, ground := Ground.chain }, { on := 0, ground := Ground.phase }, { on := 1, ground := Ground.phase }, { on := 2, ground := Ground.phase }, { on := 3, ground := Ground.phase }, { on := 4, ground := Ground.phase }, { on := 5, ground := Ground.phase }, { on := 6, ground := Ground.phase }, { on := 7, ground := Ground.phase }], guard := none } : Oper)) (v := ?_) rfl (by kernel_rfl) (by kernel_rfl) (by kernel_rfl) (fun _ _ _ h => h) (Or.inl ⟨by rfl, ?_⟩) (by assumption) ?_
    rotate_left
    · (intro w hSw; (try dsimp only at hSw); go_simp; try with_reducible rfl)
    try simp only [Act.put, List.setIfInBounds_toArray, List.set_cons_zero, List.set_cons_succ]
    refine wpAnyH_done (by kernel_rfl) ?_ _
    go_wp2_with fail
    go_ret
    exact ⟨rfl, hbz.trans (HB2.out.mono hbz.size)⟩
end Go.Proofs.YtceabiodelfdoaaDoor
/- Walk: op.foreign. -/
namespace Go.Proofs.YtceabiodelfdoaaDoor
open Go.RowKit

set_option maxHeartbeats 8000000 in
set_option maxRecDepth 100000 in
theorem foreign4_any (q : Pq) (s : Shp) (ap : Option Addr) (np cp : Nat) (w : World) (HN4 : Hid (s.nums = 4)) (hip : s.id = false → s.pic = false) (HNP : Hid (q.ps.length = np)) (_ : np ≤ 9223372036854775807) :
    Calls Tryd.prog 50 #[opV q (.slice ap np cp), .agg #[.int .i64 (s.kind : Int), .string s.bytes, .bool s.id, .int .i64 4, .int .i64 s.low, .int .i64 s.high, .bool s.pic]] w fun e w' => ∃ v', e = .returned v' ∧ RdI w' v' (forL q s) ∧ Below w.heap.size w w' := by
  obtain ⟨X0, HX0⟩ : ∃ X0, Hid (((w.alloc (.cells #[.int .i64 q.kind, .int .i64 q.id, .int .i64 q.a, .int .i64 q.b, .int .i64 q.c, .int .i64 q.d, .int .i64 q.pw, .int .i64 q.ph, .slice ap np cp] 45)).alloc (.cells #[.int .i64 (s.kind : Int), .string s.bytes, .bool s.id, .int .i64 4, .int .i64 s.low, .int .i64 s.high, .bool s.pic] 92)) = X0) := ⟨_, (rfl : _ = _)⟩
  have hbz : Below w.heap.size w X0 := by rw [← HX0.out]; exact ((Below.refl _ _).alloc (Nat.le_refl _) _).alloc (by simp) _
  have N0 : Hid (Nine X0 w.heap.size (.int .i64 q.kind) (.int .i64 q.id) (.int .i64 q.a) (.int .i64 q.b) (.int .i64 q.c) (.int .i64 q.d) (.int .i64 q.pw) (.int .i64 q.ph) (.slice ap np cp)) := by rw [← HX0.out]; exact (nine_start w _ _ _ _ _ _ _ _ _ 45 w.heap.size rfl).alloc _
  have S0 : Hid (Seven X0 (w.heap.size + 1) (.int .i64 (s.kind : Int)) (.string s.bytes) (.bool s.id) (.int .i64 4) (.int .i64 s.low) (.int .i64 s.high) (.bool s.pic)) := by rw [← HX0.out]; exact seven_start _ _ _ _ _ _ _ _ 92 (w.heap.size + 1) (by simp)
  have KEEP : Hid (∀ w', Below X0.heap.size X0 w' → (w'.cell? ⟨w.heap.size + 1, 3, none⟩ = some (.int .i64 4) ∧ w'.cell? ⟨w.heap.size, 0, none⟩ = some (.int .i64 q.kind) ∧ w'.cell? ⟨w.heap.size, 1, none⟩ = some (.int .i64 q.id) ∧ w'.cell? ⟨w.heap.size, 2, none⟩ = some (.int .i64 q.a) ∧ w'.cell? ⟨w.heap.size, 3, none⟩ = some (.int .i64 q.b) ∧ w'.cell? ⟨w.heap.size, 4, none⟩ = some (.int .i64 q.c) ∧ w'.cell? ⟨w.heap.size, 5, none⟩ = some (.int .i64 q.d) ∧ w'.cell? ⟨w.heap.size, 6, none⟩ = some (.int .i64 q.pw) ∧ w'.cell? ⟨w.heap.size, 7, none⟩ = some (.int .i64 q.ph) ∧ w'.cell? ⟨w.heap.size, 8, none⟩ = some (.slice ap np cp))) := by
    intro w' h
    obtain ⟨m0, m1, m2, m3, m4, m5, m6, m7, m8, mf0, mf1, mf2, mf3, mf4, mf5, mf6, mf7, mf8, mlt⟩ := N0.out.on h
    exact ⟨(S0.out.on h).c3, m0, m1, m2, m3, m4, m5, m6, m7, m8⟩
  go_enter Tryd.func50, Tryd.ntmps50
  go_wp2_with fail
  rw [HX0.out]
  clear HX0
  refine wp_region_held_drew (S := (fun w' => w'.cell? ⟨w.heap.size + 1, 3, none⟩ = some (.int .i64 4) ∧ w'.cell? ⟨w.heap.size, 0, none⟩ = some (.int .i64 q.kind) ∧ w'.cell? ⟨w.heap.size, 1, none⟩ = some (.int .i64 q.id) ∧ w'.cell? ⟨w.heap.size, 2, none⟩ = some (.int .i64 q.a) ∧ w'.cell? ⟨w.heap.size, 3, none⟩ = some (.int .i64 q.b) ∧ w'.cell? ⟨w.heap.size, 4, none⟩ = some (.int .i64 q.c) ∧ w'.cell? ⟨w.heap.size, 5, none⟩ = some (.int .i64 q.d) ∧ w'.cell? ⟨w.heap.size, 6, none⟩ = some (.int .i64 q.pw) ∧ w'.cell? ⟨w.heap.size, 7, none⟩ = some (.int .i64 q.ph) ∧ w'.cell? ⟨w.heap.size, 8, none⟩ = some (.slice ap np cp))) (by kernel_rfl) ?_ (fun hHeld => ?_)
  · exact KEEP.out _ (Below.refl _ _).drew
  refine wpAnyH_take (i := 0) (oi := ({ dst := some 6, op := Op.load 45 (Operand.tmp 2), type := 45, pos := "op.go:136", after := #[], guard := none } : Oper)) (v := ?_) rfl (by kernel_rfl) (by kernel_rfl) (by kernel_rfl) (fun _ _ _ h => h) (Or.inl ⟨by rfl, ?_⟩) (by assumption) ?_
  rotate_left
  · (intro w hSw; (try dsimp only at hSw); go_simp; try with_reducible rfl)
  try simp only [Act.put, List.setIfInBounds_toArray, List.set_cons_zero, List.set_cons_succ]
  refine wpAnyH_take (i := 2) (oi := ({ dst := some 8, op := Op.fieldAddr 92 (Operand.tmp 3) 3, type := 0, pos := "op.go:136", after := #[], guard := none } : Oper)) (v := ?_) rfl (by kernel_rfl) (by kernel_rfl) (by kernel_rfl) (fun _ _ _ h => h) (Or.inl ⟨by rfl, ?_⟩) (by assumption) ?_
  rotate_left
  · (intro w hSw; (try dsimp only at hSw); go_simp; try with_reducible rfl)
  try simp only [Act.put, List.setIfInBounds_toArray, List.set_cons_zero, List.set_cons_succ]
  refine wpAnyH_take (i := 3) (oi := ({ dst := some 9, op := Op.load 3 (Operand.tmp 8), type := 3, pos := "op.go:136", after := #[{ on := 2, ground := Ground.data }], guard := none } : Oper)) (v := ?_) rfl (by kernel_rfl) (by kernel_rfl) (by kernel_rfl) (fun _ _ _ h => h) (Or.inl ⟨by rfl, ?_⟩) (by assumption) ?_
  rotate_left
  · (intro w hSw; (try dsimp only at hSw); go_simp; try with_reducible rfl)
  try simp only [Act.put, List.setIfInBounds_toArray, List.set_cons_zero, List.set_cons_succ]
  refine wpAnyH_ready (rs := [1]) (by kernel_rfl) (by simp) ?_
  refine AllReadyH.cons (o := ({ dst := some 7, op := Op.call { callee := Callee.value (Operand.func 55), args := #[Operand.tmp 6], argTypes := #[45] }, type := 78, pos := "op.go:136", after := #[{ on := 0, ground := Ground.data }], guard := none } : Oper)) rfl (fun K_ hK => ?_) AllReadyH.nil
  go_simp
  refine (numbers_any q (.slice ap np cp) X0.drew).mono ?_
  rintro e w1 ⟨g1, rfl, hg1, hh1, hb1⟩
  have HB1 : Hid (Below X0.heap.size X0 w1) := ⟨hb1.os, hb1.tape, hb1.output, hb1.size, hb1.block⟩
  have HCE : Hid (∀ j v, (intCells ((nums4 q).drop 4))[j]? = some v → w1.cell? ((⟨g1, 0, none⟩ : Addr).add j) = some v) := (by intro j v hj; simp [nums4, intCells] at hj)
  have hg1l : g1 < w1.heap.size := (Array.getElem?_eq_some_iff.1 hh1).1
  clear hh1 hb1
  refine hK.out _ _ ?_ (fun hHeld => ?_)
  · exact KEEP.out _ HB1.out
  clear hK K_
  try simp only [Act.put, List.setIfInBounds_toArray, List.set_cons_zero, List.set_cons_succ]
  refine wpAnyH_take (i := 4) (oi := ({ dst := some 10, op := Op.slice 78 (Operand.tmp 7) (some (Operand.tmp 9)) none none, type := 78, pos := "op.go:136", after := #[{ on := 1, ground := Ground.data }, { on := 3, ground := Ground.data }], guard := none } : Oper)) (v := ?_) rfl (by kernel_rfl) (by kernel_rfl) (by kernel_rfl) (fun _ _ _ h => h) (Or.inl ⟨by rfl, ?_⟩) (by assumption) ?_
  rotate_left
  · (intro w hSw; (try dsimp only at hSw); go_simp; try with_reducible rfl)
  try simp only [Act.put, List.setIfInBounds_toArray, List.set_cons_zero, List.set_cons_succ]
  refine wpAnyH_take (i := 5) (oi := ({ dst := some 5, op := Op.assign (Operand.tmp 10), type := 78, pos := "op.go:136", after := #[{ on := 4, ground := Ground.data }, { on := 1, ground := Ground.chain }, { on := 0, ground := Ground.phase }, { on := 1, ground := Ground.phase }, { on := 2, ground := Ground.phase }, { on := 3, ground := Ground.phase }, { on := 4, ground := Ground.phase }], guard := none } : Oper)) (v := ?_) rfl (by kernel_rfl) (by kernel_rfl) (by kernel_rfl) (fun _ _ _ h => h) (Or.inl ⟨by rfl, ?_⟩) (by assumption) ?_
  rotate_left
  · (intro w hSw; (try dsimp only at hSw); go_simp; try with_reducible rfl)
  try simp only [Act.put, List.setIfInBounds_toArray, List.set_cons_zero, List.set_cons_succ]
  refine wpAnyH_done (by kernel_rfl) ?_ _
  have hln : ((nums4 q).drop 4).length = 0 := by simp [nums4]
  have N1 := N0.out.on HB1.out
  have S1 := S0.out.on HB1.out
  obtain ⟨m0, m1, m2, m3, m4, m5, m6, m7, m8, mf0, mf1, mf2, mf3, mf4, mf5, mf6, mf7, mf8, mlt⟩ := N1
  obtain ⟨s0, s1, s2, s3, s4, s5, s6, sf0, sf1, sf2, sf3, sf4, sf5, sf6, slt⟩ := S1
  have hbb1 := hbz.trans (HB1.out.mono hbz.size)
  clear KEEP
  cases hsp : s.pic with
  | true =>
    have hid : s.id = true := by
      cases h : s.id with
      | true => rfl
      | false => have := hip h; rw [hsp] at this; cases this
    rw [hsp] at s6
    rw [hid] at s2
    have HF : Hid (forL q s = (nums4 q).drop 4) := by unfold Hid forL; rw [HN4.out, hid, hsp]; simp
    clear hsp hid
    go_wp2_with fail
    go_ret
    refine ⟨.slice (some ⟨g1, 0, none⟩) 0 0, rfl, ?_, hbb1⟩
    rw [HF.out]
    exact ⟨some ⟨g1, 0, none⟩, 0, by rw [hln], by rw [hln]; exact Nat.le_refl _, by omega, fun hne => ⟨g1, 0, rfl, hg1l, fun j hj => by have := HCE.out j _ (intCells_at _ j hj); rw [show (⟨g1, 0, none⟩ : Addr).add j = ⟨g1, 0 + j, none⟩ by unfold Addr.add; split <;> simp_all] at this; exact this⟩⟩
  | false =>
    rw [hsp] at s6
    cases hid : s.id with
    | true =>
      rw [hid] at s2
      have HF : Hid (forL q s = (nums4 q).drop 4 ++ [q.pw, q.ph, (np : Int)]) := by unfold Hid forL; rw [HN4.out, hid, hsp, HNP.out]; simp
      clear hsp hid
      have hbx : Below w1.heap.size w1 (w1.alloc (.cells #[.int .i64 q.pw, .int .i64 q.ph, .int .i64 (np : Int)] 3)) := (Below.refl _ _).alloc (Nat.le_refl _) _
      obtain ⟨v', w3, hr, ho, hb3⟩ := run_append_full (w1.alloc (.cells #[.int .i64 q.pw, .int .i64 q.ph, .int .i64 (np : Int)] 3)) ((nums4 q).drop 4) [q.pw, q.ph, (np : Int)] ⟨g1, 0, none⟩ 0 hln (fun j v hj => by have := HCE.out j v hj; rw [show (⟨g1, 0, none⟩ : Addr).add j = ⟨g1, 0 + j, none⟩ by unfold Addr.add; split <;> simp_all] at this ⊢; exact (hbx.cell (p := ⟨g1, 0 + j, none⟩) hg1l).trans this) ⟨w1.heap.size, 0, none⟩ 3 3 rfl (by omega) (new_cells w1 _ 3) (by omega) 78
      have hbb3 := (hbb1.trans (hbx.mono hbb1.size)).trans (hb3.mono (hbb1.trans (hbx.mono hbb1.size)).size)
      have HRI := hid_of3 (rdI_own ho (by rw [List.length_append, hln]; rfl))
      obtain ⟨a', c', hv'⟩ := own_any ho
      subst hv'
      clear ho hb3 hbx
      go_wp2_with (at_builtin; refine Lib.wpList_append_run _ rfl _ _ _ _ rfl _ _ rfl rfl _ _ hr ?_)
      go_ret
      exact ⟨_, rfl, by rw [HF.out]; exact HRI.out, hbb3⟩
    | false =>
      rw [hid] at s2
      have HSP := hid_of3 hsp
      have HF : Hid (forL q s = ((nums4 q).drop 4 ++ [q.id]) ++ [q.pw, q.ph, (np : Int)]) := by unfold Hid forL; rw [HN4.out, hid, hsp, HNP.out]; simp
      clear hsp hid
      have hbx : Below w1.heap.size w1 (w1.alloc (.cells #[.int .i64 q.id] 3)) := (Below.refl _ _).alloc (Nat.le_refl _) _
      obtain ⟨v', w3, hr, ho, hb3⟩ := run_append_full (w1.alloc (.cells #[.int .i64 q.id] 3)) ((nums4 q).drop 4) [q.id] ⟨g1, 0, none⟩ 0 hln (fun j v hj => by have := HCE.out j v hj; rw [show (⟨g1, 0, none⟩ : Addr).add j = ⟨g1, 0 + j, none⟩ by unfold Addr.add; split <;> simp_all] at this ⊢; exact (hbx.cell (p := ⟨g1, 0 + j, none⟩) hg1l).trans this) ⟨w1.heap.size, 0, none⟩ 1 1 rfl (by omega) (new_cells w1 _ 3) (by omega) 78
      have hbb2 := hbb1.trans (hbx.mono hbb1.size)
      have hbb3 := hbb2.trans (hb3.mono hbb2.size)
      have HO3 := hide_own (own_mono ho hbb2.size)
      obtain ⟨a', c', hv'⟩ := own_any ho
      subst hv'
      have S3 := ((S0.out.on HB1.out).on hbx).on hb3
      have N3 := ((N0.out.on HB1.out).on hbx).on hb3
      obtain ⟨x0, x1, x2, x3, x4, x5, x6, xf0, xf1, xf2, xf3, xf4, xf5, xf6, xlt⟩ := S3
      obtain ⟨y0, y1, y2, y3, y4, y5, y6, y7, y8, yf0, yf1, yf2, yf3, yf4, yf5, yf6, yf7, yf8, ylt⟩ := N3
      rw [HSP.out] at x6
      obtain ⟨i0, hi, hz0, hz1, hz2⟩ := info_parts Tryd.infoInt
      have hbx3 : Below w3.heap.size w3 (w3.alloc (.cells #[.int .i64 q.pw, .int .i64 q.ph, .int .i64 (np : Int)] 3)) := (Below.refl _ _).alloc (Nat.le_refl _) _
      have HO4 := own_on2 HO3.out hbx3
      have hbb4 := hbb3.trans (hbx3.mono hbb3.size)
      obtain ⟨v5, w5, hr5, ho5, hg5, _⟩ := run_append_own (P := Tryd.prog) _ w.heap.size 78 78 3 i0 (.int .i64 0) 1 8 Tryd.underlying78 hi hz0 hz1 hz2 rfl (by decide) _ _ _ HO4 ⟨w3.heap.size, 0, none⟩ 3 3 (intCells [q.pw, q.ph, (np : Int)]) rfl (new_cells w3 _ 3) (intCells_one _) (by unfold maxLen; omega) (by omega) hbb4.size
      have hbb5 : Below w.heap.size w w5 := hbb4.grown hg5 hbb4.size (fun z hz => (HO4.lt z hz).1)
      have e5 : intCells ((nums4 q).drop 4 ++ [q.id]) ++ intCells [q.pw, q.ph, (np : Int)] = intCells (((nums4 q).drop 4 ++ [q.id]) ++ [q.pw, q.ph, (np : Int)]) := by simp [intCells]
      rw [e5] at ho5
      have HRI := hid_of3 (rdI_own ho5 (by rw [List.length_append, List.length_append, hln]; rfl))
      obtain ⟨a5, c5, hv5⟩ := own_any ho5
      subst hv5
      clear ho hb3 hbx ho5 hg5 e5 hbx3 HO4 HO3
      go_wp2_with (at_builtin; first | refine Lib.wpList_append_run _ rfl _ _ _ _ rfl _ _ rfl rfl _ _ hr ?_ | refine Lib.wpList_append_run _ rfl _ _ _ _ rfl _ _ rfl rfl _ _ hr5 ?_)
      go_ret
      exact ⟨_, rfl, by rw [HF.out]; exact HRI.out, hbb5⟩

set_option maxHeartbeats 8000000 in
set_option maxRecDepth 100000 in
theorem foreign_any (q : Pq) (s : Shp) (ap : Option Addr) (np cp : Nat) (w : World) (hnums : s.nums ≤ 4) (hip : s.id = false → s.pic = false) (HNP : Hid (q.ps.length = np)) (hnp : np ≤ 9223372036854775807) :
    Calls Tryd.prog 50 #[opV q (.slice ap np cp), s.val] w fun e w' => ∃ v', e = .returned v' ∧ RdI w' v' (forL q s) ∧ Below w.heap.size w w' := by
  by_cases hnn : s.nums = 4
  · have h := foreign4_any q s ap np cp w hnn hip HNP hnp
    have e : s.val = .agg #[.int .i64 (s.kind : Int), .string s.bytes, .bool s.id, .int .i64 4, .int .i64 s.low, .int .i64 s.high, .bool s.pic] := by unfold Shp.val; rw [hnn]; rfl
    rw [e]
    exact h
  obtain ⟨X0, HX0⟩ : ∃ X0, Hid (((w.alloc (.cells #[.int .i64 q.kind, .int .i64 q.id, .int .i64 q.a, .int .i64 q.b, .int .i64 q.c, .int .i64 q.d, .int .i64 q.pw, .int .i64 q.ph, .slice ap np cp] 45)).alloc (.cells #[.int .i64 (s.kind : Int), .string s.bytes, .bool s.id, .int .i64 (s.nums : Int), .int .i64 s.low, .int .i64 s.high, .bool s.pic] 92)) = X0) := ⟨_, (rfl : _ = _)⟩
  have hbz : Below w.heap.size w X0 := by rw [← HX0.out]; exact ((Below.refl _ _).alloc (Nat.le_refl _) _).alloc (by simp) _
  have N0 : Hid (Nine X0 w.heap.size (.int .i64 q.kind) (.int .i64 q.id) (.int .i64 q.a) (.int .i64 q.b) (.int .i64 q.c) (.int .i64 q.d) (.int .i64 q.pw) (.int .i64 q.ph) (.slice ap np cp)) := by rw [← HX0.out]; exact (nine_start w _ _ _ _ _ _ _ _ _ 45 w.heap.size rfl).alloc _
  have S0 : Hid (Seven X0 (w.heap.size + 1) (.int .i64 (s.kind : Int)) (.string s.bytes) (.bool s.id) (.int .i64 (s.nums : Int)) (.int .i64 s.low) (.int .i64 s.high) (.bool s.pic)) := by rw [← HX0.out]; exact seven_start _ _ _ _ _ _ _ _ 92 (w.heap.size + 1) (by simp)
  have KEEP : Hid (∀ w', Below X0.heap.size X0 w' → (w'.cell? ⟨w.heap.size + 1, 3, none⟩ = some (.int .i64 (s.nums : Int)) ∧ w'.cell? ⟨w.heap.size, 0, none⟩ = some (.int .i64 q.kind) ∧ w'.cell? ⟨w.heap.size, 1, none⟩ = some (.int .i64 q.id) ∧ w'.cell? ⟨w.heap.size, 2, none⟩ = some (.int .i64 q.a) ∧ w'.cell? ⟨w.heap.size, 3, none⟩ = some (.int .i64 q.b) ∧ w'.cell? ⟨w.heap.size, 4, none⟩ = some (.int .i64 q.c) ∧ w'.cell? ⟨w.heap.size, 5, none⟩ = some (.int .i64 q.d) ∧ w'.cell? ⟨w.heap.size, 6, none⟩ = some (.int .i64 q.pw) ∧ w'.cell? ⟨w.heap.size, 7, none⟩ = some (.int .i64 q.ph) ∧ w'.cell? ⟨w.heap.size, 8, none⟩ = some (.slice ap np cp))) := by
    intro w' h
    obtain ⟨m0, m1, m2, m3, m4, m5, m6, m7, m8, mf0, mf1, mf2, mf3, mf4, mf5, mf6, mf7, mf8, mlt⟩ := N0.out.on h
    exact ⟨(S0.out.on h).c3, m0, m1, m2, m3, m4, m5, m6, m7, m8⟩
  unfold Shp.val
  have hi1 : (0 : Int) ≤ (s.nums : Int) := by omega
  have hi2 : (s.nums : Int) ≤ 4 := by omega
  have hi3 : IntKind.i64.wrap (s.nums : Int) = (s.nums : Int) := by rw [IntKind.wrap_i64]; omega
  have hi4 : ¬ 4 = s.nums := fun h => hnn h.symm
  go_enter Tryd.func50, Tryd.ntmps50
  go_wp2_with fail
  rw [HX0.out]
  clear HX0
  refine wp_region_held_drew (S := (fun w' => w'.cell? ⟨w.heap.size + 1, 3, none⟩ = some (.int .i64 (s.nums : Int)) ∧ w'.cell? ⟨w.heap.size, 0, none⟩ = some (.int .i64 q.kind) ∧ w'.cell? ⟨w.heap.size, 1, none⟩ = some (.int .i64 q.id) ∧ w'.cell? ⟨w.heap.size, 2, none⟩ = some (.int .i64 q.a) ∧ w'.cell? ⟨w.heap.size, 3, none⟩ = some (.int .i64 q.b) ∧ w'.cell? ⟨w.heap.size, 4, none⟩ = some (.int .i64 q.c) ∧ w'.cell? ⟨w.heap.size, 5, none⟩ = some (.int .i64 q.d) ∧ w'.cell? ⟨w.heap.size, 6, none⟩ = some (.int .i64 q.pw) ∧ w'.cell? ⟨w.heap.size, 7, none⟩ = some (.int .i64 q.ph) ∧ w'.cell? ⟨w.heap.size, 8, none⟩ = some (.slice ap np cp))) (by kernel_rfl) ?_ (fun hHeld => ?_)
  · exact KEEP.out _ (Below.refl _ _).drew
  refine wpAnyH_take (i := 0) (oi := ({ dst := some 6, op := Op.load 45 (Operand.tmp 2), type := 45, pos := "op.go:136", after := #[], guard := none } : Oper)) (v := ?_) rfl (by kernel_rfl) (by kernel_rfl) (by kernel_rfl) (fun _ _ _ h => h) (Or.inl ⟨by rfl, ?_⟩) (by assumption) ?_
  rotate_left
  · (intro w hSw; (try dsimp only at hSw); go_simp; try with_reducible rfl)
  try simp only [Act.put, List.setIfInBounds_toArray, List.set_cons_zero, List.set_cons_succ]
  refine wpAnyH_take (i := 2) (oi := ({ dst := some 8, op := Op.fieldAddr 92 (Operand.tmp 3) 3, type := 0, pos := "op.go:136", after := #[], guard := none } : Oper)) (v := ?_) rfl (by kernel_rfl) (by kernel_rfl) (by kernel_rfl) (fun _ _ _ h => h) (Or.inl ⟨by rfl, ?_⟩) (by assumption) ?_
  rotate_left
  · (intro w hSw; (try dsimp only at hSw); go_simp; try with_reducible rfl)
  try simp only [Act.put, List.setIfInBounds_toArray, List.set_cons_zero, List.set_cons_succ]
  refine wpAnyH_take (i := 3) (oi := ({ dst := some 9, op := Op.load 3 (Operand.tmp 8), type := 3, pos := "op.go:136", after := #[{ on := 2, ground := Ground.data }], guard := none } : Oper)) (v := ?_) rfl (by kernel_rfl) (by kernel_rfl) (by kernel_rfl) (fun _ _ _ h => h) (Or.inl ⟨by rfl, ?_⟩) (by assumption) ?_
  rotate_left
  · (intro w hSw; (try dsimp only at hSw); go_simp; try with_reducible rfl)
  try simp only [Act.put, List.setIfInBounds_toArray, List.set_cons_zero, List.set_cons_succ]
  refine wpAnyH_ready (rs := [1]) (by kernel_rfl) (by simp) ?_
  refine AllReadyH.cons (o := ({ dst := some 7, op := Op.call { callee := Callee.value (Operand.func 55), args := #[Operand.tmp 6], argTypes := #[45] }, type := 78, pos := "op.go:136", after := #[{ on := 0, ground := Ground.data }], guard := none } : Oper)) rfl (fun K_ hK => ?_) AllReadyH.nil
  go_simp
  refine (numbers_any q (.slice ap np cp) X0.drew).mono ?_
  rintro e w1 ⟨g1, rfl, hg1, hh1, hb1⟩
  have HB1 : Hid (Below X0.heap.size X0 w1) := ⟨hb1.os, hb1.tape, hb1.output, hb1.size, hb1.block⟩
  have HCE : Hid (∀ j v, (intCells ((nums4 q).drop s.nums))[j]? = some v → w1.cell? ((⟨g1, s.nums, none⟩ : Addr).add j) = some v) := four_cells q hh1 s.nums
  have hg1l : g1 < w1.heap.size := (Array.getElem?_eq_some_iff.1 hh1).1
  clear hh1 hb1
  refine hK.out _ _ ?_ (fun hHeld => ?_)
  · exact KEEP.out _ HB1.out
  clear hK K_
  try simp only [Act.put, List.setIfInBounds_toArray, List.set_cons_zero, List.set_cons_succ]
  refine wpAnyH_take (i := 4) (oi := ({ dst := some 10, op := Op.slice 78 (Operand.tmp 7) (some (Operand.tmp 9)) none none, type := 78, pos := "op.go:136", after := #[{ on := 1, ground := Ground.data }, { on := 3, ground := Ground.data }], guard := none } : Oper)) (v := ?_) rfl (by kernel_rfl) (by kernel_rfl) (by kernel_rfl) (fun _ _ _ h => h) (Or.inl ⟨by rfl, ?_⟩) (by assumption) ?_
  rotate_left
  · (intro w hSw; (try dsimp only at hSw); go_simp; try with_reducible rfl)
  try simp only [Act.put, List.setIfInBounds_toArray, List.set_cons_zero, List.set_cons_succ]
  refine wpAnyH_take (i := 5) (oi := ({ dst := some 5, op := Op.assign (Operand.tmp 10), type := 78, pos := "op.go:136", after := #[{ on := 4, ground := Ground.data }, { on := 1, ground := Ground.chain }, { on := 0, ground := Ground.phase }, { on := 1, ground := Ground.phase }, { on := 2, ground := Ground.phase }, { on := 3, ground := Ground.phase }, { on := 4, ground := Ground.phase }], guard := none } : Oper)) (v := ?_) rfl (by kernel_rfl) (by kernel_rfl) (by kernel_rfl) (fun _ _ _ h => h) (Or.inl ⟨by rfl, ?_⟩) (by assumption) ?_
  rotate_left
  · (intro w hSw; (try dsimp only at hSw); go_simp; try with_reducible rfl)
  try simp only [Act.put, List.setIfInBounds_toArray, List.set_cons_zero, List.set_cons_succ]
  refine wpAnyH_done (by kernel_rfl) ?_ _
  have hln : ((nums4 q).drop s.nums).length = (4 - s.nums) := by simp [nums4]
  have N1 := N0.out.on HB1.out
  have S1 := S0.out.on HB1.out
  obtain ⟨m0, m1, m2, m3, m4, m5, m6, m7, m8, mf0, mf1, mf2, mf3, mf4, mf5, mf6, mf7, mf8, mlt⟩ := N1
  obtain ⟨s0, s1, s2, s3, s4, s5, s6, sf0, sf1, sf2, sf3, sf4, sf5, sf6, slt⟩ := S1
  have hbb1 := hbz.trans (HB1.out.mono hbz.size)
  clear KEEP
  cases hsp : s.pic with
  | true =>
    have hid : s.id = true := by
      cases h : s.id with
      | true => rfl
      | false => have := hip h; rw [hsp] at this; cases this
    rw [hsp] at s6
    rw [hid] at s2
    have HF : Hid (forL q s = (nums4 q).drop s.nums) := by unfold Hid forL; rw [hid, hsp]; simp
    clear hsp hid
    go_wp2_with fail
    go_ret
    refine ⟨.slice (some ⟨g1, s.nums, none⟩) (4 - s.nums) (4 - s.nums), rfl, ?_, hbb1⟩
    rw [HF.out]
    exact ⟨some ⟨g1, s.nums, none⟩, (4 - s.nums), by rw [hln], by rw [hln]; exact Nat.le_refl _, by omega, fun hne => ⟨g1, s.nums, rfl, hg1l, fun j hj => by have := HCE.out j _ (intCells_at _ j hj); rw [show (⟨g1, s.nums, none⟩ : Addr).add j = ⟨g1, s.nums + j, none⟩ by unfold Addr.add; split <;> simp_all] at this; exact this⟩⟩
  | false =>
    rw [hsp] at s6
    cases hid : s.id with
    | true =>
      rw [hid] at s2
      have HF : Hid (forL q s = (nums4 q).drop s.nums ++ [q.pw, q.ph, (np : Int)]) := by unfold Hid forL; rw [hid, hsp, HNP.out]; simp
      clear hsp hid
      have hbx : Below w1.heap.size w1 (w1.alloc (.cells #[.int .i64 q.pw, .int .i64 q.ph, .int .i64 (np : Int)] 3)) := (Below.refl _ _).alloc (Nat.le_refl _) _
      obtain ⟨v', w3, hr, ho, hb3⟩ := run_append_full (w1.alloc (.cells #[.int .i64 q.pw, .int .i64 q.ph, .int .i64 (np : Int)] 3)) ((nums4 q).drop s.nums) [q.pw, q.ph, (np : Int)] ⟨g1, s.nums, none⟩ (4 - s.nums) hln (fun j v hj => by have := HCE.out j v hj; rw [show (⟨g1, s.nums, none⟩ : Addr).add j = ⟨g1, s.nums + j, none⟩ by unfold Addr.add; split <;> simp_all] at this ⊢; exact (hbx.cell (p := ⟨g1, s.nums + j, none⟩) hg1l).trans this) ⟨w1.heap.size, 0, none⟩ 3 3 rfl (by omega) (new_cells w1 _ 3) (by omega) 78
      have hbb3 := (hbb1.trans (hbx.mono hbb1.size)).trans (hb3.mono (hbb1.trans (hbx.mono hbb1.size)).size)
      have HRI := hid_of3 (rdI_own ho (by rw [List.length_append, hln]; rfl))
      obtain ⟨a', c', hv'⟩ := own_any ho
      subst hv'
      clear ho hb3 hbx
      go_wp2_with (at_builtin; refine Lib.wpList_append_run _ rfl _ _ _ _ rfl _ _ rfl rfl _ _ hr ?_)
      go_ret
      exact ⟨_, rfl, by rw [HF.out]; exact HRI.out, hbb3⟩
    | false =>
      rw [hid] at s2
      have HSP := hid_of3 hsp
      have HF : Hid (forL q s = ((nums4 q).drop s.nums ++ [q.id]) ++ [q.pw, q.ph, (np : Int)]) := by unfold Hid forL; rw [hid, hsp, HNP.out]; simp
      clear hsp hid
      have hbx : Below w1.heap.size w1 (w1.alloc (.cells #[.int .i64 q.id] 3)) := (Below.refl _ _).alloc (Nat.le_refl _) _
      obtain ⟨v', w3, hr, ho, hb3⟩ := run_append_full (w1.alloc (.cells #[.int .i64 q.id] 3)) ((nums4 q).drop s.nums) [q.id] ⟨g1, s.nums, none⟩ (4 - s.nums) hln (fun j v hj => by have := HCE.out j v hj; rw [show (⟨g1, s.nums, none⟩ : Addr).add j = ⟨g1, s.nums + j, none⟩ by unfold Addr.add; split <;> simp_all] at this ⊢; exact (hbx.cell (p := ⟨g1, s.nums + j, none⟩) hg1l).trans this) ⟨w1.heap.size, 0, none⟩ 1 1 rfl (by omega) (new_cells w1 _ 3) (by omega) 78
      have hbb2 := hbb1.trans (hbx.mono hbb1.size)
      have hbb3 := hbb2.trans (hb3.mono hbb2.size)
      have HO3 := hide_own (own_mono ho hbb2.size)
      obtain ⟨a', c', hv'⟩ := own_any ho
      subst hv'
      have S3 := ((S0.out.on HB1.out).on hbx).on hb3
      have N3 := ((N0.out.on HB1.out).on hbx).on hb3
      obtain ⟨x0, x1, x2, x3, x4, x5, x6, xf0, xf1, xf2, xf3, xf4, xf5, xf6, xlt⟩ := S3
      obtain ⟨y0, y1, y2, y3, y4, y5, y6, y7, y8, yf0, yf1, yf2, yf3, yf4, yf5, yf6, yf7, yf8, ylt⟩ := N3
      rw [HSP.out] at x6
      obtain ⟨i0, hi, hz0, hz1, hz2⟩ := info_parts Tryd.infoInt
      have hbx3 : Below w3.heap.size w3 (w3.alloc (.cells #[.int .i64 q.pw, .int .i64 q.ph, .int .i64 (np : Int)] 3)) := (Below.refl _ _).alloc (Nat.le_refl _) _
      have HO4 := own_on2 HO3.out hbx3
      have hbb4 := hbb3.trans (hbx3.mono hbb3.size)
      obtain ⟨v5, w5, hr5, ho5, hg5, _⟩ := run_append_own (P := Tryd.prog) _ w.heap.size 78 78 3 i0 (.int .i64 0) 1 8 Tryd.underlying78 hi hz0 hz1 hz2 rfl (by decide) _ _ _ HO4 ⟨w3.heap.size, 0, none⟩ 3 3 (intCells [q.pw, q.ph, (np : Int)]) rfl (new_cells w3 _ 3) (intCells_one _) (by unfold maxLen; omega) (by omega) hbb4.size
      have hbb5 : Below w.heap.size w w5 := hbb4.grown hg5 hbb4.size (fun z hz => (HO4.lt z hz).1)
      have e5 : intCells ((nums4 q).drop s.nums ++ [q.id]) ++ intCells [q.pw, q.ph, (np : Int)] = intCells (((nums4 q).drop s.nums ++ [q.id]) ++ [q.pw, q.ph, (np : Int)]) := by simp [intCells]
      rw [e5] at ho5
      have HRI := hid_of3 (rdI_own ho5 (by rw [List.length_append, List.length_append, hln]; rfl))
      obtain ⟨a5, c5, hv5⟩ := own_any ho5
      subst hv5
      clear ho hb3 hbx ho5 hg5 e5 hbx3 HO4 HO3
      go_wp2_with (at_builtin; first | refine Lib.wpList_append_run _ rfl _ _ _ _ rfl _ _ rfl rfl _ _ hr ?_ | refine Lib.wpList_append_run _ rfl _ _ _ _ rfl _ _ rfl rfl _ _ hr5 ?_)
      go_ret
      exact ⟨_, rfl, by rw [HF.out]; exact HRI.out, hbb5⟩
end Go.Proofs.YtceabiodelfdoaaDoor
/- Walk: op.Check. -/
namespace Go.Proofs.YtceabiodelfdoaaDoor
open Go.RowKit

/-- the number of the error of an op -/
def opC (q : Pq) : Nat :=
  match kindAt q.kind shps with
  | none => 3
  | some s => if (forL q s).any (fun n => decide (n ≠ 0)) = true then 3 else if (s.id && (decide (q.id < 1) || decide (6 < q.id))) = true ∨ inB q s = false then 1 else if s.pic = true then checkL q.pw q.ph q.ps else 0
theorem shps_ok : ∀ s ∈ shps, s.nums ≤ 4 ∧ (s.id = false → s.pic = false) := by
  intro s hs
  simp only [shps, List.mem_cons, List.not_mem_nil, or_false] at hs
  rcases hs with rfl | rfl | rfl | rfl | rfl | rfl | rfl | rfl | rfl | rfl | rfl | rfl | rfl | rfl | rfl | rfl <;> exact ⟨by decide, by decide⟩
theorem kindAt_mem (kd : Int) : ∀ (l : List Shp) (s : Shp), kindAt kd l = some s → s ∈ l ∧ (s.kind : Int) = kd := by
  intro l
  induction l with
  | nil => intro s h; cases h
  | cons a r ih =>
    intro s h
    unfold kindAt at h
    split at h
    · obtain rfl := Option.some.inj h
      exact ⟨by simp, by assumption⟩
    · obtain ⟨h1, h2⟩ := ih s h
      exact ⟨by simp [h1], h2⟩

set_option maxHeartbeats 8000000 in
set_option maxRecDepth 100000 in
theorem opCheck_any (q : Pq) (u : Value) (w : World) (HS : Hid (Shapes w)) (h1 : 1 < w.heap.size) (HU : Hid (RdP w u q.ps)) (hps : q.ps.length ≤ 1000000000) (c : Nat) (HC : Hid (opC q = c)) :
    Calls Tryd.prog 28 #[opV q u] w fun e w' => e = .returned (errV c) ∧ Below w.heap.size w w' := by
  obtain ⟨ap, cp, hv, hl0, hcp, _⟩ := HU.out
  obtain ⟨np, HNP⟩ : ∃ n, Hid (q.ps.length = n) := ⟨_, (rfl : _ = _)⟩
  rw [HNP.out] at hv hl0
  subst hv
  obtain ⟨X0, HX0⟩ : ∃ X0, Hid (w.alloc (.cells #[.int .i64 q.kind, .int .i64 q.id, .int .i64 q.a, .int .i64 q.b, .int .i64 q.c, .int .i64 q.d, .int .i64 q.pw, .int .i64 q.ph, .slice ap np cp] 45) = X0) := ⟨_, (rfl : _ = _)⟩
  have hbz : Below w.heap.size w X0 := by rw [← HX0.out]; exact (Below.refl _ _).alloc (Nat.le_refl _) _
  have N0 : Nine X0 w.heap.size (.int .i64 q.kind) (.int .i64 q.id) (.int .i64 q.a) (.int .i64 q.b) (.int .i64 q.c) (.int .i64 q.d) (.int .i64 q.pw) (.int .i64 q.ph) (.slice ap np cp) := by rw [← HX0.out]; exact nine_start w _ _ _ _ _ _ _ _ _ 45 w.heap.size rfl
  have HS0 : Hid (Shapes X0) := HS.out.on h1 hbz
  have h1' := Nat.lt_of_lt_of_le h1 hbz.size
  have HU0 : Hid (RdP X0 (.slice ap np cp) q.ps) := HU.out.on hbz
  obtain ⟨o, HO⟩ : ∃ o, Hid (kindAt q.kind shps = o) := ⟨_, (rfl : _ = _)⟩
  have hc := HC.out
  unfold opC at hc
  rw [HO.out] at hc
  go_enter Tryd.func28, Tryd.ntmps28
  go_wp2_with fail
  rw [HX0.out]
  clear HX0
  refine (ofKind_any q.kind X0 HS0 h1').mono ?_
  rw [HO.out]
  rintro e w1 ⟨hb1, he⟩
  have hbb1 := hbz.trans (hb1.mono hbz.size)
  have N1 := N0.on hb1
  have HU1 := hid_of3 (HU0.out.on hb1)
  clear hb1 HS0 HU0 N0
  cases o with
  | none =>
    simp only at he hc
    subst he hc
    have hbx : Below w.heap.size w (w1.alloc (.cells #[.int .i64 0, .string ⟨#[]⟩, .bool false, .int .i64 0, .int .i64 0, .int .i64 0, .bool false] 92)) := hbb1.alloc hbb1.size _
    unfold shp0 Shp.val Shp.bytes
    go_wp2_with fail
    go_ret
    exact ⟨rfl, hbx⟩
  | some s =>
    simp only at he hc
    subst he
    obtain ⟨hs1, hs2⟩ := shps_ok s (kindAt_mem _ _ _ HO.out).1
    have hbx1 : Below w1.heap.size w1 (w1.alloc (.cells #[.int .i64 (s.kind : Int), .string s.bytes, .bool s.id, .int .i64 (s.nums : Int), .int .i64 s.low, .int .i64 s.high, .bool s.pic] 92)) := (Below.refl _ _).alloc (Nat.le_refl _) _
    have S1 := seven_start w1 (.int .i64 (s.kind : Int)) (.string s.bytes) (.bool s.id) (.int .i64 (s.nums : Int)) (.int .i64 s.low) (.int .i64 s.high) (.bool s.pic) 92 w1.heap.size rfl
    have N2 := N1.on hbx1
    have HU2 := hid_of3 (HU1.out.on hbx1)
    have hbb2 := hbb1.trans (hbx1.mono hbb1.size)
    obtain ⟨m0, m1, m2, m3, m4, m5, m6, m7, m8, mf0, mf1, mf2, mf3, mf4, mf5, mf6, mf7, mf8, mlt⟩ := N2
    unfold Shp.val
    go_wp2_with fail
    obtain ⟨X2, HX2⟩ : ∃ X2, Hid (w1.alloc (.cells #[.int .i64 (s.kind : Int), .string s.bytes, .bool s.id, .int .i64 (s.nums : Int), .int .i64 s.low, .int .i64 s.high, .bool s.pic] 92) = X2) := ⟨_, (rfl : _ = _)⟩
    rw [HX2.out] at S1 HU2 hbb2 hbx1
    rw [HX2.out]
    have N2 := N1.on hbx1
    clear m0 m1 m2 m3 m4 m5 m6 m7 m8 mf0 mf1 mf2 mf3 mf4 mf5 mf6 mf7 mf8 mlt HX2 N1 HU1 hbx1
    refine (foreign_any q s ap np cp X2 hs1 hs2 HNP (by omega)).mono ?_
    rintro e w3 ⟨v3, rfl, hr3, hb3⟩
    have HRI := hid_of3 hr3
    obtain ⟨a3, c3, hv3, hl3, hc3, _⟩ := hr3
    have hfl : (forL q s).length ≤ 1000 := by unfold forL nums4; split <;> split <;> simp <;> omega
    obtain ⟨n3, HN3⟩ : ∃ n3, Hid ((forL q s).length = n3) := ⟨_, (rfl : _ = _)⟩
    rw [HN3.out] at hv3
    subst hv3
    have N3 := N2.on hb3
    have S3 := S1.on hb3
    have HU3 := hid_of3 (HU2.out.on hb3)
    have hbb3 := hbb2.trans (hb3.mono hbb2.size)
    clear hb3 N2 S1 HU2 hbb2
    obtain ⟨t, HT⟩ : ∃ t, Hid ((forL q s).any (fun n => decide (n ≠ 0)) = t) := ⟨_, (rfl : _ = _)⟩
    rw [HT.out] at hc
    go_wp2_with fail
    refine (containsN_any _ (forL q s) w3 hfl HRI t HT).mono ?_
    rintro e w4 ⟨rfl, hb4⟩
    have N4 := N3.on hb4
    have S4 := S3.on hb4
    have HU4 := hid_of3 (HU3.out.on hb4)
    have hbb4 := hbb3.trans (hb4.mono hbb3.size)
    clear hb4 N3 S3 HU3 hbb3 HRI
    cases t with
    | true =>
      rw [if_pos rfl] at hc
      subst hc
      go_wp2_with fail
      go_ret
      exact ⟨rfl, hbb4⟩
    | false =>
      rw [if_neg (by simp)] at hc
      have N4h := hid_of3 N4
      have S4h := hid_of3 S4
      obtain ⟨m0, m1, m2, m3, m4, m5, m6, m7, m8, mf0, mf1, mf2, mf3, mf4, mf5, mf6, mf7, mf8, mlt⟩ := N4
      obtain ⟨s0, s1, s2, s3, s4, s5, s6, sf0, sf1, sf2, sf3, sf4, sf5, sf6, slt⟩ := S4
      obtain ⟨bi, HBI⟩ : ∃ b, Hid ((s.id && (decide (q.id < 1) || decide (6 < q.id))) = b) := ⟨_, (rfl : _ = _)⟩
      obtain ⟨bb, HBB⟩ : ∃ b, Hid (inB q s = b) := ⟨_, (rfl : _ = _)⟩
      rw [HBI.out, HBB.out] at hc
      cases hid : s.id with
      | true =>
        rw [hid] at s2 HBI
        by_cases g1 : q.id < 1
        · have : bi = true := by rw [← HBI.out]; simp [g1]
          subst this
          rw [if_pos (.inl rfl)] at hc
          subst hc
          clear hid HBI
          go_wp2_with fail
          go_ret
          exact ⟨rfl, hbb4⟩
        · by_cases g2 : 6 < q.id
          · have : bi = true := by rw [← HBI.out]; simp [g2]
            subst this
            rw [if_pos (.inl rfl)] at hc
            subst hc
            clear hid HBI
            go_wp2_with fail
            go_ret
            exact ⟨rfl, hbb4⟩
          · have : bi = false := by rw [← HBI.out]; simp [g1, g2]
            subst this
            have hib := inBounds_any q s ap np cp w4 hs1 bb HBB
            unfold Shp.val at hib
            rw [hid] at hib
            have N4 := N4h.out
            have S4 := S4h.out
            clear hid HBI
            go_wp2_with fail
            refine hib.mono ?_
            clear hib
            rintro e w5 ⟨rfl, hb5⟩
            have HU5 := hid_of3 (HU4.out.on hb5)
            have hbb5 := hbb4.trans (hb5.mono hbb4.size)
            have N5 := N4.on hb5
            have S5 := S4.on hb5
            clear m0 m1 m2 m3 m4 m5 m6 m7 m8 mf0 mf1 mf2 mf3 mf4 mf5 mf6 mf7 mf8 mlt s0 s1 s2 s3 s4 s5 s6 sf0 sf1 sf2 sf3 sf4 sf5 sf6 slt
            obtain ⟨m0, m1, m2, m3, m4, m5, m6, m7, m8, mf0, mf1, mf2, mf3, mf4, mf5, mf6, mf7, mf8, mlt⟩ := N5
            obtain ⟨s0, s1, s2, s3, s4, s5, s6, sf0, sf1, sf2, sf3, sf4, sf5, sf6, slt⟩ := S5
            clear hb5 HU4 hbb4 N4 S4 N4h S4h
            cases bb with
            | false =>
              rw [if_pos (.inr rfl)] at hc
              subst hc
              go_wp2_with fail
              go_ret
              exact ⟨rfl, hbb5⟩
            | true =>
              rw [if_neg (by simp)] at hc
              cases hp : s.pic with
              | false =>
                rw [hp] at s6 hc
                rw [if_neg (by simp)] at hc
                subst hc
                clear hp
                go_wp2_with fail
                go_ret
                exact ⟨rfl, hbb5⟩
              | true =>
                rw [hp] at s6 hc
                rw [if_pos rfl] at hc
                have HC2 := hid_of3 hc
                clear hp hc
                go_wp2_with fail
                refine (check_any q.pw q.ph _ q.ps _ hps HU5 c HC2).mono ?_
                rintro e w6 ⟨rfl, hb6⟩
                have hbb6 := hbb5.trans (hb6.mono hbb5.size)
                clear hb6
                go_wp2_with fail
                go_ret
                exact ⟨rfl, hbb6⟩
      | false =>
        rw [hid] at s2 HBI
        have : bi = false := by rw [← HBI.out]; rfl
        subst this
        have hib := inBounds_any q s ap np cp w4 hs1 bb HBB
        unfold Shp.val at hib
        rw [hid] at hib
        have N4 := N4h.out
        have S4 := S4h.out
        clear hid HBI
        go_wp2_with fail
        refine hib.mono ?_
        clear hib
        rintro e w5 ⟨rfl, hb5⟩
        have HU5 := hid_of3 (HU4.out.on hb5)
        have hbb5 := hbb4.trans (hb5.mono hbb4.size)
        have N5 := N4.on hb5
        have S5 := S4.on hb5
        clear m0 m1 m2 m3 m4 m5 m6 m7 m8 mf0 mf1 mf2 mf3 mf4 mf5 mf6 mf7 mf8 mlt s0 s1 s2 s3 s4 s5 s6 sf0 sf1 sf2 sf3 sf4 sf5 sf6 slt
        obtain ⟨m0, m1, m2, m3, m4, m5, m6, m7, m8, mf0, mf1, mf2, mf3, mf4, mf5, mf6, mf7, mf8, mlt⟩ := N5
        obtain ⟨s0, s1, s2, s3, s4, s5, s6, sf0, sf1, sf2, sf3, sf4, sf5, sf6, slt⟩ := S5
        clear hb5 HU4 hbb4 N4 S4 N4h S4h
        cases bb with
        | false =>
          rw [if_pos (.inr rfl)] at hc
          subst hc
          go_wp2_with fail
          go_ret
          exact ⟨rfl, hbb5⟩
        | true =>
          rw [if_neg (by simp)] at hc
          cases hp : s.pic with
          | false =>
            rw [hp] at s6 hc
            rw [if_neg (by simp)] at hc
            subst hc
            clear hp
            go_wp2_with fail
            go_ret
            exact ⟨rfl, hbb5⟩
          | true =>
            rw [hp] at s6 hc
            rw [if_pos rfl] at hc
            have HC2 := hid_of3 hc
            clear hp hc
            go_wp2_with fail
            refine (check_any q.pw q.ph _ q.ps _ hps HU5 c HC2).mono ?_
            rintro e w6 ⟨rfl, hb6⟩
            have hbb6 := hbb5.trans (hb6.mono hbb5.size)
            clear hb6
            go_wp2_with fail
            go_ret
            exact ⟨rfl, hbb6⟩
end Go.Proofs.YtceabiodelfdoaaDoor
/- Lists of objects. -/
namespace Go.Proofs.YtceabiodelfdoaaDoor
open Go.RowKit

def Po.fault' (x : Po) : Nat := objC x.id x.x x.y x.pw x.ph x.ps x.cx x.cy x.cw x.ch
theorem getD_mem_po {os : List Po} {k : Nat} (h : k < os.length) : os.getD k po0 ∈ os := by
  rw [List.getD_eq_getElem?_getD, List.getElem?_eq_getElem h]
  simp
theorem all_mem {P : Po → Prop} (os : List Po) : (∀ j, j < os.length → P (os.getD j po0)) ↔ ∀ o ∈ os, P o := by
  constructor
  · intro h o ho
    obtain ⟨j, hj, e⟩ := List.mem_iff_getElem.1 ho
    have := h j hj
    rw [List.getD_eq_getElem?_getD, List.getElem?_eq_getElem hj] at this
    simp only [Option.getD_some] at this
    rw [e] at this
    exact this
  · intro h j hj
    exact h _ (getD_mem_po hj)
theorem setO_mem (x : Po) : ∀ (os : List Po), ∀ o ∈ setO os x, o = x ∨ o ∈ os := by
  intro os
  induction os with
  | nil => intro o ho; simp [setO] at ho; exact .inl ho
  | cons a r ih =>
    intro o ho
    unfold setO at ho
    split at ho
    · rcases List.mem_cons.1 ho with h | h
      · exact .inl h
      · exact .inr h
    · split at ho
      · rcases List.mem_cons.1 ho with h | h
        · exact .inl h
        · exact .inr (by simp [h])
      · rcases List.mem_cons.1 ho with h | h
        · exact .inr (by simp [h])
        · rcases ih o h with h | h
          · exact .inl h
          · exact .inr (by simp [h])
theorem setO_len (x : Po) : ∀ (os : List Po), (setO os x).length ≤ os.length + 1 := by
  intro os
  induction os with
  | nil => simp [setO]
  | cons a r ih =>
    unfold setO
    split
    · simp
    · split
      · simp
      · simpa using ih
theorem sort_tail {a : Po} {r : List Po} (h : SortO (a :: r)) : SortO r ∧ ∀ o ∈ r, a.id < o.id := by
  refine ⟨fun i j hij hj => ?_, ?_⟩
  · have := h (i + 1) (j + 1) (by omega) (by simpa using hj)
    rw [getD_succ, getD_succ] at this
    exact this
  · rw [← all_mem]
    intro j hj
    have := h 0 (j + 1) (by omega) (by simpa using hj)
    rw [getD_zero, getD_succ] at this
    exact this
theorem rdO_nil (w : World) : RdO w (.slice none 0 0) [] := ⟨none, 0, rfl, by simp, by omega, fun h => absurd rfl h⟩
end Go.Proofs.YtceabiodelfdoaaDoor
/- Pictures as lists: what is added and put. -/
namespace Go.Proofs.YtceabiodelfdoaaDoor
open Go.RowKit

theorem ch_len (f : Int × Int → Int × Int → Int × Int) (PW : Nat) (ps : List (Int × Int)) (QW QH : Nat) (qs : List (Int × Int)) (x y a b c d : Int) : (chL f PW ps QW QH qs x y a b c d).length = ps.length := grid_len _ _ _ _ _
theorem ch_getD (f : Int × Int → Int × Int → Int × Int) (PW : Nat) (ps : List (Int × Int)) (QW QH : Nat) (qs : List (Int × Int)) (x y a b c d : Int) (k : Nat) (hk : k < ps.length) :
    (chL f PW ps QW QH qs x y a b c d).getD k (0, 0) = if (hasB a b c d ((k % PW : Nat) : Int) ((k / PW : Nat) : Int) && hasB x y (QW : Int) (QH : Int) ((k % PW : Nat) : Int) ((k / PW : Nat) : Int)) = true then gq f PW ps QW qs x y k else ps.getD k (0, 0) := grid_getD _ _ _ _ _ _ hk
theorem getD_ok (ps : List (Int × Int)) (h : ∀ k, k < ps.length → pixOk (ps.getD k (0, 0))) (k : Nat) : pixOk (ps.getD k (0, 0)) := by
  by_cases hk : k < ps.length
  · exact h k hk
  · rw [List.getD_eq_getElem?_getD, List.getElem?_eq_none (by omega)]
    unfold pixOk; simp
theorem check_of (PW PH : Nat) (ps : List (Int × Int)) (h1 : 1 ≤ PW) (h2 : PW ≤ 8) (h3 : 1 ≤ PH) (h4 : PH ≤ 8) (hl : ps.length = PW * PH) (hok : ∀ k, k < ps.length → pixOk (ps.getD k (0, 0))) : checkL (PW : Int) (PH : Int) ps = 0 := by
  unfold checkL
  have hw : sideB (PW : Int) = true := by unfold sideB; simp; omega
  have hh : sideB (PH : Int) = true := by unfold sideB; simp; omega
  rw [if_neg (by simp [hw, hh]), if_neg (by rw [hl]; simp)]
  rw [if_pos]
  rw [List.all_eq_true]
  intro p hp
  obtain ⟨k, hk, he⟩ := List.getElem_of_mem hp
  have := hok k hk
  rw [List.getD_eq_getElem?_getD, List.getElem?_eq_getElem hk, Option.getD_some, he] at this
  unfold okPix shadeB
  unfold pixOk at this
  simp only [Bool.and_eq_true, decide_eq_true_eq]
  omega
theorem ch_check (f : Int × Int → Int × Int → Int × Int) (hf : ∀ p q, pixOk p → pixOk q → pixOk (f p q)) (PW PH : Nat) (ps : List (Int × Int)) (QW QH : Nat) (qs : List (Int × Int)) (x y a b c d : Int) (hp : checkL (PW : Int) (PH : Int) ps = 0) (hq : checkL (QW : Int) (QH : Int) qs = 0) :
    checkL (PW : Int) (PH : Int) (chL f PW ps QW QH qs x y a b c d) = 0 := by
  obtain ⟨PW', PH', e1, e2, h1, h2, h3, h4, hl, hok⟩ := check_zero _ _ _ hp
  obtain rfl : PW' = PW := by omega
  obtain rfl : PH' = PH := by omega
  obtain ⟨_, _, _, _, _, _, _, _, _, qok⟩ := check_zero _ _ _ hq
  refine check_of _ _ _ h1 h2 h3 h4 (by rw [ch_len]; exact hl) (fun k hk => ?_)
  rw [ch_len] at hk
  rw [ch_getD _ _ _ _ _ _ _ _ _ _ _ _ _ hk]
  split
  · exact hf _ _ (hok k hk) (getD_ok qs qok _)
  · exact hok k hk
theorem add_ok (p q : Int × Int) (_ : pixOk p) (_ : pixOk q) : pixOk (addP p q) := by unfold addP pixOk; simp only; omega
theorem put_ok (p q : Int × Int) (_ : pixOk p) (h : pixOk q) : pixOk ((fun (_ q : Int × Int) => q) p q) := h

theorem list_ext (a b : List (Int × Int)) (hl : a.length = b.length) (h : ∀ k, k < a.length → a.getD k (0, 0) = b.getD k (0, 0)) : a = b := by
  apply List.ext_getElem?
  intro k
  by_cases hk : k < a.length
  · have := h k hk
    rw [List.getD_eq_getElem?_getD, List.getD_eq_getElem?_getD, List.getElem?_eq_getElem hk, List.getElem?_eq_getElem (show k < b.length by omega)] at this
    rw [List.getElem?_eq_getElem hk, List.getElem?_eq_getElem (show k < b.length by omega)]
    exact congrArg some this
  · rw [List.getElem?_eq_none (by omega), List.getElem?_eq_none (by omega)]

theorem add_swap (p q r : Int × Int) : addP (addP p q) r = addP (addP p r) q := by
  unfold addP; simp only [Prod.mk.injEq]; omega
theorem chadd_swap (PW : Nat) (ps : List (Int × Int)) (QW QH : Nat) (qs : List (Int × Int)) (x y : Int) (RW RH : Nat) (rs : List (Int × Int)) (i j a b c d : Int) :
    chL addP PW (chL addP PW ps QW QH qs x y a b c d) RW RH rs i j a b c d = chL addP PW (chL addP PW ps RW RH rs i j a b c d) QW QH qs x y a b c d := by
  apply list_ext
  · simp only [ch_len]
  · intro k hk
    simp only [ch_len] at hk
    have A := ch_getD addP PW (chL addP PW ps QW QH qs x y a b c d) RW RH rs i j a b c d k (by rw [ch_len]; exact hk)
    have B := ch_getD addP PW (chL addP PW ps RW RH rs i j a b c d) QW QH qs x y a b c d k (by rw [ch_len]; exact hk)
    have C := ch_getD addP PW ps QW QH qs x y a b c d k hk
    have D := ch_getD addP PW ps RW RH rs i j a b c d k hk
    unfold gq at A B C D
    rw [A, B, C, D]
    generalize (hasB a b c d ((k % PW : Nat) : Int) ((k / PW : Nat) : Int) && hasB i j (RW : Int) (RH : Int) ((k % PW : Nat) : Int) ((k / PW : Nat) : Int)) = c1
    generalize (hasB a b c d ((k % PW : Nat) : Int) ((k / PW : Nat) : Int) && hasB x y (QW : Int) (QH : Int) ((k % PW : Nat) : Int) ((k / PW : Nat) : Int)) = c2
    cases c1 <;> cases c2 <;> simp [add_swap]

/-- so often added -/
def tmsL (n : Nat) (PW : Nat) (ps : List (Int × Int)) (QW QH : Nat) (qs : List (Int × Int)) (x y a b c d : Int) : List (Int × Int) :=
  chL (fun p q => ((p.1 + (n : Int) * q.1) % 256, (p.2 + (n : Int) * q.2) % 256)) PW ps QW QH qs x y a b c d
theorem tms_add (n : Nat) (p q : Int × Int) : addP ((p.1 + (n : Int) * q.1) % 256, (p.2 + (n : Int) * q.2) % 256) q = ((p.1 + ((n + 1 : Nat) : Int) * q.1) % 256, (p.2 + ((n + 1 : Nat) : Int) * q.2) % 256) := by
  have e : ∀ z : Int, ((n + 1 : Nat) : Int) * z = (n : Int) * z + z := by intro z; rw [Int.natCast_add, Int.add_mul]; simp
  rw [e, e]
  unfold addP
  simp only [Prod.mk.injEq]
  generalize (n : Int) * q.1 = t1
  generalize (n : Int) * q.2 = t2
  omega
theorem tms_step (n : Nat) (PW : Nat) (ps : List (Int × Int)) (QW QH : Nat) (qs : List (Int × Int)) (x y a b c d : Int) :
    chL addP PW (tmsL n PW ps QW QH qs x y a b c d) QW QH qs x y a b c d = tmsL (n + 1) PW ps QW QH qs x y a b c d := by
  apply list_ext
  · simp only [tmsL, ch_len]
  · intro k hk
    simp only [tmsL, ch_len] at hk
    have A := ch_getD addP PW (tmsL n PW ps QW QH qs x y a b c d) QW QH qs x y a b c d k (by unfold tmsL; rw [ch_len]; exact hk)
    have B := ch_getD (fun p q => ((p.1 + (n : Int) * q.1) % 256, (p.2 + (n : Int) * q.2) % 256)) PW ps QW QH qs x y a b c d k hk
    have C := ch_getD (fun p q => ((p.1 + ((n + 1 : Nat) : Int) * q.1) % 256, (p.2 + ((n + 1 : Nat) : Int) * q.2) % 256)) PW ps QW QH qs x y a b c d k hk
    unfold gq at A B C
    rw [A]
    unfold tmsL
    rw [B, C]
    generalize (hasB a b c d ((k % PW : Nat) : Int) ((k / PW : Nat) : Int) && hasB x y (QW : Int) (QH : Int) ((k % PW : Nat) : Int) ((k / PW : Nat) : Int)) = c2
    cases c2
    · simp
    · simp only [if_true]
      exact tms_add n _ _
theorem tms_end (n : Nat) (hn : n = 0 ∨ n = 256) (PW : Nat) (ps : List (Int × Int)) (QW QH : Nat) (qs : List (Int × Int)) (x y a b c d : Int) (hok : ∀ k, k < ps.length → pixOk (ps.getD k (0, 0))) : tmsL n PW ps QW QH qs x y a b c d = ps := by
  apply list_ext
  · simp only [tmsL, ch_len]
  · intro k hk
    simp only [tmsL, ch_len] at hk ⊢
    rw [ch_getD _ _ _ _ _ _ _ _ _ _ _ _ _ hk]
    split
    · have h := hok k hk
      unfold gq
      generalize qs.getD _ (0, 0) = q
      generalize ps.getD k (0, 0) = p at h ⊢
      obtain ⟨p1, p2⟩ := p
      obtain ⟨q1, q2⟩ := q
      unfold pixOk at h
      simp only [Prod.mk.injEq] at h ⊢
      rcases hn with rfl | rfl
      · simp; omega
      · have e : ∀ z : Int, ((256 : Nat) : Int) * z = 256 * z := fun z => rfl
        rw [e, e]
        omega
    · rfl
theorem tms_check (n : Nat) (PW PH : Nat) (ps : List (Int × Int)) (QW QH : Nat) (qs : List (Int × Int)) (x y a b c d : Int) (hp : checkL (PW : Int) (PH : Int) ps = 0) (hq : checkL (QW : Int) (QH : Int) qs = 0) :
    checkL (PW : Int) (PH : Int) (tmsL n PW ps QW QH qs x y a b c d) = 0 :=
  ch_check _ (fun p q _ _ => by
    unfold pixOk; simp only
    generalize (n : Int) * q.1 = t1
    generalize (n : Int) * q.2 = t2
    omega) _ _ _ _ _ _ _ _ _ _ _ _ hp hq
/-- put twice is put once -/
theorem chput_twice (PW : Nat) (ps : List (Int × Int)) (QW QH : Nat) (qs : List (Int × Int)) (x y a b c d : Int) :
    chL (fun _ q => q) PW (chL (fun _ q => q) PW ps QW QH qs x y a b c d) QW QH qs x y a b c d = chL (fun _ q => q) PW ps QW QH qs x y a b c d := by
  apply list_ext
  · simp only [ch_len]
  · intro k hk
    simp only [ch_len] at hk
    have A := ch_getD (fun _ q => q) PW (chL (fun _ q => q) PW ps QW QH qs x y a b c d) QW QH qs x y a b c d k (by rw [ch_len]; exact hk)
    have C := ch_getD (fun _ q => q) PW ps QW QH qs x y a b c d k hk
    unfold gq at A C
    rw [A, C]
    generalize (hasB a b c d ((k % PW : Nat) : Int) ((k / PW : Nat) : Int) && hasB x y (QW : Int) (QH : Int) ((k % PW : Nat) : Int) ((k / PW : Nat) : Int)) = c2
    cases c2 <;> simp
end Go.Proofs.YtceabiodelfdoaaDoor
/- What Do keeps: lists. -/
namespace Go.Proofs.YtceabiodelfdoaaDoor
open Go.RowKit

theorem sort_pair (os : List Po) : SortO os ↔ os.Pairwise (fun a b => a.id < b.id) := by
  rw [List.pairwise_iff_getElem]
  have e : ∀ k (hk : k < os.length), os.getD k po0 = os[k] := fun k hk => by rw [List.getD_eq_getElem?_getD, List.getElem?_eq_getElem hk]; rfl
  constructor
  · intro h i j hi hj hij
    have := h i j hij hj
    rw [e i hi, e j hj] at this
    exact this
  · intro h i j hij hj
    have := h i j (by omega) hj hij
    rw [e i (by omega), e j hj]
    exact this
theorem setO_sort (x : Po) (os : List Po) (h : SortO os) : SortO (setO os x) := by
  rw [sort_pair] at h ⊢
  induction os with
  | nil => simp [setO]
  | cons a r ih =>
    rw [List.pairwise_cons] at h
    unfold setO
    split
    · rename_i hx
      rw [List.pairwise_cons]
      refine ⟨fun b hb => ?_, by rw [List.pairwise_cons]; exact h⟩
      rcases List.mem_cons.1 hb with rfl | hb
      · exact hx
      · have := h.1 b hb
        omega
    · split
      · rename_i he
        rw [List.pairwise_cons]
        exact ⟨fun b hb => by have := h.1 b hb; omega, h.2⟩
      · rw [List.pairwise_cons]
        refine ⟨fun b hb => ?_, ih h.2⟩
        rcases setO_mem x r b hb with rfl | hb
        · omega
        · exact h.1 b hb
theorem dropO_sort (os : List Po) (t : Int) (h : SortO os) : SortO (dropO os t) := by
  rw [sort_pair] at h ⊢
  exact h.filter _
theorem find_set (x : Po) (t : Int) (hx : x.id ≠ t) : ∀ os : List Po, (setO os x).find? (fun o => decide (o.id = t)) = os.find? (fun o => decide (o.id = t)) := by
  intro os
  induction os with
  | nil => simp [setO, hx]
  | cons a r ih =>
    unfold setO
    split
    · rw [List.find?_cons_of_neg (by simpa using hx)]
    · split
      · rename_i he
        rw [List.find?_cons_of_neg (by simpa using hx), List.find?_cons_of_neg (by simp; omega)]
      · by_cases ha : a.id = t
        · rw [List.find?_cons_of_pos (by simpa using ha), List.find?_cons_of_pos (by simpa using ha)]
        · rw [List.find?_cons_of_neg (by simpa using ha), List.find?_cons_of_neg (by simpa using ha), ih]
theorem find_drop (d t : Int) (hd : d ≠ t) : ∀ os : List Po, (dropO os d).find? (fun o => decide (o.id = t)) = os.find? (fun o => decide (o.id = t)) := by
  intro os
  unfold dropO
  induction os with
  | nil => rfl
  | cons a r ih =>
    by_cases ha : a.id = d
    · rw [List.filter_cons_of_neg (by simp [ha]), ih, List.find?_cons_of_neg (by simp; omega)]
    · rw [List.filter_cons_of_pos (by simp [ha])]
      by_cases h2 : a.id = t
      · rw [List.find?_cons_of_pos (by simpa using h2), List.find?_cons_of_pos (by simpa using h2)]
      · rw [List.find?_cons_of_neg (by simpa using h2), List.find?_cons_of_neg (by simpa using h2), ih]

/-- what an op that may be has -/
theorem op_shape (q : Pq) (h : opC q = 0) (s : Shp) (hs : kindAt q.kind shps = some s) : (forL q s).any (fun n => decide (n ≠ 0)) = false ∧ (s.id = true → 1 ≤ q.id ∧ q.id ≤ 6) ∧ inB q s = true ∧ (s.pic = true → checkL q.pw q.ph q.ps = 0) := by
  unfold opC at h
  rw [hs] at h
  simp only at h
  split at h
  · omega
  · rename_i h1
    split at h
    · omega
    · rename_i h2
      refine ⟨by simpa using h1, fun hi => ?_, ?_, fun hp => ?_⟩
      · rw [hi] at h2
        simp at h2
        omega
      · cases hb : inB q s with
        | true => rfl
        | false => exact absurd (.inr hb) h2
      · rw [if_pos hp] at h
        exact h
theorem op_pic (q : Pq) (h : opC q = 0) (hk : q.kind = 8 ∨ q.kind = 9) : checkL q.pw q.ph q.ps = 0 ∧ -20 ≤ q.a ∧ q.a ≤ 20 ∧ -20 ≤ q.b ∧ q.b ≤ 20 := by
  rcases hk with hk | hk
  · obtain ⟨_, _, h3, h4⟩ := op_shape q h ⟨8, [80, 65, 68, 68], true, 2, (-20), 20, true⟩ (by rw [hk]; rfl)
    refine ⟨h4 rfl, ?_⟩
    simp [inB, nums4] at h3
    omega
  · obtain ⟨_, _, h3, h4⟩ := op_shape q h ⟨9, [80, 80, 85, 84], true, 2, (-20), 20, true⟩ (by rw [hk]; rfl)
    refine ⟨h4 rfl, ?_⟩
    simp [inB, nums4] at h3
    omega
theorem op_pict (q : Pq) (h : opC q = 0) (hk : q.kind = 2) : checkL q.pw q.ph q.ps = 0 ∧ 1 ≤ q.id ∧ q.id ≤ 6 := by
  obtain ⟨_, h2, _, h4⟩ := op_shape q h ⟨2, [80, 73, 67, 84], true, 0, 0, 0, true⟩ (by rw [hk]; rfl)
  exact ⟨h4 rfl, h2 rfl⟩
theorem op_move (q : Pq) (h : opC q = 0) (hk : q.kind = 3) : -20 ≤ q.a ∧ q.a ≤ 20 ∧ -20 ≤ q.b ∧ q.b ≤ 20 := by
  obtain ⟨_, _, h3, _⟩ := op_shape q h ⟨3, [77, 79, 86, 69], true, 2, (-20), 20, false⟩ (by rw [hk]; rfl)
  simp [inB, nums4] at h3
  omega
theorem op_clip (q : Pq) (h : opC q = 0) (hk : q.kind = 4) : rectC q.a q.b q.c q.d = 0 := by
  obtain ⟨_, _, h3, _⟩ := op_shape q h ⟨4, [67, 76, 73, 80], true, 4, 0, 0, false⟩ (by rw [hk]; rfl)
  simpa [inB] using h3
theorem op_copy (q : Pq) (h : opC q = 0) (hk : q.kind = 6) : 1 ≤ q.a ∧ q.a ≤ 6 := by
  obtain ⟨_, _, h3, _⟩ := op_shape q h ⟨6, [67, 79, 80, 89], true, 1, 1, 6, false⟩ (by rw [hk]; rfl)
  simp [inB, nums4] at h3
  omega

theorem fault_iff (o : Po) : o.fault' = 0 ↔ (1 ≤ o.id ∧ o.id ≤ 6) ∧ rectC o.x o.y 0 0 = 0 ∧ rectC o.cx o.cy o.cw o.ch = 0 ∧ checkL o.pw o.ph o.ps = 0 := by
  unfold Po.fault' objC
  have r1 := rectC_cases o.x o.y 0 0
  have r2 := rectC_cases o.cx o.cy o.cw o.ch
  constructor
  · intro h
    split at h
    · omega
    split at h
    · omega
    split at h
    · omega
    exact ⟨by omega, by omega, by omega, h⟩
  · rintro ⟨h1, h2, h3, h4⟩
    rw [if_neg (by omega), if_neg (by omega), if_neg (by omega)]
    exact h4
theorem check_len (W H : Int) (ps : List (Int × Int)) (h : checkL W H ps = 0) : ps.length ≤ 64 := by
  obtain ⟨PW, PH, _, _, _, p2, _, p4, p5, _⟩ := check_zero _ _ _ h
  have := Nat.mul_le_mul p2 p4
  omega
/-- an object that is changed may be -/
theorem act_good (q : Pq) (h : opC q = 0) (o x : Po) (ho : o.fault' = 0) (hx : actO q o = some x) : x.fault' = 0 := by
  rw [fault_iff] at ho ⊢
  obtain ⟨h1, h2, h3, h4⟩ := ho
  obtain ⟨PW, PH, e1, e2, p1, p2, p3, p4, p5, _⟩ := check_zero _ _ _ h4
  unfold actO at hx
  split at hx
  · rename_i hk
    obtain rfl := Option.some.inj hx
    have := op_move q h hk
    exact ⟨h1, by show rectC q.a q.b 0 0 = 0; rw [rectC_zero]; omega, h3, h4⟩
  split at hx
  · rename_i hk
    obtain rfl := Option.some.inj hx
    exact ⟨h1, h2, op_clip q h hk, h4⟩
  split at hx
  · obtain rfl := Option.some.inj hx
    exact ⟨h1, h2, h3, h4⟩
  split at hx
  · rename_i hk
    obtain rfl := Option.some.inj hx
    exact ⟨op_copy q h hk, h2, h3, h4⟩
  split at hx
  · rename_i hk
    obtain rfl := Option.some.inj hx
    obtain ⟨zc, z1, z2, z3, z4⟩ := op_pic q h (.inl hk)
    obtain ⟨ZW, ZH, e3, e4, _⟩ := check_zero _ _ _ zc
    refine ⟨h1, h2, h3, ?_⟩
    show checkL o.pw o.ph (chL addP o.pw.toNat o.ps q.pw.toNat q.ph.toNat q.ps q.a q.b 0 0 o.pw o.ph) = 0
    rw [e1, e2] at h4 ⊢
    rw [e3, e4] at zc ⊢
    exact ch_check _ add_ok PW PH o.ps _ _ q.ps q.a q.b 0 0 _ _ h4 (by simpa using zc)
  split at hx
  · rename_i hk
    obtain rfl := Option.some.inj hx
    obtain ⟨zc, z1, z2, z3, z4⟩ := op_pic q h (.inr hk)
    obtain ⟨ZW, ZH, e3, e4, _⟩ := check_zero _ _ _ zc
    refine ⟨h1, h2, h3, ?_⟩
    show checkL o.pw o.ph (chL (fun _ z => z) o.pw.toNat o.ps q.pw.toNat q.ph.toNat q.ps q.a q.b 0 0 o.pw o.ph) = 0
    rw [e1, e2] at h4 ⊢
    rw [e3, e4] at zc ⊢
    exact ch_check _ (fun _ _ _ h => h) PW PH o.ps _ _ q.ps q.a q.b 0 0 _ _ h4 (by simpa using zc)
  · cases hx
end Go.Proofs.YtceabiodelfdoaaDoor
/- Walks of the reference's picture: PictureFault, byteAt, guess. -/
namespace Go.Proofs.YtceabiodelfdoaaDoor
open Go.RowKit

set_option maxRecDepth 100000 in
theorem side_false1 {n : Int} (h : n < 1) : sideB n = false := by unfold sideB; simp; omega
set_option maxRecDepth 100000 in
theorem side_false8 {n : Int} (h : 8 < n) : sideB n = false := by unfold sideB; simp; omega
set_option maxRecDepth 100000 in
theorem side_true {n : Int} (h1 : ¬ n < 1) (h2 : ¬ 8 < n) : sideB n = true := by unfold sideB; simp; omega

set_option maxHeartbeats 2000000 in
set_option maxRecDepth 100000 in
theorem fault_any (W H : Int) (v : Value) (ps : List (Int × Int)) (w : World) (hps : ps.length ≤ 1000000000) (HR : Hid (RdP w v ps)) (c : Nat) (HC : Hid (checkL W H ps = c)) :
    Calls Tryd.prog 32 #[.agg #[.int .i64 W, .int .i64 H, v]] w fun e w' => e = .returned (.int .i64 (c : Int)) ∧ Below w.heap.size w w' := by
  by_cases h1 : W < 1
  · have hc : c = 1 := by rw [← HC.out]; unfold checkL; rw [if_pos (.inl (side_false1 h1))]
    subst hc
    go_enter Tryd.func32, Tryd.ntmps32
    go_wp2_with fail
    go_ret
    exact ⟨rfl, (Below.refl _ _).alloc (Nat.le_refl _) _⟩
  by_cases h2 : 8 < W
  · have hc : c = 1 := by rw [← HC.out]; unfold checkL; rw [if_pos (.inl (side_false8 h2))]
    subst hc
    go_enter Tryd.func32, Tryd.ntmps32
    go_wp2_with fail
    go_ret
    exact ⟨rfl, (Below.refl _ _).alloc (Nat.le_refl _) _⟩
  by_cases h3 : H < 1
  · have hc : c = 1 := by rw [← HC.out]; unfold checkL; rw [if_pos (.inr (side_false1 h3))]
    subst hc
    go_enter Tryd.func32, Tryd.ntmps32
    go_wp2_with fail
    go_ret
    exact ⟨rfl, (Below.refl _ _).alloc (Nat.le_refl _) _⟩
  by_cases h4 : 8 < H
  · have hc : c = 1 := by rw [← HC.out]; unfold checkL; rw [if_pos (.inr (side_false8 h4))]
    subst hc
    go_enter Tryd.func32, Tryd.ntmps32
    go_wp2_with fail
    go_ret
    exact ⟨rfl, (Below.refl _ _).alloc (Nat.le_refl _) _⟩
  have hw := side_true h1 h2
  have hh := side_true h3 h4
  have hW1 : 1 ≤ W := by omega
  have hW8 : W ≤ 8 := by omega
  have hH1 : 1 ≤ H := by omega
  have hH8 : H ≤ 8 := by omega
  have HC2 : Hid ((if (ps.length : Int) ≠ W * H then 3 else if ps.all okPix then 0 else 1) = c) := by
    unfold Hid; rw [← HC.out]; unfold checkL; simp only [hw, hh]; simp
  clear hw hh h1 h2 h3 h4
  obtain ⟨M, HM⟩ : ∃ M : Nat, Hid (W * H = (M : Int)) := ⟨(W * H).toNat, by unfold Hid; have := Int.mul_nonneg (show 0 ≤ W by omega) (show 0 ≤ H by omega); omega⟩
  have hm64 : M ≤ 64 := by
    have h1 : W * H ≤ 8 * 8 := Int.mul_le_mul hW8 hH8 (by omega) (by omega)
    have := HM.out; omega
  have hm1 : 1 ≤ M := by
    have h1 : 1 * 1 ≤ W * H := Int.mul_le_mul hW1 hH1 (by omega) (by omega)
    have := HM.out; omega
  have hmul : W * H = (M : Int) := HM.out
  obtain ⟨a, cap, rfl, hcap, hcap2, HCL⟩ := HR.out
  have HCL' : Hid (ps ≠ [] → ∃ g off, a = some ⟨g, off, none⟩ ∧ g < w.heap.size ∧ ∀ j, j < ps.length → w.cell? ⟨g, off + j * 2, none⟩ = some (.int .i64 (ps.getD j (0, 0)).1) ∧ w.cell? ⟨g, off + j * 2 + 1, none⟩ = some (.int .i64 (ps.getD j (0, 0)).2)) := HCL
  clear HCL HR
  by_cases hne : ps.length = M
  · have hneb : ((ps.length : Int) != (M : Int)) = false := by rw [bne_eq_false_iff_eq]; omega
    have HC3 : Hid ((if ps.all okPix then 0 else 1) = c) := by
      unfold Hid; rw [← HC2.out, if_neg (show ¬ (ps.length : Int) ≠ W * H by rw [HM.out]; omega)]
    have hpne : ps ≠ [] := by intro e; rw [e] at hne; simp at hne; omega
    obtain ⟨g, off, rfl, hg, hcell⟩ := HCL'.out hpne
    have HCE : Hid (∀ j, j < ps.length → w.cell? ⟨g, off + j * 2, none⟩ = some (.int .i64 (ps.getD j (0, 0)).1) ∧ w.cell? ⟨g, off + j * 2 + 1, none⟩ = some (.int .i64 (ps.getD j (0, 0)).2)) := hcell
    have HNE : Hid (ps.length = M) := hne
    clear hcell HCL' hpne
    rw [hne] at hcap hps hneb ⊢
    clear hne
    have HT := three_start w (.int .i64 W) (.int .i64 H) (.slice (some ⟨g, off, none⟩) M cap) 43
    go_enter Tryd.func32, Tryd.ntmps32
    go_wp2_with fail
    go_loopw [3] (fun i wr => ∃ k : Nat, k ≤ M ∧ i = .int .i64 k ∧ Below w.heap.size w wr ∧ Hid (Three wr w.heap.size (.int .i64 W) (.int .i64 H) (.slice (some ⟨g, off, none⟩) M cap)) ∧ Hid (ps.all okPix = (ps.drop k).all okPix)) (fun i _ => M - (intOf i).toNat)
    case atStart => exact ⟨0, by omega, rfl, (Below.refl _ _).alloc (Nat.le_refl _) _, HT, (rfl : _ = _)⟩
    case round =>
      obtain ⟨k, hk, rfl, hb, HTR, HK⟩ := hrel
      obtain ⟨t0, t1, t2, f0, f1, f2, tl⟩ := HTR.out
      by_cases hlt : k < M
      · have hc := HCE.out k (by rw [HNE.out]; exact hlt)
        obtain ⟨p, HP⟩ : ∃ p, Hid (ps.getD k (0, 0) = p) := ⟨_, (rfl : _ = _)⟩
        rw [HP.out] at hc
        obtain ⟨pv, pa⟩ := p
        obtain ⟨hc0, hc1⟩ := hc
        have hd0 : wr.cell? ⟨g, off + k * 2, none⟩ = some (.int .i64 pv) := by rw [hb.cell (p := ⟨g, off + k * 2, none⟩) hg, hc0]
        have hd1 : wr.cell? ⟨g, off + k * 2 + 1, none⟩ = some (.int .i64 pa) := by rw [hb.cell (p := ⟨g, off + k * 2 + 1, none⟩) hg, hc1]
        clear hc0 hc1
        have HS : Hid ((ps.drop k).all okPix = (shadeB pv && shadeB pa && (ps.drop (k + 1)).all okPix)) := by
          unfold Hid; rw [drop_pix ps k (by rw [HNE.out]; exact hlt), HP.out, List.all_cons]; rfl
        have HBAD : Hid (shadeB pv = false ∨ shadeB pa = false → c = 1) := by
          unfold Hid
          intro h
          rw [← HC3.out, HK.out, HS.out]
          rcases h with h | h <;> rw [h] <;> simp
        by_cases g1 : pv < 0
        · have hc : c = 1 := HBAD.out (.inl (by unfold shadeB; simp; omega))
          subst hc
          go_wp2_with fail
          go_ret
          exact ⟨rfl, hb.alloc hb.size _⟩
        by_cases g2 : 255 < pv
        · have hc : c = 1 := HBAD.out (.inl (by unfold shadeB; simp; omega))
          subst hc
          go_wp2_with fail
          go_ret
          exact ⟨rfl, hb.alloc hb.size _⟩
        by_cases g3 : pa < 0
        · have hc : c = 1 := HBAD.out (.inr (by unfold shadeB; simp; omega))
          subst hc
          go_wp2_with fail
          go_ret
          exact ⟨rfl, hb.alloc hb.size _⟩
        by_cases g4 : 255 < pa
        · have hc : c = 1 := HBAD.out (.inr (by unfold shadeB; simp; omega))
          subst hc
          go_wp2_with fail
          go_ret
          exact ⟨rfl, hb.alloc hb.size _⟩
        have HN : Hid (ps.all okPix = (ps.drop (k + 1)).all okPix) := by
          unfold Hid
          rw [HK.out, HS.out, show shadeB pv = true by unfold shadeB; simp; omega, show shadeB pa = true by unfold shadeB; simp; omega]; simp
        have HT2 := HTR.out.alloc (.cells #[.int .i64 pv, .int .i64 pa] 110)
        go_wp2_with fail
        go_roundw
        case rel => exact ⟨k + 1, by omega, by go_num, hb.alloc hb.size _, HT2, HN⟩
        case measure => simp [intOf]; omega
      · have hc : c = 0 := by
          rw [← HC3.out, HK.out, List.drop_eq_nil_of_le (by rw [HNE.out]; omega)]; simp
        subst hc
        go_wp2_with fail
        go_ret
        exact ⟨rfl, hb⟩
  · have hneb : ((ps.length : Int) != (M : Int)) = true := by rw [bne_iff_ne]; omega
    have hc : c = 3 := by rw [← HC2.out, if_pos (show (ps.length : Int) ≠ W * H by rw [HM.out]; omega)]
    subst hc
    go_enter Tryd.func32, Tryd.ntmps32
    go_wp2_with fail
    go_ret
    exact ⟨rfl, (Below.refl _ _).alloc (Nat.le_refl _) _⟩
end Go.Proofs.YtceabiodelfdoaaDoor
/- Walks of the reference's picture: PictureFault, byteAt, guess. -/
namespace Go.Proofs.YtceabiodelfdoaaDoor
open Go.RowKit

end Go.Proofs.YtceabiodelfdoaaDoor
/- Walks of the reference's Over and ObjectFault. -/
namespace Go.Proofs.YtceabiodelfdoaaDoor
open Go.RowKit

theorem rectC_out1 (x y : Int) (h : x < -20 ∨ 20 < x ∨ y < -20 ∨ 20 < y) : rectC x y 0 0 = 1 := by
  rcases rectC_cases x y 0 0 with r | r
  · rw [rectC_zero] at r; omega
  · exact r
end Go.Proofs.YtceabiodelfdoaaDoor
/- Walk: LightObjects. -/
namespace Go.Proofs.YtceabiodelfdoaaDoor
open Go.RowKit

def Po.fault (x : Po) : Nat := objC x.id x.x x.y x.pw x.ph x.ps x.cx x.cy x.cw x.ch
/-- objects that may be, in order, few and small -/
structure GoodO (os : List Po) : Prop where
  few : os.length ≤ 6
  pix : ∀ j, j < os.length → (os.getD j po0).ps.length ≤ 80
  ok : ∀ j, j < os.length → (os.getD j po0).fault = 0
  sort : SortO os

theorem sort_adj (os : List Po) (h : ∀ j, j + 1 < os.length → (os.getD j po0).id < (os.getD (j + 1) po0).id) : SortO os := by
  intro i j hij
  induction j with
  | zero => omega
  | succ j ih =>
    intro hj
    have h1 := h j hj
    rcases Nat.lt_or_ge i j with h2 | h2
    · have := ih h2 (by omega)
      omega
    · have : i = j := by omega
      subst this
      exact h1

def LightQ (os : List Po) (w : World) (e : Ending) (w' : World) : Prop := ∃ b, e = .returned (.bool b) ∧ (b = true → GoodO os) ∧ Below w.heap.size w w'

theorem wrap_s {x : Int} (h1 : 0 ≤ x) (h2 : x ≤ 1000000) : IntKind.i64.wrap x = x := by
  rw [IntKind.wrap_i64]
  omega
theorem lightQ_no {os : List Po} {w w' : World} (h : Below w.heap.size w w') : LightQ os w (.returned (.bool false)) w' := ⟨false, rfl, (by intro h; cases h), h⟩

end Go.Proofs.YtceabiodelfdoaaDoor
/- Lists of objects: what Do gives, what is found. -/
namespace Go.Proofs.YtceabiodelfdoaaDoor
open Go.RowKit

/-- what Do gives where the op may be -/
theorem do_good (os : List Po) (q : Pq) (hg : GoodO os) (h : opC q = 0) (rs : List Po) (hr : doO os q = .inl rs) : (∀ o ∈ rs, o.fault' = 0 ∧ o.ps.length ≤ 80) ∧ SortO rs ∧ rs.length ≤ 100 := by
  have hm := fun o ho => ((all_mem (P := fun o => o.fault = 0) os).1 hg.ok o ho : o.fault' = 0)
  have h80 : ∀ o : Po, o.fault' = 0 → o.fault' = 0 ∧ o.ps.length ≤ 80 := fun o ho => ⟨ho, by have := check_len _ _ _ ((fault_iff o).1 ho).2.2.2; omega⟩
  have hf := hg.few
  have hset : ∀ x : Po, x.fault' = 0 → (∀ o ∈ setO os x, o.fault' = 0 ∧ o.ps.length ≤ 80) ∧ SortO (setO os x) ∧ (setO os x).length ≤ 100 := fun x hx =>
    ⟨fun o ho => by
      rcases setO_mem x os o ho with rfl | ho
      · exact h80 _ hx
      · exact h80 o (hm o ho), setO_sort x os hg.sort, by have := setO_len x os; omega⟩
  unfold doO at hr
  split at hr
  · rename_i hk
    obtain rfl := Sum.inl.inj hr
    obtain ⟨h1, h2⟩ := op_pict q h hk
    exact hset _ ((fault_iff _).2 ⟨h2, by show rectC 0 0 0 0 = 0; decide, by show rectC 0 0 20 20 = 0; decide, h1⟩)
  · split at hr
    · cases hr
    · rename_i o ho
      have hom := List.mem_of_find?_eq_some ho
      split at hr
      · obtain rfl := Sum.inl.inj hr
        exact ⟨fun z hz => h80 z (hm z (List.mem_filter.1 hz).1), dropO_sort os _ hg.sort, by have := List.length_filter_le (fun o : Po => decide (o.id ≠ q.id)) os; unfold dropO; omega⟩
      · split at hr
        · cases hr
        · rename_i x hx
          obtain rfl := Sum.inl.inj hr
          exact hset x (act_good q h o x (hm o hom) hx)
theorem do_pre (os : List Po) (q : Pq) (hg : GoodO os) (h : opC q = 0) (hq : q.ps.length ≤ 80) : DoPre os q :=
  ⟨by have := hg.few; omega, fun j hj => by have := hg.pix j hj; omega, hg.sort, fun j hj => ((fault_iff _).1 (hg.ok j hj)).2.2.2, by omega, op_pic q h⟩
/-- another object is found as before -/
theorem do_find (os : List Po) (q : Pq) (rs : List Po) (hr : doO os q = .inl rs) (t : Int) (h1 : q.id ≠ t) (h2 : ¬ (q.kind = 6 ∧ q.a = t)) : rs.find? (fun o => decide (o.id = t)) = os.find? (fun o => decide (o.id = t)) := by
  unfold doO at hr
  split at hr
  · obtain rfl := Sum.inl.inj hr
    exact find_set _ t h1 os
  · split at hr
    · cases hr
    · rename_i o ho
      have hoi : o.id = q.id := by simpa using List.find?_some ho
      split at hr
      · obtain rfl := Sum.inl.inj hr
        exact find_drop _ t h1 os
      · split at hr
        · cases hr
        · rename_i x hx
          obtain rfl := Sum.inl.inj hr
          refine find_set x t ?_ os
          unfold actO at hx
          split at hx
          · obtain rfl := Option.some.inj hx; show o.id ≠ t; omega
          split at hx
          · obtain rfl := Option.some.inj hx; show o.id ≠ t; omega
          split at hx
          · obtain rfl := Option.some.inj hx; show o.id ≠ t; omega
          split at hx
          · rename_i hk
            obtain rfl := Option.some.inj hx
            intro e
            exact h2 ⟨hk, e⟩
          split at hx
          · obtain rfl := Option.some.inj hx; show o.id ≠ t; omega
          split at hx
          · obtain rfl := Option.some.inj hx; show o.id ≠ t; omega
          · cases hx
/-- Get's answer, by find? -/
theorem get_find {os : List Po} {t : Int} {w : World} {e : Ending} {w' : World} (h : GetP os t w e w') (hs : SortO os) : Below w.heap.size w w' ∧ ((∃ o u, os.find? (fun o => decide (o.id = t)) = some o ∧ o ∈ os ∧ e = .returned (.tuple #[poV o u, .bool true]) ∧ RdP w' u o.ps) ∨ (os.find? (fun o => decide (o.id = t)) = none ∧ e = .returned (.tuple #[poV po0 (.slice none 0 0), .bool false]))) := by
  obtain ⟨hb, h⟩ := h
  refine ⟨hb, ?_⟩
  rcases h with ⟨i, u, hi, hit, he, ho⟩ | ⟨hno, he⟩
  · exact .inl ⟨_, u, find_at os t hs i hi hit, getD_mem_po hi, he, rdP_own ho⟩
  · exact .inr ⟨find_no os t hno, he⟩

theorem good_mem2 {os : List Po} (h : GoodO os) : ∀ o ∈ os, o.ps.length ≤ 80 := fun o ho => (all_mem (P := fun o => o.ps.length ≤ 80) os).1 h.pix o ho
/-- objects that may be, in order -/
structure FineO (os : List Po) : Prop where
  ok : ∀ o ∈ os, o.fault' = 0
  sort : SortO os
theorem FineO.few {os : List Po} (h : FineO os) : os.length ≤ 6 := by
  have hid : ∀ j, j < os.length → (j : Int) + 1 ≤ (os.getD j po0).id := by
    intro j
    induction j with
    | zero => intro hj; have := ((fault_iff _).1 (h.ok _ (getD_mem_po hj))).1.1; omega
    | succ j ih =>
      intro hj
      have h1 := ih (by omega)
      have h2 := h.sort j (j + 1) (by omega) hj
      omega
  rcases Nat.eq_zero_or_pos os.length with h0 | h0
  · omega
  · have h1 := hid (os.length - 1) (by omega)
    have h2 := ((fault_iff _).1 (h.ok _ (getD_mem_po (k := os.length - 1) (by omega)))).1.2
    omega
theorem FineO.good {os : List Po} (h : FineO os) : GoodO os :=
  ⟨h.few, (all_mem (P := fun o => o.ps.length ≤ 80) os).2 (fun o ho => by have := check_len _ _ _ ((fault_iff o).1 (h.ok o ho)).2.2.2; omega), (all_mem (P := fun o => o.fault = 0) os).2 h.ok, h.sort⟩
theorem GoodO.fine {os : List Po} (h : GoodO os) : FineO os := ⟨fun o ho => ((all_mem (P := fun o => o.fault = 0) os).1 h.ok o ho : o.fault' = 0), h.sort⟩
theorem do_fine {os : List Po} {q : Pq} (hg : FineO os) (h : opC q = 0) {rs : List Po} (hr : doO os q = .inl rs) : FineO rs := by
  obtain ⟨h1, h2, _⟩ := do_good os q hg.good h rs hr
  exact ⟨fun o ho => (h1 o ho).1, h2⟩
end Go.Proofs.YtceabiodelfdoaaDoor
/- An op that is handed in, opened. -/
namespace Go.Proofs.YtceabiodelfdoaaDoor
open Go.ChangeShapes Go.WideShapes Go.ChangeAt Go.RowKit Go.Joins Go.Deep

theorem Tryd.cellsOp : Tryd.prog.cellsOf 45 = 9 := by kernel_rfl

set_option maxRecDepth 100000 in
theorem cells_op {H : Type} {enc : TypeId × Value → H} {W : World} {cs : List Value} {fuel : Nat} {z : DataW H × List MemPlace} (hl : cs.length = 9)
    (h : DataW.trod enc Tryd.prog W 0 (fun _ => true) true fuel 45 cs = some z) :
    ∃ (q : Pq) (u : Value), cs = [.int .i64 q.kind, .int .i64 q.id, .int .i64 q.a, .int .i64 q.b, .int .i64 q.c, .int .i64 q.d, .int .i64 q.pw, .int .i64 q.ph, u] ∧ RdP W u q.ps := by
  obtain ⟨xs, n, _, rfl, hl', hlen, hf⟩ := DataW.trod_struct Tryd.underlying45 h
  match cs, hl with
  | [c0, c1, c2, c3, c4, c5, c6, c7, c8], _ =>
    match xs, hlen with
    | [y0, y1, y2, y3, y4, y5, y6], _ =>
      have h0 : DataW.trod enc Tryd.prog W 0 (fun _ => true) true n 3 [c0] = some y0 := by have := hf 0 _ rfl; simpa [Tryd.cellsInt] using this
      have h1 : DataW.trod enc Tryd.prog W 0 (fun _ => true) true n 3 [c1] = some y1 := by have := hf 1 _ rfl; simpa [Tryd.cellsInt] using this
      have h2 : DataW.trod enc Tryd.prog W 0 (fun _ => true) true n 3 [c2] = some y2 := by have := hf 2 _ rfl; simpa [Tryd.cellsInt] using this
      have h3 : DataW.trod enc Tryd.prog W 0 (fun _ => true) true n 3 [c3] = some y3 := by have := hf 3 _ rfl; simpa [Tryd.cellsInt] using this
      have h4 : DataW.trod enc Tryd.prog W 0 (fun _ => true) true n 3 [c4] = some y4 := by have := hf 4 _ rfl; simpa [Tryd.cellsInt] using this
      have h5 : DataW.trod enc Tryd.prog W 0 (fun _ => true) true n 3 [c5] = some y5 := by have := hf 5 _ rfl; simpa [Tryd.cellsInt] using this
      have h6 : DataW.trod enc Tryd.prog W 0 (fun _ => true) true n 43 [c6, c7, c8] = some y6 := by have := hf 6 _ rfl; simpa [Tryd.cellsPic] using this
      obtain ⟨z0, z1, z2, m, _, _, p0, p1, p2⟩ := trod_struct3 Tryd.underlying43 h6
      simp only [Tryd.cellsInt] at p0 p1
      have p2' : DataW.trod enc Tryd.prog W 0 (fun _ => true) true m 41 [c8] = some z2 := by simpa [Tryd.cellsSl] using p2
      obtain ⟨ps, hps⟩ := view_pix p2'
      obtain ⟨i0, e0, _, _⟩ := DataW.trod_int Tryd.underlying3 h0
      obtain ⟨i1, e1, _, _⟩ := DataW.trod_int Tryd.underlying3 h1
      obtain ⟨i2, e2, _, _⟩ := DataW.trod_int Tryd.underlying3 h2
      obtain ⟨i3, e3, _, _⟩ := DataW.trod_int Tryd.underlying3 h3
      obtain ⟨i4, e4, _, _⟩ := DataW.trod_int Tryd.underlying3 h4
      obtain ⟨i5, e5, _, _⟩ := DataW.trod_int Tryd.underlying3 h5
      obtain ⟨i6, e6, _, _⟩ := DataW.trod_int Tryd.underlying3 p0
      obtain ⟨i7, e7, _, _⟩ := DataW.trod_int Tryd.underlying3 p1
      simp at e0 e1 e2 e3 e4 e5 e6 e7
      subst e0 e1 e2 e3 e4 e5 e6 e7
      exact ⟨⟨i0, i1, i2, i3, i4, i5, i6, i7, ps⟩, c8, rfl, hps⟩

set_option maxRecDepth 100000 in
theorem open_op {H : Type} {enc : TypeId × Value → H} {W : World} {r : Reach} {b0 : Nat} {v : Value} {d : DataW H} {p : List MemPlace} (hv : Value.okWide Tryd.prog W r b0 45 v)
    (h : DataW.Trod enc Tryd.prog W 0 (fun _ => true) true 45 v d p) : ∃ (q : Pq) (u : Value), v = opV q u ∧ RdP W u q.ps := by
  obtain ⟨cs, rfl, hsz⟩ := okWide_struct Tryd.underlying45 hv
  obtain ⟨fuel, hf⟩ := h
  obtain ⟨q, u, e, hps⟩ := cells_op (cs := cs.toList) (by rw [Array.length_toList]; exact hsz.trans Tryd.cellsOp) hf
  obtain ⟨l⟩ := cs
  simp at e
  subst e
  exact ⟨q, u, rfl, hps⟩
end Go.Proofs.YtceabiodelfdoaaDoor
/- Ops: what lies in memory, a list of them opened; rows of ops of one's own. -/
namespace Go.Proofs.YtceabiodelfdoaaDoor
open Go.ChangeShapes Go.WideShapes Go.ChangeAt Go.RowKit Go.Joins Go.Deep

@[reducible] def pq0 : Pq := ⟨0, 0, 0, 0, 0, 0, 0, 0, []⟩
instance : Inhabited Pq := ⟨pq0⟩
/-- an op's nine cells -/
structure Qc (w : World) (g o : Nat) (x : Pq) (u : Value) : Prop where
  c0 : w.cell? ⟨g, o, none⟩ = some (.int .i64 x.kind)
  c1 : w.cell? ⟨g, o + 1, none⟩ = some (.int .i64 x.id)
  c2 : w.cell? ⟨g, o + 2, none⟩ = some (.int .i64 x.a)
  c3 : w.cell? ⟨g, o + 3, none⟩ = some (.int .i64 x.b)
  c4 : w.cell? ⟨g, o + 4, none⟩ = some (.int .i64 x.c)
  c5 : w.cell? ⟨g, o + 5, none⟩ = some (.int .i64 x.d)
  c6 : w.cell? ⟨g, o + 6, none⟩ = some (.int .i64 x.pw)
  c7 : w.cell? ⟨g, o + 7, none⟩ = some (.int .i64 x.ph)
  c8 : w.cell? ⟨g, o + 8, none⟩ = some u
theorem Qc.on {w w' : World} {g o : Nat} {x : Pq} {u : Value} (h : Qc w g o x u) (hg : g < w.heap.size) (hb : Below w.heap.size w w') : Qc w' g o x u :=
  ⟨by rw [hb.cell (p := ⟨g, o, none⟩) hg]; exact h.c0, by rw [hb.cell (p := ⟨g, o + 1, none⟩) hg]; exact h.c1, by rw [hb.cell (p := ⟨g, o + 2, none⟩) hg]; exact h.c2, by rw [hb.cell (p := ⟨g, o + 3, none⟩) hg]; exact h.c3, by rw [hb.cell (p := ⟨g, o + 4, none⟩) hg]; exact h.c4, by rw [hb.cell (p := ⟨g, o + 5, none⟩) hg]; exact h.c5, by rw [hb.cell (p := ⟨g, o + 6, none⟩) hg]; exact h.c6, by rw [hb.cell (p := ⟨g, o + 7, none⟩) hg]; exact h.c7, by rw [hb.cell (p := ⟨g, o + 8, none⟩) hg]; exact h.c8⟩

/-- a list of ops -/
def RdQ (w : World) (v : Value) (qs : List Pq) : Prop :=
  ∃ a cap, v = .slice a qs.length cap ∧ qs.length ≤ cap ∧ cap ≤ 9223372036854775807 ∧ (qs ≠ [] → ∃ g off, a = some ⟨g, off, none⟩ ∧ g < w.heap.size ∧
    ∀ j, j < qs.length → ∃ u, Qc w g (off + j * 9) (qs.getD j pq0) u ∧ RdP w u (qs.getD j pq0).ps)

theorem RdQ.on {w w' : World} {v : Value} {qs : List Pq} (h : RdQ w v qs) (hb : Below w.heap.size w w') : RdQ w' v qs := by
  obtain ⟨a, cap, hv, hl, hc, hh⟩ := h
  refine ⟨a, cap, hv, hl, hc, fun hne => ?_⟩
  obtain ⟨g, off, ha, hg, hcell⟩ := hh hne
  refine ⟨g, off, ha, Nat.lt_of_lt_of_le hg hb.size, fun j hj => ?_⟩
  obtain ⟨u, h0, hr⟩ := hcell j hj
  exact ⟨u, h0.on hg hb, hr.on hb⟩
theorem rdQ_nil (w : World) : RdQ w (.slice none 0 0) [] := ⟨none, 0, rfl, by simp, by omega, fun h => absurd rfl h⟩

/-- a list of ops that is handed in -/
theorem open_ops {H : Type} {enc : TypeId × Value → H} {W : World} {u : Value} {x : DataW H × List MemPlace} {fuel : Nat}
    (hf : DataW.trod enc Tryd.prog W 0 (fun _ => true) true fuel 22 [u] = some x) : ∃ qs, RdQ W u qs := by
  rcases open_slice Tryd.underlying22 hf with ⟨hc, _⟩ | ⟨a, len, cap, m, n, D, Pl, hc, hb, hl, hm, hmm, hx, hall⟩
  · simp only [List.cons.injEq, and_true] at hc
    subst hc
    exact ⟨[], none, 0, rfl, by simp, by omega, fun h => absurd rfl h⟩
  · simp only [List.cons.injEq, and_true] at hc
    subst hc
    simp only [if_true] at hmm
    subst hmm
    have each : ∀ i, i < m → ∃ q : Pq × Value, (∀ k, k < 9 → W.cell? (a.add (i * 9 + k)) = [Value.int .i64 q.1.kind, .int .i64 q.1.id, .int .i64 q.1.a, .int .i64 q.1.b, .int .i64 q.1.c, .int .i64 q.1.d, .int .i64 q.1.pw, .int .i64 q.1.ph, q.2][k]?) ∧ RdP W q.2 q.1.ps := by
      intro i hi
      obtain ⟨cs', h1, h2⟩ := hall i hi
      rw [Tryd.cellsOp] at h1
      obtain ⟨_, hlen, hcell⟩ := World.cells?_some h1
      obtain ⟨q, v, rfl, hr⟩ := cells_op hlen h2
      refine ⟨(q, v), fun k hk => ?_, hr⟩
      have e := hcell k (by omega)
      rw [add_add] at e
      exact e
    obtain ⟨q, hq⟩ := choose_lt each
    unfold maxLen at hm
    refine ⟨(List.range len).map fun i => (q i).1, some a, m, by simp, by simpa using hl, by omega, fun hne => ?_⟩
    have hpos : 0 < len := by
      rcases Nat.eq_zero_or_pos len with h | h
      · subst h; simp at hne
      · exact h
    obtain ⟨sb, so, spot⟩ := a
    have hz := (hq 0 (by omega)).1 0 (by omega)
    have hspot : spot = none := by
      have hz' : W.cell? ((⟨sb, so, spot⟩ : Addr).add (0 * 9 + 0)) = some (.int .i64 (q 0).1.kind) := hz
      simpa [Addr.add] using World.cell?_spot hz'
    subst hspot
    refine ⟨sb, so, rfl, ?_, fun j hj => ?_⟩
    · rcases Nat.lt_or_ge sb W.heap.size with h | h
      · exact h
      · simp [Addr.add, World.cell?, Array.getElem?_eq_none h] at hz
    · simp only [List.length_map, List.length_range] at hj
      have hg : ((List.range len).map fun i => (q i).1).getD j pq0 = (q j).1 := by
        rw [List.getD_eq_getElem?_getD, List.getElem?_map, List.getElem?_range hj]
        simp
      rw [hg]
      obtain ⟨h0, h4⟩ := hq j (by omega)
      have h1 := fun k hk => h0 k hk
      simp only [add_plain, ← Nat.add_assoc] at h1
      exact ⟨(q j).2, ⟨h1 0 (by omega), h1 1 (by omega), h1 2 (by omega), h1 3 (by omega), h1 4 (by omega), h1 5 (by omega), h1 6 (by omega), h1 7 (by omega), h1 8 (by omega)⟩, h4⟩

theorem RdQ.at {w : World} {a : Option Addr} {n cap : Nat} {qs : List Pq} (h : RdQ w (.slice a n cap) qs) {k : Nat} (hk : k < n) {x : Pq} (HX : Hid (qs.getD k pq0 = x)) :
    ∃ g o ua m uc, a = some ⟨g, o, none⟩ ∧ g < w.heap.size ∧ Qc w g (o + k * 9) x (.slice ua m uc) ∧ Hid (RdP w (.slice ua m uc) x.ps) ∧ Hid (x.ps.length = m) := by
  obtain ⟨a', cap', hv, hl, hc, hh⟩ := h
  simp only [Value.slice.injEq] at hv
  obtain ⟨rfl, rfl, rfl⟩ := hv
  obtain ⟨g, o, ha, hg, hcell⟩ := hh (by intro e; rw [e] at hk; simp at hk)
  obtain ⟨u, h0, h4⟩ := hcell k hk
  rw [HX.out] at h0 h4
  have h5 := h4
  obtain ⟨ua, uc, rfl, _⟩ := h5
  exact ⟨g, o, ua, _, uc, ha, hg, h0, h4, (rfl : _ = _)⟩
theorem RdQ.shape {w : World} {v : Value} {qs : List Pq} (h : RdQ w v qs) : ∃ a cap, v = .slice a qs.length cap ∧ qs.length ≤ cap ∧ cap ≤ 9223372036854775807 := by
  obtain ⟨a, cap, h1, h2, h3, _⟩ := h
  exact ⟨a, cap, h1, h2, h3⟩

/-- an op's cells, its pixels at u -/
def qCells (x : Pq) (u : Value) : List Value := [.int .i64 x.kind, .int .i64 x.id, .int .i64 x.a, .int .i64 x.b, .int .i64 x.c, .int .i64 x.d, .int .i64 x.pw, .int .i64 x.ph, u]
def qrCells : List (Pq × Value) → List Value
  | [] => []
  | (x, u) :: r => qCells x u ++ qrCells r
theorem qrCells_app (a b : List (Pq × Value)) : qrCells (a ++ b) = qrCells a ++ qrCells b := by
  induction a with
  | nil => rfl
  | cons p a ih => obtain ⟨f, u⟩ := p; simp [qrCells, ih]
theorem qrCells_length : ∀ a : List (Pq × Value), (qrCells a).length = a.length * 9
  | [] => rfl
  | (f, u) :: r => by simp [qrCells, qCells, qrCells_length r]; omega
@[reducible] def qq0 : Pq × Value := (pq0, .slice none 0 0)
theorem qrCells_at : ∀ (a : List (Pq × Value)) (j c : Nat), j < a.length → c < 9 → (qrCells a)[j * 9 + c]? = (qCells (a.getD j qq0).1 (a.getD j qq0).2)[c]?
  | (f, u) :: r, 0, c, _, hc => by
    simp only [qrCells, Nat.zero_mul, Nat.zero_add]
    rw [List.getElem?_append_left (by simpa [qCells] using hc)]
    simp
  | (f, u) :: r, j + 1, c, h, hc => by
    have := qrCells_at r j c (by simpa using h) hc
    rw [show (j + 1) * 9 + c = 9 + (j * 9 + c) by omega]
    simp only [qrCells]
    rw [List.getElem?_append_right (by simp [qCells])]
    simpa [qCells] using this

/-- a row of ops of one's own, each with a row of pixels of its own -/
def OwnQ (w : World) (B : Nat) (v : Value) (qs : List (Pq × Value)) : Prop :=
  w.ownsRow B 45 9 v qs.length (qrCells qs) ∧ ∀ q ∈ qs, w.ownsRow B 110 2 q.2 q.1.ps.length (pixCells q.1.ps)

theorem OwnQ.on {w w' : World} {B : Nat} {v : Value} {qs : List (Pq × Value)} (h : OwnQ w B v qs) (hb : Below w.heap.size w w') : OwnQ w' B v qs :=
  ⟨own_on2 h.1 hb, fun q hq => own_on2 (h.2 q hq) hb⟩

theorem OwnQ.rd {w : World} {B : Nat} {v : Value} {qs : List (Pq × Value)} (h : OwnQ w B v qs) : RdQ w v (qs.map Prod.fst) := by
  rcases h.1.2 with ⟨rfl, h0⟩ | ⟨g, cap, cur, rfl, hb, hg, hn, hm, hs, ht⟩
  · have : qs = [] := List.length_eq_zero_iff.1 h0
    subst this
    exact ⟨none, 0, rfl, by simp, by omega, fun h => absurd rfl h⟩
  · unfold maxLen at hm
    refine ⟨some ⟨g, 0, none⟩, cap, by simp, by simpa using hn, by omega, fun hne => ⟨g, 0, rfl, ?_, fun j hj => ?_⟩⟩
    · rcases Nat.lt_or_ge g w.heap.size with h1 | h1
      · exact h1
      · rw [Array.getElem?_eq_none h1] at hg; cases hg
    · rw [List.length_map] at hj
      have e : (qs.map Prod.fst).getD j pq0 = (qs.getD j qq0).1 := by
        simp [List.getD_eq_getElem?_getD, List.getElem?_eq_getElem hj]
      have hmem : qs.getD j qq0 ∈ qs := by
        rw [List.getD_eq_getElem?_getD, List.getElem?_eq_getElem hj]
        simp
      rw [e]
      have hc : ∀ x, x < 9 → w.cell? ⟨g, 0 + j * 9 + x, none⟩ = (qCells (qs.getD j qq0).1 (qs.getD j qq0).2)[x]? := fun x hx => by
        rw [Nat.zero_add, h.1.cellAt (j * 9 + x) (by omega)]
        exact qrCells_at qs j x hj hx
      exact ⟨(qs.getD j qq0).2, ⟨hc 0 (by omega), hc 1 (by omega), hc 2 (by omega), hc 3 (by omega), hc 4 (by omega), hc 5 (by omega), hc 6 (by omega), hc 7 (by omega), hc 8 (by omega)⟩, rdP_own (h.2 _ hmem)⟩

theorem OwnQ.app {w w' : World} {B : Nat} {v v' : Value} {qs : List (Pq × Value)} (h : OwnQ w B v qs) {x : Pq} {u : Value} (hu : w.ownsRow B 110 2 u x.ps.length (pixCells x.ps))
    (h1 : w'.ownsRow B 45 9 v' (qs.length + 1) (qrCells qs ++ qCells x u)) (h2 : w.grownBy w' v.ownBlock) : OwnQ w' B v' (qs ++ [(x, u)]) := by
  refine ⟨?_, fun q hq => ?_⟩
  · rw [qrCells_app, List.length_append]
    simpa [qrCells] using h1
  · rcases List.mem_append.1 hq with hq | hq
    · exact (h.2 q hq).kept h2 (apartO (h.2 q hq) h.1 (by decide))
    · simp at hq
      subst hq
      exact hu.kept h2 (apartO hu h.1 (by decide))
end Go.Proofs.YtceabiodelfdoaaDoor
/- Walk of blend.change, with the closure of Lay. -/
namespace Go.Proofs.YtceabiodelfdoaaDoor
open Go.RowKit

end Go.Proofs.YtceabiodelfdoaaDoor
/- Walk of blend.Lay. -/
namespace Go.Proofs.YtceabiodelfdoaaDoor
open Go.RowKit

/-- what Lay answers -/
def layL (PW : Nat) (ps : List (Int × Int)) (QW QH : Nat) (qs : List (Int × Int)) (x y a b c d : Int) (sh : Bool) : List (Int × Int) :=
  if sh then chL (fun p q => Fb.overL q.1 q.2 p.1 p.2) PW ps QW QH qs x y a b c d else ps

/-- what holds on the road -/
structure Gla (w : World) (pw ph : Int) (vp : Value) (id x y qw qh : Int) (vq : Value) (a b c d : Int) (sh : Bool) (ps qs : List (Int × Int)) (w' : World) : Prop where
  tp : Three w' w.heap.size (.int .i64 pw) (.int .i64 ph) vp
  eo : Eleven w' (w.heap.size + 1) (.int .i64 id) (.int .i64 x) (.int .i64 y) (.int .i64 qw) (.int .i64 qh) vq (.int .i64 a) (.int .i64 b) (.int .i64 c) (.int .i64 d) (.bool sh)
  rp : RdP w' vp ps
  rq : RdP w' vq qs
  bel : Below w.heap.size w w'
theorem Gla.on {w : World} {pw ph : Int} {vp : Value} {id x y qw qh : Int} {vq : Value} {a b c d : Int} {sh : Bool} {ps qs : List (Int × Int)} {w1 w2 : World} (h : Gla w pw ph vp id x y qw qh vq a b c d sh ps qs w1) (hb : Below w1.heap.size w1 w2) : Gla w pw ph vp id x y qw qh vq a b c d sh ps qs w2 :=
  ⟨h.tp.on hb, h.eo.on hb, h.rp.on hb, h.rq.on hb, h.bel.trans (hb.mono h.bel.size)⟩
theorem Gla.drew {w : World} {pw ph : Int} {vp : Value} {id x y qw qh : Int} {vq : Value} {a b c d : Int} {sh : Bool} {ps qs : List (Int × Int)} {w1 : World} (h : Gla w pw ph vp id x y qw qh vq a b c d sh ps qs w1) : Gla w pw ph vp id x y qw qh vq a b c d sh ps qs w1.drew :=
  ⟨h.tp.drew, h.eo.drew, h.rp, h.rq, h.bel.drew⟩

end Go.Proofs.YtceabiodelfdoaaDoor
/- What Lay answers, as a list. -/
namespace Go.Proofs.YtceabiodelfdoaaDoor
open Go.RowKit

theorem lay_len (PW : Nat) (ps : List (Int × Int)) (QW QH : Nat) (qs : List (Int × Int)) (x y a b c d : Int) (sh : Bool) : (layL PW ps QW QH qs x y a b c d sh).length = ps.length := by
  unfold layL; cases sh <;> simp [ch_len]
theorem over_ok (p q : Int × Int) (h : pixOk p) (h' : pixOk q) : pixOk ((fun (p q : Int × Int) => Fb.overL q.1 q.2 p.1 p.2) p q) := by
  obtain ⟨p0, p1, p2, p3⟩ := h
  obtain ⟨q0, q1, q2, q3⟩ := h'
  obtain ⟨_, _, r1, r2, r3, r4, _⟩ := Fb.over_bounds q.1 q.2 p.1 p.2 q0 q1 q2 q3 p0 p1 p2 p3
  exact ⟨r3, r4, r2, r1⟩
theorem lay_check (PW PH : Nat) (ps : List (Int × Int)) (QW QH : Nat) (qs : List (Int × Int)) (x y a b c d : Int) (sh : Bool) (hp : checkL (PW : Int) (PH : Int) ps = 0) (hq : checkL (QW : Int) (QH : Int) qs = 0) : checkL (PW : Int) (PH : Int) (layL PW ps QW QH qs x y a b c d sh) = 0 := by
  unfold layL
  cases sh
  · simpa using hp
  · simp only [if_true]
    exact ch_check _ over_ok PW PH ps QW QH qs x y a b c d hp hq

theorem lay_getD (PW : Nat) (ps : List (Int × Int)) (QW QH : Nat) (qs : List (Int × Int)) (x y a b c d : Int) (sh : Bool) (k : Nat) (hk : k < ps.length) :
    (layL PW ps QW QH qs x y a b c d sh).getD k (0, 0) = if (sh && (hasB a b c d ((k % PW : Nat) : Int) ((k / PW : Nat) : Int) && hasB x y (QW : Int) (QH : Int) ((k % PW : Nat) : Int) ((k / PW : Nat) : Int))) = true then gq (fun p q => Fb.overL q.1 q.2 p.1 p.2) PW ps QW qs x y k else ps.getD k (0, 0) := by
  unfold layL
  cases sh
  · simp
  · simp only [if_true, Bool.true_and]
    exact ch_getD _ PW ps QW QH qs x y a b c d k hk
end Go.Proofs.YtceabiodelfdoaaDoor
/- Walk of math/bits.Mul, as slices.Repeat calls it. -/
namespace Go.Proofs.YtceabiodelfdoaaDoor
open Go.RowKit

theorem and_small : ∀ n : Fin 65, bits BinOp.and IntKind.u64 (n.val : Int) 4294967295 = (n.val : Int) := by decide +kernel

end Go.Proofs.YtceabiodelfdoaaDoor
