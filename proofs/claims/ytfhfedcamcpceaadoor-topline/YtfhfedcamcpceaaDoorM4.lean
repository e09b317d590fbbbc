/- Some of the walks, in one text. -/
import Derived.Test.YtfhfedcamcpceaaDoorM3
/- Walks: op.inBounds, op.foreign. -/
namespace Go.Proofs.YtfhfedcamcpceaaDoor
open Go.RowKit

def intCells (ns : List Int) : List Value := ns.map (fun n => .int .i64 n)
theorem Tryd.infoInt : (Tryd.prog.info? 3).map (fun i => (i.zero, i.size, i.bytes)) = some (some (.int .i64 0), 1, 8) := by kernel_rfl
theorem intCells_at (ns : List Int) (j : Nat) (h : j < ns.length) : (intCells ns)[j]? = some (.int .i64 (ns.getD j 0)) := by
  unfold intCells
  rw [List.getElem?_map, List.getD_eq_getElem?_getD, List.getElem?_eq_getElem h]
  rfl
theorem intCells_one (ns : List Int) : ∀ v ∈ intCells ns, v.oneCell' = true := by
  intro v hv
  obtain ⟨n, _, rfl⟩ := List.mem_map.1 hv
  rfl
theorem rdI_own {w : World} {B : Nat} {v : Value} {ns : List Int} {n : Nat} (h : w.ownsRow B 3 1 v n (intCells ns)) (hn : ns.length = n) : RdI w v ns := by
  subst hn
  rcases h.2 with ⟨rfl, h0⟩ | ⟨g, cap, cur, rfl, hb, hg, hn, hm, hs, ht⟩
  · have : ns = [] := List.length_eq_zero_iff.1 h0
    subst this
    exact ⟨none, 0, rfl, by simp, by omega, fun h => absurd rfl h⟩
  · unfold maxLen at hm
    refine ⟨some ⟨g, 0, none⟩, cap, by simp, by simpa using hn, by omega, fun hne => ⟨g, 0, rfl, ?_, fun j hj => ?_⟩⟩
    · rcases Nat.lt_or_ge g w.heap.size with h1 | h1
      · exact h1
      · rw [Array.getElem?_eq_none h1] at hg; cases hg
    · rw [Nat.zero_add, h.cellAt j (by omega)]
      exact intCells_at ns j hj
/-- the four numbers of an op, from a place on, or up to it -/
def nums4 (q : Pq) : List Int := [q.a, q.b, q.c, q.d]
theorem four_take {w : World} {g : Nat} (q : Pq) (h : w.heap[g]? = some (.cells #[.int .i64 q.a, .int .i64 q.b, .int .i64 q.c, .int .i64 q.d] 3 (0, 0))) (n : Nat) (hn : n ≤ 4) : RdI w (.slice (some ⟨g, 0, none⟩) n 4) ((nums4 q).take n) := by
  refine ⟨some ⟨g, 0, none⟩, 4, by simp [nums4, Nat.min_eq_left hn], by simp [nums4]; omega, by omega, fun _ => ⟨g, 0, rfl, (Array.getElem?_eq_some_iff.1 h).1, fun j hj => ?_⟩⟩
  have hj2 : j < n := by simp [nums4] at hj; omega
  rw [cell_of_row w g (0 + j) _ _ _ h]
  have : j = 0 ∨ j = 1 ∨ j = 2 ∨ j = 3 := by omega
  rw [List.getD_eq_getElem?_getD, List.getElem?_take, if_pos hj2]
  rcases this with rfl | rfl | rfl | rfl <;> rfl
theorem four_cells {w : World} {g : Nat} (q : Pq) (h : w.heap[g]? = some (.cells #[.int .i64 q.a, .int .i64 q.b, .int .i64 q.c, .int .i64 q.d] 3 (0, 0))) (n : Nat) : ∀ j v, (intCells ((nums4 q).drop n))[j]? = some v → w.cell? ((⟨g, n, none⟩ : Addr).add j) = some v := by
  intro j v hj
  have e : (⟨g, n, none⟩ : Addr).add j = ⟨g, n + j, none⟩ := by unfold Addr.add; split <;> simp_all
  rw [e, cell_of_row w g (n + j) _ _ _ h]
  unfold intCells at hj
  rw [List.getElem?_map, List.getElem?_drop] at hj
  have hl : n + j < 4 := by
    rcases Nat.lt_or_ge (n + j) 4 with h1 | h1
    · exact h1
    · rw [List.getElem?_eq_none (by simpa [nums4] using h1)] at hj; cases hj
  have : n + j = 0 ∨ n + j = 1 ∨ n + j = 2 ∨ n + j = 3 := by omega
  rcases this with h | h | h | h <;> (rw [h] at hj ⊢; exact hj)
/-- append onto a list that is full -/
theorem run_append_full (w : World) (ns ms : List Int) (b : Addr) (n : Nat) (hn : ns.length = n) (hcell : ∀ j v, (intCells ns)[j]? = some v → w.cell? (b.add j) = some v) (a : Addr) (m c : Nat) (hm : ms.length = m) (hm1 : 1 ≤ m) (hmc : ∀ j v, (intCells ms)[j]? = some v → w.cell? (a.add j) = some v) (hlim : n + m ≤ 1000) (ty : TypeId) :
    ∃ v' w', (Builtin.append_ #[60, 60] ty #[.slice (some b) n n, .slice (some a) m c]).run Tryd.prog w = .ok v' w' ∧ w'.ownsRow w.heap.size 3 1 v' (n + m) (intCells (ns ++ ms)) ∧ Below w.heap.size w w' := by
  obtain ⟨i0, hi, hz0, hz1, hz2⟩ := info_parts Tryd.infoInt
  have hr := run_append_grow (P := Tryd.prog) w 60 ty 3 i0 (.int .i64 0) Tryd.underlying60 hi hz0 b n n (intCells ns) (by rw [hz1]; simp [intCells, hn]) hcell a m c (intCells ms) (by rw [hz1]; simp [intCells, hm]) hmc (by omega) (by omega) (growslice_fits (by omega) (by rw [hz2]; omega))
  refine ⟨_, _, hr, ⟨by simp [intCells, hn, hm], .inr ⟨w.heap.size, _, _, rfl, Nat.le_refl _, heap_alloc_new w.drew _, grownCap_ge _ _ _ _, grownCap_le_maxLen _ _ _ _ (by unfold maxLen; omega), ?_, ?_⟩⟩, (Below.refl _ _).drew.alloc (Nat.le_refl _) _⟩
  · have := grownCap_ge w (n + m) n 3
    simp [size_zeroCells, intCells, hn, hm, Value.cells]
    omega
  · have e : intCells (ns ++ ms) = intCells ns ++ intCells ms := by simp [intCells]
    have hl : (intCells ns ++ intCells ms).length = (n + m) * 1 := by simp [intCells, hn, hm]
    rw [e]
    simp only [Array.toList_append, List.append_assoc]
    rw [← List.append_assoc, ← hl]
    exact List.take_left
/-- are the numbers as the kind has them? -/
def inB (q : Pq) (s : Shp) : Bool := if s.kind = 4 then decide (rectC q.a q.b q.c q.d = 0) else !((nums4 q).take s.nums).any (fun n => (decide (n < s.low) || decide (s.high < n)))
/-- the numbers that are 0 -/
def forL (q : Pq) (s : Shp) : List Int := (nums4 q).drop s.nums ++ (if s.id then [] else [q.id]) ++ (if s.pic then [] else [q.pw, q.ph, (q.ps.length : Int)])

set_option maxHeartbeats 4000000 in
set_option maxRecDepth 100000 in
theorem inBounds_any (q : Pq) (s : Shp) (ap : Option Addr) (np cp : Nat) (w : World) (hnums : s.nums ≤ 4) (t : Bool) (HT : Hid (inB q s = t)) :
    Calls Tryd.prog 37 #[opV q (.slice ap np cp), s.val] w fun e w' => e = .returned (.bool t) ∧ Below w.heap.size w w' := by
  obtain ⟨X0, HX0⟩ : ∃ X0, Hid (((w.alloc (.cells #[.int .i64 q.kind, .int .i64 q.id, .int .i64 q.a, .int .i64 q.b, .int .i64 q.c, .int .i64 q.d, .int .i64 q.pw, .int .i64 q.ph, .slice ap np cp] 26)).alloc (.cells #[.int .i64 (s.kind : Int), .string s.bytes, .bool s.id, .int .i64 (s.nums : Int), .int .i64 s.low, .int .i64 s.high, .bool s.pic] 56)) = X0) := ⟨_, (rfl : _ = _)⟩
  have hbz : Below w.heap.size w X0 := by rw [← HX0.out]; exact ((Below.refl _ _).alloc (Nat.le_refl _) _).alloc (by simp) _
  have N0 : Hid (Nine X0 w.heap.size (.int .i64 q.kind) (.int .i64 q.id) (.int .i64 q.a) (.int .i64 q.b) (.int .i64 q.c) (.int .i64 q.d) (.int .i64 q.pw) (.int .i64 q.ph) (.slice ap np cp)) := by rw [← HX0.out]; exact (nine_start w _ _ _ _ _ _ _ _ _ 26 w.heap.size rfl).alloc _
  have S0 : Hid (Seven X0 (w.heap.size + 1) (.int .i64 (s.kind : Int)) (.string s.bytes) (.bool s.id) (.int .i64 (s.nums : Int)) (.int .i64 s.low) (.int .i64 s.high) (.bool s.pic)) := by rw [← HX0.out]; exact seven_start _ _ _ _ _ _ _ _ 56 (w.heap.size + 1) (by simp)
  unfold Shp.val
  have ht := HT.out
  unfold inB at ht
  by_cases h4 : s.kind = 4
  · rw [if_pos h4] at ht
    have hk : ((s.kind : Int) == 4) = true := by simp [h4]
    clear h4
    go_enter Tryd.func37, Tryd.ntmps37
    go_wp2_with fail
    rw [HX0.out]
    obtain ⟨c, HC⟩ : ∃ c, Hid (rectC q.a q.b q.c q.d = c) := ⟨_, (rfl : _ = _)⟩
    rw [HC.out] at ht
    have hc := rectC_cases q.a q.b q.c q.d
    rw [HC.out] at hc
    refine (rcheck_any q.a q.b q.c q.d _ c HC).mono ?_
    rintro e w1 ⟨rfl, hb1⟩
    have hbb1 := hbz.trans (hb1.mono hbz.size)
    clear hb1
    rcases hc with rfl | rfl
    · rw [show errV 0 = Value.nilIface from rfl]
      have : t = true := by rw [← ht]; rfl
      subst this
      go_wp2_with fail
      go_ret
      exact ⟨rfl, hbb1⟩
    · rw [errV_one]
      have : t = false := by rw [← ht]; rfl
      subst this
      go_wp2_with fail
      go_ret
      exact ⟨rfl, hbb1⟩
  · rw [if_neg h4] at ht
    have hk : ((s.kind : Int) == 4) = false := by simp; omega
    obtain ⟨t0, HT0⟩ : ∃ t0, Hid (((nums4 q).take s.nums).any (fun n => (decide (n < s.low) || decide (s.high < n))) = t0) := ⟨_, (rfl : _ = _)⟩
    rw [HT0.out] at ht
    subst ht
    have hi1 : (0 : Int) ≤ (s.nums : Int) := by omega
    have hi2 : (s.nums : Int) ≤ 4 := by omega
    have hi3 : IntKind.i64.wrap (s.nums : Int) = (s.nums : Int) := by rw [IntKind.wrap_i64]; omega
    have KEEP : Hid (∀ w', Below X0.heap.size X0 w' → (w'.cell? ⟨w.heap.size + 1, 3, none⟩ = some (.int .i64 (s.nums : Int)) ∧ w'.cell? ⟨w.heap.size, 0, none⟩ = some (.int .i64 q.kind) ∧ w'.cell? ⟨w.heap.size, 1, none⟩ = some (.int .i64 q.id) ∧ w'.cell? ⟨w.heap.size, 2, none⟩ = some (.int .i64 q.a) ∧ w'.cell? ⟨w.heap.size, 3, none⟩ = some (.int .i64 q.b) ∧ w'.cell? ⟨w.heap.size, 4, none⟩ = some (.int .i64 q.c) ∧ w'.cell? ⟨w.heap.size, 5, none⟩ = some (.int .i64 q.d) ∧ w'.cell? ⟨w.heap.size, 6, none⟩ = some (.int .i64 q.pw) ∧ w'.cell? ⟨w.heap.size, 7, none⟩ = some (.int .i64 q.ph) ∧ w'.cell? ⟨w.heap.size, 8, none⟩ = some (.slice ap np cp))) := by
      intro w' h
      obtain ⟨m0, m1, m2, m3, m4, m5, m6, m7, m8, mf0, mf1, mf2, mf3, mf4, mf5, mf6, mf7, mf8, mlt⟩ := N0.out.on h
      exact ⟨(S0.out.on h).c3, m0, m1, m2, m3, m4, m5, m6, m7, m8⟩
    clear h4
    go_enter Tryd.func37, Tryd.ntmps37
    go_wp2_with fail
    rw [HX0.out]
    clear HX0
    refine wp_region_held_drew (S := (fun w' => w'.cell? ⟨w.heap.size + 1, 3, none⟩ = some (.int .i64 (s.nums : Int)) ∧ w'.cell? ⟨w.heap.size, 0, none⟩ = some (.int .i64 q.kind) ∧ w'.cell? ⟨w.heap.size, 1, none⟩ = some (.int .i64 q.id) ∧ w'.cell? ⟨w.heap.size, 2, none⟩ = some (.int .i64 q.a) ∧ w'.cell? ⟨w.heap.size, 3, none⟩ = some (.int .i64 q.b) ∧ w'.cell? ⟨w.heap.size, 4, none⟩ = some (.int .i64 q.c) ∧ w'.cell? ⟨w.heap.size, 5, none⟩ = some (.int .i64 q.d) ∧ w'.cell? ⟨w.heap.size, 6, none⟩ = some (.int .i64 q.pw) ∧ w'.cell? ⟨w.heap.size, 7, none⟩ = some (.int .i64 q.ph) ∧ w'.cell? ⟨w.heap.size, 8, none⟩ = some (.slice ap np cp))) (by kernel_rfl) ?_ (fun hHeld => ?_)
    · exact KEEP.out _ (Below.refl _ _).drew
    refine wpAnyH_take (i := 0) (oi := ({ dst := some 19, op := Op.load 26 (Operand.tmp 2), type := 26, pos := "op.go:151", after := #[], guard := none } : Oper)) (v := ?_) rfl (by kernel_rfl) (by kernel_rfl) (by kernel_rfl) (fun _ _ _ h => h) (Or.inl ⟨by rfl, ?_⟩) (by assumption) ?_
    rotate_left
    · (intro w hSw; (try dsimp only at hSw); go_simp; try with_reducible rfl)
    try simp only [Act.put, List.setIfInBounds_toArray, List.set_cons_zero, List.set_cons_succ]
    refine wpAnyH_take (i := 2) (oi := ({ dst := some 21, op := Op.fieldAddr 56 (Operand.tmp 3) 3, type := 0, pos := "op.go:151", after := #[], guard := none } : Oper)) (v := ?_) rfl (by kernel_rfl) (by kernel_rfl) (by kernel_rfl) (fun _ _ _ h => h) (Or.inl ⟨by rfl, ?_⟩) (by assumption) ?_
    rotate_left
    · (intro w hSw; (try dsimp only at hSw); go_simp; try with_reducible rfl)
    try simp only [Act.put, List.setIfInBounds_toArray, List.set_cons_zero, List.set_cons_succ]
    refine wpAnyH_take (i := 3) (oi := ({ dst := some 22, op := Op.load 3 (Operand.tmp 21), type := 3, pos := "op.go:151", after := #[{ on := 2, ground := Ground.data }], guard := none } : Oper)) (v := ?_) rfl (by kernel_rfl) (by kernel_rfl) (by kernel_rfl) (fun _ _ _ h => h) (Or.inl ⟨by rfl, ?_⟩) (by assumption) ?_
    rotate_left
    · (intro w hSw; (try dsimp only at hSw); go_simp; try with_reducible rfl)
    try simp only [Act.put, List.setIfInBounds_toArray, List.set_cons_zero, List.set_cons_succ]
    refine wpAnyH_take (i := 5) (oi := ({ dst := some 24, op := Op.makeFunc (Fn.func 64) #[] #[Operand.tmp 3], type := 79, pos := "op.go:151", after := #[], guard := none } : Oper)) (v := ?_) rfl (by kernel_rfl) (by kernel_rfl) (by kernel_rfl) (fun _ _ _ h => h) (Or.inl ⟨by rfl, ?_⟩) (by assumption) ?_
    rotate_left
    · (intro w hSw; (try dsimp only at hSw); go_simp; try with_reducible rfl)
    try simp only [Act.put, List.setIfInBounds_toArray, List.set_cons_zero, List.set_cons_succ]
    refine wpAnyH_ready (rs := [1]) (by kernel_rfl) (by simp) ?_
    refine AllReadyH.cons (o := ({ dst := some 20, op := Op.call { callee := Callee.value (Operand.func 24), args := #[Operand.tmp 19], argTypes := #[26] }, type := 60, pos := "op.go:151", after := #[{ on := 0, ground := Ground.data }], guard := none } : Oper)) rfl (fun K_ hK => ?_) AllReadyH.nil
    go_simp
    refine (numbers_any q (.slice ap np cp) X0.drew).mono ?_
    rintro e w1 ⟨g1, rfl, hg1, hh1, hb1⟩
    have HB1 : Hid (Below X0.heap.size X0 w1) := ⟨hb1.os, hb1.tape, hb1.output, hb1.size, hb1.block⟩
    have HRI := hid_of3 (four_take q hh1 s.nums hnums)
    clear hh1 hb1
    refine hK.out _ _ ?_ (fun hHeld => ?_)
    · exact KEEP.out _ HB1.out
    clear hK K_
    try simp only [Act.put, List.setIfInBounds_toArray, List.set_cons_zero, List.set_cons_succ]
    refine wpAnyH_take (i := 4) (oi := ({ dst := some 23, op := Op.slice 60 (Operand.tmp 20) none (some (Operand.tmp 22)) none, type := 60, pos := "op.go:151", after := #[{ on := 1, ground := Ground.data }, { on := 3, ground := Ground.data }], guard := none } : Oper)) (v := ?_) rfl (by kernel_rfl) (by kernel_rfl) (by kernel_rfl) (fun _ _ _ h => h) (Or.inl ⟨by rfl, ?_⟩) (by assumption) ?_
    rotate_left
    · (intro w hSw; (try dsimp only at hSw); go_simp; try with_reducible rfl)
    try simp only [Act.put, List.setIfInBounds_toArray, List.set_cons_zero, List.set_cons_succ]
    refine wpAnyH_ready (rs := [6]) (by kernel_rfl) (by simp) ?_
    refine AllReadyH.cons (o := ({ dst := some 25, op := Op.call { callee := Callee.value (Operand.func 34), args := #[Operand.tmp 23, Operand.tmp 24], argTypes := #[60, 79] }, type := 4, pos := "op.go:151", after := #[{ on := 4, ground := Ground.data }, { on := 5, ground := Ground.data }, { on := 1, ground := Ground.chain }], guard := none } : Oper)) rfl (fun K_ hK => ?_) AllReadyH.nil
    go_simp
    refine (containsB_any _ ((nums4 q).take s.nums) s.low s.high (w.heap.size + 1) w1 (by simp [nums4]; omega) HRI ((S0.out.on HB1.out).lt) ((S0.out.on HB1.out).c4) ((S0.out.on HB1.out).c5) t0 HT0).mono ?_
    rintro e w2 ⟨rfl, hb2⟩
    have HB2 : Hid (Below X0.heap.size X0 w2) := HB1.out.trans (hb2.mono HB1.out.size)
    clear hb2
    refine hK.out _ _ ?_ (fun hHeld => ?_)
    · exact KEEP.out _ HB2.out
    clear hK K_
    try simp only [Act.put, List.setIfInBounds_toArray, List.set_cons_zero, List.set_cons_succ]
    refine wpAnyH_take (i := 7) (oi := ({ dst := some 26, op := Op.unOp UnOp.not 4 (Operand.tmp 25), type := 4, pos := "op.go:151", after := #[{ on := 6, ground := Ground.data }], guard := none } : Oper)) (v := ?_) rfl (by kernel_rfl) (by kernel_rfl) (by kernel_rfl) (fun _ _ _ h => h) (Or.inl ⟨by rfl, ?_⟩) (by assumption) ?_
    rotate_left
    · (intro w hSw; (try dsimp only at hSw); go_simp; try with_reducible rfl)
    try simp only [Act.put, List.setIfInBounds_toArray, List.set_cons_zero, List.set_cons_succ]
    refine wpAnyH_take (i := 8) (oi := ({ dst := some 4, op := Op.assign (Operand.tmp 26), type := 4, pos := "op.go:151", after := #[{ on := 7, ground := Ground.data }, { on := 6, ground := Ground.chain }, { on := 0, ground := Ground.phase }, { on := 1, ground := Ground.phase }, { on := 2, ground := Ground.phase }, { on := 3, ground := Ground.phase }, { on := 4, ground := Ground.phase }, { on := 5, ground := Ground.phase }, { on := 6, ground := Ground.phase }, { on := 7, ground := Ground.phase }], guard := none } : Oper)) (v := ?_) rfl (by kernel_rfl) (by kernel_rfl) (by kernel_rfl) (fun _ _ _ h => h) (Or.inl ⟨by rfl, ?_⟩) (by assumption) ?_
    rotate_left
    · (intro w hSw; (try dsimp only at hSw); go_simp; try with_reducible rfl)
    try simp only [Act.put, List.setIfInBounds_toArray, List.set_cons_zero, List.set_cons_succ]
    refine wpAnyH_done (by kernel_rfl) ?_ _
    go_wp2_with fail
    go_ret
    exact ⟨rfl, hbz.trans (HB2.out.mono hbz.size)⟩
end Go.Proofs.YtfhfedcamcpceaaDoor
/- Walk: op.foreign. -/
namespace Go.Proofs.YtfhfedcamcpceaaDoor
open Go.RowKit

set_option maxHeartbeats 8000000 in
set_option maxRecDepth 100000 in
theorem foreign4_any (q : Pq) (s : Shp) (ap : Option Addr) (np cp : Nat) (w : World) (HN4 : Hid (s.nums = 4)) (hip : s.id = false → s.pic = false) (HNP : Hid (q.ps.length = np)) (_ : np ≤ 9223372036854775807) :
    Calls Tryd.prog 35 #[opV q (.slice ap np cp), .agg #[.int .i64 (s.kind : Int), .string s.bytes, .bool s.id, .int .i64 4, .int .i64 s.low, .int .i64 s.high, .bool s.pic]] w fun e w' => ∃ v', e = .returned v' ∧ RdI w' v' (forL q s) ∧ Below w.heap.size w w' := by
  obtain ⟨X0, HX0⟩ : ∃ X0, Hid (((w.alloc (.cells #[.int .i64 q.kind, .int .i64 q.id, .int .i64 q.a, .int .i64 q.b, .int .i64 q.c, .int .i64 q.d, .int .i64 q.pw, .int .i64 q.ph, .slice ap np cp] 26)).alloc (.cells #[.int .i64 (s.kind : Int), .string s.bytes, .bool s.id, .int .i64 4, .int .i64 s.low, .int .i64 s.high, .bool s.pic] 56)) = X0) := ⟨_, (rfl : _ = _)⟩
  have hbz : Below w.heap.size w X0 := by rw [← HX0.out]; exact ((Below.refl _ _).alloc (Nat.le_refl _) _).alloc (by simp) _
  have N0 : Hid (Nine X0 w.heap.size (.int .i64 q.kind) (.int .i64 q.id) (.int .i64 q.a) (.int .i64 q.b) (.int .i64 q.c) (.int .i64 q.d) (.int .i64 q.pw) (.int .i64 q.ph) (.slice ap np cp)) := by rw [← HX0.out]; exact (nine_start w _ _ _ _ _ _ _ _ _ 26 w.heap.size rfl).alloc _
  have S0 : Hid (Seven X0 (w.heap.size + 1) (.int .i64 (s.kind : Int)) (.string s.bytes) (.bool s.id) (.int .i64 4) (.int .i64 s.low) (.int .i64 s.high) (.bool s.pic)) := by rw [← HX0.out]; exact seven_start _ _ _ _ _ _ _ _ 56 (w.heap.size + 1) (by simp)
  have KEEP : Hid (∀ w', Below X0.heap.size X0 w' → (w'.cell? ⟨w.heap.size + 1, 3, none⟩ = some (.int .i64 4) ∧ w'.cell? ⟨w.heap.size, 0, none⟩ = some (.int .i64 q.kind) ∧ w'.cell? ⟨w.heap.size, 1, none⟩ = some (.int .i64 q.id) ∧ w'.cell? ⟨w.heap.size, 2, none⟩ = some (.int .i64 q.a) ∧ w'.cell? ⟨w.heap.size, 3, none⟩ = some (.int .i64 q.b) ∧ w'.cell? ⟨w.heap.size, 4, none⟩ = some (.int .i64 q.c) ∧ w'.cell? ⟨w.heap.size, 5, none⟩ = some (.int .i64 q.d) ∧ w'.cell? ⟨w.heap.size, 6, none⟩ = some (.int .i64 q.pw) ∧ w'.cell? ⟨w.heap.size, 7, none⟩ = some (.int .i64 q.ph) ∧ w'.cell? ⟨w.heap.size, 8, none⟩ = some (.slice ap np cp))) := by
    intro w' h
    obtain ⟨m0, m1, m2, m3, m4, m5, m6, m7, m8, mf0, mf1, mf2, mf3, mf4, mf5, mf6, mf7, mf8, mlt⟩ := N0.out.on h
    exact ⟨(S0.out.on h).c3, m0, m1, m2, m3, m4, m5, m6, m7, m8⟩
  go_enter Tryd.func35, Tryd.ntmps35
  go_wp2_with fail
  rw [HX0.out]
  clear HX0
  refine wp_region_held_drew (S := (fun w' => w'.cell? ⟨w.heap.size + 1, 3, none⟩ = some (.int .i64 4) ∧ w'.cell? ⟨w.heap.size, 0, none⟩ = some (.int .i64 q.kind) ∧ w'.cell? ⟨w.heap.size, 1, none⟩ = some (.int .i64 q.id) ∧ w'.cell? ⟨w.heap.size, 2, none⟩ = some (.int .i64 q.a) ∧ w'.cell? ⟨w.heap.size, 3, none⟩ = some (.int .i64 q.b) ∧ w'.cell? ⟨w.heap.size, 4, none⟩ = some (.int .i64 q.c) ∧ w'.cell? ⟨w.heap.size, 5, none⟩ = some (.int .i64 q.d) ∧ w'.cell? ⟨w.heap.size, 6, none⟩ = some (.int .i64 q.pw) ∧ w'.cell? ⟨w.heap.size, 7, none⟩ = some (.int .i64 q.ph) ∧ w'.cell? ⟨w.heap.size, 8, none⟩ = some (.slice ap np cp))) (by kernel_rfl) ?_ (fun hHeld => ?_)
  · exact KEEP.out _ (Below.refl _ _).drew
  refine wpAnyH_take (i := 0) (oi := ({ dst := some 6, op := Op.load 26 (Operand.tmp 2), type := 26, pos := "op.go:136", after := #[], guard := none } : Oper)) (v := ?_) rfl (by kernel_rfl) (by kernel_rfl) (by kernel_rfl) (fun _ _ _ h => h) (Or.inl ⟨by rfl, ?_⟩) (by assumption) ?_
  rotate_left
  · (intro w hSw; (try dsimp only at hSw); go_simp; try with_reducible rfl)
  try simp only [Act.put, List.setIfInBounds_toArray, List.set_cons_zero, List.set_cons_succ]
  refine wpAnyH_take (i := 2) (oi := ({ dst := some 8, op := Op.fieldAddr 56 (Operand.tmp 3) 3, type := 0, pos := "op.go:136", after := #[], guard := none } : Oper)) (v := ?_) rfl (by kernel_rfl) (by kernel_rfl) (by kernel_rfl) (fun _ _ _ h => h) (Or.inl ⟨by rfl, ?_⟩) (by assumption) ?_
  rotate_left
  · (intro w hSw; (try dsimp only at hSw); go_simp; try with_reducible rfl)
  try simp only [Act.put, List.setIfInBounds_toArray, List.set_cons_zero, List.set_cons_succ]
  refine wpAnyH_take (i := 3) (oi := ({ dst := some 9, op := Op.load 3 (Operand.tmp 8), type := 3, pos := "op.go:136", after := #[{ on := 2, ground := Ground.data }], guard := none } : Oper)) (v := ?_) rfl (by kernel_rfl) (by kernel_rfl) (by kernel_rfl) (fun _ _ _ h => h) (Or.inl ⟨by rfl, ?_⟩) (by assumption) ?_
  rotate_left
  · (intro w hSw; (try dsimp only at hSw); go_simp; try with_reducible rfl)
  try simp only [Act.put, List.setIfInBounds_toArray, List.set_cons_zero, List.set_cons_succ]
  refine wpAnyH_ready (rs := [1]) (by kernel_rfl) (by simp) ?_
  refine AllReadyH.cons (o := ({ dst := some 7, op := Op.call { callee := Callee.value (Operand.func 24), args := #[Operand.tmp 6], argTypes := #[26] }, type := 60, pos := "op.go:136", after := #[{ on := 0, ground := Ground.data }], guard := none } : Oper)) rfl (fun K_ hK => ?_) AllReadyH.nil
  go_simp
  refine (numbers_any q (.slice ap np cp) X0.drew).mono ?_
  rintro e w1 ⟨g1, rfl, hg1, hh1, hb1⟩
  have HB1 : Hid (Below X0.heap.size X0 w1) := ⟨hb1.os, hb1.tape, hb1.output, hb1.size, hb1.block⟩
  have HCE : Hid (∀ j v, (intCells ((nums4 q).drop 4))[j]? = some v → w1.cell? ((⟨g1, 0, none⟩ : Addr).add j) = some v) := (by intro j v hj; simp [nums4, intCells] at hj)
  have hg1l : g1 < w1.heap.size := (Array.getElem?_eq_some_iff.1 hh1).1
  clear hh1 hb1
  refine hK.out _ _ ?_ (fun hHeld => ?_)
  · exact KEEP.out _ HB1.out
  clear hK K_
  try simp only [Act.put, List.setIfInBounds_toArray, List.set_cons_zero, List.set_cons_succ]
  refine wpAnyH_take (i := 4) (oi := ({ dst := some 10, op := Op.slice 60 (Operand.tmp 7) (some (Operand.tmp 9)) none none, type := 60, pos := "op.go:136", after := #[{ on := 1, ground := Ground.data }, { on := 3, ground := Ground.data }], guard := none } : Oper)) (v := ?_) rfl (by kernel_rfl) (by kernel_rfl) (by kernel_rfl) (fun _ _ _ h => h) (Or.inl ⟨by rfl, ?_⟩) (by assumption) ?_
  rotate_left
  · (intro w hSw; (try dsimp only at hSw); go_simp; try with_reducible rfl)
  try simp only [Act.put, List.setIfInBounds_toArray, List.set_cons_zero, List.set_cons_succ]
  refine wpAnyH_take (i := 5) (oi := ({ dst := some 5, op := Op.assign (Operand.tmp 10), type := 60, pos := "op.go:136", after := #[{ on := 4, ground := Ground.data }, { on := 1, ground := Ground.chain }, { on := 0, ground := Ground.phase }, { on := 1, ground := Ground.phase }, { on := 2, ground := Ground.phase }, { on := 3, ground := Ground.phase }, { on := 4, ground := Ground.phase }], guard := none } : Oper)) (v := ?_) rfl (by kernel_rfl) (by kernel_rfl) (by kernel_rfl) (fun _ _ _ h => h) (Or.inl ⟨by rfl, ?_⟩) (by assumption) ?_
  rotate_left
  · (intro w hSw; (try dsimp only at hSw); go_simp; try with_reducible rfl)
  try simp only [Act.put, List.setIfInBounds_toArray, List.set_cons_zero, List.set_cons_succ]
  refine wpAnyH_done (by kernel_rfl) ?_ _
  have hln : ((nums4 q).drop 4).length = 0 := by simp [nums4]
  have N1 := N0.out.on HB1.out
  have S1 := S0.out.on HB1.out
  obtain ⟨m0, m1, m2, m3, m4, m5, m6, m7, m8, mf0, mf1, mf2, mf3, mf4, mf5, mf6, mf7, mf8, mlt⟩ := N1
  obtain ⟨s0, s1, s2, s3, s4, s5, s6, sf0, sf1, sf2, sf3, sf4, sf5, sf6, slt⟩ := S1
  have hbb1 := hbz.trans (HB1.out.mono hbz.size)
  clear KEEP
  cases hsp : s.pic with
  | true =>
    have hid : s.id = true := by
      cases h : s.id with
      | true => rfl
      | false => have := hip h; rw [hsp] at this; cases this
    rw [hsp] at s6
    rw [hid] at s2
    have HF : Hid (forL q s = (nums4 q).drop 4) := by unfold Hid forL; rw [HN4.out, hid, hsp]; simp
    clear hsp hid
    go_wp2_with fail
    go_ret
    refine ⟨.slice (some ⟨g1, 0, none⟩) 0 0, rfl, ?_, hbb1⟩
    rw [HF.out]
    exact ⟨some ⟨g1, 0, none⟩, 0, by rw [hln], by rw [hln]; exact Nat.le_refl _, by omega, fun hne => ⟨g1, 0, rfl, hg1l, fun j hj => by have := HCE.out j _ (intCells_at _ j hj); rw [show (⟨g1, 0, none⟩ : Addr).add j = ⟨g1, 0 + j, none⟩ by unfold Addr.add; split <;> simp_all] at this; exact this⟩⟩
  | false =>
    rw [hsp] at s6
    cases hid : s.id with
    | true =>
      rw [hid] at s2
      have HF : Hid (forL q s = (nums4 q).drop 4 ++ [q.pw, q.ph, (np : Int)]) := by unfold Hid forL; rw [HN4.out, hid, hsp, HNP.out]; simp
      clear hsp hid
      have hbx : Below w1.heap.size w1 (w1.alloc (.cells #[.int .i64 q.pw, .int .i64 q.ph, .int .i64 (np : Int)] 3)) := (Below.refl _ _).alloc (Nat.le_refl _) _
      obtain ⟨v', w3, hr, ho, hb3⟩ := run_append_full (w1.alloc (.cells #[.int .i64 q.pw, .int .i64 q.ph, .int .i64 (np : Int)] 3)) ((nums4 q).drop 4) [q.pw, q.ph, (np : Int)] ⟨g1, 0, none⟩ 0 hln (fun j v hj => by have := HCE.out j v hj; rw [show (⟨g1, 0, none⟩ : Addr).add j = ⟨g1, 0 + j, none⟩ by unfold Addr.add; split <;> simp_all] at this ⊢; exact (hbx.cell (p := ⟨g1, 0 + j, none⟩) hg1l).trans this) ⟨w1.heap.size, 0, none⟩ 3 3 rfl (by omega) (new_cells w1 _ 3) (by omega) 60
      have hbb3 := (hbb1.trans (hbx.mono hbb1.size)).trans (hb3.mono (hbb1.trans (hbx.mono hbb1.size)).size)
      have HRI := hid_of3 (rdI_own ho (by rw [List.length_append, hln]; rfl))
      obtain ⟨a', c', hv'⟩ := own_any ho
      subst hv'
      clear ho hb3 hbx
      go_wp2_with (at_builtin; refine Lib.wpList_append_run _ rfl _ _ _ _ rfl _ _ rfl rfl _ _ hr ?_)
      go_ret
      exact ⟨_, rfl, by rw [HF.out]; exact HRI.out, hbb3⟩
    | false =>
      rw [hid] at s2
      have HSP := hid_of3 hsp
      have HF : Hid (forL q s = ((nums4 q).drop 4 ++ [q.id]) ++ [q.pw, q.ph, (np : Int)]) := by unfold Hid forL; rw [HN4.out, hid, hsp, HNP.out]; simp
      clear hsp hid
      have hbx : Below w1.heap.size w1 (w1.alloc (.cells #[.int .i64 q.id] 3)) := (Below.refl _ _).alloc (Nat.le_refl _) _
      obtain ⟨v', w3, hr, ho, hb3⟩ := run_append_full (w1.alloc (.cells #[.int .i64 q.id] 3)) ((nums4 q).drop 4) [q.id] ⟨g1, 0, none⟩ 0 hln (fun j v hj => by have := HCE.out j v hj; rw [show (⟨g1, 0, none⟩ : Addr).add j = ⟨g1, 0 + j, none⟩ by unfold Addr.add; split <;> simp_all] at this ⊢; exact (hbx.cell (p := ⟨g1, 0 + j, none⟩) hg1l).trans this) ⟨w1.heap.size, 0, none⟩ 1 1 rfl (by omega) (new_cells w1 _ 3) (by omega) 60
      have hbb2 := hbb1.trans (hbx.mono hbb1.size)
      have hbb3 := hbb2.trans (hb3.mono hbb2.size)
      have HO3 := hide_own (own_mono ho hbb2.size)
      obtain ⟨a', c', hv'⟩ := own_any ho
      subst hv'
      have S3 := ((S0.out.on HB1.out).on hbx).on hb3
      have N3 := ((N0.out.on HB1.out).on hbx).on hb3
      obtain ⟨x0, x1, x2, x3, x4, x5, x6, xf0, xf1, xf2, xf3, xf4, xf5, xf6, xlt⟩ := S3
      obtain ⟨y0, y1, y2, y3, y4, y5, y6, y7, y8, yf0, yf1, yf2, yf3, yf4, yf5, yf6, yf7, yf8, ylt⟩ := N3
      rw [HSP.out] at x6
      obtain ⟨i0, hi, hz0, hz1, hz2⟩ := info_parts Tryd.infoInt
      have hbx3 : Below w3.heap.size w3 (w3.alloc (.cells #[.int .i64 q.pw, .int .i64 q.ph, .int .i64 (np : Int)] 3)) := (Below.refl _ _).alloc (Nat.le_refl _) _
      have HO4 := own_on2 HO3.out hbx3
      have hbb4 := hbb3.trans (hbx3.mono hbb3.size)
      obtain ⟨v5, w5, hr5, ho5, hg5, _⟩ := run_append_own (P := Tryd.prog) _ w.heap.size 60 60 3 i0 (.int .i64 0) 1 8 Tryd.underlying60 hi hz0 hz1 hz2 rfl (by decide) _ _ _ HO4 ⟨w3.heap.size, 0, none⟩ 3 3 (intCells [q.pw, q.ph, (np : Int)]) rfl (new_cells w3 _ 3) (intCells_one _) (by unfold maxLen; omega) (by omega) hbb4.size
      have hbb5 : Below w.heap.size w w5 := hbb4.grown hg5 hbb4.size (fun z hz => (HO4.lt z hz).1)
      have e5 : intCells ((nums4 q).drop 4 ++ [q.id]) ++ intCells [q.pw, q.ph, (np : Int)] = intCells (((nums4 q).drop 4 ++ [q.id]) ++ [q.pw, q.ph, (np : Int)]) := by simp [intCells]
      rw [e5] at ho5
      have HRI := hid_of3 (rdI_own ho5 (by rw [List.length_append, List.length_append, hln]; rfl))
      obtain ⟨a5, c5, hv5⟩ := own_any ho5
      subst hv5
      clear ho hb3 hbx ho5 hg5 e5 hbx3 HO4 HO3
      go_wp2_with (at_builtin; first | refine Lib.wpList_append_run _ rfl _ _ _ _ rfl _ _ rfl rfl _ _ hr ?_ | refine Lib.wpList_append_run _ rfl _ _ _ _ rfl _ _ rfl rfl _ _ hr5 ?_)
      go_ret
      exact ⟨_, rfl, by rw [HF.out]; exact HRI.out, hbb5⟩

set_option maxHeartbeats 8000000 in
set_option maxRecDepth 100000 in
theorem foreign_any (q : Pq) (s : Shp) (ap : Option Addr) (np cp : Nat) (w : World) (hnums : s.nums ≤ 4) (hip : s.id = false → s.pic = false) (HNP : Hid (q.ps.length = np)) (hnp : np ≤ 9223372036854775807) :
    Calls Tryd.prog 35 #[opV q (.slice ap np cp), s.val] w fun e w' => ∃ v', e = .returned v' ∧ RdI w' v' (forL q s) ∧ Below w.heap.size w w' := by
  by_cases hnn : s.nums = 4
  · have h := foreign4_any q s ap np cp w hnn hip HNP hnp
    have e : s.val = .agg #[.int .i64 (s.kind : Int), .string s.bytes, .bool s.id, .int .i64 4, .int .i64 s.low, .int .i64 s.high, .bool s.pic] := by unfold Shp.val; rw [hnn]; rfl
    rw [e]
    exact h
  obtain ⟨X0, HX0⟩ : ∃ X0, Hid (((w.alloc (.cells #[.int .i64 q.kind, .int .i64 q.id, .int .i64 q.a, .int .i64 q.b, .int .i64 q.c, .int .i64 q.d, .int .i64 q.pw, .int .i64 q.ph, .slice ap np cp] 26)).alloc (.cells #[.int .i64 (s.kind : Int), .string s.bytes, .bool s.id, .int .i64 (s.nums : Int), .int .i64 s.low, .int .i64 s.high, .bool s.pic] 56)) = X0) := ⟨_, (rfl : _ = _)⟩
  have hbz : Below w.heap.size w X0 := by rw [← HX0.out]; exact ((Below.refl _ _).alloc (Nat.le_refl _) _).alloc (by simp) _
  have N0 : Hid (Nine X0 w.heap.size (.int .i64 q.kind) (.int .i64 q.id) (.int .i64 q.a) (.int .i64 q.b) (.int .i64 q.c) (.int .i64 q.d) (.int .i64 q.pw) (.int .i64 q.ph) (.slice ap np cp)) := by rw [← HX0.out]; exact (nine_start w _ _ _ _ _ _ _ _ _ 26 w.heap.size rfl).alloc _
  have S0 : Hid (Seven X0 (w.heap.size + 1) (.int .i64 (s.kind : Int)) (.string s.bytes) (.bool s.id) (.int .i64 (s.nums : Int)) (.int .i64 s.low) (.int .i64 s.high) (.bool s.pic)) := by rw [← HX0.out]; exact seven_start _ _ _ _ _ _ _ _ 56 (w.heap.size + 1) (by simp)
  have KEEP : Hid (∀ w', Below X0.heap.size X0 w' → (w'.cell? ⟨w.heap.size + 1, 3, none⟩ = some (.int .i64 (s.nums : Int)) ∧ w'.cell? ⟨w.heap.size, 0, none⟩ = some (.int .i64 q.kind) ∧ w'.cell? ⟨w.heap.size, 1, none⟩ = some (.int .i64 q.id) ∧ w'.cell? ⟨w.heap.size, 2, none⟩ = some (.int .i64 q.a) ∧ w'.cell? ⟨w.heap.size, 3, none⟩ = some (.int .i64 q.b) ∧ w'.cell? ⟨w.heap.size, 4, none⟩ = some (.int .i64 q.c) ∧ w'.cell? ⟨w.heap.size, 5, none⟩ = some (.int .i64 q.d) ∧ w'.cell? ⟨w.heap.size, 6, none⟩ = some (.int .i64 q.pw) ∧ w'.cell? ⟨w.heap.size, 7, none⟩ = some (.int .i64 q.ph) ∧ w'.cell? ⟨w.heap.size, 8, none⟩ = some (.slice ap np cp))) := by
    intro w' h
    obtain ⟨m0, m1, m2, m3, m4, m5, m6, m7, m8, mf0, mf1, mf2, mf3, mf4, mf5, mf6, mf7, mf8, mlt⟩ := N0.out.on h
    exact ⟨(S0.out.on h).c3, m0, m1, m2, m3, m4, m5, m6, m7, m8⟩
  unfold Shp.val
  have hi1 : (0 : Int) ≤ (s.nums : Int) := by omega
  have hi2 : (s.nums : Int) ≤ 4 := by omega
  have hi3 : IntKind.i64.wrap (s.nums : Int) = (s.nums : Int) := by rw [IntKind.wrap_i64]; omega
  have hi4 : ¬ 4 = s.nums := fun h => hnn h.symm
  go_enter Tryd.func35, Tryd.ntmps35
  go_wp2_with fail
  rw [HX0.out]
  clear HX0
  refine wp_region_held_drew (S := (fun w' => w'.cell? ⟨w.heap.size + 1, 3, none⟩ = some (.int .i64 (s.nums : Int)) ∧ w'.cell? ⟨w.heap.size, 0, none⟩ = some (.int .i64 q.kind) ∧ w'.cell? ⟨w.heap.size, 1, none⟩ = some (.int .i64 q.id) ∧ w'.cell? ⟨w.heap.size, 2, none⟩ = some (.int .i64 q.a) ∧ w'.cell? ⟨w.heap.size, 3, none⟩ = some (.int .i64 q.b) ∧ w'.cell? ⟨w.heap.size, 4, none⟩ = some (.int .i64 q.c) ∧ w'.cell? ⟨w.heap.size, 5, none⟩ = some (.int .i64 q.d) ∧ w'.cell? ⟨w.heap.size, 6, none⟩ = some (.int .i64 q.pw) ∧ w'.cell? ⟨w.heap.size, 7, none⟩ = some (.int .i64 q.ph) ∧ w'.cell? ⟨w.heap.size, 8, none⟩ = some (.slice ap np cp))) (by kernel_rfl) ?_ (fun hHeld => ?_)
  · exact KEEP.out _ (Below.refl _ _).drew
  refine wpAnyH_take (i := 0) (oi := ({ dst := some 6, op := Op.load 26 (Operand.tmp 2), type := 26, pos := "op.go:136", after := #[], guard := none } : Oper)) (v := ?_) rfl (by kernel_rfl) (by kernel_rfl) (by kernel_rfl) (fun _ _ _ h => h) (Or.inl ⟨by rfl, ?_⟩) (by assumption) ?_
  rotate_left
  · (intro w hSw; (try dsimp only at hSw); go_simp; try with_reducible rfl)
  try simp only [Act.put, List.setIfInBounds_toArray, List.set_cons_zero, List.set_cons_succ]
  refine wpAnyH_take (i := 2) (oi := ({ dst := some 8, op := Op.fieldAddr 56 (Operand.tmp 3) 3, type := 0, pos := "op.go:136", after := #[], guard := none } : Oper)) (v := ?_) rfl (by kernel_rfl) (by kernel_rfl) (by kernel_rfl) (fun _ _ _ h => h) (Or.inl ⟨by rfl, ?_⟩) (by assumption) ?_
  rotate_left
  · (intro w hSw; (try dsimp only at hSw); go_simp; try with_reducible rfl)
  try simp only [Act.put, List.setIfInBounds_toArray, List.set_cons_zero, List.set_cons_succ]
  refine wpAnyH_take (i := 3) (oi := ({ dst := some 9, op := Op.load 3 (Operand.tmp 8), type := 3, pos := "op.go:136", after := #[{ on := 2, ground := Ground.data }], guard := none } : Oper)) (v := ?_) rfl (by kernel_rfl) (by kernel_rfl) (by kernel_rfl) (fun _ _ _ h => h) (Or.inl ⟨by rfl, ?_⟩) (by assumption) ?_
  rotate_left
  · (intro w hSw; (try dsimp only at hSw); go_simp; try with_reducible rfl)
  try simp only [Act.put, List.setIfInBounds_toArray, List.set_cons_zero, List.set_cons_succ]
  refine wpAnyH_ready (rs := [1]) (by kernel_rfl) (by simp) ?_
  refine AllReadyH.cons (o := ({ dst := some 7, op := Op.call { callee := Callee.value (Operand.func 24), args := #[Operand.tmp 6], argTypes := #[26] }, type := 60, pos := "op.go:136", after := #[{ on := 0, ground := Ground.data }], guard := none } : Oper)) rfl (fun K_ hK => ?_) AllReadyH.nil
  go_simp
  refine (numbers_any q (.slice ap np cp) X0.drew).mono ?_
  rintro e w1 ⟨g1, rfl, hg1, hh1, hb1⟩
  have HB1 : Hid (Below X0.heap.size X0 w1) := ⟨hb1.os, hb1.tape, hb1.output, hb1.size, hb1.block⟩
  have HCE : Hid (∀ j v, (intCells ((nums4 q).drop s.nums))[j]? = some v → w1.cell? ((⟨g1, s.nums, none⟩ : Addr).add j) = some v) := four_cells q hh1 s.nums
  have hg1l : g1 < w1.heap.size := (Array.getElem?_eq_some_iff.1 hh1).1
  clear hh1 hb1
  refine hK.out _ _ ?_ (fun hHeld => ?_)
  · exact KEEP.out _ HB1.out
  clear hK K_
  try simp only [Act.put, List.setIfInBounds_toArray, List.set_cons_zero, List.set_cons_succ]
  refine wpAnyH_take (i := 4) (oi := ({ dst := some 10, op := Op.slice 60 (Operand.tmp 7) (some (Operand.tmp 9)) none none, type := 60, pos := "op.go:136", after := #[{ on := 1, ground := Ground.data }, { on := 3, ground := Ground.data }], guard := none } : Oper)) (v := ?_) rfl (by kernel_rfl) (by kernel_rfl) (by kernel_rfl) (fun _ _ _ h => h) (Or.inl ⟨by rfl, ?_⟩) (by assumption) ?_
  rotate_left
  · (intro w hSw; (try dsimp only at hSw); go_simp; try with_reducible rfl)
  try simp only [Act.put, List.setIfInBounds_toArray, List.set_cons_zero, List.set_cons_succ]
  refine wpAnyH_take (i := 5) (oi := ({ dst := some 5, op := Op.assign (Operand.tmp 10), type := 60, pos := "op.go:136", after := #[{ on := 4, ground := Ground.data }, { on := 1, ground := Ground.chain }, { on := 0, ground := Ground.phase }, { on := 1, ground := Ground.phase }, { on := 2, ground := Ground.phase }, { on := 3, ground := Ground.phase }, { on := 4, ground := Ground.phase }], guard := none } : Oper)) (v := ?_) rfl (by kernel_rfl) (by kernel_rfl) (by kernel_rfl) (fun _ _ _ h => h) (Or.inl ⟨by rfl, ?_⟩) (by assumption) ?_
  rotate_left
  · (intro w hSw; (try dsimp only at hSw); go_simp; try with_reducible rfl)
  try simp only [Act.put, List.setIfInBounds_toArray, List.set_cons_zero, List.set_cons_succ]
  refine wpAnyH_done (by kernel_rfl) ?_ _
  have hln : ((nums4 q).drop s.nums).length = (4 - s.nums) := by simp [nums4]
  have N1 := N0.out.on HB1.out
  have S1 := S0.out.on HB1.out
  obtain ⟨m0, m1, m2, m3, m4, m5, m6, m7, m8, mf0, mf1, mf2, mf3, mf4, mf5, mf6, mf7, mf8, mlt⟩ := N1
  obtain ⟨s0, s1, s2, s3, s4, s5, s6, sf0, sf1, sf2, sf3, sf4, sf5, sf6, slt⟩ := S1
  have hbb1 := hbz.trans (HB1.out.mono hbz.size)
  clear KEEP
  cases hsp : s.pic with
  | true =>
    have hid : s.id = true := by
      cases h : s.id with
      | true => rfl
      | false => have := hip h; rw [hsp] at this; cases this
    rw [hsp] at s6
    rw [hid] at s2
    have HF : Hid (forL q s = (nums4 q).drop s.nums) := by unfold Hid forL; rw [hid, hsp]; simp
    clear hsp hid
    go_wp2_with fail
    go_ret
    refine ⟨.slice (some ⟨g1, s.nums, none⟩) (4 - s.nums) (4 - s.nums), rfl, ?_, hbb1⟩
    rw [HF.out]
    exact ⟨some ⟨g1, s.nums, none⟩, (4 - s.nums), by rw [hln], by rw [hln]; exact Nat.le_refl _, by omega, fun hne => ⟨g1, s.nums, rfl, hg1l, fun j hj => by have := HCE.out j _ (intCells_at _ j hj); rw [show (⟨g1, s.nums, none⟩ : Addr).add j = ⟨g1, s.nums + j, none⟩ by unfold Addr.add; split <;> simp_all] at this; exact this⟩⟩
  | false =>
    rw [hsp] at s6
    cases hid : s.id with
    | true =>
      rw [hid] at s2
      have HF : Hid (forL q s = (nums4 q).drop s.nums ++ [q.pw, q.ph, (np : Int)]) := by unfold Hid forL; rw [hid, hsp, HNP.out]; simp
      clear hsp hid
      have hbx : Below w1.heap.size w1 (w1.alloc (.cells #[.int .i64 q.pw, .int .i64 q.ph, .int .i64 (np : Int)] 3)) := (Below.refl _ _).alloc (Nat.le_refl _) _
      obtain ⟨v', w3, hr, ho, hb3⟩ := run_append_full (w1.alloc (.cells #[.int .i64 q.pw, .int .i64 q.ph, .int .i64 (np : Int)] 3)) ((nums4 q).drop s.nums) [q.pw, q.ph, (np : Int)] ⟨g1, s.nums, none⟩ (4 - s.nums) hln (fun j v hj => by have := HCE.out j v hj; rw [show (⟨g1, s.nums, none⟩ : Addr).add j = ⟨g1, s.nums + j, none⟩ by unfold Addr.add; split <;> simp_all] at this ⊢; exact (hbx.cell (p := ⟨g1, s.nums + j, none⟩) hg1l).trans this) ⟨w1.heap.size, 0, none⟩ 3 3 rfl (by omega) (new_cells w1 _ 3) (by omega) 60
      have hbb3 := (hbb1.trans (hbx.mono hbb1.size)).trans (hb3.mono (hbb1.trans (hbx.mono hbb1.size)).size)
      have HRI := hid_of3 (rdI_own ho (by rw [List.length_append, hln]; rfl))
      obtain ⟨a', c', hv'⟩ := own_any ho
      subst hv'
      clear ho hb3 hbx
      go_wp2_with (at_builtin; refine Lib.wpList_append_run _ rfl _ _ _ _ rfl _ _ rfl rfl _ _ hr ?_)
      go_ret
      exact ⟨_, rfl, by rw [HF.out]; exact HRI.out, hbb3⟩
    | false =>
      rw [hid] at s2
      have HSP := hid_of3 hsp
      have HF : Hid (forL q s = ((nums4 q).drop s.nums ++ [q.id]) ++ [q.pw, q.ph, (np : Int)]) := by unfold Hid forL; rw [hid, hsp, HNP.out]; simp
      clear hsp hid
      have hbx : Below w1.heap.size w1 (w1.alloc (.cells #[.int .i64 q.id] 3)) := (Below.refl _ _).alloc (Nat.le_refl _) _
      obtain ⟨v', w3, hr, ho, hb3⟩ := run_append_full (w1.alloc (.cells #[.int .i64 q.id] 3)) ((nums4 q).drop s.nums) [q.id] ⟨g1, s.nums, none⟩ (4 - s.nums) hln (fun j v hj => by have := HCE.out j v hj; rw [show (⟨g1, s.nums, none⟩ : Addr).add j = ⟨g1, s.nums + j, none⟩ by unfold Addr.add; split <;> simp_all] at this ⊢; exact (hbx.cell (p := ⟨g1, s.nums + j, none⟩) hg1l).trans this) ⟨w1.heap.size, 0, none⟩ 1 1 rfl (by omega) (new_cells w1 _ 3) (by omega) 60
      have hbb2 := hbb1.trans (hbx.mono hbb1.size)
      have hbb3 := hbb2.trans (hb3.mono hbb2.size)
      have HO3 := hide_own (own_mono ho hbb2.size)
      obtain ⟨a', c', hv'⟩ := own_any ho
      subst hv'
      have S3 := ((S0.out.on HB1.out).on hbx).on hb3
      have N3 := ((N0.out.on HB1.out).on hbx).on hb3
      obtain ⟨x0, x1, x2, x3, x4, x5, x6, xf0, xf1, xf2, xf3, xf4, xf5, xf6, xlt⟩ := S3
      obtain ⟨y0, y1, y2, y3, y4, y5, y6, y7, y8, yf0, yf1, yf2, yf3, yf4, yf5, yf6, yf7, yf8, ylt⟩ := N3
      rw [HSP.out] at x6
      obtain ⟨i0, hi, hz0, hz1, hz2⟩ := info_parts Tryd.infoInt
      have hbx3 : Below w3.heap.size w3 (w3.alloc (.cells #[.int .i64 q.pw, .int .i64 q.ph, .int .i64 (np : Int)] 3)) := (Below.refl _ _).alloc (Nat.le_refl _) _
      have HO4 := own_on2 HO3.out hbx3
      have hbb4 := hbb3.trans (hbx3.mono hbb3.size)
      obtain ⟨v5, w5, hr5, ho5, hg5, _⟩ := run_append_own (P := Tryd.prog) _ w.heap.size 60 60 3 i0 (.int .i64 0) 1 8 Tryd.underlying60 hi hz0 hz1 hz2 rfl (by decide) _ _ _ HO4 ⟨w3.heap.size, 0, none⟩ 3 3 (intCells [q.pw, q.ph, (np : Int)]) rfl (new_cells w3 _ 3) (intCells_one _) (by unfold maxLen; omega) (by omega) hbb4.size
      have hbb5 : Below w.heap.size w w5 := hbb4.grown hg5 hbb4.size (fun z hz => (HO4.lt z hz).1)
      have e5 : intCells ((nums4 q).drop s.nums ++ [q.id]) ++ intCells [q.pw, q.ph, (np : Int)] = intCells (((nums4 q).drop s.nums ++ [q.id]) ++ [q.pw, q.ph, (np : Int)]) := by simp [intCells]
      rw [e5] at ho5
      have HRI := hid_of3 (rdI_own ho5 (by rw [List.length_append, List.length_append, hln]; rfl))
      obtain ⟨a5, c5, hv5⟩ := own_any ho5
      subst hv5
      clear ho hb3 hbx ho5 hg5 e5 hbx3 HO4 HO3
      go_wp2_with (at_builtin; first | refine Lib.wpList_append_run _ rfl _ _ _ _ rfl _ _ rfl rfl _ _ hr ?_ | refine Lib.wpList_append_run _ rfl _ _ _ _ rfl _ _ rfl rfl _ _ hr5 ?_)
      go_ret
      exact ⟨_, rfl, by rw [HF.out]; exact HRI.out, hbb5⟩
end Go.Proofs.YtfhfedcamcpceaaDoor
/- Walk: op.Check. -/
namespace Go.Proofs.YtfhfedcamcpceaaDoor
open Go.RowKit

/-- the number of the error of an op -/
def opC (q : Pq) : Nat :=
  match kindAt q.kind shps with
  | none => 3
  | some s => if (forL q s).any (fun n => decide (n ≠ 0)) = true then 3 else if (s.id && (decide (q.id < 1) || decide (6 < q.id))) = true ∨ inB q s = false then 1 else if s.pic = true then checkL q.pw q.ph q.ps else 0
theorem shps_ok : ∀ s ∈ shps, s.nums ≤ 4 ∧ (s.id = false → s.pic = false) := by
  intro s hs
  simp only [shps, List.mem_cons, List.not_mem_nil, or_false] at hs
  rcases hs with rfl | rfl | rfl | rfl | rfl | rfl | rfl | rfl | rfl | rfl | rfl | rfl | rfl | rfl | rfl | rfl <;> exact ⟨by decide, by decide⟩
theorem kindAt_mem (kd : Int) : ∀ (l : List Shp) (s : Shp), kindAt kd l = some s → s ∈ l ∧ (s.kind : Int) = kd := by
  intro l
  induction l with
  | nil => intro s h; cases h
  | cons a r ih =>
    intro s h
    unfold kindAt at h
    split at h
    · obtain rfl := Option.some.inj h
      exact ⟨by simp, by assumption⟩
    · obtain ⟨h1, h2⟩ := ih s h
      exact ⟨by simp [h1], h2⟩

set_option maxHeartbeats 8000000 in
set_option maxRecDepth 100000 in
theorem opCheck_any (q : Pq) (u : Value) (w : World) (HS : Hid (Shapes w)) (h1 : 3 < w.heap.size) (HU : Hid (RdP w u q.ps)) (hps : q.ps.length ≤ 1000000000) (c : Nat) (HC : Hid (opC q = c)) :
    Calls Tryd.prog 14 #[opV q u] w fun e w' => e = .returned (errV c) ∧ Below w.heap.size w w' := by
  obtain ⟨ap, cp, hv, hl0, hcp, _⟩ := HU.out
  obtain ⟨np, HNP⟩ : ∃ n, Hid (q.ps.length = n) := ⟨_, (rfl : _ = _)⟩
  rw [HNP.out] at hv hl0
  subst hv
  obtain ⟨X0, HX0⟩ : ∃ X0, Hid (w.alloc (.cells #[.int .i64 q.kind, .int .i64 q.id, .int .i64 q.a, .int .i64 q.b, .int .i64 q.c, .int .i64 q.d, .int .i64 q.pw, .int .i64 q.ph, .slice ap np cp] 26) = X0) := ⟨_, (rfl : _ = _)⟩
  have hbz : Below w.heap.size w X0 := by rw [← HX0.out]; exact (Below.refl _ _).alloc (Nat.le_refl _) _
  have N0 : Nine X0 w.heap.size (.int .i64 q.kind) (.int .i64 q.id) (.int .i64 q.a) (.int .i64 q.b) (.int .i64 q.c) (.int .i64 q.d) (.int .i64 q.pw) (.int .i64 q.ph) (.slice ap np cp) := by rw [← HX0.out]; exact nine_start w _ _ _ _ _ _ _ _ _ 26 w.heap.size rfl
  have HS0 : Hid (Shapes X0) := HS.out.on h1 hbz
  have h1' := Nat.lt_of_lt_of_le h1 hbz.size
  have HU0 : Hid (RdP X0 (.slice ap np cp) q.ps) := HU.out.on hbz
  obtain ⟨o, HO⟩ : ∃ o, Hid (kindAt q.kind shps = o) := ⟨_, (rfl : _ = _)⟩
  have hc := HC.out
  unfold opC at hc
  rw [HO.out] at hc
  go_enter Tryd.func14, Tryd.ntmps14
  go_wp2_with fail
  rw [HX0.out]
  clear HX0
  refine (ofKind_any q.kind X0 HS0 h1').mono ?_
  rw [HO.out]
  rintro e w1 ⟨hb1, he⟩
  have hbb1 := hbz.trans (hb1.mono hbz.size)
  have N1 := N0.on hb1
  have HU1 := hid_of3 (HU0.out.on hb1)
  clear hb1 HS0 HU0 N0
  cases o with
  | none =>
    simp only at he hc
    subst he hc
    have hbx : Below w.heap.size w (w1.alloc (.cells #[.int .i64 0, .string ⟨#[]⟩, .bool false, .int .i64 0, .int .i64 0, .int .i64 0, .bool false] 56)) := hbb1.alloc hbb1.size _
    unfold shp0 Shp.val Shp.bytes
    go_wp2_with fail
    go_ret
    exact ⟨rfl, hbx⟩
  | some s =>
    simp only at he hc
    subst he
    obtain ⟨hs1, hs2⟩ := shps_ok s (kindAt_mem _ _ _ HO.out).1
    have hbx1 : Below w1.heap.size w1 (w1.alloc (.cells #[.int .i64 (s.kind : Int), .string s.bytes, .bool s.id, .int .i64 (s.nums : Int), .int .i64 s.low, .int .i64 s.high, .bool s.pic] 56)) := (Below.refl _ _).alloc (Nat.le_refl _) _
    have S1 := seven_start w1 (.int .i64 (s.kind : Int)) (.string s.bytes) (.bool s.id) (.int .i64 (s.nums : Int)) (.int .i64 s.low) (.int .i64 s.high) (.bool s.pic) 56 w1.heap.size rfl
    have N2 := N1.on hbx1
    have HU2 := hid_of3 (HU1.out.on hbx1)
    have hbb2 := hbb1.trans (hbx1.mono hbb1.size)
    obtain ⟨m0, m1, m2, m3, m4, m5, m6, m7, m8, mf0, mf1, mf2, mf3, mf4, mf5, mf6, mf7, mf8, mlt⟩ := N2
    unfold Shp.val
    go_wp2_with fail
    obtain ⟨X2, HX2⟩ : ∃ X2, Hid (w1.alloc (.cells #[.int .i64 (s.kind : Int), .string s.bytes, .bool s.id, .int .i64 (s.nums : Int), .int .i64 s.low, .int .i64 s.high, .bool s.pic] 56) = X2) := ⟨_, (rfl : _ = _)⟩
    rw [HX2.out] at S1 HU2 hbb2 hbx1
    rw [HX2.out]
    have N2 := N1.on hbx1
    clear m0 m1 m2 m3 m4 m5 m6 m7 m8 mf0 mf1 mf2 mf3 mf4 mf5 mf6 mf7 mf8 mlt HX2 N1 HU1 hbx1
    refine (foreign_any q s ap np cp X2 hs1 hs2 HNP (by omega)).mono ?_
    rintro e w3 ⟨v3, rfl, hr3, hb3⟩
    have HRI := hid_of3 hr3
    obtain ⟨a3, c3, hv3, hl3, hc3, _⟩ := hr3
    have hfl : (forL q s).length ≤ 1000 := by unfold forL nums4; split <;> split <;> simp <;> omega
    obtain ⟨n3, HN3⟩ : ∃ n3, Hid ((forL q s).length = n3) := ⟨_, (rfl : _ = _)⟩
    rw [HN3.out] at hv3
    subst hv3
    have N3 := N2.on hb3
    have S3 := S1.on hb3
    have HU3 := hid_of3 (HU2.out.on hb3)
    have hbb3 := hbb2.trans (hb3.mono hbb2.size)
    clear hb3 N2 S1 HU2 hbb2
    obtain ⟨t, HT⟩ : ∃ t, Hid ((forL q s).any (fun n => decide (n ≠ 0)) = t) := ⟨_, (rfl : _ = _)⟩
    rw [HT.out] at hc
    go_wp2_with fail
    refine (containsN_any _ (forL q s) w3 hfl HRI t HT).mono ?_
    rintro e w4 ⟨rfl, hb4⟩
    have N4 := N3.on hb4
    have S4 := S3.on hb4
    have HU4 := hid_of3 (HU3.out.on hb4)
    have hbb4 := hbb3.trans (hb4.mono hbb3.size)
    clear hb4 N3 S3 HU3 hbb3 HRI
    cases t with
    | true =>
      rw [if_pos rfl] at hc
      subst hc
      go_wp2_with fail
      go_ret
      exact ⟨rfl, hbb4⟩
    | false =>
      rw [if_neg (by simp)] at hc
      have N4h := hid_of3 N4
      have S4h := hid_of3 S4
      obtain ⟨m0, m1, m2, m3, m4, m5, m6, m7, m8, mf0, mf1, mf2, mf3, mf4, mf5, mf6, mf7, mf8, mlt⟩ := N4
      obtain ⟨s0, s1, s2, s3, s4, s5, s6, sf0, sf1, sf2, sf3, sf4, sf5, sf6, slt⟩ := S4
      obtain ⟨bi, HBI⟩ : ∃ b, Hid ((s.id && (decide (q.id < 1) || decide (6 < q.id))) = b) := ⟨_, (rfl : _ = _)⟩
      obtain ⟨bb, HBB⟩ : ∃ b, Hid (inB q s = b) := ⟨_, (rfl : _ = _)⟩
      rw [HBI.out, HBB.out] at hc
      cases hid : s.id with
      | true =>
        rw [hid] at s2 HBI
        by_cases g1 : q.id < 1
        · have : bi = true := by rw [← HBI.out]; simp [g1]
          subst this
          rw [if_pos (.inl rfl)] at hc
          subst hc
          clear hid HBI
          go_wp2_with fail
          go_ret
          exact ⟨rfl, hbb4⟩
        · by_cases g2 : 6 < q.id
          · have : bi = true := by rw [← HBI.out]; simp [g2]
            subst this
            rw [if_pos (.inl rfl)] at hc
            subst hc
            clear hid HBI
            go_wp2_with fail
            go_ret
            exact ⟨rfl, hbb4⟩
          · have : bi = false := by rw [← HBI.out]; simp [g1, g2]
            subst this
            have hib := inBounds_any q s ap np cp w4 hs1 bb HBB
            unfold Shp.val at hib
            rw [hid] at hib
            have N4 := N4h.out
            have S4 := S4h.out
            clear hid HBI
            go_wp2_with fail
            refine hib.mono ?_
            clear hib
            rintro e w5 ⟨rfl, hb5⟩
            have HU5 := hid_of3 (HU4.out.on hb5)
            have hbb5 := hbb4.trans (hb5.mono hbb4.size)
            have N5 := N4.on hb5
            have S5 := S4.on hb5
            clear m0 m1 m2 m3 m4 m5 m6 m7 m8 mf0 mf1 mf2 mf3 mf4 mf5 mf6 mf7 mf8 mlt s0 s1 s2 s3 s4 s5 s6 sf0 sf1 sf2 sf3 sf4 sf5 sf6 slt
            obtain ⟨m0, m1, m2, m3, m4, m5, m6, m7, m8, mf0, mf1, mf2, mf3, mf4, mf5, mf6, mf7, mf8, mlt⟩ := N5
            obtain ⟨s0, s1, s2, s3, s4, s5, s6, sf0, sf1, sf2, sf3, sf4, sf5, sf6, slt⟩ := S5
            clear hb5 HU4 hbb4 N4 S4 N4h S4h
            cases bb with
            | false =>
              rw [if_pos (.inr rfl)] at hc
              subst hc
              go_wp2_with fail
              go_ret
              exact ⟨rfl, hbb5⟩
            | true =>
              rw [if_neg (by simp)] at hc
              cases hp : s.pic with
              | false =>
                rw [hp] at s6 hc
                rw [if_neg (by simp)] at hc
                subst hc
                clear hp
                go_wp2_with fail
                go_ret
                exact ⟨rfl, hbb5⟩
              | true =>
                rw [hp] at s6 hc
                rw [if_pos rfl] at hc
                have HC2 := hid_of3 hc
                clear hp hc
                go_wp2_with fail
                refine (check_any q.pw q.ph _ q.ps _ hps HU5 c HC2).mono ?_
                rintro e w6 ⟨rfl, hb6⟩
                have hbb6 := hbb5.trans (hb6.mono hbb5.size)
                clear hb6
                go_wp2_with fail
                go_ret
                exact ⟨rfl, hbb6⟩
      | false =>
        rw [hid] at s2 HBI
        have : bi = false := by rw [← HBI.out]; rfl
        subst this
        have hib := inBounds_any q s ap np cp w4 hs1 bb HBB
        unfold Shp.val at hib
        rw [hid] at hib
        have N4 := N4h.out
        have S4 := S4h.out
        clear hid HBI
        go_wp2_with fail
        refine hib.mono ?_
        clear hib
        rintro e w5 ⟨rfl, hb5⟩
        have HU5 := hid_of3 (HU4.out.on hb5)
        have hbb5 := hbb4.trans (hb5.mono hbb4.size)
        have N5 := N4.on hb5
        have S5 := S4.on hb5
        clear m0 m1 m2 m3 m4 m5 m6 m7 m8 mf0 mf1 mf2 mf3 mf4 mf5 mf6 mf7 mf8 mlt s0 s1 s2 s3 s4 s5 s6 sf0 sf1 sf2 sf3 sf4 sf5 sf6 slt
        obtain ⟨m0, m1, m2, m3, m4, m5, m6, m7, m8, mf0, mf1, mf2, mf3, mf4, mf5, mf6, mf7, mf8, mlt⟩ := N5
        obtain ⟨s0, s1, s2, s3, s4, s5, s6, sf0, sf1, sf2, sf3, sf4, sf5, sf6, slt⟩ := S5
        clear hb5 HU4 hbb4 N4 S4 N4h S4h
        cases bb with
        | false =>
          rw [if_pos (.inr rfl)] at hc
          subst hc
          go_wp2_with fail
          go_ret
          exact ⟨rfl, hbb5⟩
        | true =>
          rw [if_neg (by simp)] at hc
          cases hp : s.pic with
          | false =>
            rw [hp] at s6 hc
            rw [if_neg (by simp)] at hc
            subst hc
            clear hp
            go_wp2_with fail
            go_ret
            exact ⟨rfl, hbb5⟩
          | true =>
            rw [hp] at s6 hc
            rw [if_pos rfl] at hc
            have HC2 := hid_of3 hc
            clear hp hc
            go_wp2_with fail
            refine (check_any q.pw q.ph _ q.ps _ hps HU5 c HC2).mono ?_
            rintro e w6 ⟨rfl, hb6⟩
            have hbb6 := hbb5.trans (hb6.mono hbb5.size)
            clear hb6
            go_wp2_with fail
            go_ret
            exact ⟨rfl, hbb6⟩
end Go.Proofs.YtfhfedcamcpceaaDoor
/- Walk: SameOp of two that are the same. -- s1 -/
namespace Go.Proofs.YtfhfedcamcpceaaDoor
open Go.RowKit

set_option maxHeartbeats 4000000 in
set_option maxRecDepth 100000 in
theorem sameOp_any (q : Pq) (u0 u1 : Value) (w : World) (hps : q.ps.length ≤ 1000) (H0 : Hid (RdP w u0 q.ps)) (H1 : Hid (RdP w u1 q.ps)) :
    Calls Tryd.prog 16 #[opV q u0, opV q u1] w fun e w' => e = .returned (.bool true) ∧ Below w.heap.size w w' := by
  obtain ⟨a0, c0, hv0, _, _, hh0⟩ := H0.out
  obtain ⟨a1, c1, hv1, _, _, hh1⟩ := H1.out
  obtain ⟨n, HN⟩ : ∃ n, Hid (q.ps.length = n) := ⟨_, (rfl : _ = _)⟩
  rw [HN.out] at hv0 hv1
  clear hh0 hh1
  subst hv0 hv1
  unfold opV
  have e1 : (q.kind == q.kind) = true := by simp
  have e2 : (q.id == q.id) = true := by simp
  have e3 : (q.a == q.a) = true := by simp
  have e4 : (q.b == q.b) = true := by simp
  have e5 : (q.c == q.c) = true := by simp
  have e6 : (q.d == q.d) = true := by simp
  obtain ⟨X0, HX0⟩ : ∃ X0, Hid ((w.alloc (.cells #[.int .i64 q.kind, .int .i64 q.id, .int .i64 q.a, .int .i64 q.b, .int .i64 q.c, .int .i64 q.d, .int .i64 q.pw, .int .i64 q.ph, .slice a0 n c0] 26)).alloc (.cells #[.int .i64 q.kind, .int .i64 q.id, .int .i64 q.a, .int .i64 q.b, .int .i64 q.c, .int .i64 q.d, .int .i64 q.pw, .int .i64 q.ph, .slice a1 n c1] 26) = X0) := ⟨_, (rfl : _ = _)⟩
  have hbz : Below w.heap.size w X0 := by rw [← HX0.out]; exact ((Below.refl _ _).alloc (Nat.le_refl _) _).alloc (by simp) _
  have E0 : Nine X0 w.heap.size (.int .i64 q.kind) (.int .i64 q.id) (.int .i64 q.a) (.int .i64 q.b) (.int .i64 q.c) (.int .i64 q.d) (.int .i64 q.pw) (.int .i64 q.ph) (.slice a0 n c0) := by rw [← HX0.out]; exact (nine_start w _ _ _ _ _ _ _ _ _ 26 w.heap.size rfl).alloc _
  have E1 : Nine X0 (w.heap.size + 1) (.int .i64 q.kind) (.int .i64 q.id) (.int .i64 q.a) (.int .i64 q.b) (.int .i64 q.c) (.int .i64 q.d) (.int .i64 q.pw) (.int .i64 q.ph) (.slice a1 n c1) := by rw [← HX0.out]; exact nine_start _ _ _ _ _ _ _ _ _ _ 26 (w.heap.size + 1) (by simp)
  have HR0 : Hid (RdP X0 (.slice a0 n c0) q.ps) := H0.out.on hbz
  have HR1 : Hid (RdP X0 (.slice a1 n c1) q.ps) := H1.out.on hbz
  go_enter Tryd.func16, Tryd.ntmps16
  go_wp2_with fail
  rw [HX0.out]
  refine (samePic_any q.pw q.ph _ _ q.ps _ hps HR0 HR1).mono ?_
  rintro e w1 ⟨rfl, hb1⟩
  have hbb1 := hbz.trans (hb1.mono hbz.size)
  obtain ⟨s0, s1, s2, s3, s4, s5, s6, s7, s8, -, -, -, -, -, -, -, -, -, -⟩ := E0.on hb1
  obtain ⟨t0, t1, t2, t3, t4, t5, t6, t7, t8, -, -, -, -, -, -, -, -, -, -⟩ := E1.on hb1
  clear HX0 hbz E0 E1 HR0 HR1 hb1
  go_wp2_with fail
  go_ret
  exact ⟨rfl, hbb1⟩
end Go.Proofs.YtfhfedcamcpceaaDoor
/- An op that is handed in, opened. -/
namespace Go.Proofs.YtfhfedcamcpceaaDoor
open Go.ChangeShapes Go.WideShapes Go.ChangeAt Go.RowKit Go.Joins Go.Deep

theorem Tryd.cellsOp : Tryd.prog.cellsOf 26 = 9 := by kernel_rfl

set_option maxRecDepth 100000 in
theorem cells_op {H : Type} {enc : TypeId × Value → H} {W : World} {cs : List Value} {fuel : Nat} {z : DataW H × List MemPlace} (hl : cs.length = 9)
    (h : DataW.trod enc Tryd.prog W 0 (fun _ => true) true fuel 26 cs = some z) :
    ∃ (q : Pq) (u : Value), cs = [.int .i64 q.kind, .int .i64 q.id, .int .i64 q.a, .int .i64 q.b, .int .i64 q.c, .int .i64 q.d, .int .i64 q.pw, .int .i64 q.ph, u] ∧ RdP W u q.ps := by
  obtain ⟨xs, n, _, rfl, hl', hlen, hf⟩ := DataW.trod_struct Tryd.underlying26 h
  match cs, hl with
  | [c0, c1, c2, c3, c4, c5, c6, c7, c8], _ =>
    match xs, hlen with
    | [y0, y1, y2, y3, y4, y5, y6], _ =>
      have h0 : DataW.trod enc Tryd.prog W 0 (fun _ => true) true n 3 [c0] = some y0 := by have := hf 0 _ rfl; simpa [Tryd.cellsInt] using this
      have h1 : DataW.trod enc Tryd.prog W 0 (fun _ => true) true n 3 [c1] = some y1 := by have := hf 1 _ rfl; simpa [Tryd.cellsInt] using this
      have h2 : DataW.trod enc Tryd.prog W 0 (fun _ => true) true n 3 [c2] = some y2 := by have := hf 2 _ rfl; simpa [Tryd.cellsInt] using this
      have h3 : DataW.trod enc Tryd.prog W 0 (fun _ => true) true n 3 [c3] = some y3 := by have := hf 3 _ rfl; simpa [Tryd.cellsInt] using this
      have h4 : DataW.trod enc Tryd.prog W 0 (fun _ => true) true n 3 [c4] = some y4 := by have := hf 4 _ rfl; simpa [Tryd.cellsInt] using this
      have h5 : DataW.trod enc Tryd.prog W 0 (fun _ => true) true n 3 [c5] = some y5 := by have := hf 5 _ rfl; simpa [Tryd.cellsInt] using this
      have h6 : DataW.trod enc Tryd.prog W 0 (fun _ => true) true n 24 [c6, c7, c8] = some y6 := by have := hf 6 _ rfl; simpa [Tryd.cellsPic] using this
      obtain ⟨z0, z1, z2, m, _, _, p0, p1, p2⟩ := trod_struct3 Tryd.underlying24 h6
      simp only [Tryd.cellsInt] at p0 p1
      have p2' : DataW.trod enc Tryd.prog W 0 (fun _ => true) true m 22 [c8] = some z2 := by simpa [Tryd.cellsSl] using p2
      obtain ⟨ps, hps⟩ := view_pix p2'
      obtain ⟨i0, e0, _, _⟩ := DataW.trod_int Tryd.underlying3 h0
      obtain ⟨i1, e1, _, _⟩ := DataW.trod_int Tryd.underlying3 h1
      obtain ⟨i2, e2, _, _⟩ := DataW.trod_int Tryd.underlying3 h2
      obtain ⟨i3, e3, _, _⟩ := DataW.trod_int Tryd.underlying3 h3
      obtain ⟨i4, e4, _, _⟩ := DataW.trod_int Tryd.underlying3 h4
      obtain ⟨i5, e5, _, _⟩ := DataW.trod_int Tryd.underlying3 h5
      obtain ⟨i6, e6, _, _⟩ := DataW.trod_int Tryd.underlying3 p0
      obtain ⟨i7, e7, _, _⟩ := DataW.trod_int Tryd.underlying3 p1
      simp at e0 e1 e2 e3 e4 e5 e6 e7
      subst e0 e1 e2 e3 e4 e5 e6 e7
      exact ⟨⟨i0, i1, i2, i3, i4, i5, i6, i7, ps⟩, c8, rfl, hps⟩

set_option maxRecDepth 100000 in
theorem open_op {H : Type} {enc : TypeId × Value → H} {W : World} {r : Reach} {b0 : Nat} {v : Value} {d : DataW H} {p : List MemPlace} (hv : Value.okWide Tryd.prog W r b0 26 v)
    (h : DataW.Trod enc Tryd.prog W 0 (fun _ => true) true 26 v d p) : ∃ (q : Pq) (u : Value), v = opV q u ∧ RdP W u q.ps := by
  obtain ⟨cs, rfl, hsz⟩ := okWide_struct Tryd.underlying26 hv
  obtain ⟨fuel, hf⟩ := h
  obtain ⟨q, u, e, hps⟩ := cells_op (cs := cs.toList) (by rw [Array.length_toList]; exact hsz.trans Tryd.cellsOp) hf
  obtain ⟨l⟩ := cs
  simp at e
  subst e
  exact ⟨q, u, rfl, hps⟩
end Go.Proofs.YtfhfedcamcpceaaDoor
/- Walk of the law's number. -/
namespace Go.Proofs.YtfhfedcamcpceaaDoor
open Go.RowKit

set_option maxRecDepth 100000 in
theorem number_zero (w : World) : Calls Tryd.prog 17 #[.nilIface] w fun e w' => e = .returned (.int .i64 0) ∧ w = w' := by
  go_enter Tryd.func17, Tryd.ntmps17
  go_wp2
  go_ret
  exact ⟨rfl, rfl⟩

theorem assert_errno (W : World) (n : Int) : (Instr.typeAssert (.iface 69 (.int .i64 n)) 32 69 true).run Tryd.prog W = .ok (.tuple #[.int .i64 n, .bool true]) W := by kernel_rfl

set_option maxRecDepth 100000 in
theorem number_some (n : Int) (w : World) : Calls Tryd.prog 17 #[.iface 69 (.int .i64 n)] w fun e w' => e = .returned (.int .i64 n) ∧ w = w' := by
  have ha := fun W => assert_errno W n
  go_enter Tryd.func17, Tryd.ntmps17
  go_wp2
  go_ret
  exact ⟨rfl, rfl⟩

end Go.Proofs.YtfhfedcamcpceaaDoor
/- Walk of the law's number. -/
namespace Go.Proofs.YtfhfedcamcpceaaDoor
open Go.RowKit

end Go.Proofs.YtfhfedcamcpceaaDoor
