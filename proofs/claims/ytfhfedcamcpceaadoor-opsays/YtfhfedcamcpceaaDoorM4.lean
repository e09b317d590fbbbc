/- Some of the walks, in one text. -/
import Derived.Test.YtfhfedcamcpceaaDoorM3
import Derived.Lib.Strings
/- Walks: op.inBounds, op.foreign. -/
namespace Go.Proofs.YtfhfedcamcpceaaDoor
open Go.RowKit

def intCells (ns : List Int) : List Value := ns.map (fun n => .int .i64 n)
theorem Tryd.infoInt : (Tryd.prog.info? 3).map (fun i => (i.zero, i.size, i.bytes)) = some (some (.int .i64 0), 1, 8) := by kernel_rfl
theorem intCells_at (ns : List Int) (j : Nat) (h : j < ns.length) : (intCells ns)[j]? = some (.int .i64 (ns.getD j 0)) := by
  unfold intCells
  rw [List.getElem?_map, List.getD_eq_getElem?_getD, List.getElem?_eq_getElem h]
  rfl
theorem intCells_one (ns : List Int) : ∀ v ∈ intCells ns, v.oneCell' = true := by
  intro v hv
  obtain ⟨n, _, rfl⟩ := List.mem_map.1 hv
  rfl
theorem rdI_own {w : World} {B : Nat} {v : Value} {ns : List Int} {n : Nat} (h : w.ownsRow B 3 1 v n (intCells ns)) (hn : ns.length = n) : RdI w v ns := by
  subst hn
  rcases h.2 with ⟨rfl, h0⟩ | ⟨g, cap, cur, rfl, hb, hg, hn, hm, hs, ht⟩
  · have : ns = [] := List.length_eq_zero_iff.1 h0
    subst this
    exact ⟨none, 0, rfl, by simp, by omega, fun h => absurd rfl h⟩
  · unfold maxLen at hm
    refine ⟨some ⟨g, 0, none⟩, cap, by simp, by simpa using hn, by omega, fun hne => ⟨g, 0, rfl, ?_, fun j hj => ?_⟩⟩
    · rcases Nat.lt_or_ge g w.heap.size with h1 | h1
      · exact h1
      · rw [Array.getElem?_eq_none h1] at hg; cases hg
    · rw [Nat.zero_add, h.cellAt j (by omega)]
      exact intCells_at ns j hj
/-- the four numbers of an op, from a place on, or up to it -/
def nums4 (q : Pq) : List Int := [q.a, q.b, q.c, q.d]
theorem four_take {w : World} {g : Nat} (q : Pq) (h : w.heap[g]? = some (.cells #[.int .i64 q.a, .int .i64 q.b, .int .i64 q.c, .int .i64 q.d] 3 (0, 0))) (n : Nat) (hn : n ≤ 4) : RdI w (.slice (some ⟨g, 0, none⟩) n 4) ((nums4 q).take n) := by
  refine ⟨some ⟨g, 0, none⟩, 4, by simp [nums4, Nat.min_eq_left hn], by simp [nums4]; omega, by omega, fun _ => ⟨g, 0, rfl, (Array.getElem?_eq_some_iff.1 h).1, fun j hj => ?_⟩⟩
  have hj2 : j < n := by simp [nums4] at hj; omega
  rw [cell_of_row w g (0 + j) _ _ _ h]
  have : j = 0 ∨ j = 1 ∨ j = 2 ∨ j = 3 := by omega
  rw [List.getD_eq_getElem?_getD, List.getElem?_take, if_pos hj2]
  rcases this with rfl | rfl | rfl | rfl <;> rfl
theorem four_cells {w : World} {g : Nat} (q : Pq) (h : w.heap[g]? = some (.cells #[.int .i64 q.a, .int .i64 q.b, .int .i64 q.c, .int .i64 q.d] 3 (0, 0))) (n : Nat) : ∀ j v, (intCells ((nums4 q).drop n))[j]? = some v → w.cell? ((⟨g, n, none⟩ : Addr).add j) = some v := by
  intro j v hj
  have e : (⟨g, n, none⟩ : Addr).add j = ⟨g, n + j, none⟩ := by unfold Addr.add; split <;> simp_all
  rw [e, cell_of_row w g (n + j) _ _ _ h]
  unfold intCells at hj
  rw [List.getElem?_map, List.getElem?_drop] at hj
  have hl : n + j < 4 := by
    rcases Nat.lt_or_ge (n + j) 4 with h1 | h1
    · exact h1
    · rw [List.getElem?_eq_none (by simpa [nums4] using h1)] at hj; cases hj
  have : n + j = 0 ∨ n + j = 1 ∨ n + j = 2 ∨ n + j = 3 := by omega
  rcases this with h | h | h | h <;> (rw [h] at hj ⊢; exact hj)
/-- append onto a list that is full -/
theorem run_append_full (w : World) (ns ms : List Int) (b : Addr) (n : Nat) (hn : ns.length = n) (hcell : ∀ j v, (intCells ns)[j]? = some v → w.cell? (b.add j) = some v) (a : Addr) (m c : Nat) (hm : ms.length = m) (hm1 : 1 ≤ m) (hmc : ∀ j v, (intCells ms)[j]? = some v → w.cell? (a.add j) = some v) (hlim : n + m ≤ 1000) (ty : TypeId) :
    ∃ v' w', (Builtin.append_ #[60, 60] ty #[.slice (some b) n n, .slice (some a) m c]).run Tryd.prog w = .ok v' w' ∧ w'.ownsRow w.heap.size 3 1 v' (n + m) (intCells (ns ++ ms)) ∧ Below w.heap.size w w' := by
  obtain ⟨i0, hi, hz0, hz1, hz2⟩ := info_parts Tryd.infoInt
  have hr := run_append_grow (P := Tryd.prog) w 60 ty 3 i0 (.int .i64 0) Tryd.underlying60 hi hz0 b n n (intCells ns) (by rw [hz1]; simp [intCells, hn]) hcell a m c (intCells ms) (by rw [hz1]; simp [intCells, hm]) hmc (by omega) (by omega) (growslice_fits (by omega) (by rw [hz2]; omega))
  refine ⟨_, _, hr, ⟨by simp [intCells, hn, hm], .inr ⟨w.heap.size, _, _, rfl, Nat.le_refl _, heap_alloc_new w.drew _, grownCap_ge _ _ _ _, grownCap_le_maxLen _ _ _ _ (by unfold maxLen; omega), ?_, ?_⟩⟩, (Below.refl _ _).drew.alloc (Nat.le_refl _) _⟩
  · have := grownCap_ge w (n + m) n 3
    simp [size_zeroCells, intCells, hn, hm, Value.cells]
    omega
  · have e : intCells (ns ++ ms) = intCells ns ++ intCells ms := by simp [intCells]
    have hl : (intCells ns ++ intCells ms).length = (n + m) * 1 := by simp [intCells, hn, hm]
    rw [e]
    simp only [Array.toList_append, List.append_assoc]
    rw [← List.append_assoc, ← hl]
    exact List.take_left
/-- are the numbers as the kind has them? -/
def inB (q : Pq) (s : Shp) : Bool := if s.kind = 4 then decide (rectC q.a q.b q.c q.d = 0) else !((nums4 q).take s.nums).any (fun n => (decide (n < s.low) || decide (s.high < n)))
/-- the numbers that are 0 -/
def forL (q : Pq) (s : Shp) : List Int := (nums4 q).drop s.nums ++ (if s.id then [] else [q.id]) ++ (if s.pic then [] else [q.pw, q.ph, (q.ps.length : Int)])

set_option maxHeartbeats 4000000 in
set_option maxRecDepth 100000 in
theorem inBounds_any (q : Pq) (s : Shp) (ap : Option Addr) (np cp : Nat) (w : World) (hnums : s.nums ≤ 4) (t : Bool) (HT : Hid (inB q s = t)) :
    Calls Tryd.prog 37 #[opV q (.slice ap np cp), s.val] w fun e w' => e = .returned (.bool t) ∧ Below w.heap.size w w' := by
  obtain ⟨X0, HX0⟩ : ∃ X0, Hid (((w.alloc (.cells #[.int .i64 q.kind, .int .i64 q.id, .int .i64 q.a, .int .i64 q.b, .int .i64 q.c, .int .i64 q.d, .int .i64 q.pw, .int .i64 q.ph, .slice ap np cp] 26)).alloc (.cells #[.int .i64 (s.kind : Int), .string s.bytes, .bool s.id, .int .i64 (s.nums : Int), .int .i64 s.low, .int .i64 s.high, .bool s.pic] 56)) = X0) := ⟨_, (rfl : _ = _)⟩
  have hbz : Below w.heap.size w X0 := by rw [← HX0.out]; exact ((Below.refl _ _).alloc (Nat.le_refl _) _).alloc (by simp) _
  have N0 : Hid (Nine X0 w.heap.size (.int .i64 q.kind) (.int .i64 q.id) (.int .i64 q.a) (.int .i64 q.b) (.int .i64 q.c) (.int .i64 q.d) (.int .i64 q.pw) (.int .i64 q.ph) (.slice ap np cp)) := by rw [← HX0.out]; exact (nine_start w _ _ _ _ _ _ _ _ _ 26 w.heap.size rfl).alloc _
  have S0 : Hid (Seven X0 (w.heap.size + 1) (.int .i64 (s.kind : Int)) (.string s.bytes) (.bool s.id) (.int .i64 (s.nums : Int)) (.int .i64 s.low) (.int .i64 s.high) (.bool s.pic)) := by rw [← HX0.out]; exact seven_start _ _ _ _ _ _ _ _ 56 (w.heap.size + 1) (by simp)
  unfold Shp.val
  have ht := HT.out
  unfold inB at ht
  by_cases h4 : s.kind = 4
  · rw [if_pos h4] at ht
    have hk : ((s.kind : Int) == 4) = true := by simp [h4]
    clear h4
    go_enter Tryd.func37, Tryd.ntmps37
    go_wp2_with fail
    rw [HX0.out]
    obtain ⟨c, HC⟩ : ∃ c, Hid (rectC q.a q.b q.c q.d = c) := ⟨_, (rfl : _ = _)⟩
    rw [HC.out] at ht
    have hc := rectC_cases q.a q.b q.c q.d
    rw [HC.out] at hc
    refine (rcheck_any q.a q.b q.c q.d _ c HC).mono ?_
    rintro e w1 ⟨rfl, hb1⟩
    have hbb1 := hbz.trans (hb1.mono hbz.size)
    clear hb1
    rcases hc with rfl | rfl
    · rw [show errV 0 = Value.nilIface from rfl]
      have : t = true := by rw [← ht]; rfl
      subst this
      go_wp2_with fail
      go_ret
      exact ⟨rfl, hbb1⟩
    · rw [errV_one]
      have : t = false := by rw [← ht]; rfl
      subst this
      go_wp2_with fail
      go_ret
      exact ⟨rfl, hbb1⟩
  · rw [if_neg h4] at ht
    have hk : ((s.kind : Int) == 4) = false := by simp; omega
    obtain ⟨t0, HT0⟩ : ∃ t0, Hid (((nums4 q).take s.nums).any (fun n => (decide (n < s.low) || decide (s.high < n))) = t0) := ⟨_, (rfl : _ = _)⟩
    rw [HT0.out] at ht
    subst ht
    have hi1 : (0 : Int) ≤ (s.nums : Int) := by omega
    have hi2 : (s.nums : Int) ≤ 4 := by omega
    have hi3 : IntKind.i64.wrap (s.nums : Int) = (s.nums : Int) := by rw [IntKind.wrap_i64]; omega
    have KEEP : Hid (∀ w', Below X0.heap.size X0 w' → (w'.cell? ⟨w.heap.size + 1, 3, none⟩ = some (.int .i64 (s.nums : Int)) ∧ w'.cell? ⟨w.heap.size, 0, none⟩ = some (.int .i64 q.kind) ∧ w'.cell? ⟨w.heap.size, 1, none⟩ = some (.int .i64 q.id) ∧ w'.cell? ⟨w.heap.size, 2, none⟩ = some (.int .i64 q.a) ∧ w'.cell? ⟨w.heap.size, 3, none⟩ = some (.int .i64 q.b) ∧ w'.cell? ⟨w.heap.size, 4, none⟩ = some (.int .i64 q.c) ∧ w'.cell? ⟨w.heap.size, 5, none⟩ = some (.int .i64 q.d) ∧ w'.cell? ⟨w.heap.size, 6, none⟩ = some (.int .i64 q.pw) ∧ w'.cell? ⟨w.heap.size, 7, none⟩ = some (.int .i64 q.ph) ∧ w'.cell? ⟨w.heap.size, 8, none⟩ = some (.slice ap np cp))) := by
      intro w' h
      obtain ⟨m0, m1, m2, m3, m4, m5, m6, m7, m8, mf0, mf1, mf2, mf3, mf4, mf5, mf6, mf7, mf8, mlt⟩ := N0.out.on h
      exact ⟨(S0.out.on h).c3, m0, m1, m2, m3, m4, m5, m6, m7, m8⟩
    clear h4
    go_enter Tryd.func37, Tryd.ntmps37
    go_wp2_with fail
    rw [HX0.out]
    clear HX0
    refine wp_region_held_drew (S := (fun w' => w'.cell? ⟨w.heap.size + 1, 3, none⟩ = some (.int .i64 (s.nums : Int)) ∧ w'.cell? ⟨w.heap.size, 0, none⟩ = some (.int .i64 q.kind) ∧ w'.cell? ⟨w.heap.size, 1, none⟩ = some (.int .i64 q.id) ∧ w'.cell? ⟨w.heap.size, 2, none⟩ = some (.int .i64 q.a) ∧ w'.cell? ⟨w.heap.size, 3, none⟩ = some (.int .i64 q.b) ∧ w'.cell? ⟨w.heap.size, 4, none⟩ = some (.int .i64 q.c) ∧ w'.cell? ⟨w.heap.size, 5, none⟩ = some (.int .i64 q.d) ∧ w'.cell? ⟨w.heap.size, 6, none⟩ = some (.int .i64 q.pw) ∧ w'.cell? ⟨w.heap.size, 7, none⟩ = some (.int .i64 q.ph) ∧ w'.cell? ⟨w.heap.size, 8, none⟩ = some (.slice ap np cp))) (by kernel_rfl) ?_ (fun hHeld => ?_)
    · exact KEEP.out _ (Below.refl _ _).drew
    refine wpAnyH_take (i := 0) (oi := ({ dst := some 19, op := Op.load 26 (Operand.tmp 2), type := 26, pos := "op.go:151", after := #[], guard := none } : Oper)) (v := ?_) rfl (by kernel_rfl) (by kernel_rfl) (by kernel_rfl) (fun _ _ _ h => h) (Or.inl ⟨by rfl, ?_⟩) (by assumption) ?_
    rotate_left
    · (intro w hSw; (try dsimp only at hSw); go_simp; try with_reducible rfl)
    try simp only [Act.put, List.setIfInBounds_toArray, List.set_cons_zero, List.set_cons_succ]
    refine wpAnyH_take (i := 2) (oi := ({ dst := some 21, op := Op.fieldAddr 56 (Operand.tmp 3) 3, type := 0, pos := "op.go:151", after := #[], guard := none } : Oper)) (v := ?_) rfl (by kernel_rfl) (by kernel_rfl) (by kernel_rfl) (fun _ _ _ h => h) (Or.inl ⟨by rfl, ?_⟩) (by assumption) ?_
    rotate_left
    · (intro w hSw; (try dsimp only at hSw); go_simp; try with_reducible rfl)
    try simp only [Act.put, List.setIfInBounds_toArray, List.set_cons_zero, List.set_cons_succ]
    refine wpAnyH_take (i := 3) (oi := ({ dst := some 22, op := Op.load 3 (Operand.tmp 21), type := 3, pos := "op.go:151", after := #[{ on := 2, ground := Ground.data }], guard := none } : Oper)) (v := ?_) rfl (by kernel_rfl) (by kernel_rfl) (by kernel_rfl) (fun _ _ _ h => h) (Or.inl ⟨by rfl, ?_⟩) (by assumption) ?_
    rotate_left
    · (intro w hSw; (try dsimp only at hSw); go_simp; try with_reducible rfl)
    try simp only [Act.put, List.setIfInBounds_toArray, List.set_cons_zero, List.set_cons_succ]
    refine wpAnyH_take (i := 5) (oi := ({ dst := some 24, op := Op.makeFunc (Fn.func 64) #[] #[Operand.tmp 3], type := 79, pos := "op.go:151", after := #[], guard := none } : Oper)) (v := ?_) rfl (by kernel_rfl) (by kernel_rfl) (by kernel_rfl) (fun _ _ _ h => h) (Or.inl ⟨by rfl, ?_⟩) (by assumption) ?_
    rotate_left
    · (intro w hSw; (try dsimp only at hSw); go_simp; try with_reducible rfl)
    try simp only [Act.put, List.setIfInBounds_toArray, List.set_cons_zero, List.set_cons_succ]
    refine wpAnyH_ready (rs := [1]) (by kernel_rfl) (by simp) ?_
    refine AllReadyH.cons (o := ({ dst := some 20, op := Op.call { callee := Callee.value (Operand.func 24), args := #[Operand.tmp 19], argTypes := #[26] }, type := 60, pos := "op.go:151", after := #[{ on := 0, ground := Ground.data }], guard := none } : Oper)) rfl (fun K_ hK => ?_) AllReadyH.nil
    go_simp
    refine (numbers_any q (.slice ap np cp) X0.drew).mono ?_
    rintro e w1 ⟨g1, rfl, hg1, hh1, hb1⟩
    have HB1 : Hid (Below X0.heap.size X0 w1) := ⟨hb1.os, hb1.tape, hb1.output, hb1.size, hb1.block⟩
    have HRI := hid_of3 (four_take q hh1 s.nums hnums)
    clear hh1 hb1
    refine hK.out _ _ ?_ (fun hHeld => ?_)
    · exact KEEP.out _ HB1.out
    clear hK K_
    try simp only [Act.put, List.setIfInBounds_toArray, List.set_cons_zero, List.set_cons_succ]
    refine wpAnyH_take (i := 4) (oi := ({ dst := some 23, op := Op.slice 60 (Operand.tmp 20) none (some (Operand.tmp 22)) none, type := 60, pos := "op.go:151", after := #[{ on := 1, ground := Ground.data }, { on := 3, ground := Ground.data }], guard := none } : Oper)) (v := ?_) rfl (by kernel_rfl) (by kernel_rfl) (by kernel_rfl) (fun _ _ _ h => h) (Or.inl ⟨by rfl, ?_⟩) (by assumption) ?_
    rotate_left
    · (intro w hSw; (try dsimp only at hSw); go_simp; try with_reducible rfl)
    try simp only [Act.put, List.setIfInBounds_toArray, List.set_cons_zero, List.set_cons_succ]
    refine wpAnyH_ready (rs := [6]) (by kernel_rfl) (by simp) ?_
    refine AllReadyH.cons (o := ({ dst := some 25, op := Op.call { callee := Callee.value (Operand.func 34), args := #[Operand.tmp 23, Operand.tmp 24], argTypes := #[60, 79] }, type := 4, pos := "op.go:151", after := #[{ on := 4, ground := Ground.data }, { on := 5, ground := Ground.data }, { on := 1, ground := Ground.chain }], guard := none } : Oper)) rfl (fun K_ hK => ?_) AllReadyH.nil
    go_simp
    refine (containsB_any _ ((nums4 q).take s.nums) s.low s.high (w.heap.size + 1) w1 (by simp [nums4]; omega) HRI ((S0.out.on HB1.out).lt) ((S0.out.on HB1.out).c4) ((S0.out.on HB1.out).c5) t0 HT0).mono ?_
    rintro e w2 ⟨rfl, hb2⟩
    have HB2 : Hid (Below X0.heap.size X0 w2) := HB1.out.trans (hb2.mono HB1.out.size)
    clear hb2
    refine hK.out _ _ ?_ (fun hHeld => ?_)
    · exact KEEP.out _ HB2.out
    clear hK K_
    try simp only [Act.put, List.setIfInBounds_toArray, List.set_cons_zero, List.set_cons_succ]
    refine wpAnyH_take (i := 7) (oi := ({ dst := some 26, op := Op.unOp UnOp.not 4 (Operand.tmp 25), type := 4, pos := "op.go:151", after := #[{ on := 6, ground := Ground.data }], guard := none } : Oper)) (v := ?_) rfl (by kernel_rfl) (by kernel_rfl) (by kernel_rfl) (fun _ _ _ h => h) (Or.inl ⟨by rfl, ?_⟩) (by assumption) ?_
    rotate_left
    · (intro w hSw; (try dsimp only at hSw); go_simp; try with_reducible rfl)
    try simp only [Act.put, List.setIfInBounds_toArray, List.set_cons_zero, List.set_cons_succ]
    refine wpAnyH_take (i := 8) (oi := ({ dst := some 4, op := Op.assign (Operand.tmp 26), type := 4, pos := "op.go:151", after := #[{ on := 7, ground := Ground.data }, { on := 6, ground := Ground.chain }, { on := 0, ground := Ground.phase }, { on := 1, ground := Ground.phase }, { on := 2, ground := Ground.phase }, { on := 3, ground := Ground.phase }, { on := 4, ground := Ground.phase }, { on := 5, ground := Ground.phase }, { on := 6, ground := Ground.phase }, { on := 7, ground := Ground.phase }], guard := none } : Oper)) (v := ?_) rfl (by kernel_rfl) (by kernel_rfl) (by kernel_rfl) (fun _ _ _ h => h) (Or.inl ⟨by rfl, ?_⟩) (by assumption) ?_
    rotate_left
    · (intro w hSw; (try dsimp only at hSw); go_simp; try with_reducible rfl)
    try simp only [Act.put, List.setIfInBounds_toArray, List.set_cons_zero, List.set_cons_succ]
    refine wpAnyH_done (by kernel_rfl) ?_ _
    go_wp2_with fail
    go_ret
    exact ⟨rfl, hbz.trans (HB2.out.mono hbz.size)⟩
end Go.Proofs.YtfhfedcamcpceaaDoor
/- Walk: op.foreign. -/
namespace Go.Proofs.YtfhfedcamcpceaaDoor
open Go.RowKit

set_option maxHeartbeats 8000000 in
set_option maxRecDepth 100000 in
theorem foreign4_any (q : Pq) (s : Shp) (ap : Option Addr) (np cp : Nat) (w : World) (HN4 : Hid (s.nums = 4)) (hip : s.id = false → s.pic = false) (HNP : Hid (q.ps.length = np)) (_ : np ≤ 9223372036854775807) :
    Calls Tryd.prog 35 #[opV q (.slice ap np cp), .agg #[.int .i64 (s.kind : Int), .string s.bytes, .bool s.id, .int .i64 4, .int .i64 s.low, .int .i64 s.high, .bool s.pic]] w fun e w' => ∃ v', e = .returned v' ∧ RdI w' v' (forL q s) ∧ Below w.heap.size w w' := by
  obtain ⟨X0, HX0⟩ : ∃ X0, Hid (((w.alloc (.cells #[.int .i64 q.kind, .int .i64 q.id, .int .i64 q.a, .int .i64 q.b, .int .i64 q.c, .int .i64 q.d, .int .i64 q.pw, .int .i64 q.ph, .slice ap np cp] 26)).alloc (.cells #[.int .i64 (s.kind : Int), .string s.bytes, .bool s.id, .int .i64 4, .int .i64 s.low, .int .i64 s.high, .bool s.pic] 56)) = X0) := ⟨_, (rfl : _ = _)⟩
  have hbz : Below w.heap.size w X0 := by rw [← HX0.out]; exact ((Below.refl _ _).alloc (Nat.le_refl _) _).alloc (by simp) _
  have N0 : Hid (Nine X0 w.heap.size (.int .i64 q.kind) (.int .i64 q.id) (.int .i64 q.a) (.int .i64 q.b) (.int .i64 q.c) (.int .i64 q.d) (.int .i64 q.pw) (.int .i64 q.ph) (.slice ap np cp)) := by rw [← HX0.out]; exact (nine_start w _ _ _ _ _ _ _ _ _ 26 w.heap.size rfl).alloc _
  have S0 : Hid (Seven X0 (w.heap.size + 1) (.int .i64 (s.kind : Int)) (.string s.bytes) (.bool s.id) (.int .i64 4) (.int .i64 s.low) (.int .i64 s.high) (.bool s.pic)) := by rw [← HX0.out]; exact seven_start _ _ _ _ _ _ _ _ 56 (w.heap.size + 1) (by simp)
  have KEEP : Hid (∀ w', Below X0.heap.size X0 w' → (w'.cell? ⟨w.heap.size + 1, 3, none⟩ = some (.int .i64 4) ∧ w'.cell? ⟨w.heap.size, 0, none⟩ = some (.int .i64 q.kind) ∧ w'.cell? ⟨w.heap.size, 1, none⟩ = some (.int .i64 q.id) ∧ w'.cell? ⟨w.heap.size, 2, none⟩ = some (.int .i64 q.a) ∧ w'.cell? ⟨w.heap.size, 3, none⟩ = some (.int .i64 q.b) ∧ w'.cell? ⟨w.heap.size, 4, none⟩ = some (.int .i64 q.c) ∧ w'.cell? ⟨w.heap.size, 5, none⟩ = some (.int .i64 q.d) ∧ w'.cell? ⟨w.heap.size, 6, none⟩ = some (.int .i64 q.pw) ∧ w'.cell? ⟨w.heap.size, 7, none⟩ = some (.int .i64 q.ph) ∧ w'.cell? ⟨w.heap.size, 8, none⟩ = some (.slice ap np cp))) := by
    intro w' h
    obtain ⟨m0, m1, m2, m3, m4, m5, m6, m7, m8, mf0, mf1, mf2, mf3, mf4, mf5, mf6, mf7, mf8, mlt⟩ := N0.out.on h
    exact ⟨(S0.out.on h).c3, m0, m1, m2, m3, m4, m5, m6, m7, m8⟩
  go_enter Tryd.func35, Tryd.ntmps35
  go_wp2_with fail
  rw [HX0.out]
  clear HX0
  refine wp_region_held_drew (S := (fun w' => w'.cell? ⟨w.heap.size + 1, 3, none⟩ = some (.int .i64 4) ∧ w'.cell? ⟨w.heap.size, 0, none⟩ = some (.int .i64 q.kind) ∧ w'.cell? ⟨w.heap.size, 1, none⟩ = some (.int .i64 q.id) ∧ w'.cell? ⟨w.heap.size, 2, none⟩ = some (.int .i64 q.a) ∧ w'.cell? ⟨w.heap.size, 3, none⟩ = some (.int .i64 q.b) ∧ w'.cell? ⟨w.heap.size, 4, none⟩ = some (.int .i64 q.c) ∧ w'.cell? ⟨w.heap.size, 5, none⟩ = some (.int .i64 q.d) ∧ w'.cell? ⟨w.heap.size, 6, none⟩ = some (.int .i64 q.pw) ∧ w'.cell? ⟨w.heap.size, 7, none⟩ = some (.int .i64 q.ph) ∧ w'.cell? ⟨w.heap.size, 8, none⟩ = some (.slice ap np cp))) (by kernel_rfl) ?_ (fun hHeld => ?_)
  · exact KEEP.out _ (Below.refl _ _).drew
  refine wpAnyH_take (i := 0) (oi := ({ dst := some 6, op := Op.load 26 (Operand.tmp 2), type := 26, pos := "op.go:136", after := #[], guard := none } : Oper)) (v := ?_) rfl (by kernel_rfl) (by kernel_rfl) (by kernel_rfl) (fun _ _ _ h => h) (Or.inl ⟨by rfl, ?_⟩) (by assumption) ?_
  rotate_left
  · (intro w hSw; (try dsimp only at hSw); go_simp; try with_reducible rfl)
  try simp only [Act.put, List.setIfInBounds_toArray, List.set_cons_zero, List.set_cons_succ]
  refine wpAnyH_take (i := 2) (oi := ({ dst := some 8, op := Op.fieldAddr 56 (Operand.tmp 3) 3, type := 0, pos := "op.go:136", after := #[], guard := none } : Oper)) (v := ?_) rfl (by kernel_rfl) (by kernel_rfl) (by kernel_rfl) (fun _ _ _ h => h) (Or.inl ⟨by rfl, ?_⟩) (by assumption) ?_
  rotate_left
  · (intro w hSw; (try dsimp only at hSw); go_simp; try with_reducible rfl)
  try simp only [Act.put, List.setIfInBounds_toArray, List.set_cons_zero, List.set_cons_succ]
  refine wpAnyH_take (i := 3) (oi := ({ dst := some 9, op := Op.load 3 (Operand.tmp 8), type := 3, pos := "op.go:136", after := #[{ on := 2, ground := Ground.data }], guard := none } : Oper)) (v := ?_) rfl (by kernel_rfl) (by kernel_rfl) (by kernel_rfl) (fun _ _ _ h => h) (Or.inl ⟨by rfl, ?_⟩) (by assumption) ?_
  rotate_left
  · (intro w hSw; (try dsimp only at hSw); go_simp; try with_reducible rfl)
  try simp only [Act.put, List.setIfInBounds_toArray, List.set_cons_zero, List.set_cons_succ]
  refine wpAnyH_ready (rs := [1]) (by kernel_rfl) (by simp) ?_
  refine AllReadyH.cons (o := ({ dst := some 7, op := Op.call { callee := Callee.value (Operand.func 24), args := #[Operand.tmp 6], argTypes := #[26] }, type := 60, pos := "op.go:136", after := #[{ on := 0, ground := Ground.data }], guard := none } : Oper)) rfl (fun K_ hK => ?_) AllReadyH.nil
  go_simp
  refine (numbers_any q (.slice ap np cp) X0.drew).mono ?_
  rintro e w1 ⟨g1, rfl, hg1, hh1, hb1⟩
  have HB1 : Hid (Below X0.heap.size X0 w1) := ⟨hb1.os, hb1.tape, hb1.output, hb1.size, hb1.block⟩
  have HCE : Hid (∀ j v, (intCells ((nums4 q).drop 4))[j]? = some v → w1.cell? ((⟨g1, 0, none⟩ : Addr).add j) = some v) := (by intro j v hj; simp [nums4, intCells] at hj)
  have hg1l : g1 < w1.heap.size := (Array.getElem?_eq_some_iff.1 hh1).1
  clear hh1 hb1
  refine hK.out _ _ ?_ (fun hHeld => ?_)
  · exact KEEP.out _ HB1.out
  clear hK K_
  try simp only [Act.put, List.setIfInBounds_toArray, List.set_cons_zero, List.set_cons_succ]
  refine wpAnyH_take (i := 4) (oi := ({ dst := some 10, op := Op.slice 60 (Operand.tmp 7) (some (Operand.tmp 9)) none none, type := 60, pos := "op.go:136", after := #[{ on := 1, ground := Ground.data }, { on := 3, ground := Ground.data }], guard := none } : Oper)) (v := ?_) rfl (by kernel_rfl) (by kernel_rfl) (by kernel_rfl) (fun _ _ _ h => h) (Or.inl ⟨by rfl, ?_⟩) (by assumption) ?_
  rotate_left
  · (intro w hSw; (try dsimp only at hSw); go_simp; try with_reducible rfl)
  try simp only [Act.put, List.setIfInBounds_toArray, List.set_cons_zero, List.set_cons_succ]
  refine wpAnyH_take (i := 5) (oi := ({ dst := some 5, op := Op.assign (Operand.tmp 10), type := 60, pos := "op.go:136", after := #[{ on := 4, ground := Ground.data }, { on := 1, ground := Ground.chain }, { on := 0, ground := Ground.phase }, { on := 1, ground := Ground.phase }, { on := 2, ground := Ground.phase }, { on := 3, ground := Ground.phase }, { on := 4, ground := Ground.phase }], guard := none } : Oper)) (v := ?_) rfl (by kernel_rfl) (by kernel_rfl) (by kernel_rfl) (fun _ _ _ h => h) (Or.inl ⟨by rfl, ?_⟩) (by assumption) ?_
  rotate_left
  · (intro w hSw; (try dsimp only at hSw); go_simp; try with_reducible rfl)
  try simp only [Act.put, List.setIfInBounds_toArray, List.set_cons_zero, List.set_cons_succ]
  refine wpAnyH_done (by kernel_rfl) ?_ _
  have hln : ((nums4 q).drop 4).length = 0 := by simp [nums4]
  have N1 := N0.out.on HB1.out
  have S1 := S0.out.on HB1.out
  obtain ⟨m0, m1, m2, m3, m4, m5, m6, m7, m8, mf0, mf1, mf2, mf3, mf4, mf5, mf6, mf7, mf8, mlt⟩ := N1
  obtain ⟨s0, s1, s2, s3, s4, s5, s6, sf0, sf1, sf2, sf3, sf4, sf5, sf6, slt⟩ := S1
  have hbb1 := hbz.trans (HB1.out.mono hbz.size)
  clear KEEP
  cases hsp : s.pic with
  | true =>
    have hid : s.id = true := by
      cases h : s.id with
      | true => rfl
      | false => have := hip h; rw [hsp] at this; cases this
    rw [hsp] at s6
    rw [hid] at s2
    have HF : Hid (forL q s = (nums4 q).drop 4) := by unfold Hid forL; rw [HN4.out, hid, hsp]; simp
    clear hsp hid
    go_wp2_with fail
    go_ret
    refine ⟨.slice (some ⟨g1, 0, none⟩) 0 0, rfl, ?_, hbb1⟩
    rw [HF.out]
    exact ⟨some ⟨g1, 0, none⟩, 0, by rw [hln], by rw [hln]; exact Nat.le_refl _, by omega, fun hne => ⟨g1, 0, rfl, hg1l, fun j hj => by have := HCE.out j _ (intCells_at _ j hj); rw [show (⟨g1, 0, none⟩ : Addr).add j = ⟨g1, 0 + j, none⟩ by unfold Addr.add; split <;> simp_all] at this; exact this⟩⟩
  | false =>
    rw [hsp] at s6
    cases hid : s.id with
    | true =>
      rw [hid] at s2
      have HF : Hid (forL q s = (nums4 q).drop 4 ++ [q.pw, q.ph, (np : Int)]) := by unfold Hid forL; rw [HN4.out, hid, hsp, HNP.out]; simp
      clear hsp hid
      have hbx : Below w1.heap.size w1 (w1.alloc (.cells #[.int .i64 q.pw, .int .i64 q.ph, .int .i64 (np : Int)] 3)) := (Below.refl _ _).alloc (Nat.le_refl _) _
      obtain ⟨v', w3, hr, ho, hb3⟩ := run_append_full (w1.alloc (.cells #[.int .i64 q.pw, .int .i64 q.ph, .int .i64 (np : Int)] 3)) ((nums4 q).drop 4) [q.pw, q.ph, (np : Int)] ⟨g1, 0, none⟩ 0 hln (fun j v hj => by have := HCE.out j v hj; rw [show (⟨g1, 0, none⟩ : Addr).add j = ⟨g1, 0 + j, none⟩ by unfold Addr.add; split <;> simp_all] at this ⊢; exact (hbx.cell (p := ⟨g1, 0 + j, none⟩) hg1l).trans this) ⟨w1.heap.size, 0, none⟩ 3 3 rfl (by omega) (new_cells w1 _ 3) (by omega) 60
      have hbb3 := (hbb1.trans (hbx.mono hbb1.size)).trans (hb3.mono (hbb1.trans (hbx.mono hbb1.size)).size)
      have HRI := hid_of3 (rdI_own ho (by rw [List.length_append, hln]; rfl))
      obtain ⟨a', c', hv'⟩ := own_any ho
      subst hv'
      clear ho hb3 hbx
      go_wp2_with (at_builtin; refine Lib.wpList_append_run _ rfl _ _ _ _ rfl _ _ rfl rfl _ _ hr ?_)
      go_ret
      exact ⟨_, rfl, by rw [HF.out]; exact HRI.out, hbb3⟩
    | false =>
      rw [hid] at s2
      have HSP := hid_of3 hsp
      have HF : Hid (forL q s = ((nums4 q).drop 4 ++ [q.id]) ++ [q.pw, q.ph, (np : Int)]) := by unfold Hid forL; rw [HN4.out, hid, hsp, HNP.out]; simp
      clear hsp hid
      have hbx : Below w1.heap.size w1 (w1.alloc (.cells #[.int .i64 q.id] 3)) := (Below.refl _ _).alloc (Nat.le_refl _) _
      obtain ⟨v', w3, hr, ho, hb3⟩ := run_append_full (w1.alloc (.cells #[.int .i64 q.id] 3)) ((nums4 q).drop 4) [q.id] ⟨g1, 0, none⟩ 0 hln (fun j v hj => by have := HCE.out j v hj; rw [show (⟨g1, 0, none⟩ : Addr).add j = ⟨g1, 0 + j, none⟩ by unfold Addr.add; split <;> simp_all] at this ⊢; exact (hbx.cell (p := ⟨g1, 0 + j, none⟩) hg1l).trans this) ⟨w1.heap.size, 0, none⟩ 1 1 rfl (by omega) (new_cells w1 _ 3) (by omega) 60
      have hbb2 := hbb1.trans (hbx.mono hbb1.size)
      have hbb3 := hbb2.trans (hb3.mono hbb2.size)
      have HO3 := hide_own (own_mono ho hbb2.size)
      obtain ⟨a', c', hv'⟩ := own_any ho
      subst hv'
      have S3 := ((S0.out.on HB1.out).on hbx).on hb3
      have N3 := ((N0.out.on HB1.out).on hbx).on hb3
      obtain ⟨x0, x1, x2, x3, x4, x5, x6, xf0, xf1, xf2, xf3, xf4, xf5, xf6, xlt⟩ := S3
      obtain ⟨y0, y1, y2, y3, y4, y5, y6, y7, y8, yf0, yf1, yf2, yf3, yf4, yf5, yf6, yf7, yf8, ylt⟩ := N3
      rw [HSP.out] at x6
      obtain ⟨i0, hi, hz0, hz1, hz2⟩ := info_parts Tryd.infoInt
      have hbx3 : Below w3.heap.size w3 (w3.alloc (.cells #[.int .i64 q.pw, .int .i64 q.ph, .int .i64 (np : Int)] 3)) := (Below.refl _ _).alloc (Nat.le_refl _) _
      have HO4 := own_on2 HO3.out hbx3
      have hbb4 := hbb3.trans (hbx3.mono hbb3.size)
      obtain ⟨v5, w5, hr5, ho5, hg5, _⟩ := run_append_own (P := Tryd.prog) _ w.heap.size 60 60 3 i0 (.int .i64 0) 1 8 Tryd.underlying60 hi hz0 hz1 hz2 rfl (by decide) _ _ _ HO4 ⟨w3.heap.size, 0, none⟩ 3 3 (intCells [q.pw, q.ph, (np : Int)]) rfl (new_cells w3 _ 3) (intCells_one _) (by unfold maxLen; omega) (by omega) hbb4.size
      have hbb5 : Below w.heap.size w w5 := hbb4.grown hg5 hbb4.size (fun z hz => (HO4.lt z hz).1)
      have e5 : intCells ((nums4 q).drop 4 ++ [q.id]) ++ intCells [q.pw, q.ph, (np : Int)] = intCells (((nums4 q).drop 4 ++ [q.id]) ++ [q.pw, q.ph, (np : Int)]) := by simp [intCells]
      rw [e5] at ho5
      have HRI := hid_of3 (rdI_own ho5 (by rw [List.length_append, List.length_append, hln]; rfl))
      obtain ⟨a5, c5, hv5⟩ := own_any ho5
      subst hv5
      clear ho hb3 hbx ho5 hg5 e5 hbx3 HO4 HO3
      go_wp2_with (at_builtin; first | refine Lib.wpList_append_run _ rfl _ _ _ _ rfl _ _ rfl rfl _ _ hr ?_ | refine Lib.wpList_append_run _ rfl _ _ _ _ rfl _ _ rfl rfl _ _ hr5 ?_)
      go_ret
      exact ⟨_, rfl, by rw [HF.out]; exact HRI.out, hbb5⟩

set_option maxHeartbeats 8000000 in
set_option maxRecDepth 100000 in
theorem foreign_any (q : Pq) (s : Shp) (ap : Option Addr) (np cp : Nat) (w : World) (hnums : s.nums ≤ 4) (hip : s.id = false → s.pic = false) (HNP : Hid (q.ps.length = np)) (hnp : np ≤ 9223372036854775807) :
    Calls Tryd.prog 35 #[opV q (.slice ap np cp), s.val] w fun e w' => ∃ v', e = .returned v' ∧ RdI w' v' (forL q s) ∧ Below w.heap.size w w' := by
  by_cases hnn : s.nums = 4
  · have h := foreign4_any q s ap np cp w hnn hip HNP hnp
    have e : s.val = .agg #[.int .i64 (s.kind : Int), .string s.bytes, .bool s.id, .int .i64 4, .int .i64 s.low, .int .i64 s.high, .bool s.pic] := by unfold Shp.val; rw [hnn]; rfl
    rw [e]
    exact h
  obtain ⟨X0, HX0⟩ : ∃ X0, Hid (((w.alloc (.cells #[.int .i64 q.kind, .int .i64 q.id, .int .i64 q.a, .int .i64 q.b, .int .i64 q.c, .int .i64 q.d, .int .i64 q.pw, .int .i64 q.ph, .slice ap np cp] 26)).alloc (.cells #[.int .i64 (s.kind : Int), .string s.bytes, .bool s.id, .int .i64 (s.nums : Int), .int .i64 s.low, .int .i64 s.high, .bool s.pic] 56)) = X0) := ⟨_, (rfl : _ = _)⟩
  have hbz : Below w.heap.size w X0 := by rw [← HX0.out]; exact ((Below.refl _ _).alloc (Nat.le_refl _) _).alloc (by simp) _
  have N0 : Hid (Nine X0 w.heap.size (.int .i64 q.kind) (.int .i64 q.id) (.int .i64 q.a) (.int .i64 q.b) (.int .i64 q.c) (.int .i64 q.d) (.int .i64 q.pw) (.int .i64 q.ph) (.slice ap np cp)) := by rw [← HX0.out]; exact (nine_start w _ _ _ _ _ _ _ _ _ 26 w.heap.size rfl).alloc _
  have S0 : Hid (Seven X0 (w.heap.size + 1) (.int .i64 (s.kind : Int)) (.string s.bytes) (.bool s.id) (.int .i64 (s.nums : Int)) (.int .i64 s.low) (.int .i64 s.high) (.bool s.pic)) := by rw [← HX0.out]; exact seven_start _ _ _ _ _ _ _ _ 56 (w.heap.size + 1) (by simp)
  have KEEP : Hid (∀ w', Below X0.heap.size X0 w' → (w'.cell? ⟨w.heap.size + 1, 3, none⟩ = some (.int .i64 (s.nums : Int)) ∧ w'.cell? ⟨w.heap.size, 0, none⟩ = some (.int .i64 q.kind) ∧ w'.cell? ⟨w.heap.size, 1, none⟩ = some (.int .i64 q.id) ∧ w'.cell? ⟨w.heap.size, 2, none⟩ = some (.int .i64 q.a) ∧ w'.cell? ⟨w.heap.size, 3, none⟩ = some (.int .i64 q.b) ∧ w'.cell? ⟨w.heap.size, 4, none⟩ = some (.int .i64 q.c) ∧ w'.cell? ⟨w.heap.size, 5, none⟩ = some (.int .i64 q.d) ∧ w'.cell? ⟨w.heap.size, 6, none⟩ = some (.int .i64 q.pw) ∧ w'.cell? ⟨w.heap.size, 7, none⟩ = some (.int .i64 q.ph) ∧ w'.cell? ⟨w.heap.size, 8, none⟩ = some (.slice ap np cp))) := by
    intro w' h
    obtain ⟨m0, m1, m2, m3, m4, m5, m6, m7, m8, mf0, mf1, mf2, mf3, mf4, mf5, mf6, mf7, mf8, mlt⟩ := N0.out.on h
    exact ⟨(S0.out.on h).c3, m0, m1, m2, m3, m4, m5, m6, m7, m8⟩
  unfold Shp.val
  have hi1 : (0 : Int) ≤ (s.nums : Int) := by omega
  have hi2 : (s.nums : Int) ≤ 4 := by omega
  have hi3 : IntKind.i64.wrap (s.nums : Int) = (s.nums : Int) := by rw [IntKind.wrap_i64]; omega
  have hi4 : ¬ 4 = s.nums := fun h => hnn h.symm
  go_enter Tryd.func35, Tryd.ntmps35
  go_wp2_with fail
  rw [HX0.out]
  clear HX0
  refine wp_region_held_drew (S := (fun w' => w'.cell? ⟨w.heap.size + 1, 3, none⟩ = some (.int .i64 (s.nums : Int)) ∧ w'.cell? ⟨w.heap.size, 0, none⟩ = some (.int .i64 q.kind) ∧ w'.cell? ⟨w.heap.size, 1, none⟩ = some (.int .i64 q.id) ∧ w'.cell? ⟨w.heap.size, 2, none⟩ = some (.int .i64 q.a) ∧ w'.cell? ⟨w.heap.size, 3, none⟩ = some (.int .i64 q.b) ∧ w'.cell? ⟨w.heap.size, 4, none⟩ = some (.int .i64 q.c) ∧ w'.cell? ⟨w.heap.size, 5, none⟩ = some (.int .i64 q.d) ∧ w'.cell? ⟨w.heap.size, 6, none⟩ = some (.int .i64 q.pw) ∧ w'.cell? ⟨w.heap.size, 7, none⟩ = some (.int .i64 q.ph) ∧ w'.cell? ⟨w.heap.size, 8, none⟩ = some (.slice ap np cp))) (by kernel_rfl) ?_ (fun hHeld => ?_)
  · exact KEEP.out _ (Below.refl _ _).drew
  refine wpAnyH_take (i := 0) (oi := ({ dst := some 6, op := Op.load 26 (Operand.tmp 2), type := 26, pos := "op.go:136", after := #[], guard := none } : Oper)) (v := ?_) rfl (by kernel_rfl) (by kernel_rfl) (by kernel_rfl) (fun _ _ _ h => h) (Or.inl ⟨by rfl, ?_⟩) (by assumption) ?_
  rotate_left
  · (intro w hSw; (try dsimp only at hSw); go_simp; try with_reducible rfl)
  try simp only [Act.put, List.setIfInBounds_toArray, List.set_cons_zero, List.set_cons_succ]
  refine wpAnyH_take (i := 2) (oi := ({ dst := some 8, op := Op.fieldAddr 56 (Operand.tmp 3) 3, type := 0, pos := "op.go:136", after := #[], guard := none } : Oper)) (v := ?_) rfl (by kernel_rfl) (by kernel_rfl) (by kernel_rfl) (fun _ _ _ h => h) (Or.inl ⟨by rfl, ?_⟩) (by assumption) ?_
  rotate_left
  · (intro w hSw; (try dsimp only at hSw); go_simp; try with_reducible rfl)
  try simp only [Act.put, List.setIfInBounds_toArray, List.set_cons_zero, List.set_cons_succ]
  refine wpAnyH_take (i := 3) (oi := ({ dst := some 9, op := Op.load 3 (Operand.tmp 8), type := 3, pos := "op.go:136", after := #[{ on := 2, ground := Ground.data }], guard := none } : Oper)) (v := ?_) rfl (by kernel_rfl) (by kernel_rfl) (by kernel_rfl) (fun _ _ _ h => h) (Or.inl ⟨by rfl, ?_⟩) (by assumption) ?_
  rotate_left
  · (intro w hSw; (try dsimp only at hSw); go_simp; try with_reducible rfl)
  try simp only [Act.put, List.setIfInBounds_toArray, List.set_cons_zero, List.set_cons_succ]
  refine wpAnyH_ready (rs := [1]) (by kernel_rfl) (by simp) ?_
  refine AllReadyH.cons (o := ({ dst := some 7, op := Op.call { callee := Callee.value (Operand.func 24), args := #[Operand.tmp 6], argTypes := #[26] }, type := 60, pos := "op.go:136", after := #[{ on := 0, ground := Ground.data }], guard := none } : Oper)) rfl (fun K_ hK => ?_) AllReadyH.nil
  go_simp
  refine (numbers_any q (.slice ap np cp) X0.drew).mono ?_
  rintro e w1 ⟨g1, rfl, hg1, hh1, hb1⟩
  have HB1 : Hid (Below X0.heap.size X0 w1) := ⟨hb1.os, hb1.tape, hb1.output, hb1.size, hb1.block⟩
  have HCE : Hid (∀ j v, (intCells ((nums4 q).drop s.nums))[j]? = some v → w1.cell? ((⟨g1, s.nums, none⟩ : Addr).add j) = some v) := four_cells q hh1 s.nums
  have hg1l : g1 < w1.heap.size := (Array.getElem?_eq_some_iff.1 hh1).1
  clear hh1 hb1
  refine hK.out _ _ ?_ (fun hHeld => ?_)
  · exact KEEP.out _ HB1.out
  clear hK K_
  try simp only [Act.put, List.setIfInBounds_toArray, List.set_cons_zero, List.set_cons_succ]
  refine wpAnyH_take (i := 4) (oi := ({ dst := some 10, op := Op.slice 60 (Operand.tmp 7) (some (Operand.tmp 9)) none none, type := 60, pos := "op.go:136", after := #[{ on := 1, ground := Ground.data }, { on := 3, ground := Ground.data }], guard := none } : Oper)) (v := ?_) rfl (by kernel_rfl) (by kernel_rfl) (by kernel_rfl) (fun _ _ _ h => h) (Or.inl ⟨by rfl, ?_⟩) (by assumption) ?_
  rotate_left
  · (intro w hSw; (try dsimp only at hSw); go_simp; try with_reducible rfl)
  try simp only [Act.put, List.setIfInBounds_toArray, List.set_cons_zero, List.set_cons_succ]
  refine wpAnyH_take (i := 5) (oi := ({ dst := some 5, op := Op.assign (Operand.tmp 10), type := 60, pos := "op.go:136", after := #[{ on := 4, ground := Ground.data }, { on := 1, ground := Ground.chain }, { on := 0, ground := Ground.phase }, { on := 1, ground := Ground.phase }, { on := 2, ground := Ground.phase }, { on := 3, ground := Ground.phase }, { on := 4, ground := Ground.phase }], guard := none } : Oper)) (v := ?_) rfl (by kernel_rfl) (by kernel_rfl) (by kernel_rfl) (fun _ _ _ h => h) (Or.inl ⟨by rfl, ?_⟩) (by assumption) ?_
  rotate_left
  · (intro w hSw; (try dsimp only at hSw); go_simp; try with_reducible rfl)
  try simp only [Act.put, List.setIfInBounds_toArray, List.set_cons_zero, List.set_cons_succ]
  refine wpAnyH_done (by kernel_rfl) ?_ _
  have hln : ((nums4 q).drop s.nums).length = (4 - s.nums) := by simp [nums4]
  have N1 := N0.out.on HB1.out
  have S1 := S0.out.on HB1.out
  obtain ⟨m0, m1, m2, m3, m4, m5, m6, m7, m8, mf0, mf1, mf2, mf3, mf4, mf5, mf6, mf7, mf8, mlt⟩ := N1
  obtain ⟨s0, s1, s2, s3, s4, s5, s6, sf0, sf1, sf2, sf3, sf4, sf5, sf6, slt⟩ := S1
  have hbb1 := hbz.trans (HB1.out.mono hbz.size)
  clear KEEP
  cases hsp : s.pic with
  | true =>
    have hid : s.id = true := by
      cases h : s.id with
      | true => rfl
      | false => have := hip h; rw [hsp] at this; cases this
    rw [hsp] at s6
    rw [hid] at s2
    have HF : Hid (forL q s = (nums4 q).drop s.nums) := by unfold Hid forL; rw [hid, hsp]; simp
    clear hsp hid
    go_wp2_with fail
    go_ret
    refine ⟨.slice (some ⟨g1, s.nums, none⟩) (4 - s.nums) (4 - s.nums), rfl, ?_, hbb1⟩
    rw [HF.out]
    exact ⟨some ⟨g1, s.nums, none⟩, (4 - s.nums), by rw [hln], by rw [hln]; exact Nat.le_refl _, by omega, fun hne => ⟨g1, s.nums, rfl, hg1l, fun j hj => by have := HCE.out j _ (intCells_at _ j hj); rw [show (⟨g1, s.nums, none⟩ : Addr).add j = ⟨g1, s.nums + j, none⟩ by unfold Addr.add; split <;> simp_all] at this; exact this⟩⟩
  | false =>
    rw [hsp] at s6
    cases hid : s.id with
    | true =>
      rw [hid] at s2
      have HF : Hid (forL q s = (nums4 q).drop s.nums ++ [q.pw, q.ph, (np : Int)]) := by unfold Hid forL; rw [hid, hsp, HNP.out]; simp
      clear hsp hid
      have hbx : Below w1.heap.size w1 (w1.alloc (.cells #[.int .i64 q.pw, .int .i64 q.ph, .int .i64 (np : Int)] 3)) := (Below.refl _ _).alloc (Nat.le_refl _) _
      obtain ⟨v', w3, hr, ho, hb3⟩ := run_append_full (w1.alloc (.cells #[.int .i64 q.pw, .int .i64 q.ph, .int .i64 (np : Int)] 3)) ((nums4 q).drop s.nums) [q.pw, q.ph, (np : Int)] ⟨g1, s.nums, none⟩ (4 - s.nums) hln (fun j v hj => by have := HCE.out j v hj; rw [show (⟨g1, s.nums, none⟩ : Addr).add j = ⟨g1, s.nums + j, none⟩ by unfold Addr.add; split <;> simp_all] at this ⊢; exact (hbx.cell (p := ⟨g1, s.nums + j, none⟩) hg1l).trans this) ⟨w1.heap.size, 0, none⟩ 3 3 rfl (by omega) (new_cells w1 _ 3) (by omega) 60
      have hbb3 := (hbb1.trans (hbx.mono hbb1.size)).trans (hb3.mono (hbb1.trans (hbx.mono hbb1.size)).size)
      have HRI := hid_of3 (rdI_own ho (by rw [List.length_append, hln]; rfl))
      obtain ⟨a', c', hv'⟩ := own_any ho
      subst hv'
      clear ho hb3 hbx
      go_wp2_with (at_builtin; refine Lib.wpList_append_run _ rfl _ _ _ _ rfl _ _ rfl rfl _ _ hr ?_)
      go_ret
      exact ⟨_, rfl, by rw [HF.out]; exact HRI.out, hbb3⟩
    | false =>
      rw [hid] at s2
      have HSP := hid_of3 hsp
      have HF : Hid (forL q s = ((nums4 q).drop s.nums ++ [q.id]) ++ [q.pw, q.ph, (np : Int)]) := by unfold Hid forL; rw [hid, hsp, HNP.out]; simp
      clear hsp hid
      have hbx : Below w1.heap.size w1 (w1.alloc (.cells #[.int .i64 q.id] 3)) := (Below.refl _ _).alloc (Nat.le_refl _) _
      obtain ⟨v', w3, hr, ho, hb3⟩ := run_append_full (w1.alloc (.cells #[.int .i64 q.id] 3)) ((nums4 q).drop s.nums) [q.id] ⟨g1, s.nums, none⟩ (4 - s.nums) hln (fun j v hj => by have := HCE.out j v hj; rw [show (⟨g1, s.nums, none⟩ : Addr).add j = ⟨g1, s.nums + j, none⟩ by unfold Addr.add; split <;> simp_all] at this ⊢; exact (hbx.cell (p := ⟨g1, s.nums + j, none⟩) hg1l).trans this) ⟨w1.heap.size, 0, none⟩ 1 1 rfl (by omega) (new_cells w1 _ 3) (by omega) 60
      have hbb2 := hbb1.trans (hbx.mono hbb1.size)
      have hbb3 := hbb2.trans (hb3.mono hbb2.size)
      have HO3 := hide_own (own_mono ho hbb2.size)
      obtain ⟨a', c', hv'⟩ := own_any ho
      subst hv'
      have S3 := ((S0.out.on HB1.out).on hbx).on hb3
      have N3 := ((N0.out.on HB1.out).on hbx).on hb3
      obtain ⟨x0, x1, x2, x3, x4, x5, x6, xf0, xf1, xf2, xf3, xf4, xf5, xf6, xlt⟩ := S3
      obtain ⟨y0, y1, y2, y3, y4, y5, y6, y7, y8, yf0, yf1, yf2, yf3, yf4, yf5, yf6, yf7, yf8, ylt⟩ := N3
      rw [HSP.out] at x6
      obtain ⟨i0, hi, hz0, hz1, hz2⟩ := info_parts Tryd.infoInt
      have hbx3 : Below w3.heap.size w3 (w3.alloc (.cells #[.int .i64 q.pw, .int .i64 q.ph, .int .i64 (np : Int)] 3)) := (Below.refl _ _).alloc (Nat.le_refl _) _
      have HO4 := own_on2 HO3.out hbx3
      have hbb4 := hbb3.trans (hbx3.mono hbb3.size)
      obtain ⟨v5, w5, hr5, ho5, hg5, _⟩ := run_append_own (P := Tryd.prog) _ w.heap.size 60 60 3 i0 (.int .i64 0) 1 8 Tryd.underlying60 hi hz0 hz1 hz2 rfl (by decide) _ _ _ HO4 ⟨w3.heap.size, 0, none⟩ 3 3 (intCells [q.pw, q.ph, (np : Int)]) rfl (new_cells w3 _ 3) (intCells_one _) (by unfold maxLen; omega) (by omega) hbb4.size
      have hbb5 : Below w.heap.size w w5 := hbb4.grown hg5 hbb4.size (fun z hz => (HO4.lt z hz).1)
      have e5 : intCells ((nums4 q).drop s.nums ++ [q.id]) ++ intCells [q.pw, q.ph, (np : Int)] = intCells (((nums4 q).drop s.nums ++ [q.id]) ++ [q.pw, q.ph, (np : Int)]) := by simp [intCells]
      rw [e5] at ho5
      have HRI := hid_of3 (rdI_own ho5 (by rw [List.length_append, List.length_append, hln]; rfl))
      obtain ⟨a5, c5, hv5⟩ := own_any ho5
      subst hv5
      clear ho hb3 hbx ho5 hg5 e5 hbx3 HO4 HO3
      go_wp2_with (at_builtin; first | refine Lib.wpList_append_run _ rfl _ _ _ _ rfl _ _ rfl rfl _ _ hr ?_ | refine Lib.wpList_append_run _ rfl _ _ _ _ rfl _ _ rfl rfl _ _ hr5 ?_)
      go_ret
      exact ⟨_, rfl, by rw [HF.out]; exact HRI.out, hbb5⟩
end Go.Proofs.YtfhfedcamcpceaaDoor
/- Walk: op.Check. -/
namespace Go.Proofs.YtfhfedcamcpceaaDoor
open Go.RowKit

/-- the number of the error of an op -/
def opC (q : Pq) : Nat :=
  match kindAt q.kind shps with
  | none => 3
  | some s => if (forL q s).any (fun n => decide (n ≠ 0)) = true then 3 else if (s.id && (decide (q.id < 1) || decide (6 < q.id))) = true ∨ inB q s = false then 1 else if s.pic = true then checkL q.pw q.ph q.ps else 0
theorem shps_ok : ∀ s ∈ shps, s.nums ≤ 4 ∧ (s.id = false → s.pic = false) := by
  intro s hs
  simp only [shps, List.mem_cons, List.not_mem_nil, or_false] at hs
  rcases hs with rfl | rfl | rfl | rfl | rfl | rfl | rfl | rfl | rfl | rfl | rfl | rfl | rfl | rfl | rfl | rfl <;> exact ⟨by decide, by decide⟩
theorem kindAt_mem (kd : Int) : ∀ (l : List Shp) (s : Shp), kindAt kd l = some s → s ∈ l ∧ (s.kind : Int) = kd := by
  intro l
  induction l with
  | nil => intro s h; cases h
  | cons a r ih =>
    intro s h
    unfold kindAt at h
    split at h
    · obtain rfl := Option.some.inj h
      exact ⟨by simp, by assumption⟩
    · obtain ⟨h1, h2⟩ := ih s h
      exact ⟨by simp [h1], h2⟩

set_option maxHeartbeats 8000000 in
set_option maxRecDepth 100000 in
theorem opCheck_any (q : Pq) (u : Value) (w : World) (HS : Hid (Shapes w)) (h1 : 3 < w.heap.size) (HU : Hid (RdP w u q.ps)) (hps : q.ps.length ≤ 1000000000) (c : Nat) (HC : Hid (opC q = c)) :
    Calls Tryd.prog 14 #[opV q u] w fun e w' => e = .returned (errV c) ∧ Below w.heap.size w w' := by
  obtain ⟨ap, cp, hv, hl0, hcp, _⟩ := HU.out
  obtain ⟨np, HNP⟩ : ∃ n, Hid (q.ps.length = n) := ⟨_, (rfl : _ = _)⟩
  rw [HNP.out] at hv hl0
  subst hv
  obtain ⟨X0, HX0⟩ : ∃ X0, Hid (w.alloc (.cells #[.int .i64 q.kind, .int .i64 q.id, .int .i64 q.a, .int .i64 q.b, .int .i64 q.c, .int .i64 q.d, .int .i64 q.pw, .int .i64 q.ph, .slice ap np cp] 26) = X0) := ⟨_, (rfl : _ = _)⟩
  have hbz : Below w.heap.size w X0 := by rw [← HX0.out]; exact (Below.refl _ _).alloc (Nat.le_refl _) _
  have N0 : Nine X0 w.heap.size (.int .i64 q.kind) (.int .i64 q.id) (.int .i64 q.a) (.int .i64 q.b) (.int .i64 q.c) (.int .i64 q.d) (.int .i64 q.pw) (.int .i64 q.ph) (.slice ap np cp) := by rw [← HX0.out]; exact nine_start w _ _ _ _ _ _ _ _ _ 26 w.heap.size rfl
  have HS0 : Hid (Shapes X0) := HS.out.on h1 hbz
  have h1' := Nat.lt_of_lt_of_le h1 hbz.size
  have HU0 : Hid (RdP X0 (.slice ap np cp) q.ps) := HU.out.on hbz
  obtain ⟨o, HO⟩ : ∃ o, Hid (kindAt q.kind shps = o) := ⟨_, (rfl : _ = _)⟩
  have hc := HC.out
  unfold opC at hc
  rw [HO.out] at hc
  go_enter Tryd.func14, Tryd.ntmps14
  go_wp2_with fail
  rw [HX0.out]
  clear HX0
  refine (ofKind_any q.kind X0 HS0 h1').mono ?_
  rw [HO.out]
  rintro e w1 ⟨hb1, he⟩
  have hbb1 := hbz.trans (hb1.mono hbz.size)
  have N1 := N0.on hb1
  have HU1 := hid_of3 (HU0.out.on hb1)
  clear hb1 HS0 HU0 N0
  cases o with
  | none =>
    simp only at he hc
    subst he hc
    have hbx : Below w.heap.size w (w1.alloc (.cells #[.int .i64 0, .string ⟨#[]⟩, .bool false, .int .i64 0, .int .i64 0, .int .i64 0, .bool false] 56)) := hbb1.alloc hbb1.size _
    unfold shp0 Shp.val Shp.bytes
    go_wp2_with fail
    go_ret
    exact ⟨rfl, hbx⟩
  | some s =>
    simp only at he hc
    subst he
    obtain ⟨hs1, hs2⟩ := shps_ok s (kindAt_mem _ _ _ HO.out).1
    have hbx1 : Below w1.heap.size w1 (w1.alloc (.cells #[.int .i64 (s.kind : Int), .string s.bytes, .bool s.id, .int .i64 (s.nums : Int), .int .i64 s.low, .int .i64 s.high, .bool s.pic] 56)) := (Below.refl _ _).alloc (Nat.le_refl _) _
    have S1 := seven_start w1 (.int .i64 (s.kind : Int)) (.string s.bytes) (.bool s.id) (.int .i64 (s.nums : Int)) (.int .i64 s.low) (.int .i64 s.high) (.bool s.pic) 56 w1.heap.size rfl
    have N2 := N1.on hbx1
    have HU2 := hid_of3 (HU1.out.on hbx1)
    have hbb2 := hbb1.trans (hbx1.mono hbb1.size)
    obtain ⟨m0, m1, m2, m3, m4, m5, m6, m7, m8, mf0, mf1, mf2, mf3, mf4, mf5, mf6, mf7, mf8, mlt⟩ := N2
    unfold Shp.val
    go_wp2_with fail
    obtain ⟨X2, HX2⟩ : ∃ X2, Hid (w1.alloc (.cells #[.int .i64 (s.kind : Int), .string s.bytes, .bool s.id, .int .i64 (s.nums : Int), .int .i64 s.low, .int .i64 s.high, .bool s.pic] 56) = X2) := ⟨_, (rfl : _ = _)⟩
    rw [HX2.out] at S1 HU2 hbb2 hbx1
    rw [HX2.out]
    have N2 := N1.on hbx1
    clear m0 m1 m2 m3 m4 m5 m6 m7 m8 mf0 mf1 mf2 mf3 mf4 mf5 mf6 mf7 mf8 mlt HX2 N1 HU1 hbx1
    refine (foreign_any q s ap np cp X2 hs1 hs2 HNP (by omega)).mono ?_
    rintro e w3 ⟨v3, rfl, hr3, hb3⟩
    have HRI := hid_of3 hr3
    obtain ⟨a3, c3, hv3, hl3, hc3, _⟩ := hr3
    have hfl : (forL q s).length ≤ 1000 := by unfold forL nums4; split <;> split <;> simp <;> omega
    obtain ⟨n3, HN3⟩ : ∃ n3, Hid ((forL q s).length = n3) := ⟨_, (rfl : _ = _)⟩
    rw [HN3.out] at hv3
    subst hv3
    have N3 := N2.on hb3
    have S3 := S1.on hb3
    have HU3 := hid_of3 (HU2.out.on hb3)
    have hbb3 := hbb2.trans (hb3.mono hbb2.size)
    clear hb3 N2 S1 HU2 hbb2
    obtain ⟨t, HT⟩ : ∃ t, Hid ((forL q s).any (fun n => decide (n ≠ 0)) = t) := ⟨_, (rfl : _ = _)⟩
    rw [HT.out] at hc
    go_wp2_with fail
    refine (containsN_any _ (forL q s) w3 hfl HRI t HT).mono ?_
    rintro e w4 ⟨rfl, hb4⟩
    have N4 := N3.on hb4
    have S4 := S3.on hb4
    have HU4 := hid_of3 (HU3.out.on hb4)
    have hbb4 := hbb3.trans (hb4.mono hbb3.size)
    clear hb4 N3 S3 HU3 hbb3 HRI
    cases t with
    | true =>
      rw [if_pos rfl] at hc
      subst hc
      go_wp2_with fail
      go_ret
      exact ⟨rfl, hbb4⟩
    | false =>
      rw [if_neg (by simp)] at hc
      have N4h := hid_of3 N4
      have S4h := hid_of3 S4
      obtain ⟨m0, m1, m2, m3, m4, m5, m6, m7, m8, mf0, mf1, mf2, mf3, mf4, mf5, mf6, mf7, mf8, mlt⟩ := N4
      obtain ⟨s0, s1, s2, s3, s4, s5, s6, sf0, sf1, sf2, sf3, sf4, sf5, sf6, slt⟩ := S4
      obtain ⟨bi, HBI⟩ : ∃ b, Hid ((s.id && (decide (q.id < 1) || decide (6 < q.id))) = b) := ⟨_, (rfl : _ = _)⟩
      obtain ⟨bb, HBB⟩ : ∃ b, Hid (inB q s = b) := ⟨_, (rfl : _ = _)⟩
      rw [HBI.out, HBB.out] at hc
      cases hid : s.id with
      | true =>
        rw [hid] at s2 HBI
        by_cases g1 : q.id < 1
        · have : bi = true := by rw [← HBI.out]; simp [g1]
          subst this
          rw [if_pos (.inl rfl)] at hc
          subst hc
          clear hid HBI
          go_wp2_with fail
          go_ret
          exact ⟨rfl, hbb4⟩
        · by_cases g2 : 6 < q.id
          · have : bi = true := by rw [← HBI.out]; simp [g2]
            subst this
            rw [if_pos (.inl rfl)] at hc
            subst hc
            clear hid HBI
            go_wp2_with fail
            go_ret
            exact ⟨rfl, hbb4⟩
          · have : bi = false := by rw [← HBI.out]; simp [g1, g2]
            subst this
            have hib := inBounds_any q s ap np cp w4 hs1 bb HBB
            unfold Shp.val at hib
            rw [hid] at hib
            have N4 := N4h.out
            have S4 := S4h.out
            clear hid HBI
            go_wp2_with fail
            refine hib.mono ?_
            clear hib
            rintro e w5 ⟨rfl, hb5⟩
            have HU5 := hid_of3 (HU4.out.on hb5)
            have hbb5 := hbb4.trans (hb5.mono hbb4.size)
            have N5 := N4.on hb5
            have S5 := S4.on hb5
            clear m0 m1 m2 m3 m4 m5 m6 m7 m8 mf0 mf1 mf2 mf3 mf4 mf5 mf6 mf7 mf8 mlt s0 s1 s2 s3 s4 s5 s6 sf0 sf1 sf2 sf3 sf4 sf5 sf6 slt
            obtain ⟨m0, m1, m2, m3, m4, m5, m6, m7, m8, mf0, mf1, mf2, mf3, mf4, mf5, mf6, mf7, mf8, mlt⟩ := N5
            obtain ⟨s0, s1, s2, s3, s4, s5, s6, sf0, sf1, sf2, sf3, sf4, sf5, sf6, slt⟩ := S5
            clear hb5 HU4 hbb4 N4 S4 N4h S4h
            cases bb with
            | false =>
              rw [if_pos (.inr rfl)] at hc
              subst hc
              go_wp2_with fail
              go_ret
              exact ⟨rfl, hbb5⟩
            | true =>
              rw [if_neg (by simp)] at hc
              cases hp : s.pic with
              | false =>
                rw [hp] at s6 hc
                rw [if_neg (by simp)] at hc
                subst hc
                clear hp
                go_wp2_with fail
                go_ret
                exact ⟨rfl, hbb5⟩
              | true =>
                rw [hp] at s6 hc
                rw [if_pos rfl] at hc
                have HC2 := hid_of3 hc
                clear hp hc
                go_wp2_with fail
                refine (check_any q.pw q.ph _ q.ps _ hps HU5 c HC2).mono ?_
                rintro e w6 ⟨rfl, hb6⟩
                have hbb6 := hbb5.trans (hb6.mono hbb5.size)
                clear hb6
                go_wp2_with fail
                go_ret
                exact ⟨rfl, hbb6⟩
      | false =>
        rw [hid] at s2 HBI
        have : bi = false := by rw [← HBI.out]; rfl
        subst this
        have hib := inBounds_any q s ap np cp w4 hs1 bb HBB
        unfold Shp.val at hib
        rw [hid] at hib
        have N4 := N4h.out
        have S4 := S4h.out
        clear hid HBI
        go_wp2_with fail
        refine hib.mono ?_
        clear hib
        rintro e w5 ⟨rfl, hb5⟩
        have HU5 := hid_of3 (HU4.out.on hb5)
        have hbb5 := hbb4.trans (hb5.mono hbb4.size)
        have N5 := N4.on hb5
        have S5 := S4.on hb5
        clear m0 m1 m2 m3 m4 m5 m6 m7 m8 mf0 mf1 mf2 mf3 mf4 mf5 mf6 mf7 mf8 mlt s0 s1 s2 s3 s4 s5 s6 sf0 sf1 sf2 sf3 sf4 sf5 sf6 slt
        obtain ⟨m0, m1, m2, m3, m4, m5, m6, m7, m8, mf0, mf1, mf2, mf3, mf4, mf5, mf6, mf7, mf8, mlt⟩ := N5
        obtain ⟨s0, s1, s2, s3, s4, s5, s6, sf0, sf1, sf2, sf3, sf4, sf5, sf6, slt⟩ := S5
        clear hb5 HU4 hbb4 N4 S4 N4h S4h
        cases bb with
        | false =>
          rw [if_pos (.inr rfl)] at hc
          subst hc
          go_wp2_with fail
          go_ret
          exact ⟨rfl, hbb5⟩
        | true =>
          rw [if_neg (by simp)] at hc
          cases hp : s.pic with
          | false =>
            rw [hp] at s6 hc
            rw [if_neg (by simp)] at hc
            subst hc
            clear hp
            go_wp2_with fail
            go_ret
            exact ⟨rfl, hbb5⟩
          | true =>
            rw [hp] at s6 hc
            rw [if_pos rfl] at hc
            have HC2 := hid_of3 hc
            clear hp hc
            go_wp2_with fail
            refine (check_any q.pw q.ph _ q.ps _ hps HU5 c HC2).mono ?_
            rintro e w6 ⟨rfl, hb6⟩
            have hbb6 := hbb5.trans (hb6.mono hbb5.size)
            clear hb6
            go_wp2_with fail
            go_ret
            exact ⟨rfl, hbb6⟩
end Go.Proofs.YtfhfedcamcpceaaDoor
/- Walk of picture.Parse, from its head on. -/
namespace Go.Proofs.YtfhfedcamcpceaaDoor
open Go.RowKit

set_option maxHeartbeats 4000000 in
set_option maxRecDepth 100000 in
theorem parse_any (s : ByteArray) (w : World) (hs : s.size ≤ 1000000) (W' H' c : Nat) (ps : List (Int × Int)) (HC : Hid (parseL s.data.toList = (W', H', ps, c))) :
    Calls Tryd.prog 32 #[.string s] w fun e w' => ∃ v, e = .returned (.tuple #[.agg #[.int .i64 (W' : Int), .int .i64 (H' : Int), v], errV c]) ∧ RdP w' v ps ∧ Below w.heap.size w w' := by
  have HL : Hid (s.data.toList.length = s.size) := by unfold Hid; simp
  have HT0 := three_start w (.int .i64 0) (.int .i64 0) (.slice none 0 0) 24
  by_cases h2 : s.size < 2
  · have hc := HC.out
    rw [parse_short _ (by rw [HL.out]; exact h2)] at hc
    simp only [Prod.mk.injEq] at hc
    obtain ⟨rfl, rfl, rfl, rfl⟩ := hc
    go_enter Tryd.func32, Tryd.ntmps32
    go_wp2_with fail
    exact bodyPost_ret (v := .tuple #[.agg #[.int .i64 0, .int .i64 0, .slice none 0 0], .iface 69 (.int .i64 4)]) (by simp [results, Tryd.results32, go_sem]) rfl ⟨_, rfl, rdP_nil _, (Below.refl _ _).alloc (Nat.le_refl _) _⟩
  · obtain ⟨x0, HX0⟩ : ∃ c, Hid (s.data.toList.getD 0 0 = c) := ⟨_, (rfl : _ = _)⟩
    obtain ⟨x1, HX1⟩ : ∃ c, Hid (s.data.toList.getD 1 0 = c) := ⟨_, (rfl : _ = _)⟩
    obtain ⟨W, HW⟩ : ∃ m, Hid (x0.toNat = m) := ⟨_, (rfl : _ = _)⟩
    obtain ⟨H, HH⟩ : ∃ m, Hid (x1.toNat = m) := ⟨_, (rfl : _ = _)⟩
    have hix0 := nat_at s 0 x0 HX0 W HW
    have hix1 := nat_at s 1 x1 HX1 H HH
    have hWb := byte_le x0 W HW
    have hHb := byte_le x1 H HH
    have h2' : 1 < s.size := by omega
    have h2'' : 0 < s.size := by omega
    have HWE : Hid ((s.data.toList.getD 0 0).toNat = W) := by unfold Hid; rw [HX0.out, HW.out]
    have HHE : Hid ((s.data.toList.getD 1 0).toNat = H) := by unfold Hid; rw [HX1.out, HH.out]
    have HL2 : Hid (¬ s.data.toList.length < 2) := by unfold Hid; rw [HL.out]; exact h2
    go_enter Tryd.func32, Tryd.ntmps32
    go_upto_region 3 with fail
    go_cut [4, 5] from 15 (fun s4 s5 wc => s4 = .int .i64 (W : Int) ∧ s5 = .int .i64 (H : Int) ∧ Three wc w.heap.size (.int .i64 0) (.int .i64 0) (.slice none 0 0) ∧ Below w.heap.size w wc)
    case first =>
      go_quiet (fail)
      go_wp2_with fail
      go_meet
      exact ⟨rfl, rfl, HT0.drewN _, below_drewN ((Below.refl _ _).alloc (Nat.le_refl _) _) _⟩
    case rest =>
      clear HT0 hix0 hix1
      obtain ⟨rfl, rfl, HT, hb⟩ := hcut
      cases hsw : sideB (W : Int) with
      | false =>
        have HSW : Hid (sideB (W : Int) = false) := hsw
        have hc := HC.out
        rw [parse_side _ W H HL2.out HWE.out HHE.out (.inl hsw)] at hc
        simp only [Prod.mk.injEq] at hc
        obtain ⟨rfl, rfl, rfl, rfl⟩ := hc
        clear hsw
        obtain ⟨t0, t1, t2, f0, f1, f2, tl⟩ := HT
        go_wp2_with fail
        refine (side_any _ _ false HSW).mono ?_
        rintro e w3 ⟨rfl, rfl⟩
        go_wp2_with fail
        exact bodyPost_ret (v := .tuple #[.agg #[.int .i64 0, .int .i64 0, .slice none 0 0], .iface 69 (.int .i64 1)]) (by simp [results, Tryd.results32, go_sem, t0, t1, t2]) rfl ⟨_, rfl, rdP_nil _, ((hb.setCell (Nat.le_refl _) _).setCell (Nat.le_refl _) _).setCell (Nat.le_refl _) _⟩
      | true =>
        have HSW : Hid (sideB (W : Int) = true) := hsw
        cases hsh : sideB (H : Int) with
        | false =>
          have HSH : Hid (sideB (H : Int) = false) := hsh
          have hc := HC.out
          rw [parse_side _ W H HL2.out HWE.out HHE.out (.inr hsh)] at hc
          simp only [Prod.mk.injEq] at hc
          obtain ⟨rfl, rfl, rfl, rfl⟩ := hc
          clear hsw hsh
          obtain ⟨t0, t1, t2, f0, f1, f2, tl⟩ := HT
          go_wp2_with fail
          refine (side_any _ _ true HSW).mono ?_
          rintro e w3 ⟨rfl, rfl⟩
          go_wp2_with fail
          refine (side_any _ _ false HSH).mono ?_
          rintro e w3 ⟨rfl, rfl⟩
          go_wp2_with fail
          exact bodyPost_ret (v := .tuple #[.agg #[.int .i64 0, .int .i64 0, .slice none 0 0], .iface 69 (.int .i64 1)]) (by simp [results, Tryd.results32, go_sem, t0, t1, t2]) rfl ⟨_, rfl, rdP_nil _, ((hb.setCell (Nat.le_refl _) _).setCell (Nat.le_refl _) _).setCell (Nat.le_refl _) _⟩
        | true =>
          have HSH : Hid (sideB (H : Int) = true) := hsh
          have hW1 : 1 ≤ (W : Int) ∧ (W : Int) ≤ 8 := by unfold sideB at hsw; simpa using hsw
          have hH1 : 1 ≤ (H : Int) ∧ (H : Int) ≤ 8 := by unfold sideB at hsh; simpa using hsh
          obtain ⟨hW1, hW8⟩ := hW1
          obtain ⟨hH1, hH8⟩ := hH1
          have HNS : Hid (¬ (sideB (W : Int) = false ∨ sideB (H : Int) = false)) := by unfold Hid; rw [hsw, hsh]; simp
          clear hsw hsh
          obtain ⟨L, HLN⟩ : ∃ L, Hid (1 + 2 * W = L) := ⟨_, (rfl : _ = _)⟩
          have hL1 : L ≤ 17 := by rw [← HLN.out]; omega
          have hL2 : 3 ≤ L := by rw [← HLN.out]; omega
          have hLI : 1 + 2 * (W : Int) = (L : Int) := by rw [← HLN.out]; simp
          obtain ⟨M, HM⟩ : ∃ M, Hid (H * L = M) := ⟨_, (rfl : _ = _)⟩
          have hM : M ≤ 136 := by rw [← HM.out]; have := Nat.mul_le_mul (show H ≤ 8 by omega) hL1; omega
          have hMI : (H : Int) * (L : Int) = (M : Int) := by rw [← HM.out]; simp
          obtain ⟨z, HZ⟩ : ∃ z, Hid (Fb.unpack (s.extract 2 s.size).data.toList (M : Int) = z) := ⟨_, (rfl : _ = _)⟩
          obtain ⟨us, uc⟩ := z
          have HU : Hid (Fb.unpack (s.data.toList.drop 2) ((H * (1 + 2 * W) : Nat) : Int) = (us, uc)) := by unfold Hid; rw [← ext_drop2, HLN.out, HM.out]; exact HZ.out
          have HB : Hid (parseL s.data.toList = if uc ≠ 0 then (0, 0, [], uc) else if us.length < M then (0, 0, [], 4) else if (parseRows us W H 0 []).2 ≠ 0 then (0, 0, [], (parseRows us W H 0 []).2) else (W, H, (parseRows us W H 0 []).1, 0)) := by
            unfold Hid; rw [parse_body _ W H HL2.out HWE.out HHE.out HNS.out us uc HU.out, HLN.out, HM.out]
          have hse : (s.extract 2 s.size).size ≤ 1000000 := by rw [ByteArray.size_extract]; omega
          obtain ⟨x, HX⟩ : ∃ t : ByteArray, Hid (us = t.data.toList) := ⟨⟨us.toArray⟩, by unfold Hid; simp⟩
          have HXS : Hid (x.size = us.length) := by unfold Hid; rw [HX.out]; simp
          go_wp2_with fail
          refine (side_any _ _ true HSW).mono ?_
          rintro e w3 ⟨rfl, rfl⟩
          go_wp2_with fail
          refine (side_any _ _ true HSH).mono ?_
          rintro e w3 ⟨rfl, rfl⟩
          by_cases huc : uc = 0
          · subst huc
            by_cases hshort : x.size < M
            · have hc := HC.out
              rw [HB.out, if_neg (by simp), if_pos (by rw [← HXS.out]; exact hshort)] at hc
              simp only [Prod.mk.injEq] at hc
              obtain ⟨rfl, rfl, rfl, rfl⟩ := hc
              go_wp2_with fail
              refine (unpack_at2 _ _ _ hse (by omega) (by omega) x _ us 0 HZ HX rfl).mono ?_
              rintro e w5 ⟨rfl, hb5⟩
              rw [show errV 0 = .nilIface from rfl]
              obtain ⟨t0, t1, t2, f0, f1, f2, tl⟩ := HT.on hb5
              go_wp2_with fail
              exact bodyPost_ret (v := .tuple #[.agg #[.int .i64 0, .int .i64 0, .slice none 0 0], .iface 69 (.int .i64 4)]) (by simp [results, Tryd.results32, go_sem, t0, t1, t2]) rfl ⟨_, rfl, rdP_nil _, (((hb.trans (hb5.mono hb.size)).setCell (Nat.le_refl _) _).setCell (Nat.le_refl _) _).setCell (Nat.le_refl _) _⟩
            · have HP : Hid ((W', H', ps, c) = if (parseRows us W H 0 []).2 ≠ 0 then (0, 0, [], (parseRows us W H 0 []).2) else (W, H, (parseRows us W H 0 []).1, 0)) := by
                unfold Hid; rw [← HC.out, HB.out, if_neg (by simp), if_neg (by rw [← HXS.out]; exact hshort)]
              go_wp2_with fail
              refine (unpack_at2 _ _ _ hse (by omega) (by omega) x _ us 0 HZ HX rfl).mono ?_
              rintro e w5 ⟨rfl, hb5⟩
              rw [show errV 0 = .nilIface from rfl]
              have HT5 := HT.on hb5
              have hbw5 : Below w.heap.size w w5 := hb.trans (hb5.mono hb.size)
              have HPB := three_start w5 (.int .i64 (W : Int)) (.int .i64 (H : Int)) (.slice none 0 0) 24
              have HRB := HT5.alloc (.cells #[.int .i64 (W : Int), .int .i64 (H : Int), .slice none 0 0] 24)
              obtain ⟨wp, HWP⟩ : ∃ wp, Hid (w5.alloc (.cells #[.int .i64 (W : Int), .int .i64 (H : Int), .slice none 0 0] 24) = wp) := ⟨_, (rfl : _ = _)⟩
              rw [HWP.out] at HPB HRB
              have hbwp : Below w.heap.size w wp := by rw [← HWP.out]; exact hbw5.alloc hbw5.size _
              have HPB' : Hid (Three wp w5.heap.size (.int .i64 (W : Int)) (.int .i64 (H : Int)) (.slice none 0 0)) := HPB
              have HRB' : Hid (Three wp w.heap.size (.int .i64 0) (.int .i64 0) (.slice none 0 0)) := HRB
              have hltp : w5.heap.size < wp.heap.size := HPB.lt
              have hltw : w.heap.size < w5.heap.size := HT5.lt
              clear HPB HRB HT5 HT
              go_wp2_with fail
              rw [HWP.out]
              go_loopw [10, 64] (fun u i wr => ∃ (k : Nat) (qs : List (Int × Int)) (ab : List UInt8) (xv : Value), k ≤ H ∧ i = .int .i64 k ∧ Hid (RdB wr u ab) ∧ Hid (Three wr w5.heap.size (.int .i64 (W : Int)) (.int .i64 (H : Int)) xv) ∧ Hid (wr.ownsRow wp.heap.size 88 2 xv qs.length (pixCells qs)) ∧ Hid (Three wr w.heap.size (.int .i64 0) (.int .i64 0) (.slice none 0 0)) ∧ Below w.heap.size w wr ∧ wp.heap.size ≤ wr.heap.size ∧ qs.length ≤ k * 8 ∧ Hid (parseRows us W H 0 [] = combP qs (parseRows us W (H - k) k ab))) (fun _ i _ => H - (intOf i).toNat)
              case atStart => exact ⟨0, [], [], .slice none 0 0, by omega, rfl, rdB_nil _, HPB', World.ownsRow_nil _ _ _ _, HRB', hbwp, Nat.le_refl _, by simp, (rows_nil _ _ _ _ _).symm⟩
              case round =>
                obtain ⟨k, qs, ab, xv, hk, rfl, HAB, H3P, HOQ, H3R, hbr, hwpr, hql, HK⟩ := hrel
                by_cases hlt : k < H
                · obtain ⟨lo, HLO⟩ : ∃ lo, Hid (k * L = lo) := ⟨_, (rfl : _ = _)⟩
                  obtain ⟨hi2, HHI⟩ : ∃ hi, Hid ((k + 1) * L = hi) := ⟨_, (rfl : _ = _)⟩
                  have hlohi : hi2 = lo + L := by rw [← HLO.out, ← HHI.out, Nat.add_mul, Nat.one_mul]
                  have hhin : hi2 ≤ M := by rw [← HHI.out, ← HM.out]; exact Nat.mul_le_mul_right L (by omega)
                  have hm1 : (k : Int) * (L : Int) = (lo : Int) := by rw [← HLO.out]; simp
                  have hm2 : ((k : Int) + 1) * (L : Int) = (hi2 : Int) := by rw [← HHI.out]; simp
                  have HHW : Hid (hi2 = lo + L) := hlohi
                  have hlt2 : lo + 1 < hi2 := by omega
                  have hlox : lo < x.size := by omega
                  have hhix : hi2 ≤ x.size := by omega
                  clear hlohi
                  obtain ⟨wb, HWB⟩ : ∃ c, Hid (x.data.toList.getD lo 0 = c) := ⟨_, (rfl : _ = _)⟩
                  obtain ⟨way, HWAY⟩ : ∃ m, Hid (wb.toNat = m) := ⟨_, (rfl : _ = _)⟩
                  have hixw := nat_at x lo wb HWB way HWAY
                  have hwyb := byte_le wb way HWAY
                  have HWE2 : Hid ((us.getD (k * (1 + 2 * W)) 0).toNat = way) := by unfold Hid; rw [HLN.out, HLO.out, HX.out, HWB.out, HWAY.out]
                  have hHk : H - k = (H - (k + 1)) + 1 := by omega
                  have HHK : Hid (H - k = (H - (k + 1)) + 1) := hHk
                  clear hHk
                  by_cases hw4 : 4 ≤ way
                  · have HPE : Hid (parseRows us W H 0 [] = ([], 4)) := by
                      unfold Hid; rw [HK.out, HHK.out, rows_err _ _ _ _ _ (by rw [HWE2.out]; exact hw4)]; rfl
                    have hc := HP.out
                    rw [HPE.out] at hc
                    simp at hc
                    obtain ⟨rfl, rfl, rfl, rfl⟩ := hc
                    obtain ⟨t0, t1, t2, f0, f1, f2, tl⟩ := H3R.out
                    go_wp2_with fail
                    go_quiet (fail)
                    go_wp2_with fail
                    exact bodyPost_ret (v := .tuple #[.agg #[.int .i64 0, .int .i64 0, .slice none 0 0], .iface 69 (.int .i64 4)]) (by simp [results, Tryd.results32, go_sem, t0, t1, t2]) rfl ⟨_, rfl, rdP_nil _, (((below_drewN hbr _).setCell (Nat.le_refl _) _).setCell (Nat.le_refl _) _).setCell (Nat.le_refl _) _⟩
                  · obtain ⟨t, HT2⟩ : ∃ t, Hid (x.extract (lo + 1) hi2 = t) := ⟨_, (rfl : _ = _)⟩
                    have HTS : Hid (t.size = 2 * W) := by unfold Hid; rw [← HT2.out, ByteArray.size_extract]; have h1 := HHW.out; have h2 := HLN.out; omega
                    have HTD : Hid (t.data.toList = (us.drop (k * (1 + 2 * W) + 1)).take (2 * W)) := by
                      unfold Hid
                      rw [← HT2.out, ByteArray.data_extract, Array.toList_extract, List.extract_eq_take_drop, ← HX.out, HLN.out, HLO.out]
                      rw [show hi2 - (lo + 1) = 2 * W by have h1 := HHW.out; have h2 := HLN.out; omega]
                    obtain ⟨row, HROW⟩ : ∃ row, Hid (Fb.restL way t.data.toList ab = row) := ⟨_, (rfl : _ = _)⟩
                    have HRLN : Hid (row.length = 2 * W) := by unfold Hid; rw [← HROW.out]; unfold Fb.restL; rw [Fb.restTo_len, ← HTS.out]; simp
                    have HN2 : Hid (parseRows us W H 0 [] = combP (qs ++ pixOf row) (parseRows us W (H - (k + 1)) (k + 1) row)) := by
                      unfold Hid
                      rw [HK.out, HHK.out, rows_step _ _ _ _ _ (by rw [HWE2.out]; exact hw4), combP_combP, HWE2.out, ← HTD.out, HROW.out]
                    go_wp2_with fail
                    go_quiet (fail)
                    go_wp2_with fail
                    rw [HT2.out]
                    obtain ⟨wq, HWQ⟩ : ∃ wq, Hid (wr.drewN nq = wq) := ⟨_, (rfl : _ = _)⟩
                    have hbq : Below wr.heap.size wr wq := by rw [← HWQ.out]; exact below_drewN (Below.refl _ _) _
                    have hbwq : Below w.heap.size w wq := by rw [← HWQ.out]; exact below_drewN hbr _
                    rw [HWQ.out]
                    have HPQ := H3P.out.on hbq
                    have HRQ := H3R.out.on hbq
                    have HOQ2 := own_on2 HOQ.out hbq
                    refine (restore_any way (by omega) _ t ab wq (by rw [HTS.out]; omega) (by rw [HTS.out]; omega) (HAB.out.on hbq)).mono ?_
                    rintro e w6 ⟨vrow, rfl, hrow, hb6⟩
                    rw [HROW.out] at hrow
                    have hq0 : wp.heap.size ≤ wq.heap.size := Nat.le_trans hwpr hbq.size
                    have HVR : Hid (w6.ownsRow wp.heap.size 5 1 vrow row.length (row.map bv)) := own_mono hrow hq0
                    have HO6 : Hid (w6.ownsRow wp.heap.size 88 2 xv qs.length (pixCells qs)) := own_on2 HOQ2 hb6
                    have HP6 : Hid (Three w6 w5.heap.size (.int .i64 (W : Int)) (.int .i64 (H : Int)) xv) := HPQ.on hb6
                    have HR6 : Hid (Three w6 w.heap.size (.int .i64 0) (.int .i64 0) (.slice none 0 0)) := HRQ.on hb6
                    have hw6 : wp.heap.size ≤ w6.heap.size := Nat.le_trans hq0 hb6.size
                    have hbw6 : Below w.heap.size w w6 := hbwq.trans (hb6.mono hbwq.size)
                    clear hrow hb6 HPQ HRQ HOQ2 hbwq hbq H3P H3R HOQ HAB
                    have hc2 := HP6.out.c2
                    go_wp2_with fail
                    refine (appendPixels_any wp.heap.size W xv vrow qs row w6 hw6 HO6 HVR HRLN (by omega) (by omega) (by omega)).mono ?_
                    rintro e w7 ⟨v', rfl, hown7, hrow7, hb7⟩
                    obtain ⟨n7, HN7⟩ : ∃ n, Hid ((qs ++ pixOf row).length = n) := ⟨_, (rfl : _ = _)⟩
                    obtain ⟨av7, cv7, hv7⟩ := own_any hown7
                    rw [HN7.out] at hv7
                    subst hv7
                    have HP7 := HP6.out.onB hb7 hltp
                    have HR7 := HR6.out.onB hb7 (by omega)
                    have hbw7 : Below w.heap.size w w7 := hbw6.trans (hb7.mono (by omega))
                    have hw7 : wp.heap.size ≤ w7.heap.size := Nat.le_trans hw6 hb7.size
                    have HP8 : Hid (Three (w7.setCell ⟨w5.heap.size, 2, none⟩ (.slice av7 n7 cv7)) w5.heap.size (.int .i64 (W : Int)) (.int .i64 (H : Int)) (.slice av7 n7 cv7)) := HP7.set2
                    have HR8 : Hid (Three (w7.setCell ⟨w5.heap.size, 2, none⟩ (.slice av7 n7 cv7)) w.heap.size (.int .i64 0) (.int .i64 0) (.slice none 0 0)) := HR7.other (by omega)
                    have HO8 : Hid ((w7.setCell ⟨w5.heap.size, 2, none⟩ (.slice av7 n7 cv7)).ownsRow wp.heap.size 88 2 (.slice av7 n7 cv7) (qs ++ pixOf row).length (pixCells (qs ++ pixOf row))) := ownsRow_setCell_below hown7 (a := ⟨w5.heap.size, 2, none⟩) hltp (.slice av7 n7 cv7)
                    have HB8 : Hid (RdB (w7.setCell ⟨w5.heap.size, 2, none⟩ (.slice av7 n7 cv7)) vrow row) := rdB_own (ownsRow_setCell_below hrow7 (a := ⟨w5.heap.size, 2, none⟩) hltp (.slice av7 n7 cv7))
                    have hb8 : Below w.heap.size w (w7.setCell ⟨w5.heap.size, 2, none⟩ (.slice av7 n7 cv7)) := hbw7.setCell (show w.heap.size ≤ w5.heap.size by omega) (.slice av7 n7 cv7)
                    have hw8 : wp.heap.size ≤ (w7.setCell ⟨w5.heap.size, 2, none⟩ (.slice av7 n7 cv7)).heap.size := by simpa using hw7
                    have hpl : (qs ++ pixOf row).length ≤ (k + 1) * 8 := by rw [List.length_append, pixOf_len W row HRLN.out]; omega
                    have hc3 := HP7.c2
                    have hf3 := HP7.f2
                    clear hown7 hrow7 hb7 HP7 HR7 HP6 HR6 HO6 HVR
                    go_wp2_with fail
                    go_roundw
                    case rel => exact ⟨k + 1, qs ++ pixOf row, row, (.slice av7 n7 cv7), by omega, by go_num, HB8, HP8, HO8, HR8, hb8, hw8, hpl, HN2⟩
                    case measure => simp [intOf]; omega
                · have HPE : Hid (parseRows us W H 0 [] = (qs, 0)) := by
                    unfold Hid; rw [HK.out, show H - k = 0 by omega]; simp [parseRows, combP]
                  have hc := HP.out
                  rw [HPE.out] at hc
                  simp at hc
                  obtain ⟨rfl, rfl, rfl, rfl⟩ := hc
                  obtain ⟨t0, t1, t2, f0, f1, f2, tl⟩ := H3R.out
                  obtain ⟨n7, HN7⟩ : ∃ n, Hid (ps.length = n) := ⟨_, (rfl : _ = _)⟩
                  obtain ⟨av7, cv7, hv7⟩ := own_any HOQ.out
                  rw [HN7.out] at hv7
                  subst hv7
                  obtain ⟨p0, p1, p2, q0, q1, q2, pl⟩ := H3P.out
                  go_wp2_with fail
                  exact bodyPost_ret (v := .tuple #[.agg #[.int .i64 (W' : Int), .int .i64 (H' : Int), .slice av7 n7 cv7], .nilIface]) (by simp [results, Tryd.results32, go_sem, t0, t1, t2]) rfl
                    ⟨_, rfl, rdP_own (ownsRow_setCell_below (ownsRow_setCell_below (ownsRow_setCell_below HOQ.out (a := ⟨w.heap.size, 0, none⟩) (show w.heap.size < wp.heap.size by omega) _) (a := ⟨w.heap.size, 1, none⟩) (show w.heap.size < wp.heap.size by omega) _) (a := ⟨w.heap.size, 2, none⟩) (show w.heap.size < wp.heap.size by omega) _),
                      ((hbr.setCell (Nat.le_refl _) _).setCell (Nat.le_refl _) _).setCell (Nat.le_refl _) _⟩
          · have HE : Hid (errV uc = .iface 69 (.int .i64 (uc : Int))) := by unfold Hid errV; rw [if_neg huc]
            have hc := HC.out
            rw [HB.out, if_pos huc] at hc
            simp only [Prod.mk.injEq] at hc
            obtain ⟨rfl, rfl, rfl, rfl⟩ := hc
            go_wp2_with fail
            refine (unpack_at2 _ _ _ hse (by omega) (by omega) x _ us uc HZ HX HE).mono ?_
            rintro e w5 ⟨rfl, hb5⟩
            obtain ⟨t0, t1, t2, f0, f1, f2, tl⟩ := HT.on hb5
            go_wp2_with fail
            exact bodyPost_ret (v := .tuple #[.agg #[.int .i64 0, .int .i64 0, .slice none 0 0], .iface 69 (.int .i64 (uc : Int))]) (by simp [results, Tryd.results32, go_sem, t0, t1, t2]) rfl ⟨_, by rw [HE.out]; rfl, rdP_nil _, (((hb.trans (hb5.mono hb.size)).setCell (Nat.le_refl _) _).setCell (Nat.le_refl _) _).setCell (Nat.le_refl _) _⟩
end Go.Proofs.YtfhfedcamcpceaaDoor
/- Walk of picture.tell, way by way. -/
namespace Go.Proofs.YtfhfedcamcpceaaDoor
open Go.RowKit

set_option maxHeartbeats 4000000 in
set_option maxRecDepth 100000 in
theorem tell0 (v u : Value) (row ab : List UInt8) (w : World) (hne : row ≠ []) (hlen : row.length ≤ 1000) (HR : Hid (RdB w v row)) (HA : Hid (RdB w u ab)) :
    Calls Tryd.prog 72 #[.int .i64 0, v, u] w fun e w' => e = .returned (str (Fb.tellL 0 row ab)) ∧ Below w.heap.size w w' := by
  obtain ⟨i0, hi, hz0, hz1, hz2⟩ := info_parts Tryd.infoByte
  obtain ⟨a, cap, hv, hlc, hcap, hh⟩ := HR.out
  obtain ⟨gr, rfl, hgr, hcr⟩ := hh hne
  obtain ⟨a2, cap2, hu, hl2, hc2, hh2⟩ := HA.out
  clear hl2 hh2
  obtain ⟨n, HN⟩ : ∃ n, Hid (row.length = n) := ⟨_, (rfl : _ = _)⟩
  rw [HN.out] at hv hlc hlen
  have HCR : Hid (∀ j, j < n → w.cell? ⟨gr, j, none⟩ = some (bv (row.getD j 0))) := by unfold Hid; rw [← HN.out]; exact hcr
  clear hcr hh
  have HGC : Hid (GuessC 0 86 #[] w.heap.size v u) := guess0 _ _ _
  have HGU : Hid (Calls Tryd.prog 74 #[.int .i64 0, v, u] w fun e w' => e = .returned (.func (.func 86) #[] #[]) ∧ Boxes w' w.heap.size v u ∧ Below w.heap.size w w') := guesser_any 0 (by decide) v u w n cap ab.length cap2 _ a2 hv hu
  subst hv hu
  go_enter Tryd.func72, Tryd.ntmps72
  go_wp2_with fail
  refine Calls.mono HGU.out ?_
  rintro e w1 ⟨rfl, hbx, hb1⟩
  have HBX : Hid (Boxes w1 w.heap.size (.slice (some ⟨gr, 0, none⟩) n cap) (.slice a2 ab.length cap2)) := hbx
  clear hbx HGU
  go_wp2_with (at_make; refine wpList_make_full _ rfl _ _ 59 rfl w1.heap.size 5 i0 (.int .u8 0) 1 Tryd.underlying59 hi hz0 hz1 _ _ _ _ n rfl rfl rfl rfl ?b1 ?b2 ?b3 ?_)
  case b1 => rw [hz2]; omega
  case b2 => unfold maxLen; omega
  case b3 => exact Nat.le_refl _
  intro w2 hown2 hgrow2
  rw [made_zero] at hown2
  have hb2 : Below w1.heap.size w1 w2 := (Below.refl _ _).grown hgrow2 (Nat.le_refl _) (by intro k hk; cases hk)
  clear hgrow2
  go_wp2_with fail
  go_loopw [19] (fun i wr => ∃ k : Nat, k ≤ n ∧ i = .int .i64 k ∧ Below w1.heap.size w1 wr ∧ Hid (wr.ownsRow w1.heap.size 5 1 (.slice (some ⟨w1.heap.size, 0, none⟩) n n) n ((Fb.tellTo 0 row ab k ++ List.replicate (n - k) 0).map bv))) (fun i _ => n - (intOf i).toNat)
  case atStart => exact ⟨0, by omega, rfl, hb2, hown2⟩
  case round =>
    obtain ⟨k, hk, rfl, hb, HOWN⟩ := hrel
    by_cases hlt : k < n
    · have hc := HCR.out k hlt
      obtain ⟨x, HX⟩ : ∃ x, Hid (row.getD k 0 = x) := ⟨_, (rfl : _ = _)⟩
      obtain ⟨y, HY⟩ : ∃ x, Hid (Fb.guessB 0 row ab k = x) := ⟨_, (rfl : _ = _)⟩
      obtain ⟨xx, HXX⟩ : ∃ m, Hid (x.toNat = m) := ⟨_, (rfl : _ = _)⟩
      obtain ⟨yy, HYY⟩ : ∃ m, Hid (y.toNat = m) := ⟨_, (rfl : _ = _)⟩
      obtain ⟨dd, HDD⟩ : ∃ m, Hid ((x - y).toNat = m) := ⟨_, (rfl : _ = _)⟩
      have hgr1 : gr < w1.heap.size := Nat.lt_of_lt_of_le hgr hb1.size
      have hcx : wr.cell? ⟨gr, k, none⟩ = some (.int .u8 (xx : Int)) := by
        rw [hb.cell (p := ⟨gr, k, none⟩) hgr1, hb1.cell (p := ⟨gr, k, none⟩) hgr, hc, HX.out, ← HXX.out]; rfl
      have hsub : IntKind.u8.wrap ((xx : Int) - (yy : Int)) = (dd : Int) := by rw [← HXX.out, ← HYY.out, ← HDD.out]; exact sub_byte x y
      have hfz := HOWN.out.frozenAt k
      have hcg : wr.cell? ⟨w1.heap.size, k, none⟩ = some (.int .u8 0) := by
        rw [HOWN.out.cellAt k (by omega), List.getElem?_map, List.getElem?_append_right (by rw [Fb.tellTo_len]; omega), Fb.tellTo_len, Nat.sub_self, show n - k = (n - k - 1) + 1 by omega, List.replicate_succ]; rfl
      have HCALL : Hid (Calls Tryd.prog 86 #[.int .i64 (k : Int)] wr.drew fun e W' => e = .returned (.int .u8 (yy : Int)) ∧ ∃ q, W' = wr.drew.drewN q) := by
        have h := HGC.out wr.drew row ab k (by omega) (by rw [HN.out]; omega) (HBX.out.on hb).drew ((HR.out.on hb1).on hb).drew ((HA.out.on hb1).on hb).drew
        rw [HY.out, HYY.out] at h
        exact h
      have HSET : Hid (∀ m, ((wr.drewN m).setCell ⟨w1.heap.size, k, none⟩ (.int .u8 (dd : Int))).ownsRow w1.heap.size 5 1 (.slice (some ⟨w1.heap.size, 0, none⟩) n n) n ((Fb.tellTo 0 row ab (k + 1) ++ List.replicate (n - (k + 1)) 0).map bv)) := by
        unfold Hid
        intro m
        have h := ((owns_drewN HOWN.out m).stored k (.int .u8 (dd : Int))).1
        have e : (.int .u8 (dd : Int) : Value) = bv (x - y) := by unfold bv; rw [HDD.out]
        rw [e, set_row _ _ k n hlt (Fb.tellTo_len _ _ _ _)] at h
        rw [e, Fb.tellTo, HX.out, HY.out]
        exact h
      clear hc
      go_upto_region 6 with fail
      go_region_with (go_at_call 86; refine Calls.mono HCALL.out ?_; rintro e w3 ⟨rfl, q, rfl⟩)
      all_goals go_wp2_with fail
      all_goals (go_roundw; (case rel => exact ⟨k + 1, by omega, by go_num, (below_drewN hb _).setCell (Nat.le_refl _) _, HSET.out _⟩); (case measure => simp [intOf]; omega))
    · have hkn : k = n := by omega
      subst hkn
      have HOWN2 : wr.ownsRow w1.heap.size 5 1 (.slice (some ⟨w1.heap.size, 0, none⟩) k k) (Fb.tellL 0 row ab).length ((Fb.tellL 0 row ab).map bv) := by
        have h := HOWN.out
        rw [Nat.sub_self] at h
        unfold Fb.tellL
        rw [Fb.tellTo_len, HN.out]
        simpa using h
      have hst := run_str HOWN2
      clear HOWN2
      go_wp2_with fail
      go_ret
      exact ⟨rfl, hb1.trans (hb.mono hb1.size)⟩

set_option maxHeartbeats 4000000 in
set_option maxRecDepth 100000 in
theorem tell1 (v u : Value) (row ab : List UInt8) (w : World) (hne : row ≠ []) (hlen : row.length ≤ 1000) (HR : Hid (RdB w v row)) (HA : Hid (RdB w u ab)) :
    Calls Tryd.prog 72 #[.int .i64 1, v, u] w fun e w' => e = .returned (str (Fb.tellL 1 row ab)) ∧ Below w.heap.size w w' := by
  obtain ⟨i0, hi, hz0, hz1, hz2⟩ := info_parts Tryd.infoByte
  obtain ⟨a, cap, hv, hlc, hcap, hh⟩ := HR.out
  obtain ⟨gr, rfl, hgr, hcr⟩ := hh hne
  obtain ⟨a2, cap2, hu, hl2, hc2, hh2⟩ := HA.out
  clear hl2 hh2
  obtain ⟨n, HN⟩ : ∃ n, Hid (row.length = n) := ⟨_, (rfl : _ = _)⟩
  rw [HN.out] at hv hlc hlen
  have HCR : Hid (∀ j, j < n → w.cell? ⟨gr, j, none⟩ = some (bv (row.getD j 0))) := by unfold Hid; rw [← HN.out]; exact hcr
  clear hcr hh
  have HGC : Hid (GuessC 1 83 #[.pointer (some ⟨w.heap.size, 0, none⟩)] w.heap.size v u) := guess1 _ _ _
  have HGU : Hid (Calls Tryd.prog 74 #[.int .i64 1, v, u] w fun e w' => e = .returned (.func (.func 83) #[] #[.pointer (some ⟨w.heap.size, 0, none⟩)]) ∧ Boxes w' w.heap.size v u ∧ Below w.heap.size w w') := guesser_any 1 (by decide) v u w n cap ab.length cap2 _ a2 hv hu
  subst hv hu
  go_enter Tryd.func72, Tryd.ntmps72
  go_wp2_with fail
  refine Calls.mono HGU.out ?_
  rintro e w1 ⟨rfl, hbx, hb1⟩
  have HBX : Hid (Boxes w1 w.heap.size (.slice (some ⟨gr, 0, none⟩) n cap) (.slice a2 ab.length cap2)) := hbx
  clear hbx HGU
  go_wp2_with (at_make; refine wpList_make_full _ rfl _ _ 59 rfl w1.heap.size 5 i0 (.int .u8 0) 1 Tryd.underlying59 hi hz0 hz1 _ _ _ _ n rfl rfl rfl rfl ?b1 ?b2 ?b3 ?_)
  case b1 => rw [hz2]; omega
  case b2 => unfold maxLen; omega
  case b3 => exact Nat.le_refl _
  intro w2 hown2 hgrow2
  rw [made_zero] at hown2
  have hb2 : Below w1.heap.size w1 w2 := (Below.refl _ _).grown hgrow2 (Nat.le_refl _) (by intro k hk; cases hk)
  clear hgrow2
  go_wp2_with fail
  go_loopw [19] (fun i wr => ∃ k : Nat, k ≤ n ∧ i = .int .i64 k ∧ Below w1.heap.size w1 wr ∧ Hid (wr.ownsRow w1.heap.size 5 1 (.slice (some ⟨w1.heap.size, 0, none⟩) n n) n ((Fb.tellTo 1 row ab k ++ List.replicate (n - k) 0).map bv))) (fun i _ => n - (intOf i).toNat)
  case atStart => exact ⟨0, by omega, rfl, hb2, hown2⟩
  case round =>
    obtain ⟨k, hk, rfl, hb, HOWN⟩ := hrel
    by_cases hlt : k < n
    · have hc := HCR.out k hlt
      obtain ⟨x, HX⟩ : ∃ x, Hid (row.getD k 0 = x) := ⟨_, (rfl : _ = _)⟩
      obtain ⟨y, HY⟩ : ∃ x, Hid (Fb.guessB 1 row ab k = x) := ⟨_, (rfl : _ = _)⟩
      obtain ⟨xx, HXX⟩ : ∃ m, Hid (x.toNat = m) := ⟨_, (rfl : _ = _)⟩
      obtain ⟨yy, HYY⟩ : ∃ m, Hid (y.toNat = m) := ⟨_, (rfl : _ = _)⟩
      obtain ⟨dd, HDD⟩ : ∃ m, Hid ((x - y).toNat = m) := ⟨_, (rfl : _ = _)⟩
      have hgr1 : gr < w1.heap.size := Nat.lt_of_lt_of_le hgr hb1.size
      have hcx : wr.cell? ⟨gr, k, none⟩ = some (.int .u8 (xx : Int)) := by
        rw [hb.cell (p := ⟨gr, k, none⟩) hgr1, hb1.cell (p := ⟨gr, k, none⟩) hgr, hc, HX.out, ← HXX.out]; rfl
      have hsub : IntKind.u8.wrap ((xx : Int) - (yy : Int)) = (dd : Int) := by rw [← HXX.out, ← HYY.out, ← HDD.out]; exact sub_byte x y
      have hfz := HOWN.out.frozenAt k
      have hcg : wr.cell? ⟨w1.heap.size, k, none⟩ = some (.int .u8 0) := by
        rw [HOWN.out.cellAt k (by omega), List.getElem?_map, List.getElem?_append_right (by rw [Fb.tellTo_len]; omega), Fb.tellTo_len, Nat.sub_self, show n - k = (n - k - 1) + 1 by omega, List.replicate_succ]; rfl
      have HCALL : Hid (Calls Tryd.prog 83 #[.int .i64 (k : Int), .pointer (some ⟨w.heap.size, 0, none⟩)] wr.drew fun e W' => e = .returned (.int .u8 (yy : Int)) ∧ ∃ q, W' = wr.drew.drewN q) := by
        have h := HGC.out wr.drew row ab k (by omega) (by rw [HN.out]; omega) (HBX.out.on hb).drew ((HR.out.on hb1).on hb).drew ((HA.out.on hb1).on hb).drew
        rw [HY.out, HYY.out] at h
        exact h
      have HSET : Hid (∀ m, ((wr.drewN m).setCell ⟨w1.heap.size, k, none⟩ (.int .u8 (dd : Int))).ownsRow w1.heap.size 5 1 (.slice (some ⟨w1.heap.size, 0, none⟩) n n) n ((Fb.tellTo 1 row ab (k + 1) ++ List.replicate (n - (k + 1)) 0).map bv)) := by
        unfold Hid
        intro m
        have h := ((owns_drewN HOWN.out m).stored k (.int .u8 (dd : Int))).1
        have e : (.int .u8 (dd : Int) : Value) = bv (x - y) := by unfold bv; rw [HDD.out]
        rw [e, set_row _ _ k n hlt (Fb.tellTo_len _ _ _ _)] at h
        rw [e, Fb.tellTo, HX.out, HY.out]
        exact h
      clear hc
      go_upto_region 6 with fail
      go_region_with (go_at_call 83; refine Calls.mono HCALL.out ?_; rintro e w3 ⟨rfl, q, rfl⟩)
      all_goals go_wp2_with fail
      all_goals (go_roundw; (case rel => exact ⟨k + 1, by omega, by go_num, (below_drewN hb _).setCell (Nat.le_refl _) _, HSET.out _⟩); (case measure => simp [intOf]; omega))
    · have hkn : k = n := by omega
      subst hkn
      have HOWN2 : wr.ownsRow w1.heap.size 5 1 (.slice (some ⟨w1.heap.size, 0, none⟩) k k) (Fb.tellL 1 row ab).length ((Fb.tellL 1 row ab).map bv) := by
        have h := HOWN.out
        rw [Nat.sub_self] at h
        unfold Fb.tellL
        rw [Fb.tellTo_len, HN.out]
        simpa using h
      have hst := run_str HOWN2
      clear HOWN2
      go_wp2_with fail
      go_ret
      exact ⟨rfl, hb1.trans (hb.mono hb1.size)⟩

set_option maxHeartbeats 4000000 in
set_option maxRecDepth 100000 in
theorem tell2 (v u : Value) (row ab : List UInt8) (w : World) (hne : row ≠ []) (hlen : row.length ≤ 1000) (HR : Hid (RdB w v row)) (HA : Hid (RdB w u ab)) :
    Calls Tryd.prog 72 #[.int .i64 2, v, u] w fun e w' => e = .returned (str (Fb.tellL 2 row ab)) ∧ Below w.heap.size w w' := by
  obtain ⟨i0, hi, hz0, hz1, hz2⟩ := info_parts Tryd.infoByte
  obtain ⟨a, cap, hv, hlc, hcap, hh⟩ := HR.out
  obtain ⟨gr, rfl, hgr, hcr⟩ := hh hne
  obtain ⟨a2, cap2, hu, hl2, hc2, hh2⟩ := HA.out
  clear hl2 hh2
  obtain ⟨n, HN⟩ : ∃ n, Hid (row.length = n) := ⟨_, (rfl : _ = _)⟩
  rw [HN.out] at hv hlc hlen
  have HCR : Hid (∀ j, j < n → w.cell? ⟨gr, j, none⟩ = some (bv (row.getD j 0))) := by unfold Hid; rw [← HN.out]; exact hcr
  clear hcr hh
  have HGC : Hid (GuessC 2 84 #[.pointer (some ⟨w.heap.size + 1, 0, none⟩)] w.heap.size v u) := guess2 _ _ _
  have HGU : Hid (Calls Tryd.prog 74 #[.int .i64 2, v, u] w fun e w' => e = .returned (.func (.func 84) #[] #[.pointer (some ⟨w.heap.size + 1, 0, none⟩)]) ∧ Boxes w' w.heap.size v u ∧ Below w.heap.size w w') := guesser_any 2 (by decide) v u w n cap ab.length cap2 _ a2 hv hu
  subst hv hu
  go_enter Tryd.func72, Tryd.ntmps72
  go_wp2_with fail
  refine Calls.mono HGU.out ?_
  rintro e w1 ⟨rfl, hbx, hb1⟩
  have HBX : Hid (Boxes w1 w.heap.size (.slice (some ⟨gr, 0, none⟩) n cap) (.slice a2 ab.length cap2)) := hbx
  clear hbx HGU
  go_wp2_with (at_make; refine wpList_make_full _ rfl _ _ 59 rfl w1.heap.size 5 i0 (.int .u8 0) 1 Tryd.underlying59 hi hz0 hz1 _ _ _ _ n rfl rfl rfl rfl ?b1 ?b2 ?b3 ?_)
  case b1 => rw [hz2]; omega
  case b2 => unfold maxLen; omega
  case b3 => exact Nat.le_refl _
  intro w2 hown2 hgrow2
  rw [made_zero] at hown2
  have hb2 : Below w1.heap.size w1 w2 := (Below.refl _ _).grown hgrow2 (Nat.le_refl _) (by intro k hk; cases hk)
  clear hgrow2
  go_wp2_with fail
  go_loopw [19] (fun i wr => ∃ k : Nat, k ≤ n ∧ i = .int .i64 k ∧ Below w1.heap.size w1 wr ∧ Hid (wr.ownsRow w1.heap.size 5 1 (.slice (some ⟨w1.heap.size, 0, none⟩) n n) n ((Fb.tellTo 2 row ab k ++ List.replicate (n - k) 0).map bv))) (fun i _ => n - (intOf i).toNat)
  case atStart => exact ⟨0, by omega, rfl, hb2, hown2⟩
  case round =>
    obtain ⟨k, hk, rfl, hb, HOWN⟩ := hrel
    by_cases hlt : k < n
    · have hc := HCR.out k hlt
      obtain ⟨x, HX⟩ : ∃ x, Hid (row.getD k 0 = x) := ⟨_, (rfl : _ = _)⟩
      obtain ⟨y, HY⟩ : ∃ x, Hid (Fb.guessB 2 row ab k = x) := ⟨_, (rfl : _ = _)⟩
      obtain ⟨xx, HXX⟩ : ∃ m, Hid (x.toNat = m) := ⟨_, (rfl : _ = _)⟩
      obtain ⟨yy, HYY⟩ : ∃ m, Hid (y.toNat = m) := ⟨_, (rfl : _ = _)⟩
      obtain ⟨dd, HDD⟩ : ∃ m, Hid ((x - y).toNat = m) := ⟨_, (rfl : _ = _)⟩
      have hgr1 : gr < w1.heap.size := Nat.lt_of_lt_of_le hgr hb1.size
      have hcx : wr.cell? ⟨gr, k, none⟩ = some (.int .u8 (xx : Int)) := by
        rw [hb.cell (p := ⟨gr, k, none⟩) hgr1, hb1.cell (p := ⟨gr, k, none⟩) hgr, hc, HX.out, ← HXX.out]; rfl
      have hsub : IntKind.u8.wrap ((xx : Int) - (yy : Int)) = (dd : Int) := by rw [← HXX.out, ← HYY.out, ← HDD.out]; exact sub_byte x y
      have hfz := HOWN.out.frozenAt k
      have hcg : wr.cell? ⟨w1.heap.size, k, none⟩ = some (.int .u8 0) := by
        rw [HOWN.out.cellAt k (by omega), List.getElem?_map, List.getElem?_append_right (by rw [Fb.tellTo_len]; omega), Fb.tellTo_len, Nat.sub_self, show n - k = (n - k - 1) + 1 by omega, List.replicate_succ]; rfl
      have HCALL : Hid (Calls Tryd.prog 84 #[.int .i64 (k : Int), .pointer (some ⟨w.heap.size + 1, 0, none⟩)] wr.drew fun e W' => e = .returned (.int .u8 (yy : Int)) ∧ ∃ q, W' = wr.drew.drewN q) := by
        have h := HGC.out wr.drew row ab k (by omega) (by rw [HN.out]; omega) (HBX.out.on hb).drew ((HR.out.on hb1).on hb).drew ((HA.out.on hb1).on hb).drew
        rw [HY.out, HYY.out] at h
        exact h
      have HSET : Hid (∀ m, ((wr.drewN m).setCell ⟨w1.heap.size, k, none⟩ (.int .u8 (dd : Int))).ownsRow w1.heap.size 5 1 (.slice (some ⟨w1.heap.size, 0, none⟩) n n) n ((Fb.tellTo 2 row ab (k + 1) ++ List.replicate (n - (k + 1)) 0).map bv)) := by
        unfold Hid
        intro m
        have h := ((owns_drewN HOWN.out m).stored k (.int .u8 (dd : Int))).1
        have e : (.int .u8 (dd : Int) : Value) = bv (x - y) := by unfold bv; rw [HDD.out]
        rw [e, set_row _ _ k n hlt (Fb.tellTo_len _ _ _ _)] at h
        rw [e, Fb.tellTo, HX.out, HY.out]
        exact h
      clear hc
      go_upto_region 6 with fail
      go_region_with (go_at_call 84; refine Calls.mono HCALL.out ?_; rintro e w3 ⟨rfl, q, rfl⟩)
      all_goals go_wp2_with fail
      all_goals (go_roundw; (case rel => exact ⟨k + 1, by omega, by go_num, (below_drewN hb _).setCell (Nat.le_refl _) _, HSET.out _⟩); (case measure => simp [intOf]; omega))
    · have hkn : k = n := by omega
      subst hkn
      have HOWN2 : wr.ownsRow w1.heap.size 5 1 (.slice (some ⟨w1.heap.size, 0, none⟩) k k) (Fb.tellL 2 row ab).length ((Fb.tellL 2 row ab).map bv) := by
        have h := HOWN.out
        rw [Nat.sub_self] at h
        unfold Fb.tellL
        rw [Fb.tellTo_len, HN.out]
        simpa using h
      have hst := run_str HOWN2
      clear HOWN2
      go_wp2_with fail
      go_ret
      exact ⟨rfl, hb1.trans (hb.mono hb1.size)⟩

set_option maxHeartbeats 4000000 in
set_option maxRecDepth 100000 in
theorem tell3 (v u : Value) (row ab : List UInt8) (w : World) (hne : row ≠ []) (hlen : row.length ≤ 1000) (HR : Hid (RdB w v row)) (HA : Hid (RdB w u ab)) :
    Calls Tryd.prog 72 #[.int .i64 3, v, u] w fun e w' => e = .returned (str (Fb.tellL 3 row ab)) ∧ Below w.heap.size w w' := by
  obtain ⟨i0, hi, hz0, hz1, hz2⟩ := info_parts Tryd.infoByte
  obtain ⟨a, cap, hv, hlc, hcap, hh⟩ := HR.out
  obtain ⟨gr, rfl, hgr, hcr⟩ := hh hne
  obtain ⟨a2, cap2, hu, hl2, hc2, hh2⟩ := HA.out
  clear hl2 hh2
  obtain ⟨n, HN⟩ : ∃ n, Hid (row.length = n) := ⟨_, (rfl : _ = _)⟩
  rw [HN.out] at hv hlc hlen
  have HCR : Hid (∀ j, j < n → w.cell? ⟨gr, j, none⟩ = some (bv (row.getD j 0))) := by unfold Hid; rw [← HN.out]; exact hcr
  clear hcr hh
  have HGC : Hid (GuessC 3 85 #[.pointer (some ⟨w.heap.size + 2, 0, none⟩), .pointer (some ⟨w.heap.size + 3, 0, none⟩)] w.heap.size v u) := guess3 _ _ _
  have HGU : Hid (Calls Tryd.prog 74 #[.int .i64 3, v, u] w fun e w' => e = .returned (.func (.func 85) #[] #[.pointer (some ⟨w.heap.size + 2, 0, none⟩), .pointer (some ⟨w.heap.size + 3, 0, none⟩)]) ∧ Boxes w' w.heap.size v u ∧ Below w.heap.size w w') := guesser_any 3 (by decide) v u w n cap ab.length cap2 _ a2 hv hu
  subst hv hu
  go_enter Tryd.func72, Tryd.ntmps72
  go_wp2_with fail
  refine Calls.mono HGU.out ?_
  rintro e w1 ⟨rfl, hbx, hb1⟩
  have HBX : Hid (Boxes w1 w.heap.size (.slice (some ⟨gr, 0, none⟩) n cap) (.slice a2 ab.length cap2)) := hbx
  clear hbx HGU
  go_wp2_with (at_make; refine wpList_make_full _ rfl _ _ 59 rfl w1.heap.size 5 i0 (.int .u8 0) 1 Tryd.underlying59 hi hz0 hz1 _ _ _ _ n rfl rfl rfl rfl ?b1 ?b2 ?b3 ?_)
  case b1 => rw [hz2]; omega
  case b2 => unfold maxLen; omega
  case b3 => exact Nat.le_refl _
  intro w2 hown2 hgrow2
  rw [made_zero] at hown2
  have hb2 : Below w1.heap.size w1 w2 := (Below.refl _ _).grown hgrow2 (Nat.le_refl _) (by intro k hk; cases hk)
  clear hgrow2
  go_wp2_with fail
  go_loopw [19] (fun i wr => ∃ k : Nat, k ≤ n ∧ i = .int .i64 k ∧ Below w1.heap.size w1 wr ∧ Hid (wr.ownsRow w1.heap.size 5 1 (.slice (some ⟨w1.heap.size, 0, none⟩) n n) n ((Fb.tellTo 3 row ab k ++ List.replicate (n - k) 0).map bv))) (fun i _ => n - (intOf i).toNat)
  case atStart => exact ⟨0, by omega, rfl, hb2, hown2⟩
  case round =>
    obtain ⟨k, hk, rfl, hb, HOWN⟩ := hrel
    by_cases hlt : k < n
    · have hc := HCR.out k hlt
      obtain ⟨x, HX⟩ : ∃ x, Hid (row.getD k 0 = x) := ⟨_, (rfl : _ = _)⟩
      obtain ⟨y, HY⟩ : ∃ x, Hid (Fb.guessB 3 row ab k = x) := ⟨_, (rfl : _ = _)⟩
      obtain ⟨xx, HXX⟩ : ∃ m, Hid (x.toNat = m) := ⟨_, (rfl : _ = _)⟩
      obtain ⟨yy, HYY⟩ : ∃ m, Hid (y.toNat = m) := ⟨_, (rfl : _ = _)⟩
      obtain ⟨dd, HDD⟩ : ∃ m, Hid ((x - y).toNat = m) := ⟨_, (rfl : _ = _)⟩
      have hgr1 : gr < w1.heap.size := Nat.lt_of_lt_of_le hgr hb1.size
      have hcx : wr.cell? ⟨gr, k, none⟩ = some (.int .u8 (xx : Int)) := by
        rw [hb.cell (p := ⟨gr, k, none⟩) hgr1, hb1.cell (p := ⟨gr, k, none⟩) hgr, hc, HX.out, ← HXX.out]; rfl
      have hsub : IntKind.u8.wrap ((xx : Int) - (yy : Int)) = (dd : Int) := by rw [← HXX.out, ← HYY.out, ← HDD.out]; exact sub_byte x y
      have hfz := HOWN.out.frozenAt k
      have hcg : wr.cell? ⟨w1.heap.size, k, none⟩ = some (.int .u8 0) := by
        rw [HOWN.out.cellAt k (by omega), List.getElem?_map, List.getElem?_append_right (by rw [Fb.tellTo_len]; omega), Fb.tellTo_len, Nat.sub_self, show n - k = (n - k - 1) + 1 by omega, List.replicate_succ]; rfl
      have HCALL : Hid (Calls Tryd.prog 85 #[.int .i64 (k : Int), .pointer (some ⟨w.heap.size + 2, 0, none⟩), .pointer (some ⟨w.heap.size + 3, 0, none⟩)] wr.drew fun e W' => e = .returned (.int .u8 (yy : Int)) ∧ ∃ q, W' = wr.drew.drewN q) := by
        have h := HGC.out wr.drew row ab k (by omega) (by rw [HN.out]; omega) (HBX.out.on hb).drew ((HR.out.on hb1).on hb).drew ((HA.out.on hb1).on hb).drew
        rw [HY.out, HYY.out] at h
        exact h
      have HSET : Hid (∀ m, ((wr.drewN m).setCell ⟨w1.heap.size, k, none⟩ (.int .u8 (dd : Int))).ownsRow w1.heap.size 5 1 (.slice (some ⟨w1.heap.size, 0, none⟩) n n) n ((Fb.tellTo 3 row ab (k + 1) ++ List.replicate (n - (k + 1)) 0).map bv)) := by
        unfold Hid
        intro m
        have h := ((owns_drewN HOWN.out m).stored k (.int .u8 (dd : Int))).1
        have e : (.int .u8 (dd : Int) : Value) = bv (x - y) := by unfold bv; rw [HDD.out]
        rw [e, set_row _ _ k n hlt (Fb.tellTo_len _ _ _ _)] at h
        rw [e, Fb.tellTo, HX.out, HY.out]
        exact h
      clear hc
      go_upto_region 6 with fail
      go_region_with (go_at_call 85; refine Calls.mono HCALL.out ?_; rintro e w3 ⟨rfl, q, rfl⟩)
      all_goals go_wp2_with fail
      all_goals (go_roundw; (case rel => exact ⟨k + 1, by omega, by go_num, (below_drewN hb _).setCell (Nat.le_refl _) _, HSET.out _⟩); (case measure => simp [intOf]; omega))
    · have hkn : k = n := by omega
      subst hkn
      have HOWN2 : wr.ownsRow w1.heap.size 5 1 (.slice (some ⟨w1.heap.size, 0, none⟩) k k) (Fb.tellL 3 row ab).length ((Fb.tellL 3 row ab).map bv) := by
        have h := HOWN.out
        rw [Nat.sub_self] at h
        unfold Fb.tellL
        rw [Fb.tellTo_len, HN.out]
        simpa using h
      have hst := run_str HOWN2
      clear HOWN2
      go_wp2_with fail
      go_ret
      exact ⟨rfl, hb1.trans (hb.mono hb1.size)⟩

set_option maxRecDepth 100000 in
theorem tell_any (way : Nat) (hway : way < 4) (v u : Value) (row ab : List UInt8) (w : World) (hne : row ≠ []) (hlen : row.length ≤ 1000) (HR : Hid (RdB w v row)) (HA : Hid (RdB w u ab)) :
    Calls Tryd.prog 72 #[.int .i64 (way : Int), v, u] w fun e w' => e = .returned (str (Fb.tellL way row ab)) ∧ Below w.heap.size w w' := by
  have h4 : way = 0 ∨ way = 1 ∨ way = 2 ∨ way = 3 := by omega
  rcases h4 with rfl | rfl | rfl | rfl
  · exact tell0 v u row ab w hne hlen HR HA
  · exact tell1 v u row ab w hne hlen HR HA
  · exact tell2 v u row ab w hne hlen HR HA
  · exact tell3 v u row ab w hne hlen HR HA
end Go.Proofs.YtfhfedcamcpceaaDoor
/- Walk of picture.shortest. -/
namespace Go.Proofs.YtfhfedcamcpceaaDoor
open Go.RowKit

set_option maxRecDepth 100000 in
theorem run_one1 (W : World) (B : Nat) (a : Int) (x : UInt8) (ha : Hid ((x.toNat : Int) = a)) (hc : W.cell? ⟨B, 0, none⟩ = some (.int .u8 a)) :
    (convert 59 9 (.slice (some ⟨B, 0, none⟩) 1 1)).run Tryd.prog W = .ok (.string ⟨#[x]⟩) W := by
  refine run_convert_bytes_back _ 59 9 5 ⟨B, 0, none⟩ 1 [x] Tryd.underlying59 Tryd.underlying5 Tryd.underlying9 ?_
  intro j hj
  match j, hj with
  | 0, _ => rw [← ha.out] at hc; simpa [Addr.add] using hc

set_option maxRecDepth 100000 in
theorem tell_at (way : Nat) (hway : way < 4) (v u : Value) (row ab : List UInt8) (w : World) (hne : row ≠ []) (hlen : row.length ≤ 1000) (HR : RdB w v row) (HA : RdB w u ab) (t : ByteArray) (HT : Hid (Fb.tellL way row ab = t.data.toList)) :
    Calls Tryd.prog 72 #[.int .i64 (way : Int), v, u] w fun e w' => e = .returned (.string t) ∧ Below w.heap.size w w' := by
  have h := tell_any way hway v u row ab w hne hlen HR HA
  rw [HT.out, str_self] at h
  exact h
set_option maxRecDepth 100000 in
theorem pack_len (s : ByteArray) (w : World) (hs : s.size ≤ 1000000) (t : ByteArray) (HT : Hid (Fb.packL s.data.toList = t.data.toList)) :
    Calls Tryd.prog 53 #[.string s] w fun e w' => e = .returned (.string t) ∧ Below w.heap.size w w' := by
  have h := pack_any s w hs
  rw [HT.out, str_self] at h
  exact h

set_option maxRecDepth 100000 in
theorem bytes_of (l : List UInt8) : ∃ t : ByteArray, Hid (l = t.data.toList) := ⟨⟨l.toArray⟩, by unfold Hid; simp⟩
set_option maxRecDepth 100000 in
theorem size_of {l : List UInt8} {t : ByteArray} (h : Hid (l = t.data.toList)) : t.size = l.length := by rw [h.out]; simp

set_option maxRecDepth 100000 in
theorem cons_data (x : UInt8) (t : ByteArray) : ((⟨#[x]⟩ : ByteArray) ++ t).data.toList = x :: t.data.toList := by
  rw [ByteArray.data_append]; simp

set_option maxRecDepth 100000 in
theorem best_step (row ab : List UInt8) (k : Nat) : Fb.bestTo row ab (k + 1) = if (Fb.packL (Fb.tellL k row ab)).length < (Fb.packL (Fb.tellL (Fb.bestTo row ab k) row ab)).length ∧ k ≠ 0 then k else Fb.bestTo row ab k := rfl

set_option maxHeartbeats 2000000 in
set_option maxRecDepth 100000 in
theorem shortest_any (v u : Value) (row ab : List UInt8) (w : World) (hne : row ≠ []) (hlen : row.length ≤ 1000) (HR : Hid (RdB w v row)) (HA : Hid (RdB w u ab)) :
    Calls Tryd.prog 52 #[v, u] w fun e w' => e = .returned (str (Fb.shortL row ab)) ∧ Below w.heap.size w w' := by
  have HVS : Hid (∃ a c, v = .slice a row.length c) := by obtain ⟨a, c, h, _⟩ := HR.out; exact ⟨a, c, h⟩
  have HUS : Hid (∃ a c, u = .slice a ab.length c) := by obtain ⟨a, c, h, _⟩ := HA.out; exact ⟨a, c, h⟩
  go_enter Tryd.func52, Tryd.ntmps52
  go_wp2_with fail
  go_loopw [5, 6, 10] (fun x y i wr => ∃ (k f : Nat) (best : ByteArray), k ≤ 4 ∧ i = .int .i64 k ∧ x = .string best ∧ y = .int .i64 f ∧ f ≤ 100000 ∧ best.size ≤ 2000 ∧ Below w.heap.size w wr ∧ Hid (k = 0 → best = ⟨#[]⟩) ∧ Hid (0 < k → best.data.toList = UInt8.ofNat (Fb.bestTo row ab k) :: Fb.tellL (Fb.bestTo row ab k) row ab ∧ f = (Fb.packL (Fb.tellL (Fb.bestTo row ab k) row ab)).length)) (fun _ _ i _ => 4 - (intOf i).toNat)
  case atStart => exact ⟨0, 0, ⟨#[]⟩, by omega, rfl, rfl, rfl, by omega, by decide, Below.refl _ _, (fun _ => rfl), (fun h => by omega)⟩
  case round =>
    obtain ⟨k, f, best, hk, rfl, rfl, rfl, hf, hbs, hb, HK0, HK1⟩ := hrel
    by_cases hlt : k < 4
    · obtain ⟨t, HT⟩ := bytes_of (Fb.tellL k row ab)
      have hts : t.size ≤ 1000 := by rw [size_of HT]; unfold Fb.tellL; rw [Fb.tellTo_len]; omega
      obtain ⟨p, HP⟩ := bytes_of (Fb.packL t.data.toList)
      have hps : p.size ≤ 2000 := by rw [size_of HP]; have := Fb.packL_len t.data.toList; have h2 : t.data.toList.length = t.size := by simp
                                     omega
      have HPL : Hid ((Fb.packL (Fb.tellL k row ab)).length = p.size) := by unfold Hid; rw [size_of HP, HT.out]
      obtain ⟨nb, HNB⟩ : ∃ nb, Hid (UInt8.ofNat k = nb) := ⟨_, (rfl : _ = _)⟩
      have HNI : Hid ((nb.toNat : Int) = (k : Int)) := by unfold Hid; rw [← HNB.out, Fb.ofNat_toNat _ (by omega)]
      go_wp2_with fail
      refine (tell_at k hlt v u row ab _ hne hlen (HR.out.on hb) (HA.out.on hb) t HT).mono ?_
      rintro e w1 ⟨rfl, hb1⟩
      go_wp2_with fail
      refine (pack_len t _ (by omega) p HP).mono ?_
      rintro e w2 ⟨rfl, hb2⟩
      have hbb : Below w.heap.size w w2 := (hb.trans (hb1.mono hb.size)).trans (hb2.mono (Nat.le_trans hb.size hb1.size))
      have hcv := run_one1 (w2.alloc (.cells #[.int .u8 (k : Int)] 5)) w2.heap.size (k : Int) nb HNI (by simp)
      have HSZ : Hid (((⟨#[nb]⟩ : ByteArray) ++ t).size ≤ 2000) := by unfold Hid; rw [ByteArray.size_append]; show 1 + t.size ≤ 2000; omega
      have HDT : Hid (((⟨#[nb]⟩ : ByteArray) ++ t).data.toList = UInt8.ofNat k :: Fb.tellL k row ab) := by unfold Hid; rw [cons_data, HNB.out, HT.out]
      by_cases hk0 : k = 0
      · have hbe : best = ⟨#[]⟩ := HK0.out hk0
        subst hbe
        subst hk0
        have HB0 : Hid (Fb.bestTo row ab 1 = 0) := by unfold Hid; rw [best_step]; simp [Fb.bestTo]
        have hcv0 := run_one1 (w2.alloc (.cells #[.int .u8 0] 5)) w2.heap.size 0 nb HNI (by simp)
        clear hcv
        go_wp2_with fail
        go_roundw
        case rel => exact ⟨1, p.size, ⟨#[nb]⟩ ++ t, by omega, rfl, rfl, rfl, by omega, HSZ.out, hbb.alloc hbb.size _, (by unfold Hid; intro h; omega), (fun _ => by rw [HB0.out]; exact ⟨HDT.out, HPL.out.symm⟩)⟩
        case measure => simp [intOf]
      · have h1 := HK1.out (by omega)
        have hbn : ¬ best.toList = [] := by rw [Lib.toList_data, h1.1]; simp
        have hbn2 : best.toList.isEmpty = false := by simp [hbn]
        have hbn3 : (best.toList == []) = false := by simp [hbn]
        have hbn4 : decide (best.toList = []) = false := by simp [hbn]
        have hfe := h1.2
        by_cases hless : p.size < f
        · have HB : Hid (Fb.bestTo row ab (k + 1) = k) := by unfold Hid; rw [best_step, if_pos]; exact ⟨by rw [HPL.out, ← hfe]; exact hless, hk0⟩
          clear h1 hfe
          go_wp2_with fail
          go_roundw
          case rel => exact ⟨k + 1, p.size, ⟨#[nb]⟩ ++ t, by omega, by go_num, rfl, rfl, by omega, HSZ.out, hbb.alloc hbb.size _, (by unfold Hid; intro h; omega), (fun _ => by rw [HB.out]; exact ⟨HDT.out, HPL.out.symm⟩)⟩
          case measure => simp [intOf]; omega
        · have HB : Hid (Fb.bestTo row ab (k + 1) = Fb.bestTo row ab k) := by unfold Hid; rw [best_step, if_neg]; rw [HPL.out, ← hfe]; intro h; exact hless h.1
          clear h1 hfe
          go_wp2_with fail
          go_roundw
          case rel => exact ⟨k + 1, f, best, by omega, by go_num, rfl, rfl, hf, hbs, hbb, (by unfold Hid; intro h; omega), (fun _ => by rw [HB.out]; exact HK1.out (by omega))⟩
          case measure => simp [intOf]; omega
    · have hk4 : k = 4 := by omega
      subst hk4
      have h1 := HK1.out (by omega)
      have HE : Hid (str (Fb.shortL row ab) = .string best) := by unfold Hid Fb.shortL Fb.bestW; rw [← h1.1, str_self]
      clear h1
      go_wp2_with fail
      go_ret
      exact ⟨by rw [HE.out]; rfl, hb⟩
end Go.Proofs.YtfhfedcamcpceaaDoor
