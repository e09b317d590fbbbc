/- Walks: slices.Delete of one object, objects.drop. -/
import Derived.Test.YtkmolifgfbaboaaDoorOlH
namespace Go.Proofs.YtkmolifgfbaboaaDoor
open Go.RowKit

theorem ready_app {P : Program} {o : Oper} {a : Act} {w w' : World} {K' : Act → World → Prop} {Q : Exit → Act → World → Prop} {ys : Nat → Option Bool} (hg : o.guard = none) (s x : Operand) (t : TypeId)
    (ho : o.op = .call { callee := .builtin .append, args := #[s, x], argTypes := #[t, t] }) (v1 v2 v' : Value) (hs : a.eval s = v1) (hx : a.eval x = v2) (hr : (Builtin.append_ #[t, t] o.type #[v1, v2]).run P w = .ok v' w')
    (hK : K' (a.put o.dst v') w') : if Region.wanted o ys = true then Oper.wp P o a w K' Q else K' (a.put o.dst undef) w := by
  simp only [Region.wanted, hg, if_true]
  unfold Oper.wp execOp
  simp only [ho, resolve, invoke, builtin, Sem.run_bind, Sem.run_pure, Result.andThen_ok, List.map_toArray, List.map_cons, List.map_nil, hs, hx, hr]
  exact hK

/-- clear of one element, in a row that is known -/
theorem run_clear_one {P : Program} (w : World) (t e ty : TypeId) (i : TypeInfo) (z : Value) (Z : List Value) (ht : P.underlying t = some (.slice e)) (hi : P.info? e = some i) (hz0 : i.zero = some z) (hzc : (Builtin.zeroCells z.cells 1).toList = Z) (h1 : ∀ v ∈ Z, v.oneCell' = true) (g o c : Nat) (cur : Array Value) (T : TypeId)
    (hg : w.heap[g]? = some (.cells cur T (0, 0))) (hfit : o + Z.length ≤ cur.size) :
    (Builtin.clear_ #[t] ty #[.slice (some ⟨g, o, none⟩) 1 c]).run P w = .ok (.tuple #[]) (w.setRow g (cur.toList.take o ++ Z ++ cur.toList.drop (o + Z.length)).toArray) := by
  have hst := run_storeCells_at P g o T Z 0 cur w hg (by simpa using hfit) h1
  simp only [Nat.add_zero] at hst
  have hv : ∀ w, (zeroValue e).run P w = .ok z w := fun w => by simp [zeroValue, typeInfo, hi, hz0]
  simp [Builtin.clear_, run_underlying ht, hv, hzc, hst]
theorem wpList_clear {P : Program} {w : World} {ops : Array Oper} {rest : List Oper} {o : Oper} {a : Act} {Q : Exit → Act → World → Prop} (hgd : o.guard = none) (x : Operand) (t : TypeId)
    (ho : o.op = .call { callee := .builtin .clear, args := #[x], argTypes := #[t] }) (v : Value) (hx : a.eval x = v) {v' : Value} {w' : World}
    (hr : (Builtin.clear_ #[t] o.type #[v]).run P w = .ok v' w') (h : wpList P ops Q rest (a.put o.dst v') w') : wpList P ops Q (o :: rest) a w := by
  refine wpList_plain hgd fun K hK => ?_
  unfold Oper.wp execOp
  simp only [ho, resolve, invoke, builtin, Sem.run_bind, Sem.run_pure, Result.andThen_ok, List.map_toArray, List.map_cons, List.map_nil, hx, hr]
  exact hK _ _ h

/-- the first elements of a row -/
theorem own_prefix {w : World} {B g n cap i : Nat} {qs : List (Po × Value)} (h : OwnOb w B (.slice (some ⟨g, 0, none⟩) n cap) qs) (hq : qs.length = n) (hi : i ≤ n) : w.ownsRow B 41 11 (.slice (some ⟨g, 0, none⟩) i cap) i (obCells (qs.take i)) := by
  refine ⟨by rw [obCells_length, List.length_take, hq, Nat.min_eq_left hi], .inr ?_⟩
  rcases h.1.2 with ⟨h0, _⟩ | ⟨g', cap', cur, hv, hB, hg, hnc, hm, hcs, htk⟩
  · simp at h0
  · simp only [Value.slice.injEq, Option.some.injEq, Addr.mk.injEq, and_true] at hv
    obtain ⟨rfl, h1, rfl⟩ := hv
    refine ⟨g, cap, cur, rfl, hB, hg, by omega, hm, hcs, ?_⟩
    have h2 : obCells qs = obCells (qs.take i) ++ obCells (qs.drop i) := by rw [← obCells_app, List.take_append_drop]
    have h3 : (obCells (qs.take i)).length = i * 11 := by rw [obCells_length, List.length_take, hq, Nat.min_eq_left hi]
    have h4 := congrArg (List.take (i * 11)) htk
    rw [List.take_take, h2, ← h3, List.take_left, h3, Nat.min_eq_left (by rw [hq]; omega)] at h4
    exact h4

set_option maxHeartbeats 4000000 in
set_option maxRecDepth 100000 in
theorem delete_any (g n i : Nat) (B : Nat) (qs : List (Po × Value)) (w : World) (hn : n ≤ 1000) (hi : i < n) (hB : B ≤ w.heap.size) (HO : Hid (OwnOb w B (.slice (some ⟨g, 0, none⟩) n (n + 1)) qs)) (HQ : Hid (qs.length = n)) :
    Calls Tryd.prog 35 #[.slice (some ⟨g, 0, none⟩) n (n + 1), .int .i64 (i : Int), .int .i64 ((i : Int) + 1)] w fun e w' =>
      e = .returned (.slice (some ⟨g, 0, none⟩) (n - 1) (n + 1)) ∧ OwnOb w' B (.slice (some ⟨g, 0, none⟩) (n - 1) (n + 1)) (qs.take i ++ qs.drop (i + 1)) ∧ w.grownBy w' (some g) := by
  obtain ⟨i0, hi0, hz0, hz1, hz2⟩ := info_parts Tryd.infoOb
  have hpre := own_prefix (w := w.drew) (i := i) (show OwnOb w.drew B _ qs from ⟨HO.out.1, HO.out.2⟩) HQ.out (by omega)
  have hsrc : ∀ j u, (obCells (qs.drop (i + 1)))[j]? = some u → w.drew.cell? ((⟨g, (i + 1) * 11, none⟩ : Addr).add j) = some u := by
    intro j v hj
    have hjl : j < (n - (i + 1)) * 11 := by have := (List.getElem?_eq_some_iff.1 hj).1; rw [obCells_length, List.length_drop, HQ.out] at this; exact this
    have e : (⟨g, (i + 1) * 11, none⟩ : Addr).add j = ⟨g, (i + 1) * 11 + j, none⟩ := by unfold Addr.add; split <;> simp_all
    rw [e]
    have hrow := HO.out.1
    rw [HQ.out] at hrow
    show w.cell? _ = _
    rw [hrow.cellAt ((i + 1) * 11 + j) (by omega)]
    have h2 : obCells qs = obCells (qs.take (i + 1)) ++ obCells (qs.drop (i + 1)) := by rw [← obCells_app, List.take_append_drop]
    have h3 : (obCells (qs.take (i + 1))).length = (i + 1) * 11 := by rw [obCells_length, List.length_take, HQ.out, Nat.min_eq_left (by omega)]
    rw [h2, List.getElem?_append_right (by omega), h3, Nat.add_sub_cancel_left]
    exact hj
  obtain ⟨w3, hr, h1, h2⟩ := run_append_cap (P := Tryd.prog) w.drew B 22 22 41 i0 (.agg #[.int .i64 0, .int .i64 0, .int .i64 0, .int .i64 0, .int .i64 0, .slice none 0 0, .int .i64 0, .int .i64 0, .int .i64 0, .int .i64 0, .bool false]) 11 104 Tryd.underlying22 hi0 hz0 hz1 hz2 rfl (by decide) g i (n + 1) _ hpre ⟨g, (i + 1) * 11, none⟩ (n - (i + 1)) (n + 1 - (i + 1)) (obCells (qs.drop (i + 1))) (by rw [obCells_length, List.length_drop, HQ.out]) hsrc (ob_one (HO.out.drop1 (i + 1))) (by unfold maxLen; omega) (by omega) hB (by omega)
  have hin : i + (n - (i + 1)) = n - 1 := by omega
  rw [hin] at hr h1
  rw [← obCells_app] at h1
  have HH1 : Hid (w3.ownsRow B 41 11 (.slice (some ⟨g, 0, none⟩) (n - 1) (n + 1)) (n - 1) (obCells (qs.take i ++ qs.drop (i + 1)))) := h1
  have HGR1 : Hid (w.grownBy w3 (some g)) := grownBy_trans (a := w) (b := w.drew) ⟨rfl, rfl, rfl, Nat.le_refl _, fun _ _ _ => rfl⟩ h2
  obtain ⟨cur, HG3, hcsz, htk⟩ : ∃ cur : Array Value, w3.heap[g]? = some (.cells cur 41 (0, 0)) ∧ cur.size = (n + 1) * 11 ∧ cur.toList.take ((n - 1) * 11) = obCells (qs.take i ++ qs.drop (i + 1)) := by
    rcases h1.2 with ⟨h0, _⟩ | ⟨g', cap', cur, hv, _, hg, _, _, hcs, htk⟩
    · simp at h0
    · simp only [Value.slice.injEq, Option.some.injEq, Addr.mk.injEq, and_true, true_and] at hv
      obtain ⟨rfl, rfl⟩ := hv
      exact ⟨cur, hg, hcs, htk⟩
  have hcl := fun ty c => run_clear_one (P := Tryd.prog) w3 22 41 ty i0 (.agg #[.int .i64 0, .int .i64 0, .int .i64 0, .int .i64 0, .int .i64 0, .slice none 0 0, .int .i64 0, .int .i64 0, .int .i64 0, .int .i64 0, .bool false]) [.int .i64 0, .int .i64 0, .int .i64 0, .int .i64 0, .int .i64 0, .slice none 0 0, .int .i64 0, .int .i64 0, .int .i64 0, .int .i64 0, .bool false] Tryd.underlying22 hi0 hz0 (by kernel_rfl) (pix_one po0 (.slice none 0 0) rfl) g ((n - 1) * 11) c cur 41 HG3 (by rw [hcsz]; simp; omega)
  have HFIN : Hid (∀ w4, w4 = w3.setRow g (cur.toList.take ((n - 1) * 11) ++ ([.int .i64 0, .int .i64 0, .int .i64 0, .int .i64 0, .int .i64 0, .slice none 0 0, .int .i64 0, .int .i64 0, .int .i64 0, .int .i64 0, .bool false] : List Value) ++ cur.toList.drop ((n - 1) * 11 + ([.int .i64 0, .int .i64 0, .int .i64 0, .int .i64 0, .int .i64 0, .slice none 0 0, .int .i64 0, .int .i64 0, .int .i64 0, .int .i64 0, .bool false] : List Value).length)).toArray → OwnOb w4 B (.slice (some ⟨g, 0, none⟩) (n - 1) (n + 1)) (qs.take i ++ qs.drop (i + 1)) ∧ w.grownBy w4 (some g)) := by
    intro w4 h4
    have hgr : w.grownBy w4 (some g) := by rw [h4]; exact grownBy_trans HGR1.out (grown_setRow _ _ _)
    have hlen : (qs.take i ++ qs.drop (i + 1)).length = n - 1 := by have := HQ.out; simp; omega
    refine ⟨⟨?_, fun q hq => ?_⟩, hgr⟩
    · rw [hlen]
      refine ⟨by rw [obCells_length, hlen], .inr ⟨g, n + 1, _, rfl, (HH1.out.lt g rfl).1, by rw [h4]; exact setRow_heap w3 g cur _ _ _ HG3, by omega, by unfold maxLen; omega, ?_, ?_⟩⟩
      · simp [hcsz]
        omega
      · rw [htk]
        have : (obCells (qs.take i ++ qs.drop (i + 1))).length = (n - 1) * 11 := by rw [obCells_length, hlen]
        simp only [List.append_assoc]
        rw [← this, List.take_left]
    · have hm : q ∈ qs := by
        rcases List.mem_append.1 hq with hq | hq
        · exact List.mem_of_mem_take hq
        · exact List.mem_of_mem_drop hq
      exact (HO.out.2 q hm).kept hgr (apartO (HO.out.2 q hm) HO.out.1 (by decide))
  clear h1 h2 hpre hsrc htk hcsz HG3 HH1 HGR1
  have a1 : (0 : Int) ≤ (i : Int) := by omega
  have a2 : (i : Int) + 1 ≤ (n : Int) := by omega
  have a3 : (n : Int) ≤ (n : Int) + 1 := by omega
  have a4 : (i : Int) ≤ (n : Int) + 1 := by omega
  have a5 : ((i : Int) + 1).toNat = i + 1 := by omega
  have a6 : ¬ (n + 1 = i + 1) := by omega
  have a7 : (0 : Int) ≤ (i : Int) + 1 := by omega
  have a8 : (i : Int) ≤ (i : Int) + 1 := by omega
  have a9 : ((n - 1 : Nat) : Int) ≤ (n : Int) := by omega
  have a10 : ¬ (n + 1 = n - 1) := by omega
  have a11 : n - (n - 1) = 1 := by omega
  have a12 : ((i : Int) == (i : Int) + 1) = false := by simp; omega
  go_enter Tryd.func35, Tryd.ntmps35
  go_wp2_with fail
  refine wp_region_held_drew (S := (fun _ => True)) (by kernel_rfl) ?_ (fun hHeld => ?_)
  · trivial
  refine wpAnyH_take (i := 0) (oi := ({ dst := some 20, op := Op.move (Operand.tmp 0), type := 22, pos := "slices.go:232", after := #[], guard := none } : Oper)) (v := ?_) rfl (by kernel_rfl) (by kernel_rfl) (by kernel_rfl) (fun _ _ _ h => h) (Or.inl ⟨by rfl, ?_⟩) (by assumption) ?_
  rotate_left
  · (intro w hSw; (try dsimp only at hSw); go_simp; try with_reducible rfl)
  try simp only [Act.put, List.setIfInBounds_toArray, List.set_cons_zero, List.set_cons_succ]
  refine wpAnyH_take (i := 1) (oi := ({ dst := some 21, op := Op.move (Operand.tmp 1), type := 3, pos := "slices.go:232", after := #[], guard := none } : Oper)) (v := ?_) rfl (by kernel_rfl) (by kernel_rfl) (by kernel_rfl) (fun _ _ _ h => h) (Or.inl ⟨by rfl, ?_⟩) (by assumption) ?_
  rotate_left
  · (intro w hSw; (try dsimp only at hSw); go_simp; try with_reducible rfl)
  try simp only [Act.put, List.setIfInBounds_toArray, List.set_cons_zero, List.set_cons_succ]
  refine wpAnyH_take (i := 2) (oi := ({ dst := some 22, op := Op.slice 22 (Operand.tmp 20) none (some (Operand.tmp 21)) none, type := 22, pos := "slices.go:232", after := #[{ on := 0, ground := Ground.data }, { on := 1, ground := Ground.data }], guard := none } : Oper)) (v := ?_) rfl (by kernel_rfl) (by kernel_rfl) (by kernel_rfl) (fun _ _ _ h => h) (Or.inl ⟨by rfl, ?_⟩) (by assumption) ?_
  rotate_left
  · (intro w hSw; (try dsimp only at hSw); go_simp; try with_reducible rfl)
  try simp only [Act.put, List.setIfInBounds_toArray, List.set_cons_zero, List.set_cons_succ]
  refine wpAnyH_take (i := 3) (oi := ({ dst := some 23, op := Op.move (Operand.tmp 0), type := 22, pos := "slices.go:232", after := #[], guard := none } : Oper)) (v := ?_) rfl (by kernel_rfl) (by kernel_rfl) (by kernel_rfl) (fun _ _ _ h => h) (Or.inl ⟨by rfl, ?_⟩) (by assumption) ?_
  rotate_left
  · (intro w hSw; (try dsimp only at hSw); go_simp; try with_reducible rfl)
  try simp only [Act.put, List.setIfInBounds_toArray, List.set_cons_zero, List.set_cons_succ]
  refine wpAnyH_take (i := 4) (oi := ({ dst := some 24, op := Op.move (Operand.tmp 2), type := 3, pos := "slices.go:232", after := #[], guard := none } : Oper)) (v := ?_) rfl (by kernel_rfl) (by kernel_rfl) (by kernel_rfl) (fun _ _ _ h => h) (Or.inl ⟨by rfl, ?_⟩) (by assumption) ?_
  rotate_left
  · (intro w hSw; (try dsimp only at hSw); go_simp; try with_reducible rfl)
  try simp only [Act.put, List.setIfInBounds_toArray, List.set_cons_zero, List.set_cons_succ]
  refine wpAnyH_take (i := 5) (oi := ({ dst := some 25, op := Op.slice 22 (Operand.tmp 23) (some (Operand.tmp 24)) none none, type := 22, pos := "slices.go:232", after := #[{ on := 3, ground := Ground.data }, { on := 4, ground := Ground.data }], guard := none } : Oper)) (v := ?_) rfl (by kernel_rfl) (by kernel_rfl) (by kernel_rfl) (fun _ _ _ h => h) (Or.inl ⟨by rfl, ?_⟩) (by assumption) ?_
  rotate_left
  · (intro w hSw; (try dsimp only at hSw); go_simp; try with_reducible rfl)
  try simp only [Act.put, List.setIfInBounds_toArray, List.set_cons_zero, List.set_cons_succ]
  refine wpAnyH_ready (rs := [6]) (by kernel_rfl) (by simp) ?_
  refine AllReadyH.cons (o := ({ dst := some 26, op := Op.call { callee := Callee.builtin Builtin.append, args := #[Operand.tmp 22, Operand.tmp 25], argTypes := #[22, 22] }, type := 22, pos := "slices.go:232", after := #[{ on := 2, ground := Ground.data }, { on := 5, ground := Ground.data }], guard := none } : Oper)) rfl (fun K_ hK => ?_) AllReadyH.nil
  refine ready_app rfl (.tmp 22) (.tmp 25) 22 rfl _ _ _ ?d1 ?d2 hr ?_
  case d1 => (simp only [Act.eval, Array.getD_eq_getD_getElem?]; simp)
  case d2 => (simp only [Act.eval, Array.getD_eq_getD_getElem?]; simp; try omega)
  refine hK.out _ _ trivial (fun hHeld => ?_)
  clear hK K_
  try simp only [Act.put, List.setIfInBounds_toArray, List.set_cons_zero, List.set_cons_succ]
  refine wpAnyH_take (i := 7) (oi := ({ dst := some 0, op := Op.assign (Operand.tmp 26), type := 22, pos := "slices.go:232", after := #[{ on := 6, ground := Ground.data }, { on := 6, ground := Ground.chain }, { on := 0, ground := Ground.phase }, { on := 1, ground := Ground.phase }, { on := 2, ground := Ground.phase }, { on := 3, ground := Ground.phase }, { on := 4, ground := Ground.phase }, { on := 5, ground := Ground.phase }, { on := 6, ground := Ground.phase }], guard := none } : Oper)) (v := ?_) rfl (by kernel_rfl) (by kernel_rfl) (by kernel_rfl) (fun _ _ _ h => h) (Or.inl ⟨by rfl, ?_⟩) (by assumption) ?_
  rotate_left
  · (intro w hSw; (try dsimp only at hSw); go_simp; try with_reducible rfl)
  try simp only [Act.put, List.setIfInBounds_toArray, List.set_cons_zero]
  refine wpAnyH_done (by kernel_rfl) ?_ _
  go_wp2_with (refine wpList_clear rfl _ 22 rfl _ rfl (hcl _ _) ?_)
  go_ret
  exact ⟨rfl, HFIN.out _ (by simp)⟩

/-- without the object of a number -/
def dropO (os : List Po) (t : Int) : List Po := os.filter (fun o => decide (o.id ≠ t))
theorem dropO_at : ∀ (os : List Po) (t : Int) (i : Nat), SortO os → i < os.length → (os.getD i po0).id = t → os.take i ++ os.drop (i + 1) = dropO os t := by
  intro os t
  unfold dropO
  induction os with
  | nil => intro i _ h; simp at h
  | cons a r ih =>
    intro i hs hl h
    have hs2 : SortO r := fun i j hij hj => by
      have := hs (i + 1) (j + 1) (by omega) (by simpa using hj)
      rw [getD_succ, getD_succ] at this
      exact this
    cases i with
    | zero =>
      rw [getD_zero] at h
      rw [List.filter_cons_of_neg (by simp [h])]
      simp only [List.take_zero, List.nil_append, Nat.zero_add, List.drop_succ_cons, List.drop_zero]
      refine (List.filter_eq_self.2 fun o ho => ?_).symm
      obtain ⟨j, hj, e⟩ := List.mem_iff_getElem.1 ho
      have h2 := hs 0 (j + 1) (by omega) (by simpa using hj)
      rw [getD_zero, getD_succ, List.getD_eq_getElem?_getD, List.getElem?_eq_getElem hj] at h2
      simp only [Option.getD_some] at h2
      rw [e] at h2
      simp
      omega
    | succ i =>
      rw [getD_succ] at h
      have hi : i < r.length := by simpa using hl
      have h2 := hs 0 (i + 1) (by omega) hl
      rw [getD_zero, getD_succ] at h2
      rw [List.filter_cons_of_pos (by simp; omega)]
      have := ih i hs2 hi h
      simp only [List.take_succ_cons, List.drop_succ_cons, List.cons_append]
      rw [this]

set_option maxHeartbeats 4000000 in
set_option maxRecDepth 100000 in
theorem drop_any (v : Value) (os : List Po) (t : Int) (w : World) (hos : os.length ≤ 100) (hps : ∀ j, j < os.length → (os.getD j po0).ps.length ≤ 100) (HS : Hid (SortO os)) (HR : Hid (RdO w v os)) (HF : Hid (∃ j, j < os.length ∧ (os.getD j po0).id = t)) :
    Calls Tryd.prog 17 #[v, .int .i64 t] w fun e w' => ∃ v' qs, e = .returned v' ∧ OwnOb w' w.heap.size v' qs ∧ qs.map Prod.fst = dropO os t ∧ Below w.heap.size w w' := by
  obtain ⟨a, cap, hv, hl, hcap⟩ := HR.out.shape
  have HPS : Hid (∀ j, j < os.length → (os.getD j po0).ps.length ≤ 100) := hps
  obtain ⟨n, HN⟩ : ∃ n, Hid (os.length = n) := ⟨_, (rfl : _ = _)⟩
  have hos3 := hos
  rw [HN.out] at hv hl hos3
  clear hps
  subst hv
  go_enter Tryd.func17, Tryd.ntmps17
  go_wp2_with fail
  refine (search_any _ os t _ (by omega) HS HR).mono ?_
  rintro e w1 ⟨i, b, rfl, HSR, HB, hb1⟩
  have hbt : i < os.length ∧ (os.getD i po0).id = t := by
    obtain ⟨j, hj, hjt⟩ := HF.out
    rcases Nat.lt_trichotomy j i with h | h | h
    · have := HSR.lo j h
      omega
    · subst h
      exact ⟨hj, hjt⟩
    · have h1 := HSR.hi i (Nat.le_refl _) (by omega)
      have h2 := HS.out i j h hj
      omega
  have HDR := hid_of2 (dropO_at os t i HS.out hbt.1 hbt.2)
  have hin : i < n := by rw [← HN.out]; exact hbt.1
  have HR1 : Hid (RdO w1 (.slice a n cap) os) := HR.out.on hb1
  clear HSR HB hbt HF
  go_wp2_with fail
  refine (ownO_any _ os _ hos HPS.out HR1).mono ?_
  rintro e w2 ⟨g, qs, rfl, HO2, HQ2, hb2⟩
  rw [HN.out] at HO2 ⊢
  have HO2' := hide_ob HO2
  have HLQ : Hid (qs.length = n) := by
    have := congrArg List.length HQ2
    unfold Hid
    rw [List.length_map, HN.out] at this
    exact this
  have HQ2' := hid_of2 HQ2
  have hgw : w1.heap.size ≤ g := (HO2.1.lt g rfl).1
  have hw12 : w1.heap.size ≤ w2.heap.size := hb2.size
  have hbb2 := hb1.trans (hb2.mono hb1.size)
  have hww1 := hb1.size
  clear HO2 HQ2 hb2 HR1 hb1
  go_wp2_with fail
  refine (delete_any g n i w1.heap.size qs _ (by omega) hin hw12 HO2' HLQ).mono ?_
  rintro e w3 ⟨rfl, hO3, hgr3⟩
  have HO3 := hide_ob (hO3.mono hww1)
  have hbb3 : Below w.heap.size w w3 := hbb2.grown hgr3 hbb2.size (fun z hz => by simp at hz; omega)
  have HQM : Hid ((qs.take i ++ qs.drop (i + 1)).map Prod.fst = dropO os t) := by
    unfold Hid
    rw [List.map_append, List.map_take, List.map_drop, HQ2'.out]
    exact HDR.out
  clear hO3 hgr3
  go_wp2_with fail
  go_ret
  exact ⟨_, _, rfl, HO3.out, HQM.out, hbb3⟩
end Go.Proofs.YtkmolifgfbaboaaDoor
