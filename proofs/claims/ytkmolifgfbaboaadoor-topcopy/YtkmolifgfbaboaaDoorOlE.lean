/- slices.Insert of one object, where there is room for it. -/
import Derived.Test.YtkmolifgfbaboaaDoorOlD
import Derived.Lib.Overlaps
import Derived.Laws.CopyRow
import Derived.Laws.CopyOwn
import Derived.Laws.Externs
namespace Go.Proofs.YtkmolifgfbaboaaDoor
open Go.RowKit

theorem run_copy_k {P : Program} (k : Nat) (w : World) (dT sT ty elem : TypeId) (g o dLen dCap : Nat) (a : Addr) (sLen sCap : Nat) (cur : Array Value) (t : TypeId) (cs : List Value)
    (hu : P.underlying dT = some (.slice elem)) (hs : (P.info? elem).map (·.size) = some k)
    (hg : w.heap[g]? = some (.cells cur t (0, 0))) (hn : cs.length = Nat.min sLen dLen * k)
    (hsrc : ∀ j v, cs[j]? = some v → w.cell? (a.add j) = some v) (hfit : o + cs.length ≤ cur.size) (h1 : ∀ v ∈ cs, v.oneCell' = true) :
    (Builtin.copy_ #[dT, sT] ty #[.slice (some ⟨g, o, none⟩) dLen dCap, .slice (some a) sLen sCap]).run P w =
      .ok (goInt (Nat.min sLen dLen)) (w.setRow g (cur.toList.take o ++ cs ++ cur.toList.drop (o + cs.length)).toArray) := by
  have hl := run_loadCells_list (P := P) w a cs hsrc
  have hst := run_storeCells_at P g o t cs 0 cur w hg (by simpa using hfit) h1
  rw [hn] at hl
  cases hq : P.info? elem with
  | none => simp [hq] at hs
  | some i =>
    have hi : i.size = k := by simpa [hq] using hs
    simp [Builtin.copy_, run_underlying hu, Builtin.lenOf, Builtin.firstCells, sizeOf, typeInfo, hq, hi, hl, hst]

theorem grown_setRow (w : World) (g : Nat) (cs : Array Value) : w.grownBy (w.setRow g cs) (some g) :=
  ⟨rfl, rfl, rfl, by simp [World.setRow], fun k _ hk => setRow_other w g k cs (fun e => hk (by rw [e]))⟩

/-- copy, what is then in the block named by the prover -/
theorem wpList_copy_k {P : Program} (k : Nat) {w : World} {ops : Array Oper} {rest : List Oper} {o : Oper} {a : Act} {Q : Exit → Act → World → Prop} (hgd : o.guard = none) (d s : Operand) (dT sT : TypeId)
    (ho : o.op = .call { callee := .builtin .copy, args := #[d, s], argTypes := #[dT, sT] }) (elem : TypeId) (hu : P.underlying dT = some (.slice elem)) (hsz : (P.info? elem).map (·.size) = some k)
    (g off dLen dCap : Nat) (ad : Addr) (sLen sCap : Nat) (hd : a.eval d = .slice (some ⟨g, off, none⟩) dLen dCap) (hs : a.eval s = .slice (some ad) sLen sCap)
    (cur : List Value) (t : TypeId) (hg : w.heap[g]? = some (.cells cur.toArray t (0, 0))) (cs : List Value) (m : Nat) (hm : Nat.min sLen dLen = m) (hn : cs.length = m * k)
    (hsrc : ∀ j v, cs[j]? = some v → w.cell? (ad.add j) = some v) (hfit : off + cs.length ≤ cur.length) (h1 : ∀ v ∈ cs, v.oneCell' = true) (new : List Value) (hnew : cur.take off ++ cs ++ cur.drop (off + cs.length) = new)
    (h : ∀ w', Hid (w'.heap[g]? = some (.cells new.toArray t (0, 0))) → Hid (w.grownBy w' (some g)) → wpList P ops Q rest (a.put o.dst (goInt m)) w') : wpList P ops Q (o :: rest) a w := by
  subst hm
  refine wpList_plain hgd fun K hK => ?_
  have hrun := run_copy_k (P := P) k w dT sT o.type elem g off dLen dCap ad sLen sCap cur.toArray t cs hu hsz hg hn hsrc (by simpa using hfit) h1
  unfold Oper.wp
  simp only [execOp, ho, resolve, invoke, builtin, Sem.run_bind, Sem.run_pure, Result.andThen_ok, List.map_toArray, List.map_cons, List.map_nil, hd, hs, hrun]
  exact hK _ _ (h _ (show _ = _ by rw [← hnew]; simpa using setRow_heap w g _ _ t _ hg) (grown_setRow w g _))
theorem step_copy_k {P : Program} (k : Nat) {w : World} {ops : Array Oper} {o : Oper} {a : Act} {K : Act → World → Prop} {Q : Exit → Act → World → Prop} {E : Prop} (hgd : o.guard = none) (d s : Operand) (dT sT : TypeId)
    (ho : o.op = .call { callee := .builtin .copy, args := #[d, s], argTypes := #[dT, sT] }) (elem : TypeId) (hu : P.underlying dT = some (.slice elem)) (hsz : (P.info? elem).map (·.size) = some k)
    (g off dLen dCap : Nat) (ad : Addr) (sLen sCap : Nat) (hd : a.eval d = .slice (some ⟨g, off, none⟩) dLen dCap) (hs : a.eval s = .slice (some ad) sLen sCap)
    (cur : List Value) (t : TypeId) (hg : w.heap[g]? = some (.cells cur.toArray t (0, 0))) (cs : List Value) (m : Nat) (hm : Nat.min sLen dLen = m) (hn : cs.length = m * k)
    (hsrc : ∀ j v, cs[j]? = some v → w.cell? (ad.add j) = some v) (hfit : off + cs.length ≤ cur.length) (h1 : ∀ v ∈ cs, v.oneCell' = true) (new : List Value) (hnew : cur.take off ++ cs ++ cur.drop (off + cs.length) = new)
    (h : ∀ w', Hid (w'.heap[g]? = some (.cells new.toArray t (0, 0))) → Hid (w.grownBy w' (some g)) → K (a.put o.dst (goInt m)) w') : if Region.wanted o (yielded ops a.tmps) = true then Oper.wp P o a w K Q else E := by
  have hw : Region.wanted o (yielded ops a.tmps) = true := by simp [Region.wanted, hgd]
  rw [if_pos hw]
  subst hm
  have hrun := run_copy_k (P := P) k w dT sT o.type elem g off dLen dCap ad sLen sCap cur.toArray t cs hu hsz hg hn hsrc (by simpa using hfit) h1
  unfold Oper.wp
  simp only [execOp, ho, resolve, invoke, builtin, Sem.run_bind, Sem.run_pure, Result.andThen_ok, List.map_toArray, List.map_cons, List.map_nil, hd, hs, hrun]
  exact h _ (show _ = _ by rw [← hnew]; simpa using setRow_heap w g _ _ t _ hg) (grown_setRow w g _)

theorem own_one {w : World} {B : Nat} {v : Value} {n : Nat} {xs : List Value} {e : TypeId} {size : Nat} (h : w.ownsRow B e size v n xs) : v.oneCell' = true := by
  obtain ⟨a, c, rfl⟩ := own_any h
  rfl
theorem ob_one {w : World} {B : Nat} : ∀ {qs : List (Po × Value)}, (∀ q ∈ qs, w.ownsRow B 33 2 q.2 q.1.ps.length (pixCells q.1.ps)) → ∀ v ∈ obCells qs, v.oneCell' = true
  | [], _, v, hv => by simp [obCells] at hv
  | (x, u) :: r, h, v, hv => by
    simp only [obCells, List.mem_append] at hv
    rcases hv with hv | hv
    · exact pix_one x u (own_one (h (x, u) (by simp))) v hv
    · exact ob_one (fun q hq => h q (by simp [hq])) v hv
theorem OwnOb.drop1 {w : World} {B : Nat} {v : Value} {qs : List (Po × Value)} (h : OwnOb w B v qs) (i : Nat) : ∀ q ∈ qs.drop i, w.ownsRow B 33 2 q.2 q.1.ps.length (pixCells q.1.ps) := fun q hq => h.2 q (List.mem_of_mem_drop hq)
theorem full_own {W : World} {B g n : Nat} {e : TypeId} {size : Nat} {xs : List Value} (h : W.heap[g]? = some (.cells xs.toArray e (0, 0))) (hB : B ≤ g) (hn : n ≤ maxLen) (hl : xs.length = n * size) : W.ownsRow B e size (.slice (some ⟨g, 0, none⟩) n n) n xs :=
  ⟨hl, .inr ⟨g, n, xs.toArray, rfl, hB, h, Nat.le_refl _, hn, by simp [hl], by rw [List.take_of_length_le (by simp [hl])]⟩⟩
theorem grownBy_trans {a b c : World} {r : Option Nat} (h : a.grownBy b r) (h' : b.grownBy c r) : a.grownBy c r :=
  ⟨h'.os.trans h.os, h'.tape.trans h.tape, h'.output.trans h.output, Nat.le_trans h.size h'.size, fun k hk hne => (h'.block k (Nat.lt_of_lt_of_le hk h.size) hne).trans (h.block k hk hne)⟩

set_option maxHeartbeats 4000000 in
set_option maxRecDepth 100000 in
/-- in the midst -/
theorem insertM_any (g n b i : Nat) (B : Nat) (qs : List (Po × Value)) (x : Po) (u : Value) (w : World) (hn : n ≤ 1000) (hi : i < n) (hbg : b ≠ g) (HO : Hid (OwnOb w B (.slice (some ⟨g, 0, none⟩) n (n + 1)) qs))
    (HV : Hid (w.heap[b]? = some (.cells (oCells x u).toArray 41 (0, 0)))) (HU : Hid (w.ownsRow B 33 2 u x.ps.length (pixCells x.ps))) (HQ : Hid (qs.length = n)) :
    Calls Tryd.prog 30 #[.slice (some ⟨g, 0, none⟩) n (n + 1), .int .i64 (i : Int), .slice (some ⟨b, 0, none⟩) 1 1] w fun e w' =>
      e = .returned (.slice (some ⟨g, 0, none⟩) (n + 1) (n + 1)) ∧ OwnOb w' B (.slice (some ⟨g, 0, none⟩) (n + 1) (n + 1)) (qs.take i ++ (x, u) :: qs.drop i) ∧ w.grownBy w' (some g) := by
  obtain ⟨i0, hi0, hz0, hz1, hz2⟩ := info_parts Tryd.infoOb
  have hsz : (Tryd.prog.info? 41).map (·.size) = some 11 := by rw [hi0]; simp [hz1]
  obtain ⟨cur0, HG0, HC0, HL0⟩ : ∃ cur0 : List Value, Hid (w.heap[g]? = some (.cells cur0.toArray 41 (0, 0))) ∧ Hid (cur0.take (n * 11) = obCells qs) ∧ Hid (cur0.length = (n + 1) * 11) := by
    rcases HO.out.1.2 with ⟨h0, _⟩ | ⟨g', cap, cur, hv, _, hg, _, _, hcs, htk⟩
    · simp at h0
    · simp only [Value.slice.injEq, Option.some.injEq, Addr.mk.injEq, and_true] at hv
      obtain ⟨rfl, h1, rfl⟩ := hv
      exact ⟨cur.toList, by unfold Hid; simpa using hg, by unfold Hid; rw [← htk, HQ.out], by unfold Hid; simpa using hcs⟩
  have hov : ∀ lb cb, (callFunc 51 #[.slice (some ⟨b, 0, none⟩) 1 1, .slice (some ⟨g, (i + 1) * 11, none⟩) lb cb]).run Tryd.prog w = .ok (.value (.bool false)) w := fun lb cb => by
    have hsa : w.shape? b = some (41, 11) := by unfold World.shape?; rw [HV.out]; simp [oCells]
    have hsb : w.shape? g = some (41, (n + 1) * 11) := by unfold World.shape?; rw [HG0.out]; simp [HL0.out]
    have hf0 : ∀ k, w.frozen? ⟨b, k, none⟩ = false := fun k => by unfold World.frozen?; rw [HV.out]; simp
    rw [run_callFunc_extern Tryd.func51 (by kernel_rfl) (by kernel_rfl) (by kernel_rfl) (e := Extern.SlicesOverlaps.overlaps #[22, 22] #[4]) (by kernel_rfl),
      Lib.run_overlaps_apart w 22 4 41 Tryd.underlying22 11 (fun w => by simp [sizeOf, typeInfo, hi0, hz1]) ⟨b, 0, none⟩ ⟨g, (i + 1) * 11, none⟩ 1 1 lb cb hbg 41 41 11 ((n + 1) * 11) hsa hsb (by omega) (hf0 0) (hf0 11)]
    rfl
  have hlq := HQ.out
  obtain ⟨cur1, HNEW⟩ : ∃ cur1, Hid (cur0.take ((i + 1) * 11) ++ obCells (qs.drop i) ++ cur0.drop ((i + 1) * 11 + (obCells (qs.drop i)).length) = cur1) := ⟨_, (rfl : _ = _)⟩
  have HMIN : Hid (Nat.min (n + 1 - i) (n - i) = n - i) := Nat.min_eq_right (by omega)
  have hlen1 : (obCells (qs.drop i)).length = (n - i) * 11 := by rw [obCells_length, List.length_drop, hlq]
  have HSRC : Hid (∀ j v, (obCells (qs.drop i))[j]? = some v → w.drew.cell? ((⟨g, i * 11, none⟩ : Addr).add j) = some v) := by
    intro j v hj
    have hjl : j < (n - i) * 11 := by have := (List.getElem?_eq_some_iff.1 hj).1; omega
    have e : (⟨g, i * 11, none⟩ : Addr).add j = ⟨g, i * 11 + j, none⟩ := by unfold Addr.add; split <;> simp_all
    rw [e]
    show w.cell? _ = _
    have h2 : obCells qs = obCells (qs.take i) ++ obCells (qs.drop i) := by rw [← obCells_app, List.take_append_drop]
    have h3 : (obCells (qs.take i)).length = i * 11 := by rw [obCells_length, List.length_take, hlq, Nat.min_eq_left (by omega)]
    rw [cell_of_row w g (i * 11 + j) cur0.toArray 41 (0, 0) HG0.out]
    have h4 : (cur0.take (n * 11))[i * 11 + j]? = some v := by
      rw [HC0.out, h2, List.getElem?_append_right (by omega), h3, Nat.add_sub_cancel_left]
      exact hj
    rw [List.getElem?_take, if_pos (by omega)] at h4
    simpa using h4
  have HL1 : Hid (cur1.length = (n + 1) * 11) := by
    unfold Hid
    rw [← HNEW.out]
    have := HL0.out
    simp [hlen1]
    omega
  obtain ⟨cur2, HNEW2⟩ : ∃ cur2, Hid (cur1.take (i * 11) ++ oCells x u ++ cur1.drop (i * 11 + (oCells x u).length) = cur2) := ⟨_, (rfl : _ = _)⟩
  have HFIN : Hid (cur2 = obCells (qs.take i ++ (x, u) :: qs.drop i)) := by
    unfold Hid
    rw [← HNEW2.out, ← HNEW.out]
    have hl0 := HL0.out
    have hoc : (oCells x u).length = 11 := rfl
    have h3 : (obCells (qs.take i)).length = i * 11 := by rw [obCells_length, List.length_take, hlq, Nat.min_eq_left (by omega)]
    have a1 : (cur0.take ((i + 1) * 11)).length = (i + 1) * 11 := by rw [List.length_take]; omega
    have a2 : cur0.drop ((i + 1) * 11 + (obCells (qs.drop i)).length) = [] := by rw [List.drop_eq_nil_iff]; omega
    have a3 : cur0.take (i * 11) = obCells (qs.take i) := by
      have h2 : obCells qs = obCells (qs.take i) ++ obCells (qs.drop i) := by rw [← obCells_app, List.take_append_drop]
      have h5 : (cur0.take (n * 11)).take (i * 11) = obCells (qs.take i) := by rw [HC0.out, h2, ← h3, List.take_left]
      rw [List.take_take, Nat.min_eq_left (by omega)] at h5
      exact h5
    rw [a2, List.append_nil, List.take_append_of_le_length (by omega), List.take_take, Nat.min_eq_left (by omega), a3, hoc, show i * 11 + 11 = (cur0.take ((i + 1) * 11)).length by omega, List.drop_left, obCells_app]
    simp [obCells]
  clear hlq
  have hi1 : (0 : Int) ≤ (i : Int) := by omega
  have hi2 : (i : Int) ≤ (n : Int) + 1 := by omega
  have hi3 : (i : Int) + 1 ≤ (n : Int) + 1 := by omega
  have hi4 : (0 : Int) ≤ (i : Int) + 1 := by omega
  have hi5 : ((i : Int) + 1).toNat = i + 1 := by omega
  have hi6 : ¬ n + 1 = i + 1 := by omega
  have hi7 : ¬ n + 1 = i := by omega
  have hi8 : IntKind.i64.wrap ((i : Int) + 1) = (i : Int) + 1 := by rw [IntKind.wrap_i64]; omega
  have hi9 : n + 1 - (i + 1) = n - i := by omega
  go_enter Tryd.func30, Tryd.ntmps30
  go_wp2_with fail
  refine wp_region_held_drew (S := (fun _ => True)) (by kernel_rfl) ?_ (fun hHeld => ?_)
  · trivial
  refine wpAnyH_take (i := 0) (oi := ({ dst := some 69, op := Op.move (Operand.tmp 0), type := 22, pos := "slices.go:178", after := #[], guard := none } : Oper)) (v := ?_) rfl (by kernel_rfl) (by kernel_rfl) (by kernel_rfl) (fun _ _ _ h => h) (Or.inl ⟨by rfl, ?_⟩) (by assumption) ?_
  rotate_left
  · (intro w hSw; (try dsimp only at hSw); go_simp; try with_reducible rfl)
  try simp only [Act.put, List.setIfInBounds_toArray, List.set_cons_zero, List.set_cons_succ]
  refine wpAnyH_take (i := 1) (oi := ({ dst := some 70, op := Op.move (Operand.tmp 1), type := 3, pos := "slices.go:178", after := #[], guard := none } : Oper)) (v := ?_) rfl (by kernel_rfl) (by kernel_rfl) (by kernel_rfl) (fun _ _ _ h => h) (Or.inl ⟨by rfl, ?_⟩) (by assumption) ?_
  rotate_left
  · (intro w hSw; (try dsimp only at hSw); go_simp; try with_reducible rfl)
  try simp only [Act.put, List.setIfInBounds_toArray, List.set_cons_zero, List.set_cons_succ]
  refine wpAnyH_take (i := 2) (oi := ({ dst := some 71, op := Op.move (Operand.tmp 7), type := 3, pos := "slices.go:178", after := #[], guard := none } : Oper)) (v := ?_) rfl (by kernel_rfl) (by kernel_rfl) (by kernel_rfl) (fun _ _ _ h => h) (Or.inl ⟨by rfl, ?_⟩) (by assumption) ?_
  rotate_left
  · (intro w hSw; (try dsimp only at hSw); go_simp; try with_reducible rfl)
  try simp only [Act.put, List.setIfInBounds_toArray, List.set_cons_zero, List.set_cons_succ]
  refine wpAnyH_take (i := 3) (oi := ({ dst := some 72, op := Op.binOp BinOp.add 3 (Operand.tmp 70) (Operand.tmp 71) 3, type := 3, pos := "slices.go:178", after := #[{ on := 1, ground := Ground.data }, { on := 2, ground := Ground.data }], guard := none } : Oper)) (v := ?_) rfl (by kernel_rfl) (by kernel_rfl) (by kernel_rfl) (fun _ _ _ h => h) (Or.inl ⟨by rfl, ?_⟩) (by assumption) ?_
  rotate_left
  · (intro w hSw; (try dsimp only at hSw); go_simp; try with_reducible rfl)
  try simp only [Act.put, List.setIfInBounds_toArray, List.set_cons_zero, List.set_cons_succ]
  refine wpAnyH_take (i := 4) (oi := ({ dst := some 73, op := Op.slice 22 (Operand.tmp 69) (some (Operand.tmp 72)) none none, type := 22, pos := "slices.go:178", after := #[{ on := 0, ground := Ground.data }, { on := 3, ground := Ground.data }], guard := none } : Oper)) (v := ?_) rfl (by kernel_rfl) (by kernel_rfl) (by kernel_rfl) (fun _ _ _ h => h) (Or.inl ⟨by rfl, ?_⟩) (by assumption) ?_
  rotate_left
  · (intro w hSw; (try dsimp only at hSw); go_simp; try with_reducible rfl)
  try simp only [Act.put, List.setIfInBounds_toArray, List.set_cons_zero, List.set_cons_succ]
  refine wpAnyH_take (i := 5) (oi := ({ dst := some 74, op := Op.move (Operand.tmp 0), type := 22, pos := "slices.go:178", after := #[], guard := none } : Oper)) (v := ?_) rfl (by kernel_rfl) (by kernel_rfl) (by kernel_rfl) (fun _ _ _ h => h) (Or.inl ⟨by rfl, ?_⟩) (by assumption) ?_
  rotate_left
  · (intro w hSw; (try dsimp only at hSw); go_simp; try with_reducible rfl)
  try simp only [Act.put, List.setIfInBounds_toArray, List.set_cons_zero, List.set_cons_succ]
  refine wpAnyH_take (i := 6) (oi := ({ dst := some 75, op := Op.move (Operand.tmp 1), type := 3, pos := "slices.go:178", after := #[], guard := none } : Oper)) (v := ?_) rfl (by kernel_rfl) (by kernel_rfl) (by kernel_rfl) (fun _ _ _ h => h) (Or.inl ⟨by rfl, ?_⟩) (by assumption) ?_
  rotate_left
  · (intro w hSw; (try dsimp only at hSw); go_simp; try with_reducible rfl)
  try simp only [Act.put, List.setIfInBounds_toArray, List.set_cons_zero, List.set_cons_succ]
  refine wpAnyH_take (i := 7) (oi := ({ dst := some 76, op := Op.slice 22 (Operand.tmp 74) (some (Operand.tmp 75)) none none, type := 22, pos := "slices.go:178", after := #[{ on := 5, ground := Ground.data }, { on := 6, ground := Ground.data }], guard := none } : Oper)) (v := ?_) rfl (by kernel_rfl) (by kernel_rfl) (by kernel_rfl) (fun _ _ _ h => h) (Or.inl ⟨by rfl, ?_⟩) (by assumption) ?_
  rotate_left
  · (intro w hSw; (try dsimp only at hSw); go_simp; try with_reducible rfl)
  try simp only [Act.put, List.setIfInBounds_toArray, List.set_cons_zero, List.set_cons_succ]
  refine wpAnyH_ready (rs := [8]) (by kernel_rfl) (by simp) ?_
  refine AllReadyH.cons (o := ({ dst := some 77, op := Op.call { callee := Callee.builtin Builtin.copy, args := #[Operand.tmp 73, Operand.tmp 76], argTypes := #[22, 22] }, type := 3, pos := "slices.go:178", after := #[{ on := 4, ground := Ground.data }, { on := 7, ground := Ground.data }], guard := none } : Oper)) rfl (fun K_ hK => ?_) AllReadyH.nil
  refine step_copy_k 11 rfl (.tmp 73) (.tmp 76) 22 22 rfl 41 Tryd.underlying22 hsz g ((i + 1) * 11) (n - i) (n - i) ⟨g, i * 11, none⟩ (n + 1 - i) (n + 1 - i) ?d1 ?d2 cur0 41 HG0.out (obCells (qs.drop i)) (n - i) HMIN.out ?e1 HSRC.out ?e2 ?e3 cur1 HNEW.out ?_
  case d1 => (simp only [Act.eval, Array.getD_eq_getD_getElem?]; simp; omega)
  case d2 => rfl
  case e1 => exact hlen1
  case e2 => rw [hlen1, HL0.out]; omega
  case e3 => exact ob_one (HO.out.drop1 i)
  intro w2 HG2 HGR2
  refine hK.out _ _ trivial (fun hHeld => ?_)
  clear hK K_
  try simp only [Act.put, List.setIfInBounds_toArray, List.set_cons_zero, List.set_cons_succ]
  refine wpAnyH_done (by kernel_rfl) ?_ _
  have HSRC2 : Hid (∀ j v, (oCells x u)[j]? = some v → w2.cell? ((⟨b, 0, none⟩ : Addr).add j) = some v) := by
    intro j v hj
    have e : (⟨b, 0, none⟩ : Addr).add j = ⟨b, j, none⟩ := by unfold Addr.add; split <;> simp_all
    rw [e, World.cell?_of_block (w := w) (a := ⟨b, j, none⟩) (HGR2.out.block b (Array.getElem?_eq_some_iff.1 HV.out).1 (by simpa using hbg)), cell_of_row w b j _ _ _ HV.out]
    simpa using hj
  go_wp2_with (refine wpList_copy_k 11 rfl (.tmp 80) (.tmp 81) 22 22 rfl 41 Tryd.underlying22 hsz g (i * 11) (n + 1 - i) (n + 1 - i) ⟨b, 0, none⟩ 1 1 rfl rfl cur1 41 HG2.out (oCells x u) 1 (Nat.min_eq_left (by omega)) rfl HSRC2.out ?e2 ?e3 cur2 HNEW2.out ?_)
  case e2 => rw [HL1.out]; simp [oCells]; omega
  case e3 => exact pix_one _ _ (own_one HU.out)
  intro w3 HG3 HGR3
  go_wp2_with fail
  go_ret
  have hgr : w.grownBy w3 (some g) := grownBy_trans (grownBy_trans (a := w) (b := w.drew) ⟨rfl, rfl, rfl, Nat.le_refl _, fun _ _ _ => rfl⟩ HGR2.out) HGR3.out
  refine ⟨rfl, ⟨?_, ?_⟩, hgr⟩
  · have hl : (qs.take i ++ (x, u) :: qs.drop i).length = n + 1 := by have := HQ.out; simp; omega
    rw [hl, ← HFIN.out]
    refine full_own HG3.out (HO.out.1.lt g rfl).1 (by unfold maxLen; omega) ?_
    rw [HFIN.out, obCells_length, hl]
  · intro q hq
    rcases List.mem_append.1 hq with hq | hq
    · exact (HO.out.2 q (List.mem_of_mem_take hq)).kept hgr (apartO (HO.out.2 q (List.mem_of_mem_take hq)) HO.out.1 (by decide))
    · rcases List.mem_cons.1 hq with rfl | hq
      · exact HU.out.kept hgr (apartO HU.out HO.out.1 (by decide))
      · exact (HO.out.2 q (List.mem_of_mem_drop hq)).kept hgr (apartO (HO.out.2 q (List.mem_of_mem_drop hq)) HO.out.1 (by decide))

set_option maxHeartbeats 4000000 in
set_option maxRecDepth 100000 in
/-- at the end -/
theorem insertE_any (g n b : Nat) (B : Nat) (qs : List (Po × Value)) (x : Po) (u : Value) (w : World) (hn : n ≤ 1000) (hB : B ≤ w.heap.size) (HO : Hid (OwnOb w B (.slice (some ⟨g, 0, none⟩) n (n + 1)) qs))
    (HV : Hid (w.heap[b]? = some (.cells (oCells x u).toArray 41 (0, 0)))) (HU : Hid (w.ownsRow B 33 2 u x.ps.length (pixCells x.ps))) (HQ : Hid (qs.length = n)) :
    Calls Tryd.prog 30 #[.slice (some ⟨g, 0, none⟩) n (n + 1), .int .i64 (n : Int), .slice (some ⟨b, 0, none⟩) 1 1] w fun e w' =>
      e = .returned (.slice (some ⟨g, 0, none⟩) (n + 1) (n + 1)) ∧ OwnOb w' B (.slice (some ⟨g, 0, none⟩) (n + 1) (n + 1)) (qs ++ [(x, u)]) ∧ w.grownBy w' (some g) := by
  obtain ⟨i0, hi, hz0, hz1, hz2⟩ := info_parts Tryd.infoOb
  have HO3 := HO.out.1
  rw [HQ.out] at HO3
  have hcells : ∀ j v, (oCells x u)[j]? = some v → w.cell? ((⟨b, 0, none⟩ : Addr).add j) = some v := by
    intro j v hj
    have e : (⟨b, 0, none⟩ : Addr).add j = ⟨b, j, none⟩ := by unfold Addr.add; split <;> simp_all
    rw [e, cell_of_row w b j _ _ _ HV.out]
    simpa using hj
  obtain ⟨w3, hr, h1, h2⟩ := run_append_cap (P := Tryd.prog) w B 22 22 41 i0 (.agg #[.int .i64 0, .int .i64 0, .int .i64 0, .int .i64 0, .int .i64 0, .slice none 0 0, .int .i64 0, .int .i64 0, .int .i64 0, .int .i64 0, .bool false]) 11 104 Tryd.underlying22 hi hz0 hz1 hz2 rfl (by decide) g n (n + 1) _ HO3 ⟨b, 0, none⟩ 1 1 (oCells x u) rfl hcells (pix_one _ _ (own_one HU.out)) (by unfold maxLen; omega) (by omega) hB (by omega)
  have HO4 := hide_ob (HO.out.app (x := x) HU.out (by rw [HQ.out]; exact h1) h2)
  have HGR := (show Hid (w.grownBy w3 (some g)) from h2)
  clear h1 h2 HO3 hcells
  have hw : (n : Int) + 1 ≤ (n : Int) + 1 := by omega
  go_enter Tryd.func30, Tryd.ntmps30
  go_wp2_with (at_builtin; refine Lib.wpList_append_run _ rfl _ _ _ _ rfl _ _ rfl rfl _ _ hr ?_)
  go_ret
  exact ⟨rfl, HO4.out, HGR.out⟩

/-- at the place that search told -/
theorem insert_any (g n b i : Nat) (B : Nat) (qs : List (Po × Value)) (x : Po) (u : Value) (w : World) (hn : n ≤ 1000) (hi : i ≤ n) (hbg : b ≠ g) (hB : B ≤ w.heap.size) (HO : Hid (OwnOb w B (.slice (some ⟨g, 0, none⟩) n (n + 1)) qs))
    (HV : Hid (w.heap[b]? = some (.cells (oCells x u).toArray 41 (0, 0)))) (HU : Hid (w.ownsRow B 33 2 u x.ps.length (pixCells x.ps))) (HQ : Hid (qs.length = n)) :
    Calls Tryd.prog 30 #[.slice (some ⟨g, 0, none⟩) n (n + 1), .int .i64 (i : Int), .slice (some ⟨b, 0, none⟩) 1 1] w fun e w' =>
      e = .returned (.slice (some ⟨g, 0, none⟩) (n + 1) (n + 1)) ∧ OwnOb w' B (.slice (some ⟨g, 0, none⟩) (n + 1) (n + 1)) (qs.take i ++ (x, u) :: qs.drop i) ∧ w.grownBy w' (some g) := by
  rcases Nat.lt_or_ge i n with h | h
  · exact insertM_any g n b i B qs x u w hn h hbg HO HV HU HQ
  · obtain rfl : i = n := by omega
    rw [List.take_of_length_le (by rw [HQ.out]; exact Nat.le_refl _), List.drop_of_length_le (by rw [HQ.out]; exact Nat.le_refl _)]
    exact insertE_any g i b B qs x u w hn hB HO HV HU HQ
end Go.Proofs.YtkmolifgfbaboaaDoor
