/- Some of the walks, in one text. -/
import Derived.Test.YtceabiodelfdoaaGreatDoorM3
import Derived.Lib.Overlaps
import Derived.Laws.CopyRow
import Derived.Laws.CopyOwn
import Derived.Laws.Externs
/- slices.Insert of one object, where there is room for it. -/
namespace Go.Proofs.YtceabiodelfdoaaGreatDoor
open Go.RowKit

theorem run_copy_k {P : Program} (k : Nat) (w : World) (dT sT ty elem : TypeId) (g o dLen dCap : Nat) (a : Addr) (sLen sCap : Nat) (cur : Array Value) (t : TypeId) (cs : List Value)
    (hu : P.underlying dT = some (.slice elem)) (hs : (P.info? elem).map (·.size) = some k)
    (hg : w.heap[g]? = some (.cells cur t (0, 0))) (hn : cs.length = Nat.min sLen dLen * k)
    (hsrc : ∀ j v, cs[j]? = some v → w.cell? (a.add j) = some v) (hfit : o + cs.length ≤ cur.size) (h1 : ∀ v ∈ cs, v.oneCell' = true) :
    (Builtin.copy_ #[dT, sT] ty #[.slice (some ⟨g, o, none⟩) dLen dCap, .slice (some a) sLen sCap]).run P w =
      .ok (goInt (Nat.min sLen dLen)) (w.setRow g (cur.toList.take o ++ cs ++ cur.toList.drop (o + cs.length)).toArray) := by
  have hl := run_loadCells_list (P := P) w a cs hsrc
  have hst := run_storeCells_at P g o t cs 0 cur w hg (by simpa using hfit) h1
  rw [hn] at hl
  cases hq : P.info? elem with
  | none => simp [hq] at hs
  | some i =>
    have hi : i.size = k := by simpa [hq] using hs
    simp [Builtin.copy_, run_underlying hu, Builtin.lenOf, Builtin.firstCells, sizeOf, typeInfo, hq, hi, hl, hst]

theorem grown_setRow (w : World) (g : Nat) (cs : Array Value) : w.grownBy (w.setRow g cs) (some g) :=
  ⟨rfl, rfl, rfl, by simp [World.setRow], fun k _ hk => setRow_other w g k cs (fun e => hk (by rw [e]))⟩

/-- copy, what is then in the block named by the prover -/
theorem wpList_copy_k {P : Program} (k : Nat) {w : World} {ops : Array Oper} {rest : List Oper} {o : Oper} {a : Act} {Q : Exit → Act → World → Prop} (hgd : o.guard = none) (d s : Operand) (dT sT : TypeId)
    (ho : o.op = .call { callee := .builtin .copy, args := #[d, s], argTypes := #[dT, sT] }) (elem : TypeId) (hu : P.underlying dT = some (.slice elem)) (hsz : (P.info? elem).map (·.size) = some k)
    (g off dLen dCap : Nat) (ad : Addr) (sLen sCap : Nat) (hd : a.eval d = .slice (some ⟨g, off, none⟩) dLen dCap) (hs : a.eval s = .slice (some ad) sLen sCap)
    (cur : List Value) (t : TypeId) (hg : w.heap[g]? = some (.cells cur.toArray t (0, 0))) (cs : List Value) (m : Nat) (hm : Nat.min sLen dLen = m) (hn : cs.length = m * k)
    (hsrc : ∀ j v, cs[j]? = some v → w.cell? (ad.add j) = some v) (hfit : off + cs.length ≤ cur.length) (h1 : ∀ v ∈ cs, v.oneCell' = true) (new : List Value) (hnew : cur.take off ++ cs ++ cur.drop (off + cs.length) = new)
    (h : ∀ w', Hid (w'.heap[g]? = some (.cells new.toArray t (0, 0))) → Hid (w.grownBy w' (some g)) → wpList P ops Q rest (a.put o.dst (goInt m)) w') : wpList P ops Q (o :: rest) a w := by
  subst hm
  refine wpList_plain hgd fun K hK => ?_
  have hrun := run_copy_k (P := P) k w dT sT o.type elem g off dLen dCap ad sLen sCap cur.toArray t cs hu hsz hg hn hsrc (by simpa using hfit) h1
  unfold Oper.wp
  simp only [execOp, ho, resolve, invoke, builtin, Sem.run_bind, Sem.run_pure, Result.andThen_ok, List.map_toArray, List.map_cons, List.map_nil, hd, hs, hrun]
  exact hK _ _ (h _ (show _ = _ by rw [← hnew]; simpa using setRow_heap w g _ _ t _ hg) (grown_setRow w g _))
theorem step_copy_k {P : Program} (k : Nat) {w : World} {ops : Array Oper} {o : Oper} {a : Act} {K : Act → World → Prop} {Q : Exit → Act → World → Prop} {E : Prop} (hgd : o.guard = none) (d s : Operand) (dT sT : TypeId)
    (ho : o.op = .call { callee := .builtin .copy, args := #[d, s], argTypes := #[dT, sT] }) (elem : TypeId) (hu : P.underlying dT = some (.slice elem)) (hsz : (P.info? elem).map (·.size) = some k)
    (g off dLen dCap : Nat) (ad : Addr) (sLen sCap : Nat) (hd : a.eval d = .slice (some ⟨g, off, none⟩) dLen dCap) (hs : a.eval s = .slice (some ad) sLen sCap)
    (cur : List Value) (t : TypeId) (hg : w.heap[g]? = some (.cells cur.toArray t (0, 0))) (cs : List Value) (m : Nat) (hm : Nat.min sLen dLen = m) (hn : cs.length = m * k)
    (hsrc : ∀ j v, cs[j]? = some v → w.cell? (ad.add j) = some v) (hfit : off + cs.length ≤ cur.length) (h1 : ∀ v ∈ cs, v.oneCell' = true) (new : List Value) (hnew : cur.take off ++ cs ++ cur.drop (off + cs.length) = new)
    (h : ∀ w', Hid (w'.heap[g]? = some (.cells new.toArray t (0, 0))) → Hid (w.grownBy w' (some g)) → K (a.put o.dst (goInt m)) w') : if Region.wanted o (yielded ops a.tmps) = true then Oper.wp P o a w K Q else E := by
  have hw : Region.wanted o (yielded ops a.tmps) = true := by simp [Region.wanted, hgd]
  rw [if_pos hw]
  subst hm
  have hrun := run_copy_k (P := P) k w dT sT o.type elem g off dLen dCap ad sLen sCap cur.toArray t cs hu hsz hg hn hsrc (by simpa using hfit) h1
  unfold Oper.wp
  simp only [execOp, ho, resolve, invoke, builtin, Sem.run_bind, Sem.run_pure, Result.andThen_ok, List.map_toArray, List.map_cons, List.map_nil, hd, hs, hrun]
  exact h _ (show _ = _ by rw [← hnew]; simpa using setRow_heap w g _ _ t _ hg) (grown_setRow w g _)

theorem own_one {w : World} {B : Nat} {v : Value} {n : Nat} {xs : List Value} {e : TypeId} {size : Nat} (h : w.ownsRow B e size v n xs) : v.oneCell' = true := by
  obtain ⟨a, c, rfl⟩ := own_any h
  rfl
theorem ob_one {w : World} {B : Nat} : ∀ {qs : List (Po × Value)}, (∀ q ∈ qs, w.ownsRow B 52 2 q.2 q.1.ps.length (pixCells q.1.ps)) → ∀ v ∈ obCells qs, v.oneCell' = true
  | [], _, v, hv => by simp [obCells] at hv
  | (x, u) :: r, h, v, hv => by
    simp only [obCells, List.mem_append] at hv
    rcases hv with hv | hv
    · exact pix_oneB x u (own_one (h (x, u) (by simp))) v hv
    · exact ob_one (fun q hq => h q (by simp [hq])) v hv
theorem OwnOb.drop1 {w : World} {B : Nat} {v : Value} {qs : List (Po × Value)} (h : OwnOb w B v qs) (i : Nat) : ∀ q ∈ qs.drop i, w.ownsRow B 52 2 q.2 q.1.ps.length (pixCells q.1.ps) := fun q hq => h.2 q (List.mem_of_mem_drop hq)
theorem full_own {W : World} {B g n : Nat} {e : TypeId} {size : Nat} {xs : List Value} (h : W.heap[g]? = some (.cells xs.toArray e (0, 0))) (hB : B ≤ g) (hn : n ≤ maxLen) (hl : xs.length = n * size) : W.ownsRow B e size (.slice (some ⟨g, 0, none⟩) n n) n xs :=
  ⟨hl, .inr ⟨g, n, xs.toArray, rfl, hB, h, Nat.le_refl _, hn, by simp [hl], by rw [List.take_of_length_le (by simp [hl])]⟩⟩
theorem grownBy_trans {a b c : World} {r : Option Nat} (h : a.grownBy b r) (h' : b.grownBy c r) : a.grownBy c r :=
  ⟨h'.os.trans h.os, h'.tape.trans h.tape, h'.output.trans h.output, Nat.le_trans h.size h'.size, fun k hk hne => (h'.block k (Nat.lt_of_lt_of_le hk h.size) hne).trans (h.block k hk hne)⟩

set_option maxHeartbeats 4000000 in
set_option maxRecDepth 100000 in
/-- in the midst -/
theorem insertM_any (g n b i : Nat) (B : Nat) (qs : List (Po × Value)) (x : Po) (u : Value) (w : World) (hn : n ≤ 1000) (hi : i < n) (hbg : b ≠ g) (HO : Hid (OwnOb w B (.slice (some ⟨g, 0, none⟩) n (n + 1)) qs))
    (HV : Hid (w.heap[b]? = some (.cells (oCells x u).toArray 141 (0, 0)))) (HU : Hid (w.ownsRow B 52 2 u x.ps.length (pixCells x.ps))) (HQ : Hid (qs.length = n)) :
    Calls Tryz.prog 105 #[.slice (some ⟨g, 0, none⟩) n (n + 1), .int .i64 (i : Int), .slice (some ⟨b, 0, none⟩) 1 1] w fun e w' =>
      e = .returned (.slice (some ⟨g, 0, none⟩) (n + 1) (n + 1)) ∧ OwnOb w' B (.slice (some ⟨g, 0, none⟩) (n + 1) (n + 1)) (qs.take i ++ (x, u) :: qs.drop i) ∧ w.grownBy w' (some g) := by
  obtain ⟨i0, hi0, hz0, hz1, hz2⟩ := info_parts Tryz.infoOb
  have hsz : (Tryz.prog.info? 141).map (·.size) = some 11 := by rw [hi0]; simp [hz1]
  obtain ⟨cur0, HG0, HC0, HL0⟩ : ∃ cur0 : List Value, Hid (w.heap[g]? = some (.cells cur0.toArray 141 (0, 0))) ∧ Hid (cur0.take (n * 11) = obCells qs) ∧ Hid (cur0.length = (n + 1) * 11) := by
    rcases HO.out.1.2 with ⟨h0, _⟩ | ⟨g', cap, cur, hv, _, hg, _, _, hcs, htk⟩
    · simp at h0
    · simp only [Value.slice.injEq, Option.some.injEq, Addr.mk.injEq, and_true] at hv
      obtain ⟨rfl, h1, rfl⟩ := hv
      exact ⟨cur.toList, by unfold Hid; simpa using hg, by unfold Hid; rw [← htk, HQ.out], by unfold Hid; simpa using hcs⟩
  have hov : ∀ lb cb, (callFunc 115 #[.slice (some ⟨b, 0, none⟩) 1 1, .slice (some ⟨g, (i + 1) * 11, none⟩) lb cb]).run Tryz.prog w = .ok (.value (.bool false)) w := fun lb cb => by
    have hsa : w.shape? b = some (141, 11) := by unfold World.shape?; rw [HV.out]; simp [oCells]
    have hsb : w.shape? g = some (141, (n + 1) * 11) := by unfold World.shape?; rw [HG0.out]; simp [HL0.out]
    have hf0 : ∀ k, w.frozen? ⟨b, k, none⟩ = false := fun k => by unfold World.frozen?; rw [HV.out]; simp
    rw [run_callFunc_extern Tryz.func115 (by kernel_rfl) (by kernel_rfl) (by kernel_rfl) (e := Extern.SlicesOverlaps.overlaps #[85, 85] #[4]) (by kernel_rfl),
      Lib.run_overlaps_apart w 85 4 141 Tryz.underlying85 11 (fun w => by simp [sizeOf, typeInfo, hi0, hz1]) ⟨b, 0, none⟩ ⟨g, (i + 1) * 11, none⟩ 1 1 lb cb hbg 141 141 11 ((n + 1) * 11) hsa hsb (by omega) (hf0 0) (hf0 11)]
    rfl
  have hlq := HQ.out
  obtain ⟨cur1, HNEW⟩ : ∃ cur1, Hid (cur0.take ((i + 1) * 11) ++ obCells (qs.drop i) ++ cur0.drop ((i + 1) * 11 + (obCells (qs.drop i)).length) = cur1) := ⟨_, (rfl : _ = _)⟩
  have HMIN : Hid (Nat.min (n + 1 - i) (n - i) = n - i) := Nat.min_eq_right (by omega)
  have hlen1 : (obCells (qs.drop i)).length = (n - i) * 11 := by rw [obCells_length, List.length_drop, hlq]
  have HSRC : Hid (∀ j v, (obCells (qs.drop i))[j]? = some v → w.drew.cell? ((⟨g, i * 11, none⟩ : Addr).add j) = some v) := by
    intro j v hj
    have hjl : j < (n - i) * 11 := by have := (List.getElem?_eq_some_iff.1 hj).1; omega
    have e : (⟨g, i * 11, none⟩ : Addr).add j = ⟨g, i * 11 + j, none⟩ := by unfold Addr.add; split <;> simp_all
    rw [e]
    show w.cell? _ = _
    have h2 : obCells qs = obCells (qs.take i) ++ obCells (qs.drop i) := by rw [← obCells_app, List.take_append_drop]
    have h3 : (obCells (qs.take i)).length = i * 11 := by rw [obCells_length, List.length_take, hlq, Nat.min_eq_left (by omega)]
    rw [cell_of_row w g (i * 11 + j) cur0.toArray 141 (0, 0) HG0.out]
    have h4 : (cur0.take (n * 11))[i * 11 + j]? = some v := by
      rw [HC0.out, h2, List.getElem?_append_right (by omega), h3, Nat.add_sub_cancel_left]
      exact hj
    rw [List.getElem?_take, if_pos (by omega)] at h4
    simpa using h4
  have HL1 : Hid (cur1.length = (n + 1) * 11) := by
    unfold Hid
    rw [← HNEW.out]
    have := HL0.out
    simp [hlen1]
    omega
  obtain ⟨cur2, HNEW2⟩ : ∃ cur2, Hid (cur1.take (i * 11) ++ oCells x u ++ cur1.drop (i * 11 + (oCells x u).length) = cur2) := ⟨_, (rfl : _ = _)⟩
  have HFIN : Hid (cur2 = obCells (qs.take i ++ (x, u) :: qs.drop i)) := by
    unfold Hid
    rw [← HNEW2.out, ← HNEW.out]
    have hl0 := HL0.out
    have hoc : (oCells x u).length = 11 := rfl
    have h3 : (obCells (qs.take i)).length = i * 11 := by rw [obCells_length, List.length_take, hlq, Nat.min_eq_left (by omega)]
    have a1 : (cur0.take ((i + 1) * 11)).length = (i + 1) * 11 := by rw [List.length_take]; omega
    have a2 : cur0.drop ((i + 1) * 11 + (obCells (qs.drop i)).length) = [] := by rw [List.drop_eq_nil_iff]; omega
    have a3 : cur0.take (i * 11) = obCells (qs.take i) := by
      have h2 : obCells qs = obCells (qs.take i) ++ obCells (qs.drop i) := by rw [← obCells_app, List.take_append_drop]
      have h5 : (cur0.take (n * 11)).take (i * 11) = obCells (qs.take i) := by rw [HC0.out, h2, ← h3, List.take_left]
      rw [List.take_take, Nat.min_eq_left (by omega)] at h5
      exact h5
    rw [a2, List.append_nil, List.take_append_of_le_length (by omega), List.take_take, Nat.min_eq_left (by omega), a3, hoc, show i * 11 + 11 = (cur0.take ((i + 1) * 11)).length by omega, List.drop_left, obCells_app]
    simp [obCells]
  clear hlq
  have hi1 : (0 : Int) ≤ (i : Int) := by omega
  have hi2 : (i : Int) ≤ (n : Int) + 1 := by omega
  have hi3 : (i : Int) + 1 ≤ (n : Int) + 1 := by omega
  have hi4 : (0 : Int) ≤ (i : Int) + 1 := by omega
  have hi5 : ((i : Int) + 1).toNat = i + 1 := by omega
  have hi6 : ¬ n + 1 = i + 1 := by omega
  have hi7 : ¬ n + 1 = i := by omega
  have hi8 : IntKind.i64.wrap ((i : Int) + 1) = (i : Int) + 1 := by rw [IntKind.wrap_i64]; omega
  have hi9 : n + 1 - (i + 1) = n - i := by omega
  go_enter Tryz.func105, Tryz.ntmps105
  go_wp2_with fail
  refine wp_region_held_drew (S := (fun _ => True)) (by kernel_rfl) ?_ (fun hHeld => ?_)
  · trivial
  refine wpAnyH_take (i := 0) (oi := ({ dst := some 69, op := Op.move (Operand.tmp 0), type := 85, pos := "slices.go:178", after := #[], guard := none } : Oper)) (v := ?_) rfl (by kernel_rfl) (by kernel_rfl) (by kernel_rfl) (fun _ _ _ h => h) (Or.inl ⟨by rfl, ?_⟩) (by assumption) ?_
  rotate_left
  · (intro w hSw; (try dsimp only at hSw); go_simp; try with_reducible rfl)
  try simp only [Act.put, List.setIfInBounds_toArray, List.set_cons_zero, List.set_cons_succ]
  refine wpAnyH_take (i := 1) (oi := ({ dst := some 70, op := Op.move (Operand.tmp 1), type := 3, pos := "slices.go:178", after := #[], guard := none } : Oper)) (v := ?_) rfl (by kernel_rfl) (by kernel_rfl) (by kernel_rfl) (fun _ _ _ h => h) (Or.inl ⟨by rfl, ?_⟩) (by assumption) ?_
  rotate_left
  · (intro w hSw; (try dsimp only at hSw); go_simp; try with_reducible rfl)
  try simp only [Act.put, List.setIfInBounds_toArray, List.set_cons_zero, List.set_cons_succ]
  refine wpAnyH_take (i := 2) (oi := ({ dst := some 71, op := Op.move (Operand.tmp 7), type := 3, pos := "slices.go:178", after := #[], guard := none } : Oper)) (v := ?_) rfl (by kernel_rfl) (by kernel_rfl) (by kernel_rfl) (fun _ _ _ h => h) (Or.inl ⟨by rfl, ?_⟩) (by assumption) ?_
  rotate_left
  · (intro w hSw; (try dsimp only at hSw); go_simp; try with_reducible rfl)
  try simp only [Act.put, List.setIfInBounds_toArray, List.set_cons_zero, List.set_cons_succ]
  refine wpAnyH_take (i := 3) (oi := ({ dst := some 72, op := Op.binOp BinOp.add 3 (Operand.tmp 70) (Operand.tmp 71) 3, type := 3, pos := "slices.go:178", after := #[{ on := 1, ground := Ground.data }, { on := 2, ground := Ground.data }], guard := none } : Oper)) (v := ?_) rfl (by kernel_rfl) (by kernel_rfl) (by kernel_rfl) (fun _ _ _ h => h) (Or.inl ⟨by rfl, ?_⟩) (by assumption) ?_
  rotate_left
  · (intro w hSw; (try dsimp only at hSw); go_simp; try with_reducible rfl)
  try simp only [Act.put, List.setIfInBounds_toArray, List.set_cons_zero, List.set_cons_succ]
  refine wpAnyH_take (i := 4) (oi := ({ dst := some 73, op := Op.slice 85 (Operand.tmp 69) (some (Operand.tmp 72)) none none, type := 85, pos := "slices.go:178", after := #[{ on := 0, ground := Ground.data }, { on := 3, ground := Ground.data }], guard := none } : Oper)) (v := ?_) rfl (by kernel_rfl) (by kernel_rfl) (by kernel_rfl) (fun _ _ _ h => h) (Or.inl ⟨by rfl, ?_⟩) (by assumption) ?_
  rotate_left
  · (intro w hSw; (try dsimp only at hSw); go_simp; try with_reducible rfl)
  try simp only [Act.put, List.setIfInBounds_toArray, List.set_cons_zero, List.set_cons_succ]
  refine wpAnyH_take (i := 5) (oi := ({ dst := some 74, op := Op.move (Operand.tmp 0), type := 85, pos := "slices.go:178", after := #[], guard := none } : Oper)) (v := ?_) rfl (by kernel_rfl) (by kernel_rfl) (by kernel_rfl) (fun _ _ _ h => h) (Or.inl ⟨by rfl, ?_⟩) (by assumption) ?_
  rotate_left
  · (intro w hSw; (try dsimp only at hSw); go_simp; try with_reducible rfl)
  try simp only [Act.put, List.setIfInBounds_toArray, List.set_cons_zero, List.set_cons_succ]
  refine wpAnyH_take (i := 6) (oi := ({ dst := some 75, op := Op.move (Operand.tmp 1), type := 3, pos := "slices.go:178", after := #[], guard := none } : Oper)) (v := ?_) rfl (by kernel_rfl) (by kernel_rfl) (by kernel_rfl) (fun _ _ _ h => h) (Or.inl ⟨by rfl, ?_⟩) (by assumption) ?_
  rotate_left
  · (intro w hSw; (try dsimp only at hSw); go_simp; try with_reducible rfl)
  try simp only [Act.put, List.setIfInBounds_toArray, List.set_cons_zero, List.set_cons_succ]
  refine wpAnyH_take (i := 7) (oi := ({ dst := some 76, op := Op.slice 85 (Operand.tmp 74) (some (Operand.tmp 75)) none none, type := 85, pos := "slices.go:178", after := #[{ on := 5, ground := Ground.data }, { on := 6, ground := Ground.data }], guard := none } : Oper)) (v := ?_) rfl (by kernel_rfl) (by kernel_rfl) (by kernel_rfl) (fun _ _ _ h => h) (Or.inl ⟨by rfl, ?_⟩) (by assumption) ?_
  rotate_left
  · (intro w hSw; (try dsimp only at hSw); go_simp; try with_reducible rfl)
  try simp only [Act.put, List.setIfInBounds_toArray, List.set_cons_zero, List.set_cons_succ]
  refine wpAnyH_ready (rs := [8]) (by kernel_rfl) (by simp) ?_
  refine AllReadyH.cons (o := ({ dst := some 77, op := Op.call { callee := Callee.builtin Builtin.copy, args := #[Operand.tmp 73, Operand.tmp 76], argTypes := #[85, 85] }, type := 3, pos := "slices.go:178", after := #[{ on := 4, ground := Ground.data }, { on := 7, ground := Ground.data }], guard := none } : Oper)) rfl (fun K_ hK => ?_) AllReadyH.nil
  refine step_copy_k 11 rfl (.tmp 73) (.tmp 76) 85 85 rfl 141 Tryz.underlying85 hsz g ((i + 1) * 11) (n - i) (n - i) ⟨g, i * 11, none⟩ (n + 1 - i) (n + 1 - i) ?d1 ?d2 cur0 141 HG0.out (obCells (qs.drop i)) (n - i) HMIN.out ?e1 HSRC.out ?e2 ?e3 cur1 HNEW.out ?_
  case d1 => (simp only [Act.eval, Array.getD_eq_getD_getElem?]; simp; omega)
  case d2 => rfl
  case e1 => exact hlen1
  case e2 => rw [hlen1, HL0.out]; omega
  case e3 => exact ob_one (HO.out.drop1 i)
  intro w2 HG2 HGR2
  refine hK.out _ _ trivial (fun hHeld => ?_)
  clear hK K_
  try simp only [Act.put, List.setIfInBounds_toArray, List.set_cons_zero, List.set_cons_succ]
  refine wpAnyH_done (by kernel_rfl) ?_ _
  have HSRC2 : Hid (∀ j v, (oCells x u)[j]? = some v → w2.cell? ((⟨b, 0, none⟩ : Addr).add j) = some v) := by
    intro j v hj
    have e : (⟨b, 0, none⟩ : Addr).add j = ⟨b, j, none⟩ := by unfold Addr.add; split <;> simp_all
    rw [e, World.cell?_of_block (w := w) (a := ⟨b, j, none⟩) (HGR2.out.block b (Array.getElem?_eq_some_iff.1 HV.out).1 (by simpa using hbg)), cell_of_row w b j _ _ _ HV.out]
    simpa using hj
  go_wp2_with (refine wpList_copy_k 11 rfl (.tmp 80) (.tmp 81) 85 85 rfl 141 Tryz.underlying85 hsz g (i * 11) (n + 1 - i) (n + 1 - i) ⟨b, 0, none⟩ 1 1 rfl rfl cur1 141 HG2.out (oCells x u) 1 (Nat.min_eq_left (by omega)) rfl HSRC2.out ?e2 ?e3 cur2 HNEW2.out ?_)
  case e2 => rw [HL1.out]; simp [oCells]; omega
  case e3 => exact pix_oneB _ _ (own_one HU.out)
  intro w3 HG3 HGR3
  go_wp2_with fail
  go_ret
  have hgr : w.grownBy w3 (some g) := grownBy_trans (grownBy_trans (a := w) (b := w.drew) ⟨rfl, rfl, rfl, Nat.le_refl _, fun _ _ _ => rfl⟩ HGR2.out) HGR3.out
  refine ⟨rfl, ⟨?_, ?_⟩, hgr⟩
  · have hl : (qs.take i ++ (x, u) :: qs.drop i).length = n + 1 := by have := HQ.out; simp; omega
    rw [hl, ← HFIN.out]
    refine full_own HG3.out (HO.out.1.lt g rfl).1 (by unfold maxLen; omega) ?_
    rw [HFIN.out, obCells_length, hl]
  · intro q hq
    rcases List.mem_append.1 hq with hq | hq
    · exact (HO.out.2 q (List.mem_of_mem_take hq)).kept hgr (apartO (HO.out.2 q (List.mem_of_mem_take hq)) HO.out.1 (by decide))
    · rcases List.mem_cons.1 hq with rfl | hq
      · exact HU.out.kept hgr (apartO HU.out HO.out.1 (by decide))
      · exact (HO.out.2 q (List.mem_of_mem_drop hq)).kept hgr (apartO (HO.out.2 q (List.mem_of_mem_drop hq)) HO.out.1 (by decide))

set_option maxHeartbeats 4000000 in
set_option maxRecDepth 100000 in
/-- at the end -/
theorem insertE_any (g n b : Nat) (B : Nat) (qs : List (Po × Value)) (x : Po) (u : Value) (w : World) (hn : n ≤ 1000) (hB : B ≤ w.heap.size) (HO : Hid (OwnOb w B (.slice (some ⟨g, 0, none⟩) n (n + 1)) qs))
    (HV : Hid (w.heap[b]? = some (.cells (oCells x u).toArray 141 (0, 0)))) (HU : Hid (w.ownsRow B 52 2 u x.ps.length (pixCells x.ps))) (HQ : Hid (qs.length = n)) :
    Calls Tryz.prog 105 #[.slice (some ⟨g, 0, none⟩) n (n + 1), .int .i64 (n : Int), .slice (some ⟨b, 0, none⟩) 1 1] w fun e w' =>
      e = .returned (.slice (some ⟨g, 0, none⟩) (n + 1) (n + 1)) ∧ OwnOb w' B (.slice (some ⟨g, 0, none⟩) (n + 1) (n + 1)) (qs ++ [(x, u)]) ∧ w.grownBy w' (some g) := by
  obtain ⟨i0, hi, hz0, hz1, hz2⟩ := info_parts Tryz.infoOb
  have HO3 := HO.out.1
  rw [HQ.out] at HO3
  have hcells : ∀ j v, (oCells x u)[j]? = some v → w.cell? ((⟨b, 0, none⟩ : Addr).add j) = some v := by
    intro j v hj
    have e : (⟨b, 0, none⟩ : Addr).add j = ⟨b, j, none⟩ := by unfold Addr.add; split <;> simp_all
    rw [e, cell_of_row w b j _ _ _ HV.out]
    simpa using hj
  obtain ⟨w3, hr, h1, h2⟩ := run_append_cap (P := Tryz.prog) w B 85 85 141 i0 (.agg #[.int .i64 0, .int .i64 0, .int .i64 0, .int .i64 0, .int .i64 0, .slice none 0 0, .int .i64 0, .int .i64 0, .int .i64 0, .int .i64 0, .bool false]) 11 104 Tryz.underlying85 hi hz0 hz1 hz2 rfl (by decide) g n (n + 1) _ HO3 ⟨b, 0, none⟩ 1 1 (oCells x u) rfl hcells (pix_oneB _ _ (own_one HU.out)) (by unfold maxLen; omega) (by omega) hB (by omega)
  have HO4 := hide_ob (HO.out.app (x := x) HU.out (by rw [HQ.out]; exact h1) h2)
  have HGR := (show Hid (w.grownBy w3 (some g)) from h2)
  clear h1 h2 HO3 hcells
  have hw : (n : Int) + 1 ≤ (n : Int) + 1 := by omega
  go_enter Tryz.func105, Tryz.ntmps105
  go_wp2_with (at_builtin; refine Lib.wpList_append_run _ rfl _ _ _ _ rfl _ _ rfl rfl _ _ hr ?_)
  go_ret
  exact ⟨rfl, HO4.out, HGR.out⟩

/-- at the place that search told -/
theorem insert_any (g n b i : Nat) (B : Nat) (qs : List (Po × Value)) (x : Po) (u : Value) (w : World) (hn : n ≤ 1000) (hi : i ≤ n) (hbg : b ≠ g) (hB : B ≤ w.heap.size) (HO : Hid (OwnOb w B (.slice (some ⟨g, 0, none⟩) n (n + 1)) qs))
    (HV : Hid (w.heap[b]? = some (.cells (oCells x u).toArray 141 (0, 0)))) (HU : Hid (w.ownsRow B 52 2 u x.ps.length (pixCells x.ps))) (HQ : Hid (qs.length = n)) :
    Calls Tryz.prog 105 #[.slice (some ⟨g, 0, none⟩) n (n + 1), .int .i64 (i : Int), .slice (some ⟨b, 0, none⟩) 1 1] w fun e w' =>
      e = .returned (.slice (some ⟨g, 0, none⟩) (n + 1) (n + 1)) ∧ OwnOb w' B (.slice (some ⟨g, 0, none⟩) (n + 1) (n + 1)) (qs.take i ++ (x, u) :: qs.drop i) ∧ w.grownBy w' (some g) := by
  rcases Nat.lt_or_ge i n with h | h
  · exact insertM_any g n b i B qs x u w hn h hbg HO HV HU HQ
  · obtain rfl : i = n := by omega
    rw [List.take_of_length_le (by rw [HQ.out]; exact Nat.le_refl _), List.drop_of_length_le (by rw [HQ.out]; exact Nat.le_refl _)]
    exact insertE_any g i b B qs x u w hn hB HO HV HU HQ
end Go.Proofs.YtceabiodelfdoaaGreatDoor
/- Arithmetic of one pixel in front of another. -/
namespace Fb

/-- what comes through -/
def thru (aa ba : Int) : Int := (255 - aa) * ba / 255

/-- a pixel (av, aa) in front of (bv, ba) -/
def overL (av aa bv ba : Int) : Int × Int :=
  if aa + thru aa ba = 0 then (0, 0) else ((av * aa + bv * thru aa ba) / (aa + thru aa ba), aa + thru aa ba)

theorem mul_bounds (x y a b : Int) (hx : 0 ≤ x) (hxa : x ≤ a) (hy : 0 ≤ y) (hyb : y ≤ b) : 0 ≤ x * y ∧ x * y ≤ a * b :=
  ⟨Int.mul_nonneg hx hy, Int.mul_le_mul hxa hyb hy (by omega)⟩

theorem thru_bounds (aa ba : Int) (h0 : 0 ≤ aa) (h1 : aa ≤ 255) (h2 : 0 ≤ ba) (h3 : ba ≤ 255) :
    0 ≤ (255 - aa) * ba ∧ (255 - aa) * ba ≤ 65025 ∧ 0 ≤ thru aa ba ∧ thru aa ba ≤ 255 - aa ∧ thru aa ba ≤ ba ∧ ba - aa ≤ thru aa ba := by
  have a := mul_bounds (255 - aa) ba (255 - aa) 255 (by omega) (by omega) h2 h3
  have b := mul_bounds (255 - aa) ba 255 ba (by omega) (by omega) h2 (by omega)
  have c : (255 - aa) * ba = 255 * ba - aa * ba := Int.sub_mul ..
  have d := mul_bounds aa ba aa 255 h0 (by omega) h2 h3
  unfold thru
  generalize (255 - aa) * ba = m at *
  generalize aa * ba = k at *
  omega

theorem over_bounds (av aa bv ba : Int) (p0 : 0 ≤ av) (p1 : av ≤ 255) (h0 : 0 ≤ aa) (h1 : aa ≤ 255) (q0 : 0 ≤ bv) (q1 : bv ≤ 255) (h2 : 0 ≤ ba) (h3 : ba ≤ 255) :
    aa ≤ (overL av aa bv ba).2 ∧ ba ≤ (overL av aa bv ba).2 ∧ (overL av aa bv ba).2 ≤ 255 ∧ 0 ≤ (overL av aa bv ba).2 ∧ 0 ≤ (overL av aa bv ba).1 ∧ (overL av aa bv ba).1 ≤ 255 ∧
    (0 < (overL av aa bv ba).2 → min av bv ≤ (overL av aa bv ba).1 ∧ (overL av aa bv ba).1 ≤ max av bv) ∧ (aa = 255 → overL av aa bv ba = (av, aa)) ∧ (aa = 0 → overL av aa bv ba = (bv, ba) ∨ ba = 0 ∧ overL av aa bv ba = (0, 0)) := by
  obtain ⟨_, _, t0, t1, t2, t3⟩ := thru_bounds aa ba h0 h1 h2 h3
  have z1 : aa = 255 → thru aa ba = 0 := by intro e; omega
  have z0 : aa = 0 → thru aa ba = ba := by intro e; omega
  unfold overL
  generalize thru aa ba = t at *
  by_cases hc : aa + t = 0
  · simp only [hc, if_true]
    refine ⟨by omega, by omega, by omega, by omega, by omega, by omega, by omega, by omega, fun h => .inr ⟨by omega, trivial⟩⟩
  · simp only [hc, if_false]
    have hp : 0 < aa + t := by omega
    have hlo : min av bv * (aa + t) ≤ av * aa + bv * t := by
      rw [Int.mul_add]
      have := Int.mul_le_mul_of_nonneg_right (show min av bv ≤ av by omega) h0
      have := Int.mul_le_mul_of_nonneg_right (show min av bv ≤ bv by omega) t0
      omega
    have hhi : av * aa + bv * t ≤ max av bv * (aa + t) := by
      rw [Int.mul_add]
      have := Int.mul_le_mul_of_nonneg_right (show av ≤ max av bv by omega) h0
      have := Int.mul_le_mul_of_nonneg_right (show bv ≤ max av bv by omega) t0
      omega
    have k0 := Int.le_ediv_of_mul_le hp hlo
    have k1 := Int.ediv_le_of_le_mul hp hhi
    refine ⟨by omega, by omega, by omega, by omega, by omega, by omega, fun _ => ⟨k0, k1⟩, fun h => ?_, fun h => .inl ?_⟩
    · have := z1 h
      subst this h
      simp only [Int.mul_zero, Int.add_zero]
      rw [Int.mul_ediv_cancel _ (by omega)]
    · have := z0 h
      subst this h
      simp only [Int.mul_zero, Int.zero_add]
      rw [Int.mul_ediv_cancel _ (by omega)]

theorem over_sum (av aa bv t : Int) (p0 : 0 ≤ av) (p1 : av ≤ 255) (h0 : 0 ≤ aa) (h1 : aa ≤ 255) (q0 : 0 ≤ bv) (q1 : bv ≤ 255) (t0 : 0 ≤ t) (t1 : t ≤ 255) :
    0 ≤ av * aa ∧ av * aa ≤ 65025 ∧ 0 ≤ bv * t ∧ bv * t ≤ 65025 := by
  have a := mul_bounds av aa 255 255 p0 p1 h0 h1
  have b := mul_bounds bv t 255 255 q0 q1 t0 t1
  omega
end Fb
/- Walk of blend.Over. -/
namespace Go.Proofs.YtceabiodelfdoaaGreatDoor
open Go.RowKit

def pixV (v a : Int) : Value := .agg #[.int .i64 v, .int .i64 a]

set_option maxHeartbeats 1000000 in
set_option maxRecDepth 100000 in
theorem over_any (av aa bv ba : Int) (p0 : 0 ≤ av) (p1 : av ≤ 255) (h0 : 0 ≤ aa) (h1 : aa ≤ 255) (q0 : 0 ≤ bv) (q1 : bv ≤ 255) (h2 : 0 ≤ ba) (h3 : ba ≤ 255) (W : World) (v a : Int) (HR : Hid (Fb.overL av aa bv ba = (v, a))) :
    Calls Tryz.prog 101 #[pixV av aa, pixV bv ba] W fun e w' => e = .returned (pixV v a) ∧ Below W.heap.size W w' := by
  have hR := HR.out
  clear HR
  obtain ⟨m0, m1, t0, t1, t2, t3⟩ := Fb.thru_bounds aa ba h0 h1 h2 h3
  unfold Fb.overL at hR
  have hthru : (255 - aa) * ba / 255 = Fb.thru aa ba := rfl
  generalize Fb.thru aa ba = t at *
  obtain ⟨m, hm⟩ : ∃ m, (255 - aa) * ba = m := ⟨_, rfl⟩
  rw [hm] at m0 m1 hthru
  have hq : m.tdiv 255 = t := by rw [Int.tdiv_eq_ediv_of_nonneg m0, hthru]
  obtain ⟨s0, s1, s2, s3⟩ := Fb.over_sum av aa bv t p0 p1 h0 h1 q0 q1 t0 (by omega)
  obtain ⟨x, hx⟩ : ∃ m, av * aa = m := ⟨_, rfl⟩
  obtain ⟨y, hy⟩ : ∃ m, bv * t = m := ⟨_, rfl⟩
  rw [hx] at s0 s1 hR
  rw [hy] at s2 s3 hR
  
  unfold pixV
  by_cases hc : aa + t = 0
  · rw [if_pos hc] at hR
    simp only [Prod.mk.injEq] at hR
    obtain ⟨rfl, rfl⟩ := hR
    have e1 : aa = 0 := by omega
    have e2 : ba = 0 := by omega
    subst e1 e2
    clear hm hq hx hy hc m0 m1 s0 s1 s2 s3 t0 t1 h0 h1 h2 h3
    go_enter Tryz.func101, Tryz.ntmps101
    go_wp2
    exact bodyPost_ret (v := .agg #[.int .i64 0, .int .i64 0]) (by simp [results, Tryz.results101, go_sem]) rfl ⟨rfl, ((((Below.refl _ _).alloc (Nat.le_refl _) _).alloc (by simp) _).alloc (by simp; omega) _)⟩
  · rw [if_neg hc] at hR
    simp only [Prod.mk.injEq] at hR
    obtain ⟨hv, rfl⟩ := hR
    have hd : (x + y).tdiv (aa + t) = v := by rw [Int.tdiv_eq_ediv_of_nonneg (by omega), hv]
    have hlo : 0 ≤ v := by rw [← hv]; exact Int.ediv_nonneg (by omega) (by omega)
    have hhi : v ≤ 200000 := by have := Int.ediv_le_self (aa + t) (show 0 ≤ x + y by omega); omega
    clear hv
    go_enter Tryz.func101, Tryz.ntmps101
    go_wp2
    exact bodyPost_ret (v := .agg #[.int .i64 v, .int .i64 (aa + t)]) (by simp [results, Tryz.results101, go_sem]) rfl ⟨rfl, ((((Below.refl _ _).alloc (Nat.le_refl _) _).alloc (by simp) _).alloc (by simp; omega) _)⟩
end Go.Proofs.YtceabiodelfdoaaGreatDoor
/- Walks of blend: own, whole, and what becomes of a pixel. -/
namespace Go.Proofs.YtceabiodelfdoaaGreatDoor
open Go.RowKit

def picV (W H : Int) (v : Value) : Value := .agg #[.int .i64 W, .int .i64 H, v]

set_option maxHeartbeats 2000000 in
set_option maxRecDepth 100000 in
theorem bown_any (W H : Int) (v : Value) (ps : List (Int × Int)) (w : World) (hps : ps.length ≤ 100) (hne : ps ≠ []) (HR : Hid (RdP w v ps)) :
    Calls Tryz.prog 66 #[picV W H v] w fun e w' => ∃ v', e = .returned (picV W H v') ∧ w'.ownsRow (w.heap.size + 2) 52 2 v' ps.length (pixCells ps) ∧ Below w.heap.size w w' := by
  obtain ⟨a, cap, hv, hlc, hcap, _⟩ := HR.out
  obtain ⟨n, HN⟩ : ∃ n, Hid (ps.length = n) := ⟨_, (rfl : _ = _)⟩
  rw [HN.out] at hv
  subst hv
  unfold picV
  have T0 := (three_start w (.int .i64 W) (.int .i64 H) (.slice a n cap) 46).alloc (.cells #[.int .i64 0, .int .i64 0, .slice none 0 0] 46)
  have T1 := three_begin (w.alloc (.cells #[.int .i64 W, .int .i64 H, .slice a n cap] 46)) (.int .i64 0) (.int .i64 0) (.slice none 0 0) 46 (w.heap.size + 1) (by simp)
  have hb0 : Below w.heap.size w ((w.alloc (.cells #[.int .i64 W, .int .i64 H, .slice a n cap] 46)).alloc (.cells #[.int .i64 0, .int .i64 0, .slice none 0 0] 46)) := ((Below.refl _ _).alloc (Nat.le_refl _) _).alloc (by simp) _
  have HR0 : Hid (RdP ((w.alloc (.cells #[.int .i64 W, .int .i64 H, .slice a n cap] 46)).alloc (.cells #[.int .i64 0, .int .i64 0, .slice none 0 0] 46)) (.slice a n cap) ps) := HR.out.on hb0
  go_enter Tryz.func66, Tryz.ntmps66
  go_wp2_with fail
  refine (clone_anyB _ ps _ hps hne HR0).mono ?_
  rintro e w1 ⟨v', rfl, ho, hb1⟩
  have HO : Hid (w1.ownsRow (w.heap.size + 2) 52 2 v' ps.length (pixCells ps)) := by unfold Hid; simpa using ho
  rw [HN.out] at HO
  obtain ⟨a', c', hv'⟩ := own_any HO.out
  subst hv'
  obtain ⟨c0, c1, c2, f0, f1, f2, lt⟩ := T0.on hb1
  obtain ⟨d0, d1, d2, g0, g1, g2, lt2⟩ := T1.on hb1
  have hbb := hb0.trans (hb1.mono hb0.size)
  clear ho hb0 hb1 T0 T1 HR0
  go_wp2_with fail
  refine bodyPost_ret (v := .agg #[.int .i64 W, .int .i64 H, .slice a' n c']) (by simp [results, Tryz.results66, go_sem, d0, d1, d2]) rfl ⟨_, rfl, ?_, ?_⟩
  · rw [HN.out]
    refine ownsRow_setCell_below (ownsRow_setCell_below (ownsRow_setCell_below (ownsRow_setCell_below (own_mono HO.out (Nat.le_refl _)) ?_ _) ?_ _) ?_ _) ?_ _
    all_goals (simp; try omega)
  · exact (((hbb.setCell (by simp) _).setCell (by simp) _).setCell (by simp) _).setCell (by simp) _

set_option maxRecDepth 100000 in
theorem whole_any (W H : Int) (a : Option Addr) (n cap : Nat) (w : World) :
    Calls Tryz.prog 106 #[.agg #[.int .i64 W, .int .i64 H, .slice a n cap]] w fun e w' => e = .returned (rectV 0 0 W H) ∧ Below w.heap.size w w' := by
  unfold rectV
  go_enter Tryz.func106, Tryz.ntmps106
  go_wp2
  refine bodyPost_ret (v := .agg #[.int .i64 0, .int .i64 0, .int .i64 W, .int .i64 H]) (by simp [results, Tryz.results106, go_sem]) rfl ⟨rfl, ?_⟩
  exact ((Below.refl _ _).alloc (Nat.le_refl _) _).alloc (by simp) _

def pixOk (p : Int × Int) : Prop := 0 ≤ p.1 ∧ p.1 ≤ 255 ∧ 0 ≤ p.2 ∧ p.2 ≤ 255

set_option maxRecDepth 100000 in
theorem becL_any (p q r : Int × Int) (hp : pixOk p) (hq : pixOk q) (HR : Hid (Fb.overL q.1 q.2 p.1 p.2 = r)) (w : World) :
    Calls Tryz.prog 100 #[pixV p.1 p.2, pixV q.1 q.2] w fun e w' => e = .returned (pixV r.1 r.2) ∧ Below w.heap.size w w' := by
  obtain ⟨a, b⟩ := p
  obtain ⟨c, d⟩ := q
  obtain ⟨v, u⟩ := r
  obtain ⟨p0, p1, p2, p3⟩ := hp
  obtain ⟨q0, q1, q2, q3⟩ := hq
  simp only at p0 p1 p2 p3 q0 q1 q2 q3 HR ⊢
  have T2 := two_startB ((w.alloc (.cells #[.int .i64 a, .int .i64 b] 52)).alloc (.cells #[.int .i64 c, .int .i64 d] 52)) (.int .i64 0) (.int .i64 0) 52 (w.heap.size + 1 + 1) (by simp)
  have hb0 : Below w.heap.size w (((w.alloc (.cells #[.int .i64 a, .int .i64 b] 52)).alloc (.cells #[.int .i64 c, .int .i64 d] 52)).alloc (.cells #[.int .i64 0, .int .i64 0] 52)) :=
    ((((Below.refl _ _).alloc (Nat.le_refl _) _).alloc (by simp) _).alloc (by simp; omega) _)
  unfold pixV
  go_enter Tryz.func100, Tryz.ntmps100
  go_wp2_with fail
  refine (over_any c d a b q0 q1 q2 q3 p0 p1 p2 p3 _ v u HR).mono ?_
  unfold pixV
  rintro e w1 ⟨rfl, hb1⟩
  obtain ⟨c0, c1, f0, f1, lt⟩ := T2.on hb1
  have hbb := hb0.trans (hb1.mono hb0.size)
  clear hb0 hb1 T2
  go_wp2_with fail
  refine bodyPost_ret (v := .agg #[.int .i64 v, .int .i64 u]) (by simp [results, Tryz.results100, go_sem, c0, c1]) rfl ⟨rfl, ?_⟩
  exact (hbb.setCell (show w.heap.size ≤ w.heap.size + 1 + 1 by omega) _).setCell (show w.heap.size ≤ w.heap.size + 1 + 1 by omega) _

/-- two pixels added -/
def addP (p q : Int × Int) : Int × Int := ((p.1 + q.1) % 256, (p.2 + q.2) % 256)

set_option maxRecDepth 100000 in
theorem becA_any (p q r : Int × Int) (hp : pixOk p) (hq : pixOk q) (HR : Hid (addP p q = r)) (w : World) :
    Calls Tryz.prog 107 #[pixV p.1 p.2, pixV q.1 q.2] w fun e w' => e = .returned (pixV r.1 r.2) ∧ Below w.heap.size w w' := by
  obtain ⟨a, b⟩ := p
  obtain ⟨c, d⟩ := q
  obtain ⟨v, u⟩ := r
  obtain ⟨p0, p1, p2, p3⟩ := hp
  obtain ⟨q0, q1, q2, q3⟩ := hq
  simp only at p0 p1 p2 p3 q0 q1 q2 q3 ⊢
  have h := HR.out
  unfold addP at h
  simp only [Prod.mk.injEq] at h
  obtain ⟨h1, h2⟩ := h
  have e1 : (a + c).tmod 256 = v := by rw [Int.tmod_eq_emod_of_nonneg (by omega)]; exact h1
  have e2 : (b + d).tmod 256 = u := by rw [Int.tmod_eq_emod_of_nonneg (by omega)]; exact h2
  have b1 : 0 ≤ v ∧ v ≤ 255 := by omega
  have b2 : 0 ≤ u ∧ u ≤ 255 := by omega
  obtain ⟨b1, b3⟩ := b1
  obtain ⟨b2, b4⟩ := b2
  clear h1 h2 HR
  unfold pixV
  go_enter Tryz.func107, Tryz.ntmps107
  go_wp2
  refine bodyPost_ret (v := .agg #[.int .i64 v, .int .i64 u]) (by simp [results, Tryz.results107, go_sem]) rfl ⟨rfl, ?_⟩
  exact ((((Below.refl _ _).alloc (Nat.le_refl _) _).alloc (by simp) _).alloc (by simp; omega) _)

set_option maxRecDepth 100000 in
theorem becP_any (p q r : Int × Int) (_hp : pixOk p) (_hq : pixOk q) (HR : Hid (q = r)) (w : World) :
    Calls Tryz.prog 108 #[pixV p.1 p.2, pixV q.1 q.2] w fun e w' => e = .returned (pixV r.1 r.2) ∧ Below w.heap.size w w' := by
  obtain rfl := HR.out
  obtain ⟨a, b⟩ := p
  obtain ⟨c, d⟩ := q
  unfold pixV
  simp only
  go_enter Tryz.func108, Tryz.ntmps108
  go_wp2
  refine bodyPost_ret (v := .agg #[.int .i64 c, .int .i64 d]) (by simp [results, Tryz.results108, go_sem]) rfl ⟨rfl, ?_⟩
  exact ((((Below.refl _ _).alloc (Nat.le_refl _) _).alloc (by simp) _).alloc (by simp; omega) _)
end Go.Proofs.YtceabiodelfdoaaGreatDoor
/- Walks: objects.Fresh, objects.Get. -/
namespace Go.Proofs.YtceabiodelfdoaaGreatDoor
open Go.RowKit

/-- an object, its pixels at u -/
theorem hid_of2 {p : Prop} (h : p) : Hid p := h
def poV (x : Po) (u : Value) : Value := objV x.id x.x x.y x.pw x.ph u x.cx x.cy x.cw x.ch x.sh

set_option maxHeartbeats 2000000 in
set_option maxRecDepth 100000 in
theorem fresh_any (id pw ph : Int) (u : Value) (ps : List (Int × Int)) (w : World) (hps : ps.length ≤ 100) (HR : Hid (RdP w u ps)) :
    Calls Tryz.prog 92 #[.int .i64 id, picV pw ph u] w fun e w' => ∃ u', e = .returned (objV id 0 0 pw ph u' 0 0 20 20 true) ∧ w'.ownsRow (w.heap.size + 2) 52 2 u' ps.length (pixCells ps) ∧ Below w.heap.size w w' := by
  unfold objV picV
  obtain ⟨au, cu, hvu, hlu, hcu, _⟩ := HR.out
  obtain ⟨nu, HNU⟩ : ∃ n, Hid (ps.length = n) := ⟨_, (rfl : _ = _)⟩
  rw [HNU.out] at hvu
  subst hvu
  clear hlu hcu
  have E1 := eleven_start (w.alloc (.cells #[.int .i64 pw, .int .i64 ph, .slice au nu cu] 46)) (.int .i64 0) (.int .i64 0) (.int .i64 0) (.int .i64 0) (.int .i64 0) (.slice none 0 0) (.int .i64 0) (.int .i64 0) (.int .i64 0) (.int .i64 0) (.bool false) 141 (w.heap.size + 1) (by simp)
  have hb0 : Below w.heap.size w ((w.alloc (.cells #[.int .i64 pw, .int .i64 ph, .slice au nu cu] 46)).alloc (.cells #[.int .i64 0, .int .i64 0, .int .i64 0, .int .i64 0, .int .i64 0, .slice none 0 0, .int .i64 0, .int .i64 0, .int .i64 0, .int .i64 0, .bool false] 141)) := ((Below.refl _ _).alloc (Nat.le_refl _) _).alloc (by simp) _
  have HR0 : Hid (RdP ((w.alloc (.cells #[.int .i64 pw, .int .i64 ph, .slice au nu cu] 46)).alloc (.cells #[.int .i64 0, .int .i64 0, .int .i64 0, .int .i64 0, .int .i64 0, .slice none 0 0, .int .i64 0, .int .i64 0, .int .i64 0, .int .i64 0, .bool false] 141)) (.slice au nu cu) ps) := HR.out.on hb0
  go_enter Tryz.func92, Tryz.ntmps92
  go_wp2_with fail
  refine (oown_any id 0 0 pw ph _ ps 0 0 20 20 true _ hps HR0).mono ?_
  unfold objV
  rintro e w1 ⟨v', rfl, ho, hb1⟩
  have HO : Hid (w1.ownsRow (w.heap.size + 2) 52 2 v' ps.length (pixCells ps)) := own_mono ho (by simp)
  rw [HNU.out] at HO
  obtain ⟨a', c', hv'⟩ := own_any HO.out
  subst hv'
  obtain ⟨d0, d1, d2, d3, d4, d5, d6, d7, d8, d9, d10, g0, g1, g2, g3, g4, g5, g6, g7, g8, g9, g10, lt2⟩ := E1.on hb1
  have hbb := hb0.trans (hb1.mono hb0.size)
  clear ho hb0 hb1 E1 HR0
  go_wp2_with fail
  refine bodyPost_ret (v := .agg #[.int .i64 id, .int .i64 0, .int .i64 0, .int .i64 pw, .int .i64 ph, .slice a' nu c', .int .i64 0, .int .i64 0, .int .i64 20, .int .i64 20, .bool true]) (by simp [results, Tryz.results92, go_sem, d0, d1, d2, d3, d4, d5, d6, d7, d8, d9, d10]) rfl ⟨_, rfl, ?_, ?_⟩
  · rw [HNU.out]
    repeat (refine ownsRow_setCell_below ?_ (by simp; try omega) _)
    exact HO.out
  · repeat (refine Below.setCell ?_ (by simp) _)
    exact hbb

/-- what Get answers -/
def GetP (os : List Po) (t : Int) (w : World) (e : Ending) (w' : World) : Prop :=
  Below w.heap.size w w' ∧ ((∃ i u, i < os.length ∧ (os.getD i po0).id = t ∧ e = .returned (.tuple #[poV (os.getD i po0) u, .bool true]) ∧ w'.ownsRow (w.heap.size + 1) 52 2 u (os.getD i po0).ps.length (pixCells (os.getD i po0).ps)) ∨
    ((∀ j, j < os.length → (os.getD j po0).id ≠ t) ∧ e = .returned (.tuple #[poV po0 (.slice none 0 0), .bool false])))

set_option maxHeartbeats 2000000 in
set_option maxRecDepth 100000 in
theorem get_any (v : Value) (os : List Po) (t : Int) (w : World) (hos : os.length ≤ 1000) (hps : ∀ j, j < os.length → (os.getD j po0).ps.length ≤ 100) (HS : Hid (SortO os)) (HR : Hid (RdO w v os)) :
    Calls Tryz.prog 93 #[v, .int .i64 t] w fun e w' => GetP os t w e w' := by
  obtain ⟨a, cap, hv, hl, hcap⟩ := HR.out.shape
  have HPS : Hid (∀ j, j < os.length → (os.getD j po0).ps.length ≤ 100) := hps
  obtain ⟨n, HN⟩ : ∃ n, Hid (os.length = n) := ⟨_, (rfl : _ = _)⟩
  rw [HN.out] at hv hl
  clear hps
  have HR2 := HR
  have hbz : Below w.heap.size w (w.alloc (.cells #[.int .i64 0, .int .i64 0, .int .i64 0, .int .i64 0, .int .i64 0, .slice none 0 0, .int .i64 0, .int .i64 0, .int .i64 0, .int .i64 0, .bool false] 141)) := (Below.refl _ _).alloc (Nat.le_refl _) _
  have E1 := eleven_start w (.int .i64 0) (.int .i64 0) (.int .i64 0) (.int .i64 0) (.int .i64 0) (.slice none 0 0) (.int .i64 0) (.int .i64 0) (.int .i64 0) (.int .i64 0) (.bool false) 141 w.heap.size rfl
  have HR0 : Hid (RdO _ _ _) := HR2.out.on hbz
  subst hv
  go_enter Tryz.func93, Tryz.ntmps93
  go_wp2_with fail
  refine (search_any _ os t _ hos HS HR0).mono ?_
  rintro e w1 ⟨i, b, rfl, HSR, HB, hb1⟩
  have HB' := hid_of2 HB
  have HSR' := hid_of2 HSR
  have HR1 : Hid (RdO w1 (.slice a n cap) os) := HR0.out.on hb1
  have hbb := hbz.trans (hb1.mono hbz.size)
  obtain ⟨d0, d1, d2, d3, d4, d5, d6, d7, d8, d9, d10, g0, g1, g2, g3, g4, g5, g6, g7, g8, g9, g10, lt2⟩ := E1.on hb1
  clear HB HSR HR0 HR2 hb1 hbz E1
  cases b with
  | false =>
    have HNO : Hid (∀ j, j < os.length → (os.getD j po0).id ≠ t) := by
      intro j hj he
      rcases Nat.lt_trichotomy j i with h | h | h
      · have := HSR'.out.lo j h
        omega
      · subst h
        have := HB'.out.2 ⟨hj, he⟩
        cases this
      · have h1 := HSR'.out.hi i (Nat.le_refl _) (by omega)
        have h2 := HS.out i j h hj
        omega
    go_wp2_with fail
    refine bodyPost_ret (v := .tuple #[.agg #[.int .i64 0, .int .i64 0, .int .i64 0, .int .i64 0, .int .i64 0, .slice none 0 0, .int .i64 0, .int .i64 0, .int .i64 0, .int .i64 0, .bool false], .bool false]) (by simp [results, Tryz.results93, go_sem, d0, d1, d2, d3, d4, d5, d6, d7, d8, d9, d10]) rfl ⟨?_, .inr ⟨HNO.out, rfl⟩⟩
    repeat (refine Below.setCell ?_ (by simp) _)
    exact hbb
  | true =>
    obtain ⟨hi, hid⟩ := HB'.out.1 rfl
    have hin : i < n := by rw [← HN.out]; exact hi
    obtain ⟨o, HX⟩ : ∃ o, Hid (os.getD i po0 = o) := ⟨_, (rfl : _ = _)⟩
    have hpl : o.ps.length ≤ 100 := by rw [← HX.out]; exact HPS.out i hi
    obtain ⟨g, p, ua, q, uc, rfl, hg, OC, HU, HM⟩ := HR1.out.at hin HX
    have HI := hid_of2 (show i < os.length ∧ o.id = t by rw [← HX.out]; exact ⟨hi, hid⟩)
    obtain ⟨c0, c1, c2, c3, c4, c5, c6, c7, c8, c9, c10⟩ := OC
    obtain ⟨id, x, y, pw, ph, ps, cx, cy, cw, ch, sh⟩ := o
    simp only at c0 c1 c2 c3 c4 c5 c6 c7 c8 c9 c10 HU HM hpl
    have hki0 : (0 : Int) ≤ (i : Int) := by omega
    have hki1 : (i : Int) < (n : Int) := by omega
    clear hi hid
    go_wp2_with fail
    refine (oown_any id x y pw ph _ ps cx cy cw ch sh _ hpl HU).mono ?_
    unfold objV
    rintro e w2 ⟨u', rfl, hu, hb2⟩
    have HO : Hid (w2.ownsRow (w.heap.size + 1) 52 2 u' ps.length (pixCells ps)) := own_mono hu (by omega)
    obtain ⟨a', c', hv'⟩ := own_any HO.out
    rw [HM.out] at hv'
    subst hv'
    have hbb2 := hbb.trans (hb2.mono hbb.size)
    have e0 := (hb2.cell (p := ⟨w.heap.size, 0, none⟩) lt2).trans d0
    have e1 := (hb2.cell (p := ⟨w.heap.size, 1, none⟩) lt2).trans d1
    have e2 := (hb2.cell (p := ⟨w.heap.size, 2, none⟩) lt2).trans d2
    have e3 := (hb2.cell (p := ⟨w.heap.size, 3, none⟩) lt2).trans d3
    have e4 := (hb2.cell (p := ⟨w.heap.size, 4, none⟩) lt2).trans d4
    have e5 := (hb2.cell (p := ⟨w.heap.size, 5, none⟩) lt2).trans d5
    have e6 := (hb2.cell (p := ⟨w.heap.size, 6, none⟩) lt2).trans d6
    have e7 := (hb2.cell (p := ⟨w.heap.size, 7, none⟩) lt2).trans d7
    have e8 := (hb2.cell (p := ⟨w.heap.size, 8, none⟩) lt2).trans d8
    have e9 := (hb2.cell (p := ⟨w.heap.size, 9, none⟩) lt2).trans d9
    have e10 := (hb2.cell (p := ⟨w.heap.size, 10, none⟩) lt2).trans d10
    have f0 := (hb2.frozen (p := ⟨w.heap.size, 0, none⟩) lt2).trans g0
    have f1 := (hb2.frozen (p := ⟨w.heap.size, 1, none⟩) lt2).trans g1
    have f2 := (hb2.frozen (p := ⟨w.heap.size, 2, none⟩) lt2).trans g2
    have f3 := (hb2.frozen (p := ⟨w.heap.size, 3, none⟩) lt2).trans g3
    have f4 := (hb2.frozen (p := ⟨w.heap.size, 4, none⟩) lt2).trans g4
    have f5 := (hb2.frozen (p := ⟨w.heap.size, 5, none⟩) lt2).trans g5
    have f6 := (hb2.frozen (p := ⟨w.heap.size, 6, none⟩) lt2).trans g6
    have f7 := (hb2.frozen (p := ⟨w.heap.size, 7, none⟩) lt2).trans g7
    have f8 := (hb2.frozen (p := ⟨w.heap.size, 8, none⟩) lt2).trans g8
    have f9 := (hb2.frozen (p := ⟨w.heap.size, 9, none⟩) lt2).trans g9
    have f10 := (hb2.frozen (p := ⟨w.heap.size, 10, none⟩) lt2).trans g10
    clear hu hb2 hbb d0 d1 d2 d3 d4 d5 d6 d7 d8 d9 d10 g0 g1 g2 g3 g4 g5 g6 g7 g8 g9 g10 lt2
    go_wp2_with fail
    refine bodyPost_ret (v := .tuple #[.agg #[.int .i64 id, .int .i64 x, .int .i64 y, .int .i64 pw, .int .i64 ph, .slice a' q c', .int .i64 cx, .int .i64 cy, .int .i64 cw, .int .i64 ch, .bool sh], .bool true]) (by simp [results, Tryz.results93, go_sem, e0, e1, e2, e3, e4, e5, e6, e7, e8, e9, e10]) rfl ⟨?_, .inl ⟨i, .slice a' q c', HI.out.1, by rw [HX.out]; exact HI.out.2, by rw [HX.out]; rfl, ?_⟩⟩
    · repeat (refine Below.setCell ?_ (by simp) _)
      exact hbb2
    · rw [HX.out]
      repeat (refine ownsRow_setCell_below ?_ (by simp; try omega) _)
      exact HO.out
end Go.Proofs.YtceabiodelfdoaaGreatDoor
/- Walk: objects.Set. -/
namespace Go.Proofs.YtceabiodelfdoaaGreatDoor
open Go.RowKit

/-- an object more, or instead of another one -/
def setO : List Po → Po → List Po
  | [], x => [x]
  | a :: r, x => if x.id < a.id then x :: a :: r else if a.id = x.id then x :: r else a :: setO r x

theorem getD_zero (a : Po) (r : List Po) : (a :: r).getD 0 po0 = a := rfl
theorem getD_succ (a : Po) (r : List Po) (j : Nat) : (a :: r).getD (j + 1) po0 = r.getD j po0 := rfl
theorem setO_put (x : Po) : ∀ (os : List Po) (i : Nat), i < os.length → (∀ j, j < i → (os.getD j po0).id < x.id) → (os.getD i po0).id = x.id → setO os x = os.set i x := by
  intro os
  induction os with
  | nil => intro i h; simp at h
  | cons a r ih =>
    intro i hl hlo h
    cases i with
    | zero =>
      rw [getD_zero] at h
      simp [setO, h]
    | succ i =>
      have h0 := hlo 0 (by omega)
      rw [getD_zero] at h0
      rw [getD_succ] at h
      have ih' := ih i (by simpa using hl) (fun j hj => by have := hlo (j + 1) (by omega); rw [getD_succ] at this; exact this) h
      simp only [setO, List.set_cons_succ]
      rw [if_neg (by omega), if_neg (by omega), ih']
theorem setO_ins (x : Po) : ∀ (os : List Po) (i : Nat), i ≤ os.length → (∀ j, j < i → (os.getD j po0).id < x.id) → (∀ j, i ≤ j → j < os.length → x.id < (os.getD j po0).id) → setO os x = os.take i ++ x :: os.drop i := by
  intro os
  induction os with
  | nil =>
    intro i hi _ _
    simp [setO]
  | cons a r ih =>
    intro i hl hlo hhi
    cases i with
    | zero =>
      have h0 := hhi 0 (by omega) (by simp)
      rw [getD_zero] at h0
      simp [setO, h0]
    | succ i =>
      have h0 := hlo 0 (by omega)
      rw [getD_zero] at h0
      have ih' := ih i (by simpa using hl) (fun j hj => by have := hlo (j + 1) (by omega); rw [getD_succ] at this; exact this) (fun j h1 h2 => by have := hhi (j + 1) (by omega) (by simpa using h2); rw [getD_succ] at this; exact this)
      simp only [setO, List.take_succ_cons, List.drop_succ_cons, List.cons_append]
      rw [if_neg (by omega), if_neg (by omega), ih']

theorem set_app {α : Type} (a b : List α) (k n : Nat) (v : α) (h : a.length = n) : (a ++ b).set (n + k) v = a ++ b.set k v := by
  subst h
  rw [List.set_append_right _ _ (by omega)]
  simp
/-- eleven cells from a place on -/
def put11 (L : List Value) (p : Nat) (a0 a1 a2 a3 a4 a5 a6 a7 a8 a9 a10 : Value) : List Value :=
  ((((((((((L.set p a0).set (p + 1) a1).set (p + 2) a2).set (p + 3) a3).set (p + 4) a4).set (p + 5) a5).set (p + 6) a6).set (p + 7) a7).set (p + 8) a8).set (p + 9) a9).set (p + 10) a10
theorem put11_zero (b0 b1 b2 b3 b4 b5 b6 b7 b8 b9 b10 : Value) (r : List Value) (a0 a1 a2 a3 a4 a5 a6 a7 a8 a9 a10 : Value) : put11 (b0 :: b1 :: b2 :: b3 :: b4 :: b5 :: b6 :: b7 :: b8 :: b9 :: b10 :: r) 0 a0 a1 a2 a3 a4 a5 a6 a7 a8 a9 a10 = a0 :: a1 :: a2 :: a3 :: a4 :: a5 :: a6 :: a7 :: a8 :: a9 :: a10 :: r := rfl
theorem put11_app (a b : List Value) (n k : Nat) (h : a.length = n) (a0 a1 a2 a3 a4 a5 a6 a7 a8 a9 a10 : Value) : put11 (a ++ b) (n + k) a0 a1 a2 a3 a4 a5 a6 a7 a8 a9 a10 = a ++ put11 b k a0 a1 a2 a3 a4 a5 a6 a7 a8 a9 a10 := by
  unfold put11
  simp only [Nat.add_assoc]
  rw [set_app a b k n _ h, set_app a _ (k + 1) n _ h, set_app a _ (k + 2) n _ h, set_app a _ (k + 3) n _ h, set_app a _ (k + 4) n _ h, set_app a _ (k + 5) n _ h, set_app a _ (k + 6) n _ h, set_app a _ (k + 7) n _ h, set_app a _ (k + 8) n _ h, set_app a _ (k + 9) n _ h, set_app a _ (k + 10) n _ h]
theorem obCells_set (x : Po) (u : Value) : ∀ (qs : List (Po × Value)) (j : Nat), j < qs.length →
    put11 (obCells qs) (j * 11) (.int .i64 x.id) (.int .i64 x.x) (.int .i64 x.y) (.int .i64 x.pw) (.int .i64 x.ph) u (.int .i64 x.cx) (.int .i64 x.cy) (.int .i64 x.cw) (.int .i64 x.ch) (.bool x.sh) = obCells (qs.set j (x, u)) := by
  intro qs
  induction qs with
  | nil => intro j h; simp at h
  | cons q r ih =>
    obtain ⟨f, z⟩ := q
    intro j h
    cases j with
    | zero => exact put11_zero _ _ _ _ _ _ _ _ _ _ _ _ _ _ _ _ _ _ _ _ _ _ _
    | succ j =>
      have ih' := ih j (by simpa using h)
      simp only [obCells, List.set_cons_succ]
      rw [show (j + 1) * 11 = 11 + j * 11 by omega, put11_app (oCells f z) _ 11 (j * 11) rfl, ih']

theorem OwnOb.put {w : World} {B g n cap : Nat} {qs : List (Po × Value)} (h : OwnOb w B (.slice (some ⟨g, 0, none⟩) n cap) qs) {j : Nat} (hj : j < qs.length) {x : Po} {u : Value} (hu : w.ownsRow B 52 2 u x.ps.length (pixCells x.ps)) :
    OwnOb (((((((((((w.setCell ⟨g, j * 11, none⟩ (.int .i64 x.id)).setCell ⟨g, j * 11 + 1, none⟩ (.int .i64 x.x)).setCell ⟨g, j * 11 + 2, none⟩ (.int .i64 x.y)).setCell ⟨g, j * 11 + 3, none⟩ (.int .i64 x.pw)).setCell ⟨g, j * 11 + 4, none⟩ (.int .i64 x.ph)).setCell ⟨g, j * 11 + 5, none⟩ u).setCell ⟨g, j * 11 + 6, none⟩ (.int .i64 x.cx)).setCell ⟨g, j * 11 + 7, none⟩ (.int .i64 x.cy)).setCell ⟨g, j * 11 + 8, none⟩ (.int .i64 x.cw)).setCell ⟨g, j * 11 + 9, none⟩ (.int .i64 x.ch)).setCell ⟨g, j * 11 + 10, none⟩ (.bool x.sh)) B (.slice (some ⟨g, 0, none⟩) n cap) (qs.set j (x, u)) := by
  have hn : qs.length = n := by
    rcases h.1.2 with ⟨h', _⟩ | ⟨g', cap', cur, h', _⟩
    · simp at h'
    · simp only [Value.slice.injEq] at h'
      exact h'.2.1.symm
  subst hn
  obtain ⟨a0, b0⟩ := h.1.stored (j * 11) (.int .i64 x.id)
  obtain ⟨a1, b1⟩ := a0.stored (j * 11 + 1) (.int .i64 x.x)
  obtain ⟨a2, b2⟩ := a1.stored (j * 11 + 2) (.int .i64 x.y)
  obtain ⟨a3, b3⟩ := a2.stored (j * 11 + 3) (.int .i64 x.pw)
  obtain ⟨a4, b4⟩ := a3.stored (j * 11 + 4) (.int .i64 x.ph)
  obtain ⟨a5, b5⟩ := a4.stored (j * 11 + 5) u
  obtain ⟨a6, b6⟩ := a5.stored (j * 11 + 6) (.int .i64 x.cx)
  obtain ⟨a7, b7⟩ := a6.stored (j * 11 + 7) (.int .i64 x.cy)
  obtain ⟨a8, b8⟩ := a7.stored (j * 11 + 8) (.int .i64 x.cw)
  obtain ⟨a9, b9⟩ := a8.stored (j * 11 + 9) (.int .i64 x.ch)
  obtain ⟨a10, b10⟩ := a9.stored (j * 11 + 10) (.bool x.sh)
  have a11 := obCells_set x u qs j hj
  unfold put11 at a11
  rw [a11] at a10
  have hgr := grownBy_trans (grownBy_trans (grownBy_trans (grownBy_trans (grownBy_trans (grownBy_trans (grownBy_trans (grownBy_trans (grownBy_trans (grownBy_trans b0 b1) b2) b3) b4) b5) b6) b7) b8) b9) b10
  have key : ∀ (q : Po × Value), w.ownsRow B 52 2 q.2 q.1.ps.length (pixCells q.1.ps) → World.ownsRow _ B 52 2 q.2 q.1.ps.length (pixCells q.1.ps) := fun q hq => hq.kept hgr (apartO hq h.1 (by decide))
  refine ⟨by rw [List.length_set]; exact a10, fun q hq => ?_⟩
  rcases List.mem_or_eq_of_mem_set hq with hq | hq
  · exact key q (h.2 q hq)
  · subst hq
    exact key (x, u) hu

theorem OwnOb.mono {w : World} {B B' : Nat} {v : Value} {qs : List (Po × Value)} (h : OwnOb w B v qs) (hB : B' ≤ B) : OwnOb w B' v qs := ⟨own_mono h.1 hB, fun q hq => own_mono (h.2 q hq) hB⟩

def SetP (os : List Po) (x : Po) (w : World) (e : Ending) (w' : World) : Prop :=
  ∃ v' qs, e = .returned v' ∧ OwnOb w' w.heap.size v' qs ∧ qs.map Prod.fst = setO os x ∧ Below w.heap.size w w'

set_option maxHeartbeats 4000000 in
set_option maxRecDepth 100000 in
theorem set_any (v : Value) (os : List Po) (x : Po) (u : Value) (w : World) (hos : os.length ≤ 100) (hps : ∀ j, j < os.length → (os.getD j po0).ps.length ≤ 100) (hpx : x.ps.length ≤ 100) (HS : Hid (SortO os)) (HR : Hid (RdO w v os)) (HU : Hid (RdP w u x.ps)) :
    Calls Tryz.prog 91 #[v, poV x u] w fun e w' => SetP os x w e w' := by
  obtain ⟨a, cap, hv, hl, hcap⟩ := HR.out.shape
  have HPS : Hid (∀ j, j < os.length → (os.getD j po0).ps.length ≤ 100) := hps
  obtain ⟨n, HN⟩ : ∃ n, Hid (os.length = n) := ⟨_, (rfl : _ = _)⟩
  have hos3 := hos
  rw [HN.out] at hv hl hos3
  clear hps
  unfold poV objV
  obtain ⟨au, cu, hvu, _, _, _⟩ := HU.out
  obtain ⟨nu, HNU⟩ : ∃ n, Hid (x.ps.length = n) := ⟨_, (rfl : _ = _)⟩
  rw [HNU.out] at hvu
  subst hvu
  have hbz : Below w.heap.size w (w.alloc (.cells #[.int .i64 x.id, .int .i64 x.x, .int .i64 x.y, .int .i64 x.pw, .int .i64 x.ph, .slice au nu cu, .int .i64 x.cx, .int .i64 x.cy, .int .i64 x.cw, .int .i64 x.ch, .bool x.sh] 141)) := (Below.refl _ _).alloc (Nat.le_refl _) _
  have E1 := eleven_start w (.int .i64 x.id) (.int .i64 x.x) (.int .i64 x.y) (.int .i64 x.pw) (.int .i64 x.ph) (.slice au nu cu) (.int .i64 x.cx) (.int .i64 x.cy) (.int .i64 x.cw) (.int .i64 x.ch) (.bool x.sh) 141 w.heap.size rfl
  have HR0 : Hid (RdO _ _ _) := HR.out.on hbz
  have HU0 : Hid (RdP _ _ _) := HU.out.on hbz
  subst hv
  go_enter Tryz.func91, Tryz.ntmps91
  go_wp2_with fail
  refine (search_any _ os x.id _ (by omega) HS HR0).mono ?_
  rintro e w1 ⟨i, b, rfl, HSR, HB, hb1⟩
  have HB' := hid_of2 HB
  have HSR' := hid_of2 HSR
  have HR1 : Hid (RdO w1 (.slice a n cap) os) := HR0.out.on hb1
  have HU1 := hid_of2 (HU0.out.on hb1)
  have hbb := hbz.trans (hb1.mono hbz.size)
  have E2 := E1.on hb1
  clear HB HSR HR0 HU0 hb1 hbz E1
  go_wp2_with fail
  refine (ownO_any _ os _ hos HPS.out HR1).mono ?_
  rintro e w2 ⟨g, qs, rfl, HO2, HQ2, hb2⟩
  rw [HN.out] at HO2
  have HO2' := hide_ob HO2
  have HQ2' := hid_of2 HQ2
  have HLQ : Hid (qs.length = n) := by
    have := congrArg List.length HQ2
    unfold Hid
    rw [List.length_map, HN.out] at this
    exact this
  have hgw : w1.heap.size ≤ g := (HO2.1.lt g rfl).1
  have HU2 := hid_of2 (HU1.out.on hb2)
  have hbb2 := hbb.trans (hb2.mono hbb.size)
  have E3 := E2.on hb2
  have hlt1 := E2.lt
  clear HO2 HQ2 hb2 HR1 HU1 E2
  obtain ⟨d0, d1, d2, d3, d4, d5, d6, d7, d8, d9, d10, g0, g1, g2, g3, g4, g5, g6, g7, g8, g9, g10, lt2⟩ := E3
  have hin : i ≤ n := by rw [← HN.out]; exact HSR'.out.le
  rw [HN.out]
  cases b with
  | false =>
    have HST : Hid (setO os x = os.take i ++ x :: os.drop i) := by
      refine setO_ins x os i HSR'.out.le HSR'.out.lo (fun j h1 h2 => ?_)
      have h3 := HSR'.out.hi j h1 h2
      rcases Nat.lt_or_ge i j with h4 | h4
      · have h5 := HS.out i j h4 h2
        have h6 := HSR'.out.hi i (Nat.le_refl _) (by omega)
        omega
      · obtain rfl : j = i := by omega
        have : ¬ (os.getD j po0).id = x.id := fun h => by
          have := HB'.out.2 ⟨h2, h⟩
          cases this
        omega
    go_wp2_with fail
    refine (oown_any x.id x.x x.y x.pw x.ph _ x.ps x.cx x.cy x.cw x.ch x.sh _ hpx HU2).mono ?_
    unfold objV
    rintro e w3 ⟨u', rfl, hu, hb3⟩
    have HO3 := hide_ob (HO2'.out.on hb3)
    have hbb3 := hbb2.trans (hb3.mono hbb2.size)
    have HU3 := hide_own (own_mono hu (show w1.heap.size ≤ w2.heap.size + 2 by have := HO2'.out.1.lt g rfl; omega))
    obtain ⟨a', c', hv'⟩ := own_any HU3.out
    rw [HNU.out] at hv'
    subst hv'
    clear hu hb3 HO2' HU2
    have hbx : Below w3.heap.size w3 (w3.alloc (.cells #[.int .i64 x.id, .int .i64 x.x, .int .i64 x.y, .int .i64 x.pw, .int .i64 x.ph, .slice a' nu c', .int .i64 x.cx, .int .i64 x.cy, .int .i64 x.cw, .int .i64 x.ch, .bool x.sh] 141)) := (Below.refl _ _).alloc (Nat.le_refl _) _
    have HO4 := hide_ob (HO3.out.on hbx)
    have HU4 := hide_own (own_on2 HU3.out hbx)
    have HV4 : Hid ((w3.alloc (.cells (oCells x (.slice a' nu c')).toArray 141)).heap[w3.heap.size]? = some (.cells (oCells x (.slice a' nu c')).toArray 141 (0, 0))) := heap_alloc_new w3 _
    have hbb4 := hbb3.trans (hbx.mono hbb3.size)
    have hgl : g < w3.heap.size := (HO3.out.1.lt g rfl).2
    have hgw3 : w3.heap.size ≠ g := by omega
    have hw13 : w1.heap.size ≤ (w3.alloc (.cells #[.int .i64 x.id, .int .i64 x.x, .int .i64 x.y, .int .i64 x.pw, .int .i64 x.ph, .slice a' nu c', .int .i64 x.cx, .int .i64 x.cy, .int .i64 x.cw, .int .i64 x.ch, .bool x.sh] 141)).heap.size := by simp; omega
    have HQM : Hid ((qs.take i ++ (x, .slice a' nu c') :: qs.drop i).map Prod.fst = setO os x) := by
      unfold Hid
      rw [HST.out, List.map_append, List.map_cons, List.map_take, List.map_drop, HQ2'.out]
    have hgz : w.heap.size ≤ g := by have := hbb.size; omega
    clear hbx HO3 HU3
    go_wp2_with fail
    refine (insert_any g n w3.heap.size i w1.heap.size qs x (.slice a' nu c') _ (by omega) hin hgw3 hw13 HO4 HV4 HU4 HLQ).mono ?_
    rintro e w5 ⟨rfl, hO5, hgr5⟩
    have HO5 := hide_ob (hO5.mono hbb.size)
    have hbb5 : Below w.heap.size w w5 := hbb4.grown hgr5 hbb4.size (fun z hz => by simp at hz; omega)
    clear hO5 hgr5
    go_wp2_with fail
    go_ret
    exact ⟨_, _, rfl, HO5.out, HQM.out, hbb5⟩
  | true =>
    obtain ⟨hi, hid⟩ := HB'.out.1 rfl
    have hin2 : i < n := by rw [← HN.out]; exact hi
    have HST : Hid (setO os x = os.set i x) := setO_put x os i hi HSR'.out.lo hid
    have hki0 : (0 : Int) ≤ (i : Int) := by omega
    have hki1 : (i : Int) < (n : Int) := by omega
    clear hi hid
    go_wp2_with fail
    refine (oown_any x.id x.x x.y x.pw x.ph _ x.ps x.cx x.cy x.cw x.ch x.sh _ hpx HU2).mono ?_
    unfold objV
    rintro e w3 ⟨u', rfl, hu, hb3⟩
    have HO3 := hide_ob (HO2'.out.on hb3)
    have hbb3 := hbb2.trans (hb3.mono hbb2.size)
    have HU3 := hide_own (own_mono hu (show w1.heap.size ≤ w2.heap.size + 2 by have := HO2'.out.1.lt g rfl; omega))
    obtain ⟨a', c', hv'⟩ := own_any HU3.out
    rw [HNU.out] at hv'
    subst hv'
    have hiq : i < qs.length := by rw [HLQ.out]; exact hin2
    have HO3r := HO3.out.1
    rw [HLQ.out] at HO3r
    have HPUT := hide_ob (HO3.out.put (j := i) hiq (x := x) HU3.out)
    have HCA : ∀ c, c < 11 → w3.cell? ⟨g, i * 11 + c, none⟩ = (oCells (qs.getD i qo0).1 (qs.getD i qo0).2)[c]? := fun c hc => by
      rw [HO3r.cellAt (i * 11 + c) (by omega)]
      exact obCells_at qs i c hiq hc
    have HFZ : ∀ c, w3.frozen? ⟨g, c, none⟩ = false := fun c => HO3r.frozenAt c
    have s0 := HCA 0 (by omega)
    have s1 := HCA 1 (by omega)
    have s2 := HCA 2 (by omega)
    have s3 := HCA 3 (by omega)
    have s4 := HCA 4 (by omega)
    have s5 := HCA 5 (by omega)
    have s6 := HCA 6 (by omega)
    have s7 := HCA 7 (by omega)
    have s8 := HCA 8 (by omega)
    have s9 := HCA 9 (by omega)
    have s10 := HCA 10 (by omega)
    have z0 := HFZ (i * 11 + 0)
    have z1 := HFZ (i * 11 + 1)
    have z2 := HFZ (i * 11 + 2)
    have z3 := HFZ (i * 11 + 3)
    have z4 := HFZ (i * 11 + 4)
    have z5 := HFZ (i * 11 + 5)
    have z6 := HFZ (i * 11 + 6)
    have z7 := HFZ (i * 11 + 7)
    have z8 := HFZ (i * 11 + 8)
    have z9 := HFZ (i * 11 + 9)
    have z10 := HFZ (i * 11 + 10)
    simp only [oCells, List.getElem?_cons_zero, List.getElem?_cons_succ, Nat.add_zero] at s0 s1 s2 s3 s4 s5 s6 s7 s8 s9 s10 z0
    have HQM : Hid ((qs.set i (x, .slice a' nu c')).map Prod.fst = setO os x) := by
      unfold Hid
      rw [HST.out, List.map_set, HQ2'.out]
    have hgz : w.heap.size ≤ g := by have := hbb.size; omega
    clear hu hb3 HO2' HU2 HCA HFZ HO3r HO3
    go_wp2_with fail
    go_ret
    refine ⟨_, _, rfl, ?_, HQM.out, ?_⟩
    · exact HPUT.out.mono hbb.size
    · repeat (refine Below.setCell ?_ (by simpa using hgz) _)
      exact hbb3
end Go.Proofs.YtceabiodelfdoaaGreatDoor
/- Walks: slices.Delete of one object, objects.drop. -/
namespace Go.Proofs.YtceabiodelfdoaaGreatDoor
open Go.RowKit

theorem ready_app {P : Program} {o : Oper} {a : Act} {w w' : World} {K' : Act → World → Prop} {Q : Exit → Act → World → Prop} {ys : Nat → Option Bool} (hg : o.guard = none) (s x : Operand) (t : TypeId)
    (ho : o.op = .call { callee := .builtin .append, args := #[s, x], argTypes := #[t, t] }) (v1 v2 v' : Value) (hs : a.eval s = v1) (hx : a.eval x = v2) (hr : (Builtin.append_ #[t, t] o.type #[v1, v2]).run P w = .ok v' w')
    (hK : K' (a.put o.dst v') w') : if Region.wanted o ys = true then Oper.wp P o a w K' Q else K' (a.put o.dst undef) w := by
  simp only [Region.wanted, hg, if_true]
  unfold Oper.wp execOp
  simp only [ho, resolve, invoke, builtin, Sem.run_bind, Sem.run_pure, Result.andThen_ok, List.map_toArray, List.map_cons, List.map_nil, hs, hx, hr]
  exact hK

/-- clear of one element, in a row that is known -/
theorem run_clear_one {P : Program} (w : World) (t e ty : TypeId) (i : TypeInfo) (z : Value) (Z : List Value) (ht : P.underlying t = some (.slice e)) (hi : P.info? e = some i) (hz0 : i.zero = some z) (hzc : (Builtin.zeroCells z.cells 1).toList = Z) (h1 : ∀ v ∈ Z, v.oneCell' = true) (g o c : Nat) (cur : Array Value) (T : TypeId)
    (hg : w.heap[g]? = some (.cells cur T (0, 0))) (hfit : o + Z.length ≤ cur.size) :
    (Builtin.clear_ #[t] ty #[.slice (some ⟨g, o, none⟩) 1 c]).run P w = .ok (.tuple #[]) (w.setRow g (cur.toList.take o ++ Z ++ cur.toList.drop (o + Z.length)).toArray) := by
  have hst := run_storeCells_at P g o T Z 0 cur w hg (by simpa using hfit) h1
  simp only [Nat.add_zero] at hst
  have hv : ∀ w, (zeroValue e).run P w = .ok z w := fun w => by simp [zeroValue, typeInfo, hi, hz0]
  simp [Builtin.clear_, run_underlying ht, hv, hzc, hst]
theorem wpList_clear {P : Program} {w : World} {ops : Array Oper} {rest : List Oper} {o : Oper} {a : Act} {Q : Exit → Act → World → Prop} (hgd : o.guard = none) (x : Operand) (t : TypeId)
    (ho : o.op = .call { callee := .builtin .clear, args := #[x], argTypes := #[t] }) (v : Value) (hx : a.eval x = v) {v' : Value} {w' : World}
    (hr : (Builtin.clear_ #[t] o.type #[v]).run P w = .ok v' w') (h : wpList P ops Q rest (a.put o.dst v') w') : wpList P ops Q (o :: rest) a w := by
  refine wpList_plain hgd fun K hK => ?_
  unfold Oper.wp execOp
  simp only [ho, resolve, invoke, builtin, Sem.run_bind, Sem.run_pure, Result.andThen_ok, List.map_toArray, List.map_cons, List.map_nil, hx, hr]
  exact hK _ _ h

/-- the first elements of a row -/
theorem own_prefix {w : World} {B g n cap i : Nat} {qs : List (Po × Value)} (h : OwnOb w B (.slice (some ⟨g, 0, none⟩) n cap) qs) (hq : qs.length = n) (hi : i ≤ n) : w.ownsRow B 141 11 (.slice (some ⟨g, 0, none⟩) i cap) i (obCells (qs.take i)) := by
  refine ⟨by rw [obCells_length, List.length_take, hq, Nat.min_eq_left hi], .inr ?_⟩
  rcases h.1.2 with ⟨h0, _⟩ | ⟨g', cap', cur, hv, hB, hg, hnc, hm, hcs, htk⟩
  · simp at h0
  · simp only [Value.slice.injEq, Option.some.injEq, Addr.mk.injEq, and_true] at hv
    obtain ⟨rfl, h1, rfl⟩ := hv
    refine ⟨g, cap, cur, rfl, hB, hg, by omega, hm, hcs, ?_⟩
    have h2 : obCells qs = obCells (qs.take i) ++ obCells (qs.drop i) := by rw [← obCells_app, List.take_append_drop]
    have h3 : (obCells (qs.take i)).length = i * 11 := by rw [obCells_length, List.length_take, hq, Nat.min_eq_left hi]
    have h4 := congrArg (List.take (i * 11)) htk
    rw [List.take_take, h2, ← h3, List.take_left, h3, Nat.min_eq_left (by rw [hq]; omega)] at h4
    exact h4

set_option maxHeartbeats 4000000 in
set_option maxRecDepth 100000 in
theorem delete_any (g n i : Nat) (B : Nat) (qs : List (Po × Value)) (w : World) (hn : n ≤ 1000) (hi : i < n) (hB : B ≤ w.heap.size) (HO : Hid (OwnOb w B (.slice (some ⟨g, 0, none⟩) n (n + 1)) qs)) (HQ : Hid (qs.length = n)) :
    Calls Tryz.prog 109 #[.slice (some ⟨g, 0, none⟩) n (n + 1), .int .i64 (i : Int), .int .i64 ((i : Int) + 1)] w fun e w' =>
      e = .returned (.slice (some ⟨g, 0, none⟩) (n - 1) (n + 1)) ∧ OwnOb w' B (.slice (some ⟨g, 0, none⟩) (n - 1) (n + 1)) (qs.take i ++ qs.drop (i + 1)) ∧ w.grownBy w' (some g) := by
  obtain ⟨i0, hi0, hz0, hz1, hz2⟩ := info_parts Tryz.infoOb
  have hpre := own_prefix (w := w.drew) (i := i) (show OwnOb w.drew B _ qs from ⟨HO.out.1, HO.out.2⟩) HQ.out (by omega)
  have hsrc : ∀ j u, (obCells (qs.drop (i + 1)))[j]? = some u → w.drew.cell? ((⟨g, (i + 1) * 11, none⟩ : Addr).add j) = some u := by
    intro j v hj
    have hjl : j < (n - (i + 1)) * 11 := by have := (List.getElem?_eq_some_iff.1 hj).1; rw [obCells_length, List.length_drop, HQ.out] at this; exact this
    have e : (⟨g, (i + 1) * 11, none⟩ : Addr).add j = ⟨g, (i + 1) * 11 + j, none⟩ := by unfold Addr.add; split <;> simp_all
    rw [e]
    have hrow := HO.out.1
    rw [HQ.out] at hrow
    show w.cell? _ = _
    rw [hrow.cellAt ((i + 1) * 11 + j) (by omega)]
    have h2 : obCells qs = obCells (qs.take (i + 1)) ++ obCells (qs.drop (i + 1)) := by rw [← obCells_app, List.take_append_drop]
    have h3 : (obCells (qs.take (i + 1))).length = (i + 1) * 11 := by rw [obCells_length, List.length_take, HQ.out, Nat.min_eq_left (by omega)]
    rw [h2, List.getElem?_append_right (by omega), h3, Nat.add_sub_cancel_left]
    exact hj
  obtain ⟨w3, hr, h1, h2⟩ := run_append_cap (P := Tryz.prog) w.drew B 85 85 141 i0 (.agg #[.int .i64 0, .int .i64 0, .int .i64 0, .int .i64 0, .int .i64 0, .slice none 0 0, .int .i64 0, .int .i64 0, .int .i64 0, .int .i64 0, .bool false]) 11 104 Tryz.underlying85 hi0 hz0 hz1 hz2 rfl (by decide) g i (n + 1) _ hpre ⟨g, (i + 1) * 11, none⟩ (n - (i + 1)) (n + 1 - (i + 1)) (obCells (qs.drop (i + 1))) (by rw [obCells_length, List.length_drop, HQ.out]) hsrc (ob_one (HO.out.drop1 (i + 1))) (by unfold maxLen; omega) (by omega) hB (by omega)
  have hin : i + (n - (i + 1)) = n - 1 := by omega
  rw [hin] at hr h1
  rw [← obCells_app] at h1
  have HH1 : Hid (w3.ownsRow B 141 11 (.slice (some ⟨g, 0, none⟩) (n - 1) (n + 1)) (n - 1) (obCells (qs.take i ++ qs.drop (i + 1)))) := h1
  have HGR1 : Hid (w.grownBy w3 (some g)) := grownBy_trans (a := w) (b := w.drew) ⟨rfl, rfl, rfl, Nat.le_refl _, fun _ _ _ => rfl⟩ h2
  obtain ⟨cur, HG3, hcsz, htk⟩ : ∃ cur : Array Value, w3.heap[g]? = some (.cells cur 141 (0, 0)) ∧ cur.size = (n + 1) * 11 ∧ cur.toList.take ((n - 1) * 11) = obCells (qs.take i ++ qs.drop (i + 1)) := by
    rcases h1.2 with ⟨h0, _⟩ | ⟨g', cap', cur, hv, _, hg, _, _, hcs, htk⟩
    · simp at h0
    · simp only [Value.slice.injEq, Option.some.injEq, Addr.mk.injEq, and_true, true_and] at hv
      obtain ⟨rfl, rfl⟩ := hv
      exact ⟨cur, hg, hcs, htk⟩
  have hcl := fun ty c => run_clear_one (P := Tryz.prog) w3 85 141 ty i0 (.agg #[.int .i64 0, .int .i64 0, .int .i64 0, .int .i64 0, .int .i64 0, .slice none 0 0, .int .i64 0, .int .i64 0, .int .i64 0, .int .i64 0, .bool false]) [.int .i64 0, .int .i64 0, .int .i64 0, .int .i64 0, .int .i64 0, .slice none 0 0, .int .i64 0, .int .i64 0, .int .i64 0, .int .i64 0, .bool false] Tryz.underlying85 hi0 hz0 (by kernel_rfl) (pix_oneB po0 (.slice none 0 0) rfl) g ((n - 1) * 11) c cur 141 HG3 (by rw [hcsz]; simp; omega)
  have HFIN : Hid (∀ w4, w4 = w3.setRow g (cur.toList.take ((n - 1) * 11) ++ ([.int .i64 0, .int .i64 0, .int .i64 0, .int .i64 0, .int .i64 0, .slice none 0 0, .int .i64 0, .int .i64 0, .int .i64 0, .int .i64 0, .bool false] : List Value) ++ cur.toList.drop ((n - 1) * 11 + ([.int .i64 0, .int .i64 0, .int .i64 0, .int .i64 0, .int .i64 0, .slice none 0 0, .int .i64 0, .int .i64 0, .int .i64 0, .int .i64 0, .bool false] : List Value).length)).toArray → OwnOb w4 B (.slice (some ⟨g, 0, none⟩) (n - 1) (n + 1)) (qs.take i ++ qs.drop (i + 1)) ∧ w.grownBy w4 (some g)) := by
    intro w4 h4
    have hgr : w.grownBy w4 (some g) := by rw [h4]; exact grownBy_trans HGR1.out (grown_setRow _ _ _)
    have hlen : (qs.take i ++ qs.drop (i + 1)).length = n - 1 := by have := HQ.out; simp; omega
    refine ⟨⟨?_, fun q hq => ?_⟩, hgr⟩
    · rw [hlen]
      refine ⟨by rw [obCells_length, hlen], .inr ⟨g, n + 1, _, rfl, (HH1.out.lt g rfl).1, by rw [h4]; exact setRow_heap w3 g cur _ _ _ HG3, by omega, by unfold maxLen; omega, ?_, ?_⟩⟩
      · simp [hcsz]
        omega
      · rw [htk]
        have : (obCells (qs.take i ++ qs.drop (i + 1))).length = (n - 1) * 11 := by rw [obCells_length, hlen]
        simp only [List.append_assoc]
        rw [← this, List.take_left]
    · have hm : q ∈ qs := by
        rcases List.mem_append.1 hq with hq | hq
        · exact List.mem_of_mem_take hq
        · exact List.mem_of_mem_drop hq
      exact (HO.out.2 q hm).kept hgr (apartO (HO.out.2 q hm) HO.out.1 (by decide))
  clear h1 h2 hpre hsrc htk hcsz HG3 HH1 HGR1
  have a1 : (0 : Int) ≤ (i : Int) := by omega
  have a2 : (i : Int) + 1 ≤ (n : Int) := by omega
  have a3 : (n : Int) ≤ (n : Int) + 1 := by omega
  have a4 : (i : Int) ≤ (n : Int) + 1 := by omega
  have a5 : ((i : Int) + 1).toNat = i + 1 := by omega
  have a6 : ¬ (n + 1 = i + 1) := by omega
  have a7 : (0 : Int) ≤ (i : Int) + 1 := by omega
  have a8 : (i : Int) ≤ (i : Int) + 1 := by omega
  have a9 : ((n - 1 : Nat) : Int) ≤ (n : Int) := by omega
  have a10 : ¬ (n + 1 = n - 1) := by omega
  have a11 : n - (n - 1) = 1 := by omega
  have a12 : ((i : Int) == (i : Int) + 1) = false := by simp; omega
  go_enter Tryz.func109, Tryz.ntmps109
  go_wp2_with fail
  refine wp_region_held_drew (S := (fun _ => True)) (by kernel_rfl) ?_ (fun hHeld => ?_)
  · trivial
  refine wpAnyH_take (i := 0) (oi := ({ dst := some 20, op := Op.move (Operand.tmp 0), type := 85, pos := "slices.go:232", after := #[], guard := none } : Oper)) (v := ?_) rfl (by kernel_rfl) (by kernel_rfl) (by kernel_rfl) (fun _ _ _ h => h) (Or.inl ⟨by rfl, ?_⟩) (by assumption) ?_
  rotate_left
  · (intro w hSw; (try dsimp only at hSw); go_simp; try with_reducible rfl)
  try simp only [Act.put, List.setIfInBounds_toArray, List.set_cons_zero, List.set_cons_succ]
  refine wpAnyH_take (i := 1) (oi := ({ dst := some 21, op := Op.move (Operand.tmp 1), type := 3, pos := "slices.go:232", after := #[], guard := none } : Oper)) (v := ?_) rfl (by kernel_rfl) (by kernel_rfl) (by kernel_rfl) (fun _ _ _ h => h) (Or.inl ⟨by rfl, ?_⟩) (by assumption) ?_
  rotate_left
  · (intro w hSw; (try dsimp only at hSw); go_simp; try with_reducible rfl)
  try simp only [Act.put, List.setIfInBounds_toArray, List.set_cons_zero, List.set_cons_succ]
  refine wpAnyH_take (i := 2) (oi := ({ dst := some 22, op := Op.slice 85 (Operand.tmp 20) none (some (Operand.tmp 21)) none, type := 85, pos := "slices.go:232", after := #[{ on := 0, ground := Ground.data }, { on := 1, ground := Ground.data }], guard := none } : Oper)) (v := ?_) rfl (by kernel_rfl) (by kernel_rfl) (by kernel_rfl) (fun _ _ _ h => h) (Or.inl ⟨by rfl, ?_⟩) (by assumption) ?_
  rotate_left
  · (intro w hSw; (try dsimp only at hSw); go_simp; try with_reducible rfl)
  try simp only [Act.put, List.setIfInBounds_toArray, List.set_cons_zero, List.set_cons_succ]
  refine wpAnyH_take (i := 3) (oi := ({ dst := some 23, op := Op.move (Operand.tmp 0), type := 85, pos := "slices.go:232", after := #[], guard := none } : Oper)) (v := ?_) rfl (by kernel_rfl) (by kernel_rfl) (by kernel_rfl) (fun _ _ _ h => h) (Or.inl ⟨by rfl, ?_⟩) (by assumption) ?_
  rotate_left
  · (intro w hSw; (try dsimp only at hSw); go_simp; try with_reducible rfl)
  try simp only [Act.put, List.setIfInBounds_toArray, List.set_cons_zero, List.set_cons_succ]
  refine wpAnyH_take (i := 4) (oi := ({ dst := some 24, op := Op.move (Operand.tmp 2), type := 3, pos := "slices.go:232", after := #[], guard := none } : Oper)) (v := ?_) rfl (by kernel_rfl) (by kernel_rfl) (by kernel_rfl) (fun _ _ _ h => h) (Or.inl ⟨by rfl, ?_⟩) (by assumption) ?_
  rotate_left
  · (intro w hSw; (try dsimp only at hSw); go_simp; try with_reducible rfl)
  try simp only [Act.put, List.setIfInBounds_toArray, List.set_cons_zero, List.set_cons_succ]
  refine wpAnyH_take (i := 5) (oi := ({ dst := some 25, op := Op.slice 85 (Operand.tmp 23) (some (Operand.tmp 24)) none none, type := 85, pos := "slices.go:232", after := #[{ on := 3, ground := Ground.data }, { on := 4, ground := Ground.data }], guard := none } : Oper)) (v := ?_) rfl (by kernel_rfl) (by kernel_rfl) (by kernel_rfl) (fun _ _ _ h => h) (Or.inl ⟨by rfl, ?_⟩) (by assumption) ?_
  rotate_left
  · (intro w hSw; (try dsimp only at hSw); go_simp; try with_reducible rfl)
  try simp only [Act.put, List.setIfInBounds_toArray, List.set_cons_zero, List.set_cons_succ]
  refine wpAnyH_ready (rs := [6]) (by kernel_rfl) (by simp) ?_
  refine AllReadyH.cons (o := ({ dst := some 26, op := Op.call { callee := Callee.builtin Builtin.append, args := #[Operand.tmp 22, Operand.tmp 25], argTypes := #[85, 85] }, type := 85, pos := "slices.go:232", after := #[{ on := 2, ground := Ground.data }, { on := 5, ground := Ground.data }], guard := none } : Oper)) rfl (fun K_ hK => ?_) AllReadyH.nil
  refine ready_app rfl (.tmp 22) (.tmp 25) 85 rfl _ _ _ ?d1 ?d2 hr ?_
  case d1 => (simp only [Act.eval, Array.getD_eq_getD_getElem?]; simp)
  case d2 => (simp only [Act.eval, Array.getD_eq_getD_getElem?]; simp; try omega)
  refine hK.out _ _ trivial (fun hHeld => ?_)
  clear hK K_
  try simp only [Act.put, List.setIfInBounds_toArray, List.set_cons_zero, List.set_cons_succ]
  refine wpAnyH_take (i := 7) (oi := ({ dst := some 0, op := Op.assign (Operand.tmp 26), type := 85, pos := "slices.go:232", after := #[{ on := 6, ground := Ground.data }, { on := 6, ground := Ground.chain }, { on := 0, ground := Ground.phase }, { on := 1, ground := Ground.phase }, { on := 2, ground := Ground.phase }, { on := 3, ground := Ground.phase }, { on := 4, ground := Ground.phase }, { on := 5, ground := Ground.phase }, { on := 6, ground := Ground.phase }], guard := none } : Oper)) (v := ?_) rfl (by kernel_rfl) (by kernel_rfl) (by kernel_rfl) (fun _ _ _ h => h) (Or.inl ⟨by rfl, ?_⟩) (by assumption) ?_
  rotate_left
  · (intro w hSw; (try dsimp only at hSw); go_simp; try with_reducible rfl)
  try simp only [Act.put, List.setIfInBounds_toArray, List.set_cons_zero]
  refine wpAnyH_done (by kernel_rfl) ?_ _
  go_wp2_with (refine wpList_clear rfl _ 85 rfl _ rfl (hcl _ _) ?_)
  go_ret
  exact ⟨rfl, HFIN.out _ (by simp)⟩

/-- without the object of a number -/
def dropO (os : List Po) (t : Int) : List Po := os.filter (fun o => decide (o.id ≠ t))
theorem dropO_at : ∀ (os : List Po) (t : Int) (i : Nat), SortO os → i < os.length → (os.getD i po0).id = t → os.take i ++ os.drop (i + 1) = dropO os t := by
  intro os t
  unfold dropO
  induction os with
  | nil => intro i _ h; simp at h
  | cons a r ih =>
    intro i hs hl h
    have hs2 : SortO r := fun i j hij hj => by
      have := hs (i + 1) (j + 1) (by omega) (by simpa using hj)
      rw [getD_succ, getD_succ] at this
      exact this
    cases i with
    | zero =>
      rw [getD_zero] at h
      rw [List.filter_cons_of_neg (by simp [h])]
      simp only [List.take_zero, List.nil_append, Nat.zero_add, List.drop_succ_cons, List.drop_zero]
      refine (List.filter_eq_self.2 fun o ho => ?_).symm
      obtain ⟨j, hj, e⟩ := List.mem_iff_getElem.1 ho
      have h2 := hs 0 (j + 1) (by omega) (by simpa using hj)
      rw [getD_zero, getD_succ, List.getD_eq_getElem?_getD, List.getElem?_eq_getElem hj] at h2
      simp only [Option.getD_some] at h2
      rw [e] at h2
      simp
      omega
    | succ i =>
      rw [getD_succ] at h
      have hi : i < r.length := by simpa using hl
      have h2 := hs 0 (i + 1) (by omega) hl
      rw [getD_zero, getD_succ] at h2
      rw [List.filter_cons_of_pos (by simp; omega)]
      have := ih i hs2 hi h
      simp only [List.take_succ_cons, List.drop_succ_cons, List.cons_append]
      rw [this]

set_option maxHeartbeats 4000000 in
set_option maxRecDepth 100000 in
theorem drop_any (v : Value) (os : List Po) (t : Int) (w : World) (hos : os.length ≤ 100) (hps : ∀ j, j < os.length → (os.getD j po0).ps.length ≤ 100) (HS : Hid (SortO os)) (HR : Hid (RdO w v os)) (HF : Hid (∃ j, j < os.length ∧ (os.getD j po0).id = t)) :
    Calls Tryz.prog 96 #[v, .int .i64 t] w fun e w' => ∃ v' qs, e = .returned v' ∧ OwnOb w' w.heap.size v' qs ∧ qs.map Prod.fst = dropO os t ∧ Below w.heap.size w w' := by
  obtain ⟨a, cap, hv, hl, hcap⟩ := HR.out.shape
  have HPS : Hid (∀ j, j < os.length → (os.getD j po0).ps.length ≤ 100) := hps
  obtain ⟨n, HN⟩ : ∃ n, Hid (os.length = n) := ⟨_, (rfl : _ = _)⟩
  have hos3 := hos
  rw [HN.out] at hv hl hos3
  clear hps
  subst hv
  go_enter Tryz.func96, Tryz.ntmps96
  go_wp2_with fail
  refine (search_any _ os t _ (by omega) HS HR).mono ?_
  rintro e w1 ⟨i, b, rfl, HSR, HB, hb1⟩
  have hbt : i < os.length ∧ (os.getD i po0).id = t := by
    obtain ⟨j, hj, hjt⟩ := HF.out
    rcases Nat.lt_trichotomy j i with h | h | h
    · have := HSR.lo j h
      omega
    · subst h
      exact ⟨hj, hjt⟩
    · have h1 := HSR.hi i (Nat.le_refl _) (by omega)
      have h2 := HS.out i j h hj
      omega
  have HDR := hid_of2 (dropO_at os t i HS.out hbt.1 hbt.2)
  have hin : i < n := by rw [← HN.out]; exact hbt.1
  have HR1 : Hid (RdO w1 (.slice a n cap) os) := HR.out.on hb1
  clear HSR HB hbt HF
  go_wp2_with fail
  refine (ownO_any _ os _ hos HPS.out HR1).mono ?_
  rintro e w2 ⟨g, qs, rfl, HO2, HQ2, hb2⟩
  rw [HN.out] at HO2 ⊢
  have HO2' := hide_ob HO2
  have HLQ : Hid (qs.length = n) := by
    have := congrArg List.length HQ2
    unfold Hid
    rw [List.length_map, HN.out] at this
    exact this
  have HQ2' := hid_of2 HQ2
  have hgw : w1.heap.size ≤ g := (HO2.1.lt g rfl).1
  have hw12 : w1.heap.size ≤ w2.heap.size := hb2.size
  have hbb2 := hb1.trans (hb2.mono hb1.size)
  have hww1 := hb1.size
  clear HO2 HQ2 hb2 HR1 hb1
  go_wp2_with fail
  refine (delete_any g n i w1.heap.size qs _ (by omega) hin hw12 HO2' HLQ).mono ?_
  rintro e w3 ⟨rfl, hO3, hgr3⟩
  have HO3 := hide_ob (hO3.mono hww1)
  have hbb3 : Below w.heap.size w w3 := hbb2.grown hgr3 hbb2.size (fun z hz => by simp at hz; omega)
  have HQM : Hid ((qs.take i ++ qs.drop (i + 1)).map Prod.fst = dropO os t) := by
    unfold Hid
    rw [List.map_append, List.map_take, List.map_drop, HQ2'.out]
    exact HDR.out
  clear hO3 hgr3
  go_wp2_with fail
  go_ret
  exact ⟨_, _, rfl, HO3.out, HQM.out, hbb3⟩
end Go.Proofs.YtceabiodelfdoaaGreatDoor
/- Pictures as lists: some of the places are other ones. -/
namespace Go.Proofs.YtceabiodelfdoaaGreatDoor

/-- of n pixels, row by row, those where cond is are others -/
def gridL (W n : Nat) (cond : Nat → Nat → Bool) (g : Nat → Int × Int) (ps : List (Int × Int)) : List (Int × Int) :=
  (List.range n).map fun k => if cond (k % W) (k / W) then g k else ps.getD k (0, 0)

theorem grid_len (W n : Nat) (cond : Nat → Nat → Bool) (g : Nat → Int × Int) (ps : List (Int × Int)) : (gridL W n cond g ps).length = n := by simp [gridL]
theorem grid_at (W n : Nat) (cond : Nat → Nat → Bool) (g : Nat → Int × Int) (ps : List (Int × Int)) (k : Nat) (hk : k < n) : (gridL W n cond g ps)[k]? = some (if cond (k % W) (k / W) then g k else ps.getD k (0, 0)) := by
  simp [gridL, hk]
theorem grid_getD (W n : Nat) (cond : Nat → Nat → Bool) (g : Nat → Int × Int) (ps : List (Int × Int)) (k : Nat) (hk : k < n) : (gridL W n cond g ps).getD k (0, 0) = if cond (k % W) (k / W) then g k else ps.getD k (0, 0) := by
  rw [List.getD_eq_getElem?_getD, grid_at _ _ _ _ _ _ hk]; rfl
theorem grid_congr (W n : Nat) (c1 c2 : Nat → Nat → Bool) (g : Nat → Int × Int) (ps : List (Int × Int)) (h : ∀ k, k < n → c1 (k % W) (k / W) = c2 (k % W) (k / W)) : gridL W n c1 g ps = gridL W n c2 g ps := by
  unfold gridL
  apply List.map_congr_left
  intro k hk
  rw [h k (by simpa using hk)]
theorem grid_start (W n : Nat) (cond : Nat → Nat → Bool) (g : Nat → Int × Int) (ps : List (Int × Int)) (hl : ps.length = n) (h : ∀ k, k < n → cond (k % W) (k / W) = false) : gridL W n cond g ps = ps := by
  apply List.ext_getElem?
  intro k
  by_cases hk : k < n
  · rw [grid_at _ _ _ _ _ _ hk, h k hk]
    simp [List.getD_eq_getElem?_getD, List.getElem?_eq_getElem (show k < ps.length by omega)]
  · rw [List.getElem?_eq_none (by rw [grid_len]; omega), List.getElem?_eq_none (by omega)]
theorem grid_set (W n C R : Nat) (cond : Nat → Nat → Bool) (g : Nat → Int × Int) (ps : List (Int × Int)) (hC : C < W) (hk : R * W + C < n) :
    (gridL W n cond g ps).set (R * W + C) (g (R * W + C)) = gridL W n (fun c r => cond c r || (c == C && r == R)) g ps := by
  apply List.ext_getElem?
  intro k
  have h1 : (R * W + C) % W = C := by rw [Nat.add_comm, Nat.add_mul_mod_self_right, Nat.mod_eq_of_lt hC]
  have h2 : (R * W + C) / W = R := by rw [Nat.add_comm, Nat.add_mul_div_right _ _ (by omega), Nat.div_eq_of_lt hC, Nat.zero_add]
  by_cases hkn : k < n
  · rw [grid_at _ _ _ _ _ _ hkn]
    by_cases he : k = R * W + C
    · subst he
      rw [List.getElem?_set_self (by rw [grid_len]; exact hk), h1, h2]
      simp
    · rw [List.getElem?_set_ne (by omega), grid_at _ _ _ _ _ _ hkn]
      have hne : (k % W == C && k / W == R) = false := by
        rw [Bool.eq_false_iff]
        intro h
        simp only [Bool.and_eq_true, beq_iff_eq] at h
        apply he
        have := Nat.div_add_mod k W
        rw [h.1, h.2, Nat.mul_comm] at this
        omega
      simp only [hne, Bool.or_false]
  · rw [List.getElem?_eq_none (by simp [grid_len]; omega), List.getElem?_eq_none (by rw [grid_len]; omega)]

theorem pixCells_set : ∀ (ps : List (Int × Int)) (k : Nat) (v a : Int), ((pixCells ps).set (k * 2) (.int .i64 v)).set (k * 2 + 1) (.int .i64 a) = pixCells (ps.set k (v, a))
  | [], k, v, a => by simp [pixCells]
  | (x, y) :: r, 0, v, a => by simp [pixCells]
  | (x, y) :: r, k + 1, v, a => by
    rw [show (k + 1) * 2 = k * 2 + 1 + 1 by omega]
    simp only [pixCells, List.set_cons_succ]
    rw [pixCells_set r k v a]

/-- the places that are done, where the row R is under way, its columns up to C -/
def upto (x y w h R C : Int) (c r : Nat) : Bool := hasB x y w h (c : Int) (r : Int) && (decide ((r : Int) < R) || decide ((r : Int) = R) && decide ((c : Int) < C))
theorem upto_iff (x y w h R C : Int) (c r : Nat) : upto x y w h R C c r = true ↔ (x ≤ c ∧ (c : Int) < x + w ∧ y ≤ r ∧ (r : Int) < y + h) ∧ ((r : Int) < R ∨ (r : Int) = R ∧ (c : Int) < C) := by
  unfold upto; rw [Bool.and_eq_true, hasB_iff]; simp

/-- the new pixel at a place -/
def gq (f : Int × Int → Int × Int → Int × Int) (PW : Nat) (ps : List (Int × Int)) (QW : Nat) (qs : List (Int × Int)) (x y : Int) (k : Nat) : Int × Int :=
  f (ps.getD k (0, 0)) (qs.getD ((((k / PW : Nat) : Int) - y) * (QW : Int) + ((k % PW : Nat) : Int) - x).toNat (0, 0))
/-- what change answers -/
def chL (f : Int × Int → Int × Int → Int × Int) (PW : Nat) (ps : List (Int × Int)) (QW QH : Nat) (qs : List (Int × Int)) (x y a b c d : Int) : List (Int × Int) :=
  gridL PW ps.length (fun cc rr => hasB a b c d (cc : Int) (rr : Int) && hasB x y (QW : Int) (QH : Int) (cc : Int) (rr : Int)) (gq f PW ps QW qs x y) ps

theorem mod_div_lt (PW PH k : Nat) (h : k < PW * PH) (hP : 0 < PW) : k % PW < PW ∧ k / PW < PH := ⟨Nat.mod_lt _ hP, Nat.div_lt_of_lt_mul h⟩
theorem upto_start (PW PH : Nat) (g : Nat → Int × Int) (ps : List (Int × Int)) (x y w h : Int) (hl : ps.length = PW * PH) : gridL PW (PW * PH) (upto x y w h y x) g ps = ps := by
  apply grid_start _ _ _ _ _ hl
  intro k _
  rw [Bool.eq_false_iff]
  intro hh
  rw [upto_iff] at hh
  omega
theorem upto_step (PW PH R C : Nat) (g : Nat → Int × Int) (ps : List (Int × Int)) (x y w h : Int) (hC : C < PW) (hR : R < PH) (h0 : x ≤ C) (h1 : (C : Int) < x + w) (h2 : y ≤ R) (h3 : (R : Int) < y + h) :
    (gridL PW (PW * PH) (upto x y w h R C) g ps).set (R * PW + C) (g (R * PW + C)) = gridL PW (PW * PH) (upto x y w h R ((C : Int) + 1)) g ps := by
  rw [grid_set _ _ _ _ _ _ _ hC (by
    have : (R + 1) * PW ≤ PH * PW := Nat.mul_le_mul_right _ hR
    rw [Nat.mul_comm PW PH]; rw [Nat.add_mul] at this; omega)]
  apply grid_congr
  intro k _
  rw [Bool.eq_iff_iff, Bool.or_eq_true, upto_iff, upto_iff]
  simp only [Bool.and_eq_true, beq_iff_eq]
  omega
theorem upto_row (PW PH : Nat) (g : Nat → Int × Int) (ps : List (Int × Int)) (x y w h R : Int) : gridL PW (PW * PH) (upto x y w h R (x + w)) g ps = gridL PW (PW * PH) (upto x y w h (R + 1) x) g ps := by
  apply grid_congr
  intro k _
  rw [Bool.eq_iff_iff, upto_iff, upto_iff]
  omega
/-- all is done -/
theorem upto_end (f : Int × Int → Int × Int → Int × Int) (PW PH : Nat) (ps : List (Int × Int)) (QW QH : Nat) (qs : List (Int × Int)) (x y a b c d : Int) (r1 r2 : Int × Int × Int × Int) (hP : 0 < PW) (hl : ps.length = PW * PH)
    (h1 : bothL 0 0 PW PH x y QW QH = r1) (h2 : bothL a b c d r1.1 r1.2.1 r1.2.2.1 r1.2.2.2 = r2) :
    gridL PW (PW * PH) (upto r2.1 r2.2.1 r2.2.2.1 r2.2.2.2 (r2.2.1 + r2.2.2.2) r2.1) (gq f PW ps QW qs x y) ps = chL f PW ps QW QH qs x y a b c d := by
  unfold chL
  rw [hl]
  apply grid_congr
  intro k hk
  obtain ⟨hm, hd⟩ := mod_div_lt PW PH k hk hP
  have e2 := both_has a b c d r1.1 r1.2.1 r1.2.2.1 r1.2.2.2 ((k % PW : Nat) : Int) ((k / PW : Nat) : Int) r2 h2
  have e1 := both_has 0 0 PW PH x y QW QH ((k % PW : Nat) : Int) ((k / PW : Nat) : Int) r1 h1
  have e00 : ∀ m d : Nat, m < PW → d < PH → hasB 0 0 PW PH (m : Int) (d : Int) = true := by intro m d h1 h2; rw [hasB_iff]; omega
  have e0 := e00 _ _ hm hd
  rw [e1, e0, Bool.true_and] at e2
  rw [← e2, Bool.eq_iff_iff, upto_iff, hasB_iff]
  omega
end Go.Proofs.YtceabiodelfdoaaGreatDoor
/- For the walk of blend.change. -/
namespace Go.Proofs.YtceabiodelfdoaaGreatDoor
open Go.RowKit

theorem check_zero (W H : Int) (ps : List (Int × Int)) (h : checkL W H ps = 0) : ∃ PW PH : Nat, W = (PW : Int) ∧ H = (PH : Int) ∧ 1 ≤ PW ∧ PW ≤ 8 ∧ 1 ≤ PH ∧ PH ≤ 8 ∧ ps.length = PW * PH ∧ ∀ k, k < ps.length → pixOk (ps.getD k (0, 0)) := by
  unfold checkL at h
  split at h
  · simp at h
  · rename_i hs
    split at h
    · simp at h
    · rename_i hl
      split at h
      · rename_i ha
        have hw : sideB W = true := by cases e : sideB W <;> simp_all
        have hh : sideB H = true := by cases e : sideB H <;> simp_all
        unfold sideB at hw hh
        simp only [Bool.and_eq_true, decide_eq_true_eq] at hw hh
        refine ⟨W.toNat, H.toNat, by omega, by omega, by omega, by omega, by omega, by omega, ?_, fun k hk => ?_⟩
        · have e1 : ((W.toNat : Nat) : Int) = W := by omega
          have e2 : ((H.toNat : Nat) : Int) = H := by omega
          have : ((W.toNat * H.toNat : Nat) : Int) = W * H := by rw [Int.natCast_mul, e1, e2]
          omega
        · have hm : ps.getD k (0, 0) ∈ ps := by
            rw [List.getD_eq_getElem?_getD, List.getElem?_eq_getElem hk]; exact List.getElem_mem hk
          have := List.all_eq_true.1 ha _ hm
          unfold okPix shadeB at this
          simp only [Bool.and_eq_true, decide_eq_true_eq] at this
          unfold pixOk
          omega
      · simp at h

theorem check_nil (W H : Int) (v : Value) (ps : List (Int × Int)) (w : World) (hps : ps.length ≤ 1000000000) (HR : Hid (RdP w v ps)) (HC : Hid (checkL W H ps = 0)) :
    Calls Tryz.prog 42 #[.agg #[.int .i64 W, .int .i64 H, v]] w fun e w' => e = .returned .nilIface ∧ Below w.heap.size w w' := check_any W H v ps w hps HR 0 HC

/-- what holds on the road: the pictures p and q, the rect, what is under way -/
structure Gch (w : World) (vp vq vo : Value) (PW PH QW QH : Nat) (bo : Nat) (ps qs cur : List (Int × Int)) (w' : World) : Prop where
  tp : Three w' w.heap.size (.int .i64 (PW : Int)) (.int .i64 (PH : Int)) vp
  tq : Three w' (w.heap.size + 1) (.int .i64 (QW : Int)) (.int .i64 (QH : Int)) vq
  tr : Three w' (w.heap.size + 1 + 1 + 1) (.int .i64 0) (.int .i64 0) (.slice none 0 0)
  to : Three w' bo (.int .i64 (PW : Int)) (.int .i64 (PH : Int)) vo
  rp : RdP w' vp ps
  rq : RdP w' vq qs
  bel : Below w.heap.size w w'
  own : w'.ownsRow (w.heap.size + 4) 52 2 vo cur.length (pixCells cur)

theorem Gch.on {w : World} {vp vq vo : Value} {PW PH QW QH bo : Nat} {ps qs cur : List (Int × Int)} {w1 w2 : World} (h : Gch w vp vq vo PW PH QW QH bo ps qs cur w1) (hb : Below w1.heap.size w1 w2) : Gch w vp vq vo PW PH QW QH bo ps qs cur w2 :=
  ⟨h.tp.on hb, h.tq.on hb, h.tr.on hb, h.to.on hb, h.rp.on hb, h.rq.on hb, h.bel.trans (hb.mono h.bel.size), own_on2 h.own hb⟩
theorem Gch.drew {w : World} {vp vq vo : Value} {PW PH QW QH bo : Nat} {ps qs cur : List (Int × Int)} {w1 : World} (h : Gch w vp vq vo PW PH QW QH bo ps qs cur w1) : Gch w vp vq vo PW PH QW QH bo ps qs cur w1.drew :=
  ⟨h.tp.drew, h.tq.drew, h.tr.drew, h.to.drew, h.rp, h.rq, h.bel.drew, h.own.drew⟩

theorem rd_some {w : World} {a : Option Addr} {n cap : Nat} {ps : List (Int × Int)} (h : RdP w (.slice a n cap) ps) (hne : ps ≠ []) : ∃ g off, a = some ⟨g, off, none⟩ ∧ g < w.heap.size ∧ ∀ w' : World, Below w.heap.size w w' → ∀ j, j < ps.length → w'.cell? ⟨g, off + j * 2, none⟩ = some (.int .i64 (ps.getD j (0, 0)).1) ∧ w'.cell? ⟨g, off + j * 2 + 1, none⟩ = some (.int .i64 (ps.getD j (0, 0)).2) := by
  obtain ⟨a', c', hv, hl, hc, hh⟩ := h
  obtain ⟨g, off, ha, hg, hcell⟩ := hh hne
  simp only [Value.slice.injEq] at hv
  refine ⟨g, off, hv.1.trans ha, hg, fun w' hb j hj => ?_⟩
  rw [hb.cell (p := ⟨g, off + j * 2, none⟩) hg, hb.cell (p := ⟨g, off + j * 2 + 1, none⟩) hg]
  exact hcell j hj
theorem hid_of {p : Prop} (h : p) : Hid p := h
theorem Gch.store {w : World} {vp vq : Value} {g np co PW PH QW QH bo K : Nat} {ps qs cur : List (Int × Int)} {w1 : World} (h : Gch w vp vq (.slice (some ⟨g, 0, none⟩) np co) PW PH QW QH bo ps qs cur w1) (hp : RdP w vp ps) (hq : RdP w vq qs) (hg : w.heap.size + 4 ≤ g) (hgb : g < bo) (hl : cur.length = np) (v a : Int) :
    Gch w vp vq (.slice (some ⟨g, 0, none⟩) np co) PW PH QW QH bo ps qs (cur.set K (v, a)) ((w1.setCell ⟨g, K * 2, none⟩ (.int .i64 v)).setCell ⟨g, K * 2 + 1, none⟩ (.int .i64 a)) := by
  have hb : Below w.heap.size w ((w1.setCell ⟨g, K * 2, none⟩ (.int .i64 v)).setCell ⟨g, K * 2 + 1, none⟩ (.int .i64 a)) := (h.bel.setCell (show w.heap.size ≤ g by omega) _).setCell (show w.heap.size ≤ g by omega) _
  refine ⟨(h.tp.other (by omega)).other (by omega), (h.tq.other (by omega)).other (by omega), (h.tr.other (by omega)).other (by omega), (h.to.other (by omega)).other (by omega), hp.on hb, hq.on hb, hb, ?_⟩
  have ho := h.own
  rw [hl] at ho
  have h1 := (ho.stored (K * 2) (.int .i64 v)).1
  have h2 := (h1.stored (K * 2 + 1) (.int .i64 a)).1
  rw [pixCells_set] at h2
  rw [List.length_set, hl]
  exact h2

end Go.Proofs.YtceabiodelfdoaaGreatDoor
