/- Some of the walks, in one text. -/
import Derived.Test.YtceabiodelfdoaaGreatDoorM7
import Derived.Laws.CopyRow
import Derived.Laws.CopyOwn
import Derived.Maps.OwnOps
import Derived.Maps.OwnSet
import Derived.OneCell
import Derived.Lib.BufferWrite
import Derived.Maps.Own
import Derived.Maps.Views
/- Walk of math/bits.Mul, as slices.Repeat calls it. -/
namespace Go.Proofs.YtceabiodelfdoaaGreatDoor
open Go.RowKit

theorem and_small : ∀ n : Fin 65, bits BinOp.and IntKind.u64 (n.val : Int) 4294967295 = (n.val : Int) := by decide +kernel

set_option maxRecDepth 100000 in
theorem mul64_one (n : Nat) (hn : n ≤ 64) (w : World) : Calls Tryz.prog 118 #[.int .u64 1, .int .u64 (n : Int)] w fun e w' => e = .returned (.tuple #[.int .u64 0, .int .u64 (n : Int)]) ∧ w = w' := by
  have hb1 : bits BinOp.and IntKind.u64 1 4294967295 = 1 := by decide +kernel
  have hb0 : bits BinOp.and IntKind.u64 0 4294967295 = 0 := by decide +kernel
  have hbn : bits BinOp.and IntKind.u64 (n : Int) 4294967295 = (n : Int) := and_small ⟨n, by omega⟩
  have hd : (n : Int) / 4294967296 = 0 := by omega
  have hw : IntKind.u64.wrap (n : Int) = (n : Int) := by rw [IntKind.wrap_u64]; omega
  have hw0 : IntKind.u64.wrap 0 = 0 := by decide +kernel
  go_enter Tryz.func118, Tryz.ntmps118
  go_wp2
  exact bodyPost_ret (v := .tuple #[.int .u64 0, .int .u64 (n : Int)]) (by simp [results, Tryz.results118, go_sem]) rfl ⟨rfl, rfl⟩

set_option maxRecDepth 100000 in
theorem mul_one' (n : Nat) (hn : n ≤ 64) (w : World) : Calls Tryz.prog 110 #[.int .u64 1, .int .u64 (n : Int)] w fun e w' => e = .returned (.tuple #[.int .u64 0, .int .u64 (n : Int)]) ∧ w = w' := by
  have hw : IntKind.u64.wrap (n : Int) = (n : Int) := by rw [IntKind.wrap_u64]; omega
  go_enter Tryz.func110, Tryz.ntmps110
  go_wp2_with fail
  refine (mul64_one n hn _).mono ?_
  rintro e w1 ⟨rfl, rfl⟩
  go_wp2_with fail
  exact bodyPost_ret (v := .tuple #[.int .u64 0, .int .u64 (n : Int)]) (by simp [results, Tryz.results110, go_sem]) rfl ⟨rfl, rfl⟩
end Go.Proofs.YtceabiodelfdoaaGreatDoor
/- copy of elements of two cells. -/
namespace Go.Proofs.YtceabiodelfdoaaGreatDoor
open Go.RowKit

theorem run_copy_two {P : Program} (w : World) (dT sT ty elem : TypeId) (g o dLen dCap : Nat) (a : Addr) (sLen sCap : Nat) (cur : Array Value) (t : TypeId) (cs : List Value)
    (hu : P.underlying dT = some (.slice elem)) (hs : (P.info? elem).map (·.size) = some 2)
    (hg : w.heap[g]? = some (.cells cur t (0, 0))) (hn : cs.length = Nat.min sLen dLen * 2)
    (hsrc : ∀ j v, cs[j]? = some v → w.cell? (a.add j) = some v) (hfit : o + cs.length ≤ cur.size) (h1 : ∀ v ∈ cs, v.oneCell' = true) :
    (Builtin.copy_ #[dT, sT] ty #[.slice (some ⟨g, o, none⟩) dLen dCap, .slice (some a) sLen sCap]).run P w =
      .ok (goInt (Nat.min sLen dLen)) (w.setRow g (cur.toList.take o ++ cs ++ cur.toList.drop (o + cs.length)).toArray) := by
  have hl := run_loadCells_list (P := P) w a cs hsrc
  have hst := run_storeCells_at P g o t cs 0 cur w hg (by simpa using hfit) h1
  rw [hn] at hl
  cases hq : P.info? elem with
  | none => simp [hq] at hs
  | some i =>
    have hi : i.size = 2 := by simpa [hq] using hs
    simp [Builtin.copy_, run_underlying hu, Builtin.lenOf, Builtin.firstCells, sizeOf, typeInfo, hq, hi, hl, hst]

theorem wpList_copy_two {P : Program} {w : World} {ops : Array Oper} {rest : List Oper} {o : Oper} {a : Act} {Q : Exit → Act → World → Prop} (hgd : o.guard = none) (d s : Operand) (dT sT : TypeId)
    (ho : o.op = .call { callee := .builtin .copy, args := #[d, s], argTypes := #[dT, sT] }) (elem : TypeId) (hu : P.underlying dT = some (.slice elem)) (hsz : (P.info? elem).map (·.size) = some 2)
    (g off dLen dCap : Nat) (ad : Addr) (sLen sCap : Nat) (hd : a.eval d = .slice (some ⟨g, off, none⟩) dLen dCap) (hs : a.eval s = .slice (some ad) sLen sCap)
    (cur : Array Value) (t : TypeId) (hg : w.heap[g]? = some (.cells cur t (0, 0))) (cs : List Value) (hn : cs.length = Nat.min sLen dLen * 2)
    (hsrc : ∀ j v, cs[j]? = some v → w.cell? (ad.add j) = some v) (hfit : off + cs.length ≤ cur.size) (h1 : ∀ v ∈ cs, v.oneCell' = true)
    (h : wpList P ops Q rest (a.put o.dst (goInt (Nat.min sLen dLen))) (w.setRow g (cur.toList.take off ++ cs ++ cur.toList.drop (off + cs.length)).toArray)) : wpList P ops Q (o :: rest) a w := by
  refine wpList_plain hgd fun K hK => ?_
  have hrun := run_copy_two (P := P) w dT sT o.type elem g off dLen dCap ad sLen sCap cur t cs hu hsz hg hn hsrc hfit h1
  unfold Oper.wp
  simp only [execOp, ho, resolve, invoke, builtin, Sem.run_bind, Sem.run_pure, Result.andThen_ok, List.map_toArray, List.map_cons, List.map_nil, hd, hs, hrun]
  exact hK _ _ h

/-- the same, what is then in the block named by the prover -/
theorem wpList_copy_fill {P : Program} {w : World} {ops : Array Oper} {rest : List Oper} {o : Oper} {a : Act} {Q : Exit → Act → World → Prop} (hgd : o.guard = none) (d s : Operand) (dT sT : TypeId)
    (ho : o.op = .call { callee := .builtin .copy, args := #[d, s], argTypes := #[dT, sT] }) (elem : TypeId) (hu : P.underlying dT = some (.slice elem)) (hsz : (P.info? elem).map (·.size) = some 2)
    (g off dLen dCap : Nat) (ad : Addr) (sLen sCap : Nat) (hd : a.eval d = .slice (some ⟨g, off, none⟩) dLen dCap) (hs : a.eval s = .slice (some ad) sLen sCap)
    (cur : List Value) (t : TypeId) (hg : w.heap[g]? = some (.cells cur.toArray t (0, 0))) (cs : List Value) (m : Nat) (hm : Nat.min sLen dLen = m) (hn : cs.length = m * 2)
    (hsrc : ∀ j v, cs[j]? = some v → w.cell? (ad.add j) = some v) (hfit : off + cs.length ≤ cur.length) (h1 : ∀ v ∈ cs, v.oneCell' = true) (new : List Value) (hnew : cur.take off ++ cs ++ cur.drop (off + cs.length) = new) (B : Nat) (w0 : World) (hb : Below B w0 w) (hBg : B ≤ g)
    (h : ∀ w', Hid (w'.heap[g]? = some (.cells new.toArray t (0, 0))) → Below B w0 w' → wpList P ops Q rest (a.put o.dst (goInt m)) w') : wpList P ops Q (o :: rest) a w := by
  subst hm
  refine wpList_copy_two hgd d s dT sT ho elem hu hsz g off dLen dCap ad sLen sCap hd hs cur.toArray t hg cs hn hsrc (by simpa using hfit) h1 ?_
  exact h _ (show _ = _ by rw [← hnew]; simpa using setRow_heap w g _ _ t _ hg) (below_setRow hb hBg _)
/-- as a step of a drawn region; what is then in the block named by the prover -/
theorem step_copy_fill {P : Program} {w : World} {ops : Array Oper} {o : Oper} {a : Act} {K : Act → World → Prop} {Q : Exit → Act → World → Prop} {E : Prop} (hgd : o.guard = none) (d s : Operand) (dT sT : TypeId)
    (ho : o.op = .call { callee := .builtin .copy, args := #[d, s], argTypes := #[dT, sT] }) (elem : TypeId) (hu : P.underlying dT = some (.slice elem)) (hsz : (P.info? elem).map (·.size) = some 2)
    (g off dLen dCap : Nat) (ad : Addr) (sLen sCap : Nat) (hd : a.eval d = .slice (some ⟨g, off, none⟩) dLen dCap) (hs : a.eval s = .slice (some ad) sLen sCap)
    (cur : List Value) (t : TypeId) (hg : w.heap[g]? = some (.cells cur.toArray t (0, 0))) (cs : List Value) (m : Nat) (hm : Nat.min sLen dLen = m) (hn : cs.length = m * 2)
    (hsrc : ∀ j v, cs[j]? = some v → w.cell? (ad.add j) = some v) (hfit : off + cs.length ≤ cur.length) (h1 : ∀ v ∈ cs, v.oneCell' = true) (new : List Value) (hnew : cur.take off ++ cs ++ cur.drop (off + cs.length) = new) (B : Nat) (w0 : World) (hb : Below B w0 w) (hBg : B ≤ g)
    (h : ∀ w', Hid (w'.heap[g]? = some (.cells new.toArray t (0, 0))) → Below B w0 w' → K (a.put o.dst (goInt m)) w') : if Region.wanted o (yielded ops a.tmps) = true then Oper.wp P o a w K Q else E := by
  have hw : Region.wanted o (yielded ops a.tmps) = true := by simp [Region.wanted, hgd]
  rw [if_pos hw]
  subst hm
  have hrun := run_copy_two (P := P) w dT sT o.type elem g off dLen dCap ad sLen sCap cur.toArray t cs hu hsz hg hn hsrc (by simpa using hfit) h1
  unfold Oper.wp
  simp only [execOp, ho, resolve, invoke, builtin, Sem.run_bind, Sem.run_pure, Result.andThen_ok, List.map_toArray, List.map_cons, List.map_nil, hd, hs, hrun]
  exact h _ (show _ = _ by rw [← hnew]; simpa using setRow_heap w g _ _ t _ hg) (below_setRow hb hBg _)
end Go.Proofs.YtceabiodelfdoaaGreatDoor
/- A row of pixels that is filled by copying. -/
namespace Go.Proofs.YtceabiodelfdoaaGreatDoor
open Go.RowKit

theorem pixCells_app (a b : List (Int × Int)) : pixCells (a ++ b) = pixCells a ++ pixCells b := by
  induction a with
  | nil => rfl
  | cons p a ih => obtain ⟨n, d⟩ := p; simp [pixCells, ih]
theorem pixCells_take (a : List (Int × Int)) (k : Nat) : (pixCells a).take (k * 2) = pixCells (a.take k) := by
  induction k generalizing a with
  | zero => simp [pixCells]
  | succ k ih =>
    cases a with
    | nil => simp [pixCells]
    | cons p a => obtain ⟨x, y⟩ := p; rw [show (k + 1) * 2 = k * 2 + 1 + 1 by omega]; simp [pixCells, ih]
theorem pixCells_drop (a : List (Int × Int)) (k : Nat) : (pixCells a).drop (k * 2) = pixCells (a.drop k) := by
  induction k generalizing a with
  | zero => simp
  | succ k ih =>
    cases a with
    | nil => simp [pixCells]
    | cons p a => obtain ⟨x, y⟩ := p; rw [show (k + 1) * 2 = k * 2 + 1 + 1 by omega]; simp [pixCells, ih]
/-- k of n are filled -/
def fillL (k n : Nat) (x : Int × Int) : List (Int × Int) := List.replicate k x ++ List.replicate (n - k) (0, 0)
theorem fill_len (k n : Nat) (x : Int × Int) (h : k ≤ n) : (fillL k n x).length = n := by unfold fillL; simp; omega
theorem fill_more (k m n : Nat) (x : Int × Int) (h : k + m ≤ n) :
    (pixCells (fillL k n x)).take (k * 2) ++ pixCells (List.replicate m x) ++ (pixCells (fillL k n x)).drop (k * 2 + m * 2) = pixCells (fillL (k + m) n x) := by
  rw [pixCells_take, show k * 2 + m * 2 = (k + m) * 2 by omega, pixCells_drop, ← pixCells_app, ← pixCells_app]
  congr 1
  unfold fillL
  rw [List.take_left' (by simp), List.drop_append]
  simp only [List.drop_replicate, List.length_replicate]
  rw [show k - (k + m) = 0 by omega, List.replicate_zero, List.nil_append, List.replicate_append_replicate, show n - k - (k + m - k) = n - (k + m) by omega]
theorem fill_all (n : Nat) (x : Int × Int) : fillL n n x = List.replicate n x := by unfold fillL; simp
theorem fill_none (n : Nat) (x : Int × Int) : fillL 0 n x = List.replicate n (0, 0) := by unfold fillL; simp
theorem made_pix (n : Nat) : (madeCells #[Value.int .i64 0, Value.int .i64 0] (n * 2)).toList = pixCells (List.replicate n (0, 0)) := by
  apply List.ext_getElem?
  intro j
  by_cases hj : j < n * 2
  · have hp := pixCells_at (List.replicate n (0, 0)) (j / 2) (by simp; omega)
    have hg : (List.replicate n ((0 : Int), (0 : Int))).getD (j / 2) (0, 0) = (0, 0) := by
      rw [List.getD_eq_getElem?_getD, List.getElem?_replicate]; split <;> rfl
    rw [hg] at hp
    have h2 : j % 2 = 0 ∨ j % 2 = 1 := by omega
    rcases h2 with h | h
    · rw [show j = j / 2 * 2 by omega, hp.1]
      have : j / 2 * 2 < n * 2 := by omega
      simp [madeCells, this]
    · rw [show j = j / 2 * 2 + 1 by omega, hp.2]
      have : j / 2 * 2 + 1 < n * 2 := by omega
      simp [madeCells, this]
  · rw [List.getElem?_eq_none (by simp [madeCells]; omega), List.getElem?_eq_none (by rw [pixCells_length]; simp; omega)]
end Go.Proofs.YtceabiodelfdoaaGreatDoor
/- Walk of slices.Repeat of one pixel. -/
namespace Go.Proofs.YtceabiodelfdoaaGreatDoor
open Go.RowKit

theorem hid_p {p : Prop} (h : p) : Hid p := h
/-- the whole row, as its block has it -/
theorem own_full {W : World} {B g n : Nat} {e : TypeId} {size : Nat} {xs : List Value} (h : W.ownsRow B e size (.slice (some ⟨g, 0, none⟩) n n) n xs) : W.heap[g]? = some (.cells xs.toArray e (0, 0)) := by
  rcases h.2 with ⟨h0, _⟩ | ⟨g', cap, cur, hv, _, hg, _, _, hsz, htk⟩
  · simp at h0
  · simp only [Value.slice.injEq, Option.some.injEq, Addr.mk.injEq, and_true, true_and] at hv
    obtain ⟨rfl, rfl⟩ := hv
    rw [List.take_of_length_le (by simp [hsz])] at htk
    rw [hg, ← htk]
set_option maxHeartbeats 2000000 in
set_option maxRecDepth 100000 in
theorem repeat_any (v a : Int) (b n : Nat) (hn1 : 1 ≤ n) (hn : n ≤ 64) (w : World) (hc0 : w.cell? ⟨b, 0, none⟩ = some (.int .i64 v)) (hc1 : w.cell? ⟨b, 1, none⟩ = some (.int .i64 a)) (hb : b < w.heap.size) :
    Calls Tryz.prog 97 #[.slice (some ⟨b, 0, none⟩) 1 1, .int .i64 (n : Int)] w fun e w' => ∃ v', e = .returned v' ∧ w'.ownsRow w.heap.size 52 2 v' n (pixCells (List.replicate n (v, a))) ∧ Below w.heap.size w w' := by
  obtain ⟨i0, hi, hz0, hz1, hz2⟩ := info_parts Tryz.infoPix
  have hw : IntKind.u64.wrap (n : Int) = (n : Int) := by rw [IntKind.wrap_u64]; omega
  have hw2 : IntKind.i64.wrap (n : Int) = (n : Int) := by rw [IntKind.wrap_i64]; omega
  go_enter Tryz.func97, Tryz.ntmps97
  go_wp2_with fail
  refine (mul_one' n hn _).mono ?_
  rintro e w1 ⟨rfl, rfl⟩
  go_wp2_with (at_make; refine wpList_make_full _ rfl _ _ 44 rfl w.heap.size 52 i0 (.agg #[.int .i64 0, .int .i64 0]) 2 Tryz.underlying44 hi hz0 hz1 _ _ _ _ n rfl rfl ?a1 ?a2 ?b1 ?b2 ?b3 ?_)
  case a1 => first | rfl | omega
  case a2 => first | rfl | omega
  case b1 => rw [hz2]; omega
  case b2 => unfold maxLen; omega
  case b3 => exact Nat.le_refl _
  intro W0 hown0 hgrow0
  have hb0 : Below w.heap.size w W0 := (Below.refl _ _).grown hgrow0 (Nat.le_refl _) (by intro k hk; cases hk)
  rw [made_pix, ← fill_none n (v, a)] at hown0
  have hg0 := own_full hown0
  have hsize2 : (Tryz.prog.info? 52).map (·.size) = some 2 := by rw [hi]; simp [hz1]
  have d0 : W0.cell? ⟨b, 0, none⟩ = some (.int .i64 v) := (hb0.cell (p := ⟨b, 0, none⟩) hb).trans hc0
  have d1 : W0.cell? ⟨b, 1, none⟩ = some (.int .i64 a) := (hb0.cell (p := ⟨b, 1, none⟩) hb).trans hc1
  have hgr : w.heap.size < W0.heap.size := (Array.getElem?_eq_some_iff.1 hg0).1
  have HG0 := hid_p hg0
  clear hown0 hgrow0 hg0
  have HF1 : Hid ((pixCells (fillL 0 n (v, a))).take 0 ++ pixCells [(v, a)] ++ (pixCells (fillL 0 n (v, a))).drop (0 + (pixCells [(v, a)]).length) = pixCells (fillL 1 n (v, a))) := by
    unfold Hid
    have h := fill_more 0 1 n (v, a) (by omega)
    simpa [pixCells] using h
  go_wp2_with (refine wpList_copy_fill rfl (.tmp 31) (.tmp 32) 44 44 rfl 52 Tryz.underlying44 hsize2 w.heap.size 0 n n ⟨b, 0, none⟩ 1 1 rfl rfl _ 52 HG0.out (pixCells [(v, a)]) 1 (Nat.min_eq_left hn1) rfl ?e2 ?e3 (pixCells_one _) _ HF1.out w.heap.size w hb0 (Nat.le_refl _) ?_)
  case e2 =>
    intro j u hj
    rw [add_pl]
    match j, hj with
    | 0, hj => simp [pixCells] at hj; subst hj; exact d0
    | 1, hj => simp [pixCells] at hj; subst hj; exact d1
    | j + 2, hj => simp [pixCells] at hj
  case e3 => rw [pixCells_length, pixCells_length, fill_len _ _ _ (by omega)]; simp; omega
  intro w2 HG2 hb2
  go_wp2_with fail
  go_loopw [8] (fun kv wr => ∃ k : Nat, 1 ≤ k ∧ k ≤ n ∧ kv = .int .i64 (k : Int) ∧ Hid (wr.heap[w.heap.size]? = some (.cells (pixCells (fillL k n (v, a))).toArray 52 (0, 0))) ∧ Below w.heap.size w wr) (fun kv _ => n - (intOf kv).toNat)
  case atStart => exact ⟨1, by omega, hn1, rfl, HG2, hb2⟩
  case round =>
    obtain ⟨k, k1, k2, rfl, HGk, hbk⟩ := hrel
    by_cases hk : k < n
    · go_wp2_with fail
      obtain ⟨m, HM⟩ : ∃ m, Hid (Nat.min k (n - k) = m) := ⟨_, (rfl : _ = _)⟩
      have hm1 : m ≤ k := by rw [← HM.out]; exact Nat.min_le_left _ _
      have hm2 : m ≤ n - k := by rw [← HM.out]; exact Nat.min_le_right _ _
      have hm3 : 1 ≤ m := by rw [← HM.out]; exact Nat.le_min.2 ⟨k1, by omega⟩
      have hi1 : (k : Int) ≤ (n : Int) := by omega
      have hi0 : (0 : Int) ≤ (k : Int) := by omega
      have hi2 : (n : Int) - (k : Int) = ((n - k : Nat) : Int) := by omega
      have hw3 : IntKind.i64.wrap ((k : Int) + (m : Int)) = (k : Int) + (m : Int) := by rw [IntKind.wrap_i64]; omega
      have hnk : ¬ n = k := by omega
      have HF2 : Hid ((pixCells (fillL k n (v, a))).take (k * 2) ++ pixCells (List.replicate m (v, a)) ++ (pixCells (fillL k n (v, a))).drop (k * 2 + (pixCells (List.replicate m (v, a))).length) = pixCells (fillL (k + m) n (v, a))) := by
        unfold Hid
        rw [pixCells_length, List.length_replicate]
        exact fill_more k m n (v, a) (by omega)
      have HS2 : Hid (∀ j u, (pixCells (List.replicate m (v, a)))[j]? = some u → wr.drew.cell? ((⟨w.heap.size, 0, none⟩ : Addr).add j) = some u) := by
        intro j u hj
        have hlt : j < m * 2 := by
          have := (List.getElem?_eq_some_iff.1 hj).1
          rw [pixCells_length, List.length_replicate] at this
          exact this
        have ho : wr.drew.ownsRow w.heap.size 52 2 (.slice (some ⟨w.heap.size, 0, none⟩) n n) n (pixCells (fillL k n (v, a))) := full_own HGk.out (Nat.le_refl _) (by unfold maxLen; omega) (by rw [pixCells_length, fill_len _ _ _ k2])
        rw [add_pl, Nat.zero_add, ho.cellAt j (by omega)]
        unfold fillL
        rw [show k = m + (k - m) by omega, ← List.replicate_append_replicate, List.append_assoc, pixCells_app, List.getElem?_append_left (by rw [pixCells_length, List.length_replicate]; exact hlt)]
        exact hj
      refine wp_region_held_drew (S := (fun _ => True)) (by kernel_rfl) trivial (fun hHeld => ?_)
      refine wpAnyH_take (i := 0) (oi := ({ dst := some 38, op := Op.move (Operand.tmp 8), type := 3, pos := "slices.go:528", after := #[], guard := none } : Oper)) (v := ?_) rfl (by kernel_rfl) (by kernel_rfl) (by kernel_rfl) (fun _ _ _ h => h) (Or.inl ⟨by rfl, ?_⟩) (by assumption) ?_
      rotate_left
      · (intro w hSw; (try dsimp only at hSw); go_simp; try with_reducible rfl)
      simp only [Act.put, List.setIfInBounds_toArray, List.set_cons_zero, List.set_cons_succ]
      refine wpAnyH_take (i := 1) (oi := ({ dst := some 39, op := Op.move (Operand.tmp 7), type := 44, pos := "slices.go:528", after := #[], guard := none } : Oper)) (v := ?_) rfl (by kernel_rfl) (by kernel_rfl) (by kernel_rfl) (fun _ _ _ h => h) (Or.inl ⟨by rfl, ?_⟩) (by assumption) ?_
      rotate_left
      · (intro w hSw; (try dsimp only at hSw); go_simp; try with_reducible rfl)
      simp only [Act.put, List.setIfInBounds_toArray, List.set_cons_zero, List.set_cons_succ]
      refine wpAnyH_take (i := 2) (oi := ({ dst := some 40, op := Op.move (Operand.tmp 8), type := 3, pos := "slices.go:528", after := #[], guard := none } : Oper)) (v := ?_) rfl (by kernel_rfl) (by kernel_rfl) (by kernel_rfl) (fun _ _ _ h => h) (Or.inl ⟨by rfl, ?_⟩) (by assumption) ?_
      rotate_left
      · (intro w hSw; (try dsimp only at hSw); go_simp; try with_reducible rfl)
      simp only [Act.put, List.setIfInBounds_toArray, List.set_cons_zero, List.set_cons_succ]
      refine wpAnyH_take (i := 3) (oi := ({ dst := some 41, op := Op.slice 44 (Operand.tmp 39) (some (Operand.tmp 40)) none none, type := 44, pos := "slices.go:528", after := #[{ on := 1, ground := Ground.data }, { on := 2, ground := Ground.data }], guard := none } : Oper)) (v := ?_) rfl (by kernel_rfl) (by kernel_rfl) (by kernel_rfl) (fun _ _ _ h => h) (Or.inl ⟨by rfl, ?_⟩) (by assumption) ?_
      rotate_left
      · (intro w hSw; (try dsimp only at hSw); go_simp; try with_reducible rfl)
      simp only [Act.put, List.setIfInBounds_toArray, List.set_cons_zero, List.set_cons_succ]
      refine wpAnyH_take (i := 4) (oi := ({ dst := some 42, op := Op.move (Operand.tmp 7), type := 44, pos := "slices.go:528", after := #[], guard := none } : Oper)) (v := ?_) rfl (by kernel_rfl) (by kernel_rfl) (by kernel_rfl) (fun _ _ _ h => h) (Or.inl ⟨by rfl, ?_⟩) (by assumption) ?_
      rotate_left
      · (intro w hSw; (try dsimp only at hSw); go_simp; try with_reducible rfl)
      simp only [Act.put, List.setIfInBounds_toArray, List.set_cons_zero, List.set_cons_succ]
      refine wpAnyH_take (i := 5) (oi := ({ dst := some 43, op := Op.move (Operand.tmp 8), type := 3, pos := "slices.go:528", after := #[], guard := none } : Oper)) (v := ?_) rfl (by kernel_rfl) (by kernel_rfl) (by kernel_rfl) (fun _ _ _ h => h) (Or.inl ⟨by rfl, ?_⟩) (by assumption) ?_
      rotate_left
      · (intro w hSw; (try dsimp only at hSw); go_simp; try with_reducible rfl)
      simp only [Act.put, List.setIfInBounds_toArray, List.set_cons_zero, List.set_cons_succ]
      refine wpAnyH_take (i := 6) (oi := ({ dst := some 44, op := Op.slice 44 (Operand.tmp 42) none (some (Operand.tmp 43)) none, type := 44, pos := "slices.go:528", after := #[{ on := 4, ground := Ground.data }, { on := 5, ground := Ground.data }], guard := none } : Oper)) (v := ?_) rfl (by kernel_rfl) (by kernel_rfl) (by kernel_rfl) (fun _ _ _ h => h) (Or.inl ⟨by rfl, ?_⟩) (by assumption) ?_
      rotate_left
      · (intro w hSw; (try dsimp only at hSw); go_simp; try with_reducible rfl)
      simp only [Act.put, List.setIfInBounds_toArray, List.set_cons_zero, List.set_cons_succ]
      refine wpAnyH_ready (rs := [7]) (by kernel_rfl) (by simp) ?_
      refine AllReadyH.cons (o := ({ dst := some 45, op := Op.call { callee := Callee.builtin Builtin.copy, args := #[Operand.tmp 41, Operand.tmp 44], argTypes := #[44, 44] }, type := 3, pos := "slices.go:528", after := #[{ on := 3, ground := Ground.data }, { on := 6, ground := Ground.data }], guard := none } : Oper)) rfl (fun K_ hK => ?_) AllReadyH.nil
      refine step_copy_fill rfl (.tmp 41) (.tmp 44) 44 44 rfl 52 Tryz.underlying44 hsize2 w.heap.size (k * 2) (n - k) (n - k) ⟨w.heap.size, 0, none⟩ k n rfl rfl _ 52 HGk.out (pixCells (List.replicate m (v, a))) m HM.out (by rw [pixCells_length]; simp) ?e5 ?e6 (pixCells_one _) _ HF2.out w.heap.size w hbk.drew (Nat.le_refl _) ?_
      case e5 => exact HS2.out
      case e6 => rw [pixCells_length, pixCells_length, fill_len _ _ _ (by omega)]; simp; omega
      intro w4 HG4 hb4
      refine hK.out _ _ trivial (fun hHeld => ?_)
      clear hK K_
      try simp only [Act.put, List.setIfInBounds_toArray, List.set_cons_zero, List.set_cons_succ]
      refine wpAnyH_take (i := 8) (oi := ({ dst := some 46, op := Op.binOp BinOp.add 3 (Operand.tmp 38) (Operand.tmp 45) 3, type := 3, pos := "slices.go:528", after := #[{ on := 0, ground := Ground.data }, { on := 7, ground := Ground.data }], guard := none } : Oper)) (v := ?_) rfl (by kernel_rfl) (by kernel_rfl) (by kernel_rfl) (fun _ _ _ h => h) (Or.inl ⟨by rfl, ?_⟩) (by assumption) ?_
      rotate_left
      · (intro w hSw; (try dsimp only at hSw); go_simp; try with_reducible rfl)
      simp only [Act.put, List.setIfInBounds_toArray, List.set_cons_zero, List.set_cons_succ]
      refine wpAnyH_take (i := 9) (oi := ({ dst := some 8, op := Op.assign (Operand.tmp 46), type := 3, pos := "slices.go:528", after := #[{ on := 8, ground := Ground.data }, { on := 7, ground := Ground.chain }, { on := 0, ground := Ground.phase }, { on := 1, ground := Ground.phase }, { on := 2, ground := Ground.phase }, { on := 3, ground := Ground.phase }, { on := 4, ground := Ground.phase }, { on := 5, ground := Ground.phase }, { on := 6, ground := Ground.phase }, { on := 7, ground := Ground.phase }, { on := 8, ground := Ground.phase }], guard := none } : Oper)) (v := ?_) rfl (by kernel_rfl) (by kernel_rfl) (by kernel_rfl) (fun _ _ _ h => h) (Or.inl ⟨by rfl, ?_⟩) (by assumption) ?_
      rotate_left
      · (intro w hSw; (try dsimp only at hSw); go_simp; try with_reducible rfl)
      simp only [Act.put, List.setIfInBounds_toArray, List.set_cons_zero, List.set_cons_succ]
      refine wpAnyH_done (by kernel_rfl) ?_ _
      go_wp2_with fail
      go_roundw
      case rel => exact ⟨k + m, by omega, by omega, by go_num, HG4, hb4⟩
      case measure => simp [intOf]; omega
    · obtain rfl : k = n := by omega
      go_wp2_with fail
      go_ret
      refine ⟨_, rfl, ?_, hbk⟩
      rw [← fill_all]
      exact full_own HGk.out (Nat.le_refl _) (by unfold maxLen; omega) (by rw [pixCells_length, fill_len _ _ _ (Nat.le_refl _)])
end Go.Proofs.YtceabiodelfdoaaGreatDoor
/- Walk of blend.Plain: the row is one's own. -/
namespace Go.Proofs.YtceabiodelfdoaaGreatDoor
open Go.RowKit

set_option maxHeartbeats 2000000 in
set_option maxRecDepth 100000 in
theorem plainO_any (W H : Nat) (v a : Int) (h1 : 1 ≤ W) (h2 : W ≤ 8) (h3 : 1 ≤ H) (h4 : H ≤ 8) (w : World) :
    Calls Tryz.prog 86 #[.int .i64 (W : Int), .int .i64 (H : Int), pixV v a] w fun e w' => ∃ v', e = .returned (picV W H v') ∧ w'.ownsRow (w.heap.size + 3) 52 2 v' (W * H) (pixCells (List.replicate (W * H) (v, a))) ∧ Below w.heap.size w w' := by
  obtain ⟨N, HN⟩ : ∃ N, Hid (W * H = N) := ⟨_, (rfl : _ = _)⟩
  have hN : (W : Int) * (H : Int) = (N : Int) := by rw [← HN.out]; exact (Int.natCast_mul _ _).symm
  have hN1 : 1 * 1 ≤ W * H := Nat.mul_le_mul h1 h3
  have hN2 : W * H ≤ 8 * 8 := Nat.mul_le_mul h2 h4
  rw [HN.out] at hN1 hN2 ⊢
  unfold pixV picV
  have T1 := (three_begin (w.alloc (.cells #[.int .i64 v, .int .i64 a] 52)) (.int .i64 0) (.int .i64 0) (.slice none 0 0) 46 (w.heap.size + 1) (by simp)).alloc (.cells #[.int .i64 v, .int .i64 a] 52)
  have T2 := two_startB ((w.alloc (.cells #[.int .i64 v, .int .i64 a] 52)).alloc (.cells #[.int .i64 0, .int .i64 0, .slice none 0 0] 46)) (.int .i64 v) (.int .i64 a) 52 (w.heap.size + 1 + 1) (by simp)
  have hb0 : Below w.heap.size w (((w.alloc (.cells #[.int .i64 v, .int .i64 a] 52)).alloc (.cells #[.int .i64 0, .int .i64 0, .slice none 0 0] 46)).alloc (.cells #[.int .i64 v, .int .i64 a] 52)) := (((Below.refl _ _).alloc (Nat.le_refl _) _).alloc (by simp) _).alloc (by simp; omega) _
  have hs0 : (((w.alloc (.cells #[.int .i64 v, .int .i64 a] 52)).alloc (.cells #[.int .i64 0, .int .i64 0, .slice none 0 0] 46)).alloc (.cells #[.int .i64 v, .int .i64 a] 52)).heap.size = w.heap.size + 3 := by simp
  have HT1 : Hid (Three (((w.alloc (.cells #[.int .i64 v, .int .i64 a] 52)).alloc (.cells #[.int .i64 0, .int .i64 0, .slice none 0 0] 46)).alloc (.cells #[.int .i64 v, .int .i64 a] 52)) (w.heap.size + 1) (.int .i64 0) (.int .i64 0) (.slice none 0 0)) := T1
  have HT2 : Hid (Two (((w.alloc (.cells #[.int .i64 v, .int .i64 a] 52)).alloc (.cells #[.int .i64 0, .int .i64 0, .slice none 0 0] 46)).alloc (.cells #[.int .i64 v, .int .i64 a] 52)) (w.heap.size + 1 + 1) (.int .i64 v) (.int .i64 a)) := T2
  have HB0 : Hid (Below w.heap.size w (((w.alloc (.cells #[.int .i64 v, .int .i64 a] 52)).alloc (.cells #[.int .i64 0, .int .i64 0, .slice none 0 0] 46)).alloc (.cells #[.int .i64 v, .int .i64 a] 52))) := hb0
  have HS0 : Hid ((((w.alloc (.cells #[.int .i64 v, .int .i64 a] 52)).alloc (.cells #[.int .i64 0, .int .i64 0, .slice none 0 0] 46)).alloc (.cells #[.int .i64 v, .int .i64 a] 52)).heap.size = w.heap.size + 3) := hs0
  clear T1 T2 hb0 hs0
  go_enter Tryz.func86, Tryz.ntmps86
  go_wp2_with fail
  all_goals refine (repeat_any v a (w.heap.size + 1 + 1) N (by omega) (by omega) _ HT2.out.c0 HT2.out.c1 HT2.out.lt).mono ?_
  all_goals rintro e w1 ⟨v1, rfl, ho1, hb1⟩
  all_goals rw [HS0.out] at ho1
  all_goals have HO1 : Hid (w1.ownsRow (w.heap.size + 3) 52 2 v1 N (pixCells (List.replicate N (v, a)))) := ho1
  all_goals obtain ⟨a1, c1, hv1⟩ := own_any ho1
  all_goals subst hv1
  all_goals have hbb := HB0.out.trans (hb1.mono HB0.out.size)
  all_goals obtain ⟨r0, r1, r2, f0, f1, f2, lt⟩ := HT1.out.on hb1
  all_goals clear ho1 hb1
  all_goals go_wp2_with fail
  all_goals refine bodyPost_ret (v := .agg #[.int .i64 (W : Int), .int .i64 (H : Int), .slice a1 N c1]) (by simp [results, Tryz.results86, go_sem, r0, r1, r2]) rfl ⟨_, rfl, (ownsRow_setCell_below (ownsRow_setCell_below (ownsRow_setCell_below HO1.out (a := ⟨w.heap.size + 1, 0, none⟩) (show w.heap.size + 1 < w.heap.size + 3 by omega) _) (a := ⟨w.heap.size + 1, 1, none⟩) (show w.heap.size + 1 < w.heap.size + 3 by omega) _) (a := ⟨w.heap.size + 1, 2, none⟩) (show w.heap.size + 1 < w.heap.size + 3 by omega) _), ?_⟩
  all_goals exact ((hbb.setCell (show w.heap.size ≤ w.heap.size + 1 by omega) _).setCell (show w.heap.size ≤ w.heap.size + 1 by omega) _).setCell (show w.heap.size ≤ w.heap.size + 1 by omega) _
end Go.Proofs.YtceabiodelfdoaaGreatDoor
/- Walks: objects.Seen. -/
namespace Go.Proofs.YtceabiodelfdoaaGreatDoor
open Go.RowKit

set_option maxHeartbeats 2000000 in
set_option maxRecDepth 100000 in
theorem seenC_any (id x y pw ph : Int) (u : Value) (ps : List (Int × Int)) (cx cy cw ch : Int) (sh : Bool) (w : World) (hps : ps.length ≤ 1000000000) (HR : Hid (RdP w u ps)) (HC : Hid (objC id x y pw ph ps cx cy cw ch = 0)) :
    Calls Tryz.prog 88 #[objV id x y pw ph u cx cy cw ch sh] w fun e w' => e = .returned (.bool false) ∧ Below w.heap.size w w' := by
  have hbz : Below w.heap.size w (w.alloc (.cells #[.int .i64 id, .int .i64 x, .int .i64 y, .int .i64 pw, .int .i64 ph, u, .int .i64 cx, .int .i64 cy, .int .i64 cw, .int .i64 ch, .bool sh] 141)) := (Below.refl _ _).alloc (Nat.le_refl _) _
  have HR0 : Hid (RdP _ _ _) := HR.out.on hbz
  unfold objV
  go_enter Tryz.func88, Tryz.ntmps88
  go_wp2_with fail
  refine (ocheck_any id x y pw ph u ps cx cy cw ch sh _ hps HR0 0 HC).mono ?_
  rintro e w1 ⟨rfl, hb1⟩
  rw [show errV 0 = Value.nilIface from rfl]
  go_wp2_with fail
  go_ret
  exact ⟨rfl, hbz.trans (hb1.mono hbz.size)⟩

set_option maxHeartbeats 2000000 in
set_option maxRecDepth 100000 in
theorem indexO_any (v : Value) (os : List Po) (w : World) (hos : os.length ≤ 1000) (hps : ∀ j, j < os.length → (os.getD j po0).ps.length ≤ 100) (hok : ∀ j, j < os.length → (os.getD j po0).fault' = 0) (HR : Hid (RdO w v os)) :
    Calls Tryz.prog 98 #[v, .func (.func 88) #[] #[]] w fun e w' => e = .returned (.int .i64 (-1)) ∧ Below w.heap.size w w' := by
  obtain ⟨a, cap, hv, hl, hcap⟩ := HR.out.shape
  have HPS : Hid (∀ j, j < os.length → (os.getD j po0).ps.length ≤ 100) := hps
  have HOK : Hid (∀ j, j < os.length → (os.getD j po0).fault' = 0) := hok
  obtain ⟨n, HN⟩ : ∃ n, Hid (os.length = n) := ⟨_, (rfl : _ = _)⟩
  rw [HN.out] at hv hl hos
  clear hps hok
  subst hv
  have hbz : Below w.heap.size w w := Below.refl _ _
  go_enter Tryz.func98, Tryz.ntmps98
  go_wp2_with fail
  go_loopw [8] (fun i wr => ∃ k : Nat, k ≤ n ∧ i = .int .i64 k ∧ Below w.heap.size w wr) (fun i _ => n - (intOf i).toNat)
  case atStart => exact ⟨0, by omega, rfl, hbz⟩
  case round =>
    obtain ⟨k, hk, rfl, hbr⟩ := hrel
    by_cases hlt : k < n
    · have hlt' : k < os.length := by rw [HN.out]; exact hlt
      obtain ⟨o, HX⟩ : ∃ o, Hid (os.getD k po0 = o) := ⟨_, (rfl : _ = _)⟩
      have hpl : o.ps.length ≤ 100 := by rw [← HX.out]; exact HPS.out k hlt'
      have HF : Hid (o.fault' = 0) := by unfold Hid; rw [← HX.out]; exact HOK.out k hlt'
      obtain ⟨g, p, ua, q, uc, rfl, hg, OC, HU, HM⟩ := (HR.out.on hbr).at hlt HX
      obtain ⟨c0, c1, c2, c3, c4, c5, c6, c7, c8, c9, c10⟩ := OC
      obtain ⟨id, x, y, pw, ph, ps, cx, cy, cw, ch, sh⟩ := o
      simp only at c0 c1 c2 c3 c4 c5 c6 c7 c8 c9 c10 HU HM hpl
      have HF2 : Hid (objC id x y pw ph ps cx cy cw ch = 0) := HF.out
      clear hlt' HX HF
      have hki0 : (0 : Int) ≤ (k : Int) := by omega
      have hki1 : (k : Int) < (n : Int) := by omega
      go_wp2_with fail
      refine (seenC_any id x y pw ph _ ps cx cy cw ch sh _ (by omega) HU HF2).mono ?_
      rintro e w1 ⟨rfl, hb1⟩
      have hbw1 : Below w.heap.size w w1 := hbr.trans (hb1.mono hbr.size)
      go_wp2_with fail
      go_roundw
      case rel => exact ⟨k + 1, by omega, by go_num, hbw1⟩
      case measure => simp [intOf]; omega
    · obtain rfl : k = n := by omega
      go_wp2_with fail
      go_ret
      exact ⟨rfl, hbr⟩

set_option maxRecDepth 100000 in
theorem containsO_any (v : Value) (os : List Po) (w : World) (hos : os.length ≤ 1000) (hps : ∀ j, j < os.length → (os.getD j po0).ps.length ≤ 100) (hok : ∀ j, j < os.length → (os.getD j po0).fault' = 0) (HR : Hid (RdO w v os)) :
    Calls Tryz.prog 87 #[v, .func (.func 88) #[] #[]] w fun e w' => e = .returned (.bool false) ∧ Below w.heap.size w w' := by
  obtain ⟨a, cap, hv, _, _⟩ := HR.out.shape
  subst hv
  go_enter Tryz.func87, Tryz.ntmps87
  go_wp2_with fail
  refine (indexO_any _ os _ hos hps hok HR).mono ?_
  rintro e w1 ⟨rfl, hb1⟩
  go_wp2_with fail
  go_ret
  exact ⟨rfl, hb1⟩

/-- pixels read as before where another block's cell is stored into -/
theorem rdP_set {w : World} {u : Value} {ps : List (Int × Int)} (h : RdP w u ps) {b : Nat} (hne : ∀ z n c, u = .slice (some z) n c → z.block ≠ b) (j : Nat) (x : Value) : RdP (w.setCell ⟨b, j, none⟩ x) u ps := by
  obtain ⟨a, cap, hv, hl, hc, hh⟩ := h
  refine ⟨a, cap, hv, hl, hc, fun h0 => ?_⟩
  obtain ⟨g, off, ha, hg, hcell⟩ := hh h0
  have hgb : g ≠ b := hne ⟨g, off, none⟩ _ _ (by rw [hv, ha])
  refine ⟨g, off, ha, by simpa using hg, fun j' hj => ?_⟩
  rw [World.cell?_of_block (a := ⟨g, off + j' * 2, none⟩) (Below.heap_setCell w ⟨b, j, none⟩ x g (by simpa using hgb)), World.cell?_of_block (a := ⟨g, off + j' * 2 + 1, none⟩) (Below.heap_setCell w ⟨b, j, none⟩ x g (by simpa using hgb))]
  exact hcell j' hj
theorem check_plain (W H : Nat) (v a : Int) (h1 : 1 ≤ W) (h2 : W ≤ 8) (h3 : 1 ≤ H) (h4 : H ≤ 8) (h5 : 0 ≤ v) (h6 : v ≤ 255) (h7 : 0 ≤ a) (h8 : a ≤ 255) : checkL (W : Int) (H : Int) (List.replicate (W * H) (v, a)) = 0 := by
  have s1 : sideB (W : Int) = true := by unfold sideB; simp; omega
  have s2 : sideB (H : Int) = true := by unfold sideB; simp; omega
  unfold checkL
  rw [s1, s2, if_neg (by simp), if_neg (by simp), if_pos]
  rw [List.all_eq_true]
  intro x hx
  rw [(List.mem_replicate.1 hx).2]
  unfold okPix shadeB
  simp
  omega
theorem layO_check (W H : Nat) (ps : List (Int × Int)) (o : Po) (hp : checkL (W : Int) (H : Int) ps = 0) (ho : o.fault' = 0) : checkL (W : Int) (H : Int) (layL W ps o.pw.toNat o.ph.toNat o.ps o.x o.y o.cx o.cy o.cw o.ch o.sh) = 0 := by
  have hz := (objC_zero _ _ _ _ _ _ _ _ _ _ ho).2.2.2.2.2.2.2.2.2.2.2.2.2.2
  obtain ⟨PW, PH, e1, e2, _⟩ := check_zero _ _ _ hz
  refine lay_check W H ps _ _ _ _ _ _ _ _ _ _ hp ?_
  rw [e1, e2] at hz ⊢
  simpa using hz
/-- one object more is seen -/
def layO (W : Nat) (ps : List (Int × Int)) (o : Po) : List (Int × Int) := layL W ps o.pw.toNat o.ph.toNat o.ps o.x o.y o.cx o.cy o.cw o.ch o.sh
/-- what Seen answers -/
def seenL (W H : Nat) (back : Int × Int) (os : List Po) : List (Int × Int) := os.foldl (layO W) (List.replicate (W * H) back)

set_option maxHeartbeats 4000000 in
set_option maxRecDepth 100000 in
theorem seen_own (v : Value) (os : List Po) (W H : Nat) (bv ba : Int) (w : World) (hos : os.length ≤ 1000) (hps : ∀ j, j < os.length → (os.getD j po0).ps.length ≤ 100) (hok : ∀ j, j < os.length → (os.getD j po0).fault' = 0) (HR : Hid (RdO w v os))
    (h1 : 1 ≤ W) (h2 : W ≤ 8) (h3 : 1 ≤ H) (h4 : H ≤ 8) (h5 : 0 ≤ bv) (h6 : bv ≤ 255) (h7 : 0 ≤ ba) (h8 : ba ≤ 255) :
    Calls Tryz.prog 79 #[v, .int .i64 (W : Int), .int .i64 (H : Int), pixV bv ba] w fun e w' => ∃ v', e = .returned (picV W H v') ∧ w'.ownsRow (w.heap.size + 2) 52 2 v' (seenL W H (bv, ba) os).length (pixCells (seenL W H (bv, ba) os)) ∧ Below w.heap.size w w' := by
  obtain ⟨a, cap, hv, hl, hcap⟩ := HR.out.shape
  have HPS : Hid (∀ j, j < os.length → (os.getD j po0).ps.length ≤ 100) := hps
  have HOK : Hid (∀ j, j < os.length → (os.getD j po0).fault' = 0) := hok
  obtain ⟨n, HN⟩ : ∃ n, Hid (os.length = n) := ⟨_, (rfl : _ = _)⟩
  have hos2 := hos
  rw [HN.out] at hv hl hos
  clear hps hok
  subst hv
  unfold pixV
  go_enter Tryz.func79, Tryz.ntmps79
  obtain ⟨W0, HW0⟩ : ∃ W0, Hid ((w.alloc (.cells #[.int .i64 bv, .int .i64 ba] 52)).alloc (.cells #[.int .i64 0, .int .i64 0, .slice none 0 0] 46) = W0) := ⟨_, (rfl : _ = _)⟩
  have hb0 : Below w.heap.size w W0 := by rw [← HW0.out]; exact ((Below.refl _ _).alloc (Nat.le_refl _) _).alloc (by simp) _
  have hs0 : W0.heap.size = w.heap.size + 2 := by rw [← HW0.out]; simp
  have T0 : Three W0 (w.heap.size + 1) (.int .i64 0) (.int .i64 0) (.slice none 0 0) := by rw [← HW0.out]; exact three_begin _ _ _ _ _ _ (by simp)
  go_wp2_with fail
  rw [HW0.out]
  refine (plainO_any W H bv ba h1 h2 h3 h4 W0).mono ?_
  unfold picV
  rintro e w1 ⟨u1, rfl, ho1, hb1⟩
  have hm1 : 1 * 1 ≤ W * H := Nat.mul_le_mul h1 h3
  obtain ⟨g1, uc1, rfl, hg10, _, _⟩ := own_shape ho1 (by omega)
  have hgw : g1 ≠ w.heap.size + 1 := by omega
  have hg1 : g1 < w1.heap.size := (ho1.lt g1 rfl).2
  have HR1 : Hid (w1.ownsRow (w.heap.size + 2) 52 2 (Value.slice (some ⟨g1, 0, none⟩) (W * H) uc1) (List.replicate (W * H) (bv, ba)).length (pixCells (List.replicate (W * H) (bv, ba)))) := by unfold Hid; rw [List.length_replicate]; exact own_mono ho1 (by omega)
  obtain ⟨n1, HN1⟩ : ∃ n1, Hid (W * H = n1) := ⟨_, (rfl : _ = _)⟩
  rw [HN1.out]
  rw [show Value.slice (some ⟨g1, 0, none⟩) (W * H) uc1 = Value.slice (some ⟨g1, 0, none⟩) n1 uc1 by rw [HN1.out]] at HR1
  clear ho1 hg10
  have T1 := T0.on hb1
  have hbb1 := hb0.trans (hb1.mono hb0.size)
  have hb2 : Below w1.heap.size w1 (w1.alloc (.cells #[.int .i64 (W : Int), .int .i64 (H : Int), .slice (some ⟨g1, 0, none⟩) n1 uc1] 46)) := (Below.refl _ _).alloc (Nat.le_refl _) _
  have T2 := T1.on hb2
  have P2 := three_begin w1 (.int .i64 (W : Int)) (.int .i64 (H : Int)) (.slice (some ⟨g1, 0, none⟩) n1 uc1) 46 w1.heap.size rfl
  have HR2 := hid_of (own_on2 HR1.out hb2)
  have hbb2 := hbb1.trans (hb2.mono hbb1.size)
  have hw1 : w.heap.size + 2 ≤ w1.heap.size := by have := hb1.size; omega
  have HRO2 : Hid (RdO (w1.alloc (.cells #[.int .i64 (W : Int), .int .i64 (H : Int), .slice (some ⟨g1, 0, none⟩) n1 uc1] 46)) (.slice a n cap) os) := HR.out.on hbb2
  clear hb0 hb1 hb2 T0 T1 HR1 hbb1 HW0 hs0
  go_wp2_with fail
  refine (containsO_any _ os _ hos2 HPS.out HOK.out HRO2).mono ?_
  rintro e w3 ⟨rfl, hb3⟩
  have T3 := hid_of (T2.on hb3)
  have P3 := hid_of (P2.on hb3)
  have HR3 := hid_of (own_on2 HR2.out hb3)
  have hbb3 := hbb2.trans (hb3.mono hbb2.size)
  obtain ⟨bp, HBP⟩ : ∃ bp, Hid (w1.heap.size = bp) := ⟨_, (rfl : _ = _)⟩
  rw [HBP.out] at hw1 hg1 P3
  have hgb : g1 ≠ bp := by omega
  clear hbb2 hb3 T2 P2 HR2 HRO2 hg1
  go_wp2_with fail
  rw [HBP.out]
  clear HBP
  go_loopw [21] (fun i wr => ∃ (k g c m : Nat), k ≤ n ∧ i = .int .i64 k ∧ g ≠ bp ∧ g ≠ w.heap.size + 1 ∧ bp < wr.heap.size ∧ Hid (Three wr bp (.int .i64 (W : Int)) (.int .i64 (H : Int)) (.slice (some ⟨g, 0, none⟩) m c)) ∧ Hid (Three wr (w.heap.size + 1) (.int .i64 0) (.int .i64 0) (.slice none 0 0)) ∧ Hid (wr.ownsRow (w.heap.size + 2) 52 2 (.slice (some ⟨g, 0, none⟩) m c) (seenL W H (bv, ba) (os.take k)).length (pixCells (seenL W H (bv, ba) (os.take k)))) ∧ Hid (checkL (W : Int) (H : Int) (seenL W H (bv, ba) (os.take k)) = 0) ∧ Below w.heap.size w wr) (fun i _ => n - (intOf i).toNat)
  case atStart => exact ⟨0, g1, uc1, n1, by omega, rfl, hgb, hgw, P3.out.lt, P3, T3, HR3, check_plain W H bv ba h1 h2 h3 h4 h5 h6 h7 h8, hbb3⟩
  case round =>
    obtain ⟨k, g, c, m, hk, rfl, hgn, hgw2, hbp, HP, HT, HRP, HCK, hbr⟩ := hrel
    by_cases hlt : k < n
    · have hlt' : k < os.length := by rw [HN.out]; exact hlt
      obtain ⟨o, HX⟩ : ∃ o, Hid (os.getD k po0 = o) := ⟨_, (rfl : _ = _)⟩
      have hpl : o.ps.length ≤ 100 := by rw [← HX.out]; exact HPS.out k hlt'
      have HF : Hid (o.fault' = 0) := by unfold Hid; rw [← HX.out]; exact HOK.out k hlt'
      have HS2 : Hid (seenL W H (bv, ba) (os.take (k + 1)) = layO W (seenL W H (bv, ba) (os.take k)) o) := by
        unfold Hid seenL
        rw [List.take_succ_eq_append_getElem hlt', List.foldl_append, ← HX.out, List.getD_eq_getElem?_getD, List.getElem?_eq_getElem hlt']
        rfl
      obtain ⟨g', p, ua, q, uc, rfl, hg, OC, HU, HM⟩ := (HR.out.on hbr).at hlt HX
      obtain ⟨c0, c1, c2, c3, c4, c5, c6, c7, c8, c9, c10⟩ := OC
      obtain ⟨L, HL⟩ : ∃ L, Hid (seenL W H (bv, ba) (os.take k) = L) := ⟨_, (rfl : _ = _)⟩
      rw [HL.out] at HS2 HRP HCK
      have HCK2 := layO_check W H L o HCK.out HF.out
      obtain ⟨id, x, y, pw, ph, ps, cx, cy, cw, ch, sh⟩ := o
      simp only at c0 c1 c2 c3 c4 c5 c6 c7 c8 c9 c10 HU HM hpl
      obtain ⟨z1, z2, z3, z4, z5, z6, z7, z8, z9, z10, z11, z12, z13, z14, z15⟩ := objC_zero _ _ _ _ _ _ _ _ _ _ HF.out
      obtain ⟨QW, QH, e1, e2, _⟩ := check_zero _ _ _ z15
      subst e1 e2
      have HQ := hid_of z15
      have HS3 : Hid (seenL W H (bv, ba) (os.take (k + 1)) = layL W L QW QH ps x y cx cy cw ch sh) := HS2.out
      have HCK3 : Hid (checkL (W : Int) (H : Int) (layL W L QW QH ps x y cx cy cw ch sh) = 0) := HCK2
      clear hlt' HX HF z1 z2 z15 HS2 HCK2 HL
      have hki0 : (0 : Int) ≤ (k : Int) := by omega
      have hki1 : (k : Int) < (n : Int) := by omega
      have hbx : Below wr.heap.size wr (wr.alloc (.cells #[.int .i64 id, .int .i64 x, .int .i64 y, .int .i64 (QW : Int), .int .i64 (QH : Int), .slice ua q uc, .int .i64 cx, .int .i64 cy, .int .i64 cw, .int .i64 ch, .bool sh] 141)) := (Below.refl _ _).alloc (Nat.le_refl _) _
      have HUX := hid_of (HU.out.on hbx)
      have HRX := hid_of (rdP_own (own_on2 HRP.out hbx))
      obtain ⟨p0, p1, p2, pf0, pf1, pf2, plt⟩ := HP.out.on hbx
      obtain ⟨q0, q1, q2, qf0, qf1, qf2, qlt⟩ := HP.out
      have HPX := hid_of (HP.out.on hbx)
      have HTX := hid_of (HT.out.on hbx)
      have hbX := hbr.trans (hbx.mono hbr.size)
      clear HU HRP HP HT hbx
      go_wp2_with fail
      refine (lay_any W H QW QH _ _ L ps id x y cx cy cw ch sh _ HCK HQ HRX HUX z3 z4 z5 z6 z7 z8 z9 z10 z11 z12 z13 z14).mono ?_
      unfold picV
      rintro e w2 ⟨v2, rfl, ho2, hb2⟩
      have hLne : (layL W L QW QH ps x y cx cy cw ch sh).length ≠ 0 := by
        rw [lay_len]
        obtain ⟨PW, PH, e1, e2, i1, i2, i3, i4, i5, _⟩ := check_zero _ _ _ HCK.out
        have : 1 * 1 ≤ PW * PH := Nat.mul_le_mul i1 i3
        omega
      obtain ⟨g2, c2', rfl, hg2, _, _⟩ := own_shape ho2 hLne
      have hg2b : g2 ≠ bp := by simp at hg2; omega
      have hg2w : g2 ≠ w.heap.size + 1 := by have := hbr.size; simp at hg2; omega
      have HRL := hid_of (own_mono ho2 (show w.heap.size + 2 ≤ _ by have := hbr.size; simp; omega))
      obtain ⟨m2, HM2⟩ : ∃ m2, Hid ((layL W L QW QH ps x y cx cy cw ch sh).length = m2) := ⟨_, (rfl : _ = _)⟩
      rw [HM2.out] at HRL
      have HP2 := hid_of (HPX.out.on hb2)
      have HT2 := hid_of (HTX.out.on hb2)
      have hbb := hbX.trans (hb2.mono hbX.size)
      have HRS := hid_of (ownsRow_setCell_other (ownsRow_setCell_other (ownsRow_setCell_other HRL.out (a := ⟨bp, 0, none⟩) (by simpa [Value.ownBlock] using hg2b) (.int .i64 (W : Int))) (a := ⟨bp, 1, none⟩) (by simpa [Value.ownBlock] using hg2b) (.int .i64 (H : Int))) (a := ⟨bp, 2, none⟩) (by simpa [Value.ownBlock] using hg2b) (.slice (some ⟨g2, 0, none⟩) m2 c2'))
      have HPS2 := hid_of (HP2.out.set_all (.int .i64 (W : Int)) (.int .i64 (H : Int)) (.slice (some ⟨g2, 0, none⟩) m2 c2'))
      have hwb : w.heap.size + 1 ≠ bp := by omega
      have HTS := hid_of (((HT2.out.other (j := 0) (u := .int .i64 (W : Int)) hwb).other (j := 1) (u := .int .i64 (H : Int)) hwb).other (j := 2) (u := .slice (some ⟨g2, 0, none⟩) m2 c2') hwb)
      have hbS : Below w.heap.size w (((w2.setCell ⟨bp, 0, none⟩ (.int .i64 (W : Int))).setCell ⟨bp, 1, none⟩ (.int .i64 (H : Int))).setCell ⟨bp, 2, none⟩ (.slice (some ⟨g2, 0, none⟩) m2 c2')) := ((hbb.setCell (show w.heap.size ≤ bp by omega) _).setCell (show w.heap.size ≤ bp by omega) _).setCell (show w.heap.size ≤ bp by omega) _
      obtain ⟨r0, r1, r2, rf0, rf1, rf2, rlt⟩ := HP2.out
      clear ho2 hb2 HRL hbb hbX HP2 HT2 HPX HTX HRX HUX p0 p1 p2 pf0 pf1 pf2 plt q0 q1 q2 qf0 qf1 qf2 qlt
      have hbp2 := HPS2.out.lt
      rw [HM2.out]
      go_wp2_with fail
      go_roundw
      case rel => exact ⟨k + 1, g2, c2', m2, by omega, by go_num, hg2b, hg2w, hbp2, HPS2, HTS, by rw [HS3.out, HM2.out]; exact HRS, by rw [HS3.out]; exact HCK3, hbS⟩
      case measure => simp [intOf]; omega
    · obtain rfl : k = n := by omega
      rw [List.take_of_length_le (by rw [HN.out]; exact Nat.le_refl _)] at HRP
      obtain ⟨p0, p1, p2, pf0, pf1, pf2, plt⟩ := HP.out
      obtain ⟨q0, q1, q2, qf0, qf1, qf2, qlt⟩ := HT.out
      go_wp2_with fail
      have HRS := hid_of (ownsRow_setCell_other (ownsRow_setCell_other (ownsRow_setCell_other HRP.out (a := ⟨w.heap.size + 1, 0, none⟩) (by simpa [Value.ownBlock] using hgw2) (.int .i64 (W : Int))) (a := ⟨w.heap.size + 1, 1, none⟩) (by simpa [Value.ownBlock] using hgw2) (.int .i64 (H : Int))) (a := ⟨w.heap.size + 1, 2, none⟩) (by simpa [Value.ownBlock] using hgw2) (.slice (some ⟨g, 0, none⟩) m c))
      refine bodyPost_ret (v := .agg #[.int .i64 (W : Int), .int .i64 (H : Int), .slice (some ⟨g, 0, none⟩) m c]) (by simp [results, Tryz.results79, go_sem, q0, q1, q2]) rfl ⟨_, rfl, HRS.out, ?_⟩
      repeat (refine Below.setCell ?_ (by simp) _)
      exact hbr
theorem seen_any (v : Value) (os : List Po) (W H : Nat) (bv ba : Int) (w : World) (hos : os.length ≤ 1000) (hps : ∀ j, j < os.length → (os.getD j po0).ps.length ≤ 100) (hok : ∀ j, j < os.length → (os.getD j po0).fault' = 0) (HR : Hid (RdO w v os))
    (h1 : 1 ≤ W) (h2 : W ≤ 8) (h3 : 1 ≤ H) (h4 : H ≤ 8) (h5 : 0 ≤ bv) (h6 : bv ≤ 255) (h7 : 0 ≤ ba) (h8 : ba ≤ 255) :
    Calls Tryz.prog 79 #[v, .int .i64 (W : Int), .int .i64 (H : Int), pixV bv ba] w fun e w' => ∃ v', e = .returned (picV W H v') ∧ RdP w' v' (seenL W H (bv, ba) os) ∧ Below w.heap.size w w' := by
  refine (seen_own v os W H bv ba w hos hps hok HR h1 h2 h3 h4 h5 h6 h7 h8).mono ?_
  rintro e w' ⟨v', he, ho, hb⟩
  exact ⟨v', he, rdP_own ho, hb⟩
end Go.Proofs.YtceabiodelfdoaaGreatDoor
/- Frames: what lies in memory, a list of them opened. -/
namespace Go.Proofs.YtceabiodelfdoaaGreatDoor
open Go.ChangeShapes Go.WideShapes Go.ChangeAt Go.RowKit Go.Joins Go.Deep

/-- a frame -/
structure Pf where
  W : Int
  H : Int
  ps : List (Int × Int)
  d : Int

@[reducible] def pf0 : Pf := ⟨0, 0, [], 0⟩
instance : Inhabited Pf := ⟨pf0⟩

/-- a list of frames -/
def RdF (w : World) (v : Value) (fs : List Pf) : Prop :=
  ∃ a cap, v = .slice a fs.length cap ∧ fs.length ≤ cap ∧ cap ≤ 9223372036854775807 ∧ (fs ≠ [] → ∃ g off, a = some ⟨g, off, none⟩ ∧ g < w.heap.size ∧
    ∀ j, j < fs.length → ∃ u, w.cell? ⟨g, off + j * 4, none⟩ = some (.int .i64 (fs.getD j pf0).W) ∧ w.cell? ⟨g, off + j * 4 + 1, none⟩ = some (.int .i64 (fs.getD j pf0).H) ∧
      w.cell? ⟨g, off + j * 4 + 2, none⟩ = some u ∧ w.cell? ⟨g, off + j * 4 + 3, none⟩ = some (.int .i64 (fs.getD j pf0).d) ∧ RdP w u (fs.getD j pf0).ps)

theorem RdF.on {w w' : World} {v : Value} {fs : List Pf} (h : RdF w v fs) (hb : Below w.heap.size w w') : RdF w' v fs := by
  obtain ⟨a, cap, hv, hl, hc, hh⟩ := h
  refine ⟨a, cap, hv, hl, hc, fun hne => ?_⟩
  obtain ⟨g, off, ha, hg, hcell⟩ := hh hne
  refine ⟨g, off, ha, Nat.lt_of_lt_of_le hg hb.size, fun j hj => ?_⟩
  obtain ⟨u, h0, h1, h2, h3, hr⟩ := hcell j hj
  refine ⟨u, ?_, ?_, ?_, ?_, hr.on hb⟩
  · rw [hb.cell (p := ⟨g, off + j * 4, none⟩) hg]; exact h0
  · rw [hb.cell (p := ⟨g, off + j * 4 + 1, none⟩) hg]; exact h1
  · rw [hb.cell (p := ⟨g, off + j * 4 + 2, none⟩) hg]; exact h2
  · rw [hb.cell (p := ⟨g, off + j * 4 + 3, none⟩) hg]; exact h3

theorem Tryz.cellsFr : Tryz.prog.cellsOf 50 = 4 := by kernel_rfl
set_option maxRecDepth 100000 in
theorem cells_frame {H : Type} {enc : TypeId × Value → H} {W : World} {cs : List Value} {fuel : Nat} {z : DataW H × List MemPlace} (hl : cs.length = 4)
    (h : DataW.trod enc Tryz.prog W 0 (fun _ => true) true fuel 50 cs = some z) :
    ∃ (pw ph : Int) (u : Value) (ps : List (Int × Int)) (d : Int), cs = [.int .i64 pw, .int .i64 ph, u, .int .i64 d] ∧ RdP W u ps := by
  obtain ⟨xs, n, _, rfl, hl', hlen, hf⟩ := DataW.trod_struct Tryz.underlying50 h
  match cs, hl with
  | [c0, c1, c2, c3], _ =>
    match xs, hlen with
    | [y0, y1], _ =>
      have h3 : DataW.trod enc Tryz.prog W 0 (fun _ => true) true n 46 [c0, c1, c2] = some y0 := by have := hf 0 _ rfl; simpa [Tryz.cellsPic] using this
      have h5 : DataW.trod enc Tryz.prog W 0 (fun _ => true) true n 3 [c3] = some y1 := by have := hf 1 _ rfl; simpa [Tryz.cellsInt] using this
      obtain ⟨z0, z1, z2, m, _, _, p0, p1, p2⟩ := trod_struct3 Tryz.underlying46 h3
      simp only [Tryz.cellsInt] at p0 p1
      have p2' : DataW.trod enc Tryz.prog W 0 (fun _ => true) true m 44 [c2] = some z2 := by simpa [Tryz.cellsSl] using p2
      obtain ⟨ps, hps⟩ := view_pix p2'
      obtain ⟨i3, e3, _, _⟩ := DataW.trod_int Tryz.underlying3 p0
      obtain ⟨i4, e4, _, _⟩ := DataW.trod_int Tryz.underlying3 p1
      obtain ⟨i5, e5, _, _⟩ := DataW.trod_int Tryz.underlying3 h5
      simp at e3 e4 e5
      subst e3 e4 e5
      exact ⟨i3, i4, c2, ps, i5, rfl, hps⟩

/-- a list of frames that is handed in -/
theorem open_frames {H : Type} {enc : TypeId × Value → H} {W : World} {u : Value} {x : DataW H × List MemPlace} {fuel : Nat}
    (hf : DataW.trod enc Tryz.prog W 0 (fun _ => true) true fuel 41 [u] = some x) : ∃ fs, RdF W u fs := by
  rcases open_slice Tryz.underlying41 hf with ⟨hc, _⟩ | ⟨a, len, cap, m, n, D, Pl, hc, hb, hl, hm, hmm, hx, hall⟩
  · simp only [List.cons.injEq, and_true] at hc
    subst hc
    exact ⟨[], none, 0, rfl, by simp, by omega, fun h => absurd rfl h⟩
  · simp only [List.cons.injEq, and_true] at hc
    subst hc
    simp only [if_true] at hmm
    subst hmm
    have each : ∀ i, i < m → ∃ q : Pf × Value, W.cell? (a.add (i * 4)) = some (.int .i64 q.1.W) ∧ W.cell? (a.add (i * 4 + 1)) = some (.int .i64 q.1.H) ∧ W.cell? (a.add (i * 4 + 2)) = some q.2 ∧ W.cell? (a.add (i * 4 + 3)) = some (.int .i64 q.1.d) ∧ RdP W q.2 q.1.ps := by
      intro i hi
      obtain ⟨cs', h1, h2⟩ := hall i hi
      rw [Tryz.cellsFr] at h1
      obtain ⟨_, hlen, hcell⟩ := World.cells?_some h1
      obtain ⟨pw, ph, v, ps, d, rfl, hr⟩ := cells_frame hlen h2
      have e0 := hcell 0 (by omega)
      have e1 := hcell 1 (by omega)
      have e2 := hcell 2 (by omega)
      have e3 := hcell 3 (by omega)
      rw [add_add] at e0 e1 e2 e3
      exact ⟨(⟨pw, ph, ps, d⟩, v), by simpa using e0, by simpa using e1, by simpa using e2, by simpa using e3, hr⟩
    obtain ⟨q, hq⟩ := choose_lt each
    unfold maxLen at hm
    refine ⟨(List.range len).map fun i => (q i).1, some a, m, by simp, by simpa using hl, by omega, fun hne => ?_⟩
    have hpos : 0 < len := by
      rcases Nat.eq_zero_or_pos len with h | h
      · subst h; simp at hne
      · exact h
    obtain ⟨sb, so, spot⟩ := a
    have hspot : spot = none := by simpa [Addr.add] using World.cell?_spot (hq 0 (by omega)).1
    subst hspot
    refine ⟨sb, so, rfl, ?_, fun j hj => ?_⟩
    · have h0 := (hq 0 (by omega)).1
      rcases Nat.lt_or_ge sb W.heap.size with h | h
      · exact h
      · simp [Addr.add, World.cell?, Array.getElem?_eq_none h] at h0
    · simp only [List.length_map, List.length_range] at hj
      have hg : ((List.range len).map fun i => (q i).1).getD j pf0 = (q j).1 := by
        rw [List.getD_eq_getElem?_getD, List.getElem?_map, List.getElem?_range hj]
        simp
      rw [hg]
      obtain ⟨h0, h1, h2, h3, h4⟩ := hq j (by omega)
      rw [add_plain] at h0 h1 h2 h3
      exact ⟨(q j).2, h0, by rw [Nat.add_assoc]; exact h1, by rw [Nat.add_assoc]; exact h2, by rw [Nat.add_assoc]; exact h3, h4⟩

theorem RdF.at {w : World} {a : Option Addr} {n cap : Nat} {fs : List Pf} (h : RdF w (.slice a n cap) fs) {k : Nat} (hk : k < n) {f : Pf} (HF : Hid (fs.getD k pf0 = f)) :
    ∃ g o ua m uc, a = some ⟨g, o, none⟩ ∧ g < w.heap.size ∧ w.cell? ⟨g, o + k * 4, none⟩ = some (.int .i64 f.W) ∧ w.cell? ⟨g, o + k * 4 + 1, none⟩ = some (.int .i64 f.H) ∧
      w.cell? ⟨g, o + k * 4 + 2, none⟩ = some (.slice ua m uc) ∧ w.cell? ⟨g, o + k * 4 + 3, none⟩ = some (.int .i64 f.d) ∧ Hid (RdP w (.slice ua m uc) f.ps) ∧ Hid (f.ps.length = m) := by
  obtain ⟨a', cap', hv, hl, hc, hh⟩ := h
  simp only [Value.slice.injEq] at hv
  obtain ⟨rfl, rfl, rfl⟩ := hv
  obtain ⟨g, o, ha, hg, hcell⟩ := hh (by intro e; rw [e] at hk; simp at hk)
  obtain ⟨u, h0, h1, h2, h3, h4⟩ := hcell k hk
  rw [HF.out] at h0 h1 h3 h4
  have h5 := h4
  obtain ⟨ua, uc, rfl, _⟩ := h5
  exact ⟨g, o, ua, _, uc, ha, hg, h0, h1, h2, h3, h4, (rfl : _ = _)⟩
theorem RdF.shape {w : World} {v : Value} {fs : List Pf} (h : RdF w v fs) : ∃ a cap, v = .slice a fs.length cap ∧ fs.length ≤ cap ∧ cap ≤ 9223372036854775807 := by
  obtain ⟨a, cap, h1, h2, h3, _⟩ := h
  exact ⟨a, cap, h1, h2, h3⟩
end Go.Proofs.YtceabiodelfdoaaGreatDoor
/- A book and its machine, as lists. -/
namespace Go.Proofs.YtceabiodelfdoaaGreatDoor
open Go.RowKit

/-- how many loops more are open behind an op -/
def opn (q : Pq) : Int := if q.kind = 12 then 1 else if q.kind = 13 then -1 else 0
/-- how many are open ahead of the op at k -/
def dep (qs : List Pq) (k : Nat) : Int := ((qs.take k).map opn).sum
theorem dep_zero (qs : List Pq) : dep qs 0 = 0 := by simp [dep]
theorem getD_pq {qs : List Pq} {k : Nat} (h : k < qs.length) : qs.getD k pq0 = qs[k] := by rw [List.getD_eq_getElem?_getD, List.getElem?_eq_getElem h]; rfl
theorem mem_pq {qs : List Pq} {k : Nat} (h : k < qs.length) : qs.getD k pq0 ∈ qs := by rw [getD_pq h]; exact List.getElem_mem h
theorem dep_succ (qs : List Pq) (k : Nat) (h : k < qs.length) : dep qs (k + 1) = dep qs k + opn (qs.getD k pq0) := by
  unfold dep
  rw [List.take_succ_eq_append_getElem h, List.map_append, List.sum_append, getD_pq h]
  simp
/-- Check behind the first i ops, d loops open; n: how many ops there are -/
def bkR (n : Nat) : Nat → Int → List Pq → Nat
  | _, d, [] => if 0 < d then 3 else 0
  | i, d, q :: r => if opC q ≠ 0 then opC q else if decide (q.kind = 1) ≠ decide (i = 0) ∨ decide (q.kind = 16) ≠ decide (i + 1 = n) then 3
      else if d + opn q < 0 then 3 else if 3 < d + opn q then 2 else bkR n (i + 1) (d + opn q) r
/-- Check's number -/
def bkC (qs : List Pq) : Nat :=
  if qs.length < 2 ∨ (qs.getD 0 pq0).kind ≠ 1 ∨ (qs.getD (qs.length - 1) pq0).kind ≠ 16 then 3 else if 60 < qs.length then 2 else bkR qs.length 0 0 qs
/-- a book that may be -/
structure Book (qs : List Pq) : Prop where
  two : 2 ≤ qs.length
  few : qs.length ≤ 60
  ok : ∀ j, j < qs.length → opC (qs.getD j pq0) = 0
  head : ∀ j, j < qs.length → ((qs.getD j pq0).kind = 1 ↔ j = 0)
  last : ∀ j, j < qs.length → ((qs.getD j pq0).kind = 16 ↔ j + 1 = qs.length)
  low : ∀ j, j ≤ qs.length → 0 ≤ dep qs j
  high : ∀ j, j ≤ qs.length → dep qs j ≤ 3
  shut : dep qs qs.length = 0
theorem bkR_zero (qs : List Pq) : ∀ (r : List Pq) (i : Nat), i + r.length = qs.length → qs.drop i = r → 0 ≤ dep qs i → dep qs i ≤ 3 → bkR qs.length i (dep qs i) r = 0 →
    (∀ j, i ≤ j → j < qs.length → opC (qs.getD j pq0) = 0 ∧ ((qs.getD j pq0).kind = 1 ↔ j = 0) ∧ ((qs.getD j pq0).kind = 16 ↔ j + 1 = qs.length)) ∧ (∀ j, i ≤ j → j ≤ qs.length → 0 ≤ dep qs j ∧ dep qs j ≤ 3) ∧ dep qs qs.length ≤ 0 := by
  intro r
  induction r with
  | nil =>
    intro i hi _ h0 h3 h
    simp at hi
    subst hi
    simp only [bkR] at h
    refine ⟨fun j h1 h2 => by omega, fun j h1 h2 => by obtain rfl : j = qs.length := by omega
                                                       exact ⟨h0, h3⟩, ?_⟩
    split at h <;> omega
  | cons q r ih =>
    intro i hi hd h0 h3 h
    simp only [List.length_cons] at hi
    have hlt : i < qs.length := by omega
    have hq : qs.getD i pq0 = q := by
      rw [getD_pq hlt]
      have := List.getElem_cons_drop (i := i) hlt
      rw [hd] at this
      exact (List.cons.inj this).1
    have hr : qs.drop (i + 1) = r := by
      have := List.getElem_cons_drop (i := i) hlt
      rw [hd] at this
      exact (List.cons.inj this).2
    have hs := dep_succ qs i hlt
    rw [hq] at hs
    unfold bkR at h
    split at h
    · rename_i hc; omega
    rename_i hc
    split at h
    · cases h
    rename_i hk
    split at h
    · cases h
    split at h
    · cases h
    rename_i hlo hhi
    rw [← hs] at h hlo hhi
    obtain ⟨a1, a2, a3⟩ := ih (i + 1) (by omega) hr (by omega) (by omega) h
    refine ⟨fun j h1 h2 => ?_, fun j h1 h2 => ?_, a3⟩
    · rcases Nat.eq_or_lt_of_le h1 with rfl | h1
      · rw [hq]
        have hk1 : decide (q.kind = 1) = decide (i = 0) := by
          apply Classical.byContradiction; intro hn; exact hk (.inl hn)
        have hk2 : decide (q.kind = 16) = decide (i + 1 = qs.length) := by
          apply Classical.byContradiction; intro hn; exact hk (.inr hn)
        exact ⟨by omega, by simpa using hk1, by simpa using hk2⟩
      · exact a1 j h1 h2
    · rcases Nat.eq_or_lt_of_le h1 with rfl | h1
      · exact ⟨h0, h3⟩
      · exact a2 j h1 h2
theorem book_of {qs : List Pq} (h : bkC qs = 0) : Book qs := by
  unfold bkC at h
  split at h
  · cases h
  rename_i h1
  split at h
  · cases h
  rename_i h2
  have hd := dep_zero qs
  rw [← hd] at h
  obtain ⟨a1, a2, a3⟩ := bkR_zero qs qs 0 (by simp) rfl (by omega) (by omega) h
  exact ⟨by omega, by omega, fun j hj => (a1 j (by omega) hj).1, fun j hj => (a1 j (by omega) hj).2.1, fun j hj => (a1 j (by omega) hj).2.2, fun j hj => (a2 j (by omega) hj).1, fun j hj => (a2 j (by omega) hj).2, by have := (a2 qs.length (by omega) (by omega)).1; omega⟩

/-- the loop at p ends at j -/
structure Clo (qs : List Pq) (p j : Nat) : Prop where
  lt : p < j
  on : j < qs.length
  loop : (qs.getD p pq0).kind = 12
  next : (qs.getD j pq0).kind = 13
  same : dep qs (j + 1) = dep qs p
  over : ∀ k, p < k → k ≤ j → dep qs p + 1 ≤ dep qs k
theorem Clo.one {qs : List Pq} {p j k : Nat} (h : Clo qs p j) (h2 : Clo qs p k) : j = k := by
  rcases Nat.lt_trichotomy j k with hl | rfl | hl
  · have := h2.over (j + 1) (by have := h.lt; omega) (by omega)
    have := h.same
    omega
  · rfl
  · have := h.over (k + 1) (by have := h2.lt; omega) (by omega)
    have := h2.same
    omega
/-- where the loop at p ends -/
def cloF (qs : List Pq) (p : Nat) : Nat := ((List.range qs.length).find? fun j => decide (p < j) && decide (dep qs (j + 1) = dep qs p)).getD 0
theorem Clo.fn {qs : List Pq} {p j : Nat} (h : Clo qs p j) : cloF qs p = j := by
  unfold cloF
  have : (List.range qs.length).find? (fun j => decide (p < j) && decide (dep qs (j + 1) = dep qs p)) = some j := by
    rw [List.find?_eq_some_iff_getElem]
    refine ⟨by simp [h.lt, h.same], j, by simpa using h.on, by simp, fun k hk => ?_⟩
    simp
    rcases Nat.lt_or_ge p k with hp | hp
    · have := h.over (k + 1) (by omega) (by omega)
      exact .inr (by omega)
    · exact .inl hp
  rw [this]
  rfl

/-- a machine -/
structure Ms where
  pc : Nat
  opn : List (Nat × Nat)
  bv : Int
  ba : Int
  obs : List Po
  kept : List Po
  frs : List Pf
def ms0 : Ms := ⟨0, [], 0, 0, [], [], []⟩
/-- what a wait tells -/
def tellF (qs : List Pq) (s : Ms) (d : Int) : Pf := ⟨(qs.getD 0 pq0).a, (qs.getD 0 pq0).b, seenL (qs.getD 0 pq0).a.toNat (qs.getD 0 pq0).b.toNat (s.bv, s.ba) s.obs, d⟩
/-- the op is done; the machine is left ahead of what comes next -/
def doM (qs : List Pq) (s : Ms) (q : Pq) : Ms ⊕ Nat :=
  if q.kind = 1 then .inl s
  else if q.kind = 10 then .inl { s with bv := q.a, ba := q.b }
  else if q.kind = 11 then if 40 ≤ s.frs.length then .inr 7 else .inl { s with frs := s.frs ++ [tellF qs s q.a] }
  else if q.kind = 12 then if q.a = 0 then .inl { s with pc := cloF qs s.pc } else .inl { s with opn := s.opn ++ [(s.pc, q.a.toNat)] }
  else if q.kind = 13 then if 1 < (s.opn.getD (s.opn.length - 1) (0, 0)).2 then .inl { s with pc := (s.opn.getD (s.opn.length - 1) (0, 0)).1, opn := s.opn.dropLast ++ [((s.opn.getD (s.opn.length - 1) (0, 0)).1, (s.opn.getD (s.opn.length - 1) (0, 0)).2 - 1)] } else .inl { s with opn := s.opn.dropLast }
  else if q.kind = 14 then .inl { s with kept := s.obs }
  else if q.kind = 15 then .inl { s with obs := s.kept }
  else match doO s.obs q with
    | .inl rs => .inl { s with obs := rs }
    | .inr c => .inr c
def doneM (qs : List Pq) (s : Ms) : Prop := (qs.getD s.pc pq0).kind = 16
instance (qs : List Pq) (s : Ms) : Decidable (doneM qs s) := by unfold doneM; infer_instance
def stepM (qs : List Pq) (s : Ms) : Ms ⊕ Nat :=
  if doneM qs s then .inl s else match doM qs s (qs.getD s.pc pq0) with
    | .inl s' => .inl { s' with pc := s'.pc + 1 }
    | .inr c => .inr c
/-- what is played -/
def playM (qs : List Pq) : Nat → Ms → List Pf ⊕ Nat
  | 0, s => if doneM qs s then .inl s.frs else .inr 8
  | f + 1, s => if doneM qs s then .inl s.frs else match stepM qs s with
    | .inl s' => playM qs f s'
    | .inr c => .inr c
/-- what holds of a machine on its way -/
structure Way (qs : List Pq) (s : Ms) : Prop where
  on : s.pc < qs.length
  deep : (s.opn.length : Int) = dep qs s.pc
  inn : ∀ m, m < s.opn.length → (s.opn.getD m (0, 0)).1 < qs.length ∧ (qs.getD (s.opn.getD m (0, 0)).1 pq0).kind = 12 ∧ dep qs (s.opn.getD m (0, 0)).1 = m ∧ 1 ≤ (s.opn.getD m (0, 0)).2 ∧ (s.opn.getD m (0, 0)).2 ≤ 9
  bv : 0 ≤ s.bv ∧ s.bv ≤ 255
  ba : 0 ≤ s.ba ∧ s.ba ≤ 255
  obs : FineO s.obs
  kept : FineO s.kept
  frs : s.frs.length ≤ 40
end Go.Proofs.YtceabiodelfdoaaGreatDoor
/- A book's machine: what holds on its way. -/
namespace Go.Proofs.YtceabiodelfdoaaGreatDoor
open Go.RowKit

theorem opn_cases (q : Pq) : (q.kind = 12 ∧ opn q = 1) ∨ (q.kind = 13 ∧ opn q = -1) ∨ (q.kind ≠ 12 ∧ q.kind ≠ 13 ∧ opn q = 0) := by
  unfold opn
  split
  · exact .inl ⟨by assumption, rfl⟩
  split
  · exact .inr (.inl ⟨by assumption, rfl⟩)
  · exact .inr (.inr ⟨by assumption, by assumption, rfl⟩)
theorem first_low (f : Nat → Int) (p : Nat) (c : Int) : ∀ m, (∃ k, p < k ∧ k ≤ m ∧ f k ≤ c) → ∃ j, p ≤ j ∧ j + 1 ≤ m ∧ f (j + 1) ≤ c ∧ ∀ k, p < k → k ≤ j → c < f k := by
  intro m
  induction m with
  | zero => rintro ⟨k, h1, h2, _⟩; omega
  | succ m ih =>
    rintro ⟨k, h1, h2, h3⟩
    by_cases hk : ∃ k, p < k ∧ k ≤ m ∧ f k ≤ c
    · obtain ⟨j, a1, a2, a3, a4⟩ := ih hk
      exact ⟨j, a1, by omega, a3, a4⟩
    · obtain rfl : k = m + 1 := by
        apply Classical.byContradiction
        intro hn
        exact hk ⟨k, h1, by omega, h3⟩
      refine ⟨m, by omega, by omega, h3, fun k h4 h5 => ?_⟩
      apply Classical.byContradiction
      intro hn
      exact hk ⟨k, h4, h5, by omega⟩
theorem clo_ex {qs : List Pq} (hb : Book qs) {p : Nat} (hp : p < qs.length) (hk : (qs.getD p pq0).kind = 12) : ∃ j, Clo qs p j := by
  have hs := dep_succ qs p hp
  have ho : opn (qs.getD p pq0) = 1 := by unfold opn; rw [if_pos hk]
  have hl : p + 1 ≠ qs.length := fun h => by have := (hb.last p hp).2 h; omega
  obtain ⟨j, a1, a2, a3, a4⟩ := first_low (dep qs) p (dep qs p) qs.length ⟨qs.length, hp, Nat.le_refl _, by rw [hb.shut]; exact hb.low p (by omega)⟩
  have hpj : p < j := by
    rcases Nat.eq_or_lt_of_le a1 with rfl | h
    · omega
    · exact h
  have hj := dep_succ qs j (by omega)
  have h5 := a4 j hpj (Nat.le_refl _)
  rcases opn_cases (qs.getD j pq0) with ⟨k1, k2⟩ | ⟨k1, k2⟩ | ⟨_, _, k2⟩
  · omega
  · exact ⟨j, hpj, by omega, hk, k1, by omega, fun k h1 h2 => by have := a4 k h1 h2; omega⟩
  · omega

theorem fine_nil : FineO [] := ⟨by simp, fun i j _ h => by simp at h⟩
theorem way0 {qs : List Pq} (h : Book qs) : Way qs ms0 :=
  ⟨by have := h.two; show 0 < _; omega, by simp [ms0, dep_zero], fun m hm => by simp [ms0] at hm, by simp [ms0], by simp [ms0], fine_nil, fine_nil, by simp [ms0]⟩
theorem dropLast_getD {α : Type} (l : List α) (d : α) {m : Nat} (h : m < l.length - 1) : l.dropLast.getD m d = l.getD m d := by
  rw [List.getD_eq_getElem?_getD, List.getD_eq_getElem?_getD, List.getElem?_dropLast, if_pos h]
theorem snoc_getD {α : Type} (l : List α) (x d : α) (m : Nat) (h : m < l.length + 1) : (l ++ [x]).getD m d = if m = l.length then x else l.getD m d := by
  rw [List.getD_eq_getElem?_getD, List.getD_eq_getElem?_getD]
  split
  · rename_i h1; subst h1; simp
  · rw [List.getElem?_append_left (by omega)]
theorem op_back (q : Pq) (h : opC q = 0) (hk : q.kind = 10) : (0 ≤ q.a ∧ q.a ≤ 255) ∧ 0 ≤ q.b ∧ q.b ≤ 255 := by
  obtain ⟨_, _, h3, _⟩ := op_shape q h ⟨10, [66, 65, 67, 75], false, 2, 0, 255, false⟩ (by rw [hk]; rfl)
  simp [inB, nums4] at h3
  omega
theorem op_loop (q : Pq) (h : opC q = 0) (hk : q.kind = 12) : 0 ≤ q.a ∧ q.a ≤ 9 := by
  obtain ⟨_, _, h3, _⟩ := op_shape q h ⟨12, [76, 79, 79, 80], false, 1, 0, 9, false⟩ (by rw [hk]; rfl)
  simp [inB, nums4] at h3
  omega
theorem op_head (q : Pq) (h : opC q = 0) (hk : q.kind = 1) : (1 ≤ q.a ∧ q.a ≤ 8) ∧ 1 ≤ q.b ∧ q.b ≤ 8 := by
  obtain ⟨_, _, h3, _⟩ := op_shape q h ⟨1, [72, 69, 65, 68], false, 2, 1, 8, false⟩ (by rw [hk]; rfl)
  simp [inB, nums4] at h3
  omega
/-- an op that is neither the last nor opens or closes leads to the next place -/
theorem way_next {qs : List Pq} {s : Ms} (hb : Book qs) (hw : Way qs s) (hd : ¬ doneM qs s) (h2 : (qs.getD s.pc pq0).kind ≠ 12) (h3 : (qs.getD s.pc pq0).kind ≠ 13) : s.pc + 1 < qs.length ∧ (s.opn.length : Int) = dep qs (s.pc + 1) := by
  have hl : s.pc + 1 ≠ qs.length := fun h => hd ((hb.last s.pc hw.on).2 h)
  refine ⟨by have := hw.on; omega, ?_⟩
  rw [hw.deep, dep_succ qs s.pc hw.on]
  rcases opn_cases (qs.getD s.pc pq0) with ⟨k1, k2⟩ | ⟨k1, k2⟩ | ⟨_, _, k2⟩
  · exact absurd k1 h2
  · exact absurd k1 h3
  · omega
theorem open_pos {qs : List Pq} {s : Ms} (hb : Book qs) (hw : Way qs s) (h3 : (qs.getD s.pc pq0).kind = 13) : 0 < s.opn.length ∧ s.opn.length ≤ 3 := by
  have h1 := dep_succ qs s.pc hw.on
  have h2 := hb.low (s.pc + 1) (by have := hw.on; omega)
  have h4 := hb.high s.pc (by have := hw.on; omega)
  have h5 := hw.deep
  unfold opn at h1
  rw [if_neg (by omega), if_pos h3] at h1
  omega
theorem step_way {qs : List Pq} {s s' : Ms} (hb : Book qs) (hw : Way qs s) (hd : ¬ doneM qs s) (h : doM qs s (qs.getD s.pc pq0) = .inl s') : Way qs { s' with pc := s'.pc + 1 } := by
  obtain ⟨q, hq⟩ : ∃ q, qs.getD s.pc pq0 = q := ⟨_, rfl⟩
  have hok := hb.ok s.pc hw.on
  have hn := way_next hb hw hd
  have hl : s.pc + 1 ≠ qs.length := fun h => hd ((hb.last s.pc hw.on).2 h)
  have hon := hw.on
  have hsu := dep_succ qs s.pc hw.on
  rw [hq] at h hok hn hsu
  unfold doM at h
  split at h
  · rename_i hk
    obtain rfl := Sum.inl.inj h
    obtain ⟨a1, a2⟩ := hn (by omega) (by omega)
    exact ⟨a1, a2, hw.inn, hw.bv, hw.ba, hw.obs, hw.kept, hw.frs⟩
  split at h
  · rename_i hk
    obtain rfl := Sum.inl.inj h
    obtain ⟨a1, a2⟩ := hn (by omega) (by omega)
    exact ⟨a1, a2, hw.inn, (op_back q hok hk).1, (op_back q hok hk).2, hw.obs, hw.kept, hw.frs⟩
  split at h
  · rename_i hk
    split at h
    · cases h
    obtain rfl := Sum.inl.inj h
    obtain ⟨a1, a2⟩ := hn (by omega) (by omega)
    exact ⟨a1, a2, hw.inn, hw.bv, hw.ba, hw.obs, hw.kept, by simp only [List.length_append, List.length_singleton]; omega⟩
  split at h
  · rename_i hk
    have ho : opn q = 1 := by unfold opn; rw [if_pos hk]
    split at h
    · obtain rfl := Sum.inl.inj h
      obtain ⟨j, hj⟩ := clo_ex hb hon (by rw [hq]; exact hk)
      have he := hj.fn
      have h5 : j + 1 ≠ qs.length := fun h => by have := (hb.last j hj.on).2 h; have := hj.next; omega
      exact ⟨by simp only [he]; have := hj.on; omega, by simp only [he]; rw [hj.same, hw.deep], hw.inn, hw.bv, hw.ba, hw.obs, hw.kept, hw.frs⟩
    · rename_i ha
      obtain rfl := Sum.inl.inj h
      obtain ⟨b1, b2⟩ := op_loop q hok hk
      refine ⟨by simp only; omega, by simp only [List.length_append, List.length_singleton]; have := hw.deep; omega, fun m hm => ?_, hw.bv, hw.ba, hw.obs, hw.kept, hw.frs⟩
      simp only [List.length_append, List.length_singleton] at hm
      simp only
      rw [snoc_getD _ _ _ m hm]
      split
      · rename_i hm2
        subst hm2
        have := hw.deep
        exact ⟨hon, by rw [hq]; exact hk, by show dep qs s.pc = _; omega, by show 1 ≤ q.a.toNat; omega, by show q.a.toNat ≤ 9; omega⟩
      · exact hw.inn m (by omega)
  split at h
  · rename_i hk
    have ho : opn q = -1 := by unfold opn; rw [if_neg (by omega), if_pos hk]
    obtain ⟨p1, p2⟩ := open_pos hb hw (by rw [hq]; exact hk)
    obtain ⟨c1, c2, c3, c4, c5⟩ := hw.inn (s.opn.length - 1) (by omega)
    split at h
    · rename_i hgt
      obtain rfl := Sum.inl.inj h
      have h5 : (s.opn.getD (s.opn.length - 1) (0, 0)).1 + 1 ≠ qs.length := fun h => by have := (hb.last _ c1).2 h; omega
      have h6 := dep_succ qs _ c1
      have h7 : opn (qs.getD (s.opn.getD (s.opn.length - 1) (0, 0)).1 pq0) = 1 := by unfold opn; rw [if_pos c2]
      refine ⟨by simp only; omega, by simp only [List.length_append, List.length_singleton, List.length_dropLast]; omega, fun m hm => ?_, hw.bv, hw.ba, hw.obs, hw.kept, hw.frs⟩
      simp only [List.length_append, List.length_singleton, List.length_dropLast] at hm
      simp only
      rw [snoc_getD _ _ _ m (by rw [List.length_dropLast]; omega), List.length_dropLast]
      split
      · rename_i hm2
        subst hm2
        exact ⟨c1, c2, c3, by simp only; omega, by simp only; omega⟩
      · rw [dropLast_getD _ _ (by omega)]
        exact hw.inn m (by omega)
    · obtain rfl := Sum.inl.inj h
      refine ⟨by simp only; omega, by simp only [List.length_dropLast]; have := hw.deep; omega, fun m hm => ?_, hw.bv, hw.ba, hw.obs, hw.kept, hw.frs⟩
      simp only [List.length_dropLast] at hm
      simp only
      rw [dropLast_getD _ _ hm]
      exact hw.inn m (by omega)
  split at h
  · rename_i hk
    obtain rfl := Sum.inl.inj h
    obtain ⟨a1, a2⟩ := hn (by omega) (by omega)
    exact ⟨a1, a2, hw.inn, hw.bv, hw.ba, hw.obs, hw.obs, hw.frs⟩
  split at h
  · rename_i hk
    obtain rfl := Sum.inl.inj h
    obtain ⟨a1, a2⟩ := hn (by omega) (by omega)
    exact ⟨a1, a2, hw.inn, hw.bv, hw.ba, hw.kept, hw.kept, hw.frs⟩
  split at h
  · rename_i rs hr
    obtain rfl := Sum.inl.inj h
    obtain ⟨a1, a2⟩ := hn (by omega) (by omega)
    exact ⟨a1, a2, hw.inn, hw.bv, hw.ba, do_fine hw.obs hok hr, hw.kept, hw.frs⟩
  · cases h
end Go.Proofs.YtceabiodelfdoaaGreatDoor
/- Rows of frames of one's own. -/
namespace Go.Proofs.YtceabiodelfdoaaGreatDoor
open Go.RowKit

theorem Tryz.infoFr : (Tryz.prog.info? 50).map (fun i => (i.zero, i.size, i.bytes)) = some (some (.agg #[.int .i64 0, .int .i64 0, .slice none 0 0, .int .i64 0]), 4, 48) := by kernel_rfl

def frCells : List (Pf × Value) → List Value
  | [] => []
  | (f, u) :: r => .int .i64 f.W :: .int .i64 f.H :: u :: .int .i64 f.d :: frCells r
theorem frCells_app (a b : List (Pf × Value)) : frCells (a ++ b) = frCells a ++ frCells b := by
  induction a with
  | nil => rfl
  | cons p a ih => obtain ⟨f, u⟩ := p; simp [frCells, ih]
theorem frCells_length : ∀ a : List (Pf × Value), (frCells a).length = a.length * 4
  | [] => rfl
  | (f, u) :: r => by simp [frCells, frCells_length r]; omega
@[reducible] def fq0 : Pf × Value := (pf0, .slice none 0 0)
theorem frCells_at : ∀ (a : List (Pf × Value)) (j : Nat), j < a.length → (frCells a)[j * 4]? = some (.int .i64 (a.getD j fq0).1.W) ∧ (frCells a)[j * 4 + 1]? = some (.int .i64 (a.getD j fq0).1.H) ∧
    (frCells a)[j * 4 + 2]? = some (a.getD j fq0).2 ∧ (frCells a)[j * 4 + 3]? = some (.int .i64 (a.getD j fq0).1.d)
  | (f, u) :: r, 0, _ => by simp [frCells]
  | (f, u) :: r, j + 1, h => by
    have := frCells_at r j (by simpa using h)
    have e : ∀ x, (j + 1) * 4 + x = (j * 4 + x) + 4 := by intro x; omega
    refine ⟨?_, ?_, ?_, ?_⟩
    · have := this.1; rw [show (j + 1) * 4 = j * 4 + 4 by omega]; simpa [frCells] using this
    · have := this.2.1; rw [e]; simpa [frCells] using this
    · have := this.2.2.1; rw [e]; simpa [frCells] using this
    · have := this.2.2.2; rw [e]; simpa [frCells] using this
/-- a row of frames of one's own, each with a row of pixels of its own -/
def OwnFr (w : World) (B : Nat) (v : Value) (qs : List (Pf × Value)) : Prop :=
  w.ownsRow B 50 4 v qs.length (frCells qs) ∧ ∀ q ∈ qs, w.ownsRow B 52 2 q.2 q.1.ps.length (pixCells q.1.ps)

theorem OwnFr.on {w w' : World} {B : Nat} {v : Value} {qs : List (Pf × Value)} (h : OwnFr w B v qs) (hb : Below w.heap.size w w') : OwnFr w' B v qs :=
  ⟨own_on2 h.1 hb, fun q hq => own_on2 (h.2 q hq) hb⟩

theorem OwnFr.rd {w : World} {B : Nat} {v : Value} {qs : List (Pf × Value)} (h : OwnFr w B v qs) : RdF w v (qs.map Prod.fst) := by
  rcases h.1.2 with ⟨rfl, h0⟩ | ⟨g, cap, cur, rfl, hb, hg, hn, hm, hs, ht⟩
  · have : qs = [] := List.length_eq_zero_iff.1 h0
    subst this
    exact ⟨none, 0, rfl, by simp, by omega, fun h => absurd rfl h⟩
  · unfold maxLen at hm
    refine ⟨some ⟨g, 0, none⟩, cap, by simp, by simpa using hn, by omega, fun hne => ⟨g, 0, rfl, ?_, fun j hj => ?_⟩⟩
    · rcases Nat.lt_or_ge g w.heap.size with h1 | h1
      · exact h1
      · rw [Array.getElem?_eq_none h1] at hg; cases hg
    · rw [List.length_map] at hj
      obtain ⟨c0, c1, c2, c3⟩ := frCells_at qs j hj
      have e : (qs.map Prod.fst).getD j pf0 = (qs.getD j fq0).1 := by
        simp [List.getD_eq_getElem?_getD, List.getElem?_eq_getElem hj]
      have hmem : qs.getD j fq0 ∈ qs := by
        rw [List.getD_eq_getElem?_getD, List.getElem?_eq_getElem hj]
        simp
      rw [e]
      have hc := fun x (hx : x < 4) => h.1.cellAt (j * 4 + x) (by omega)
      refine ⟨(qs.getD j fq0).2, ?_, ?_, ?_, ?_, rdP_own (h.2 _ hmem)⟩
      · have := hc 0 (by omega); rw [Nat.add_zero] at this; rw [Nat.zero_add, this]; exact c0
      · rw [Nat.zero_add, hc 1 (by omega)]; exact c1
      · rw [Nat.zero_add, hc 2 (by omega)]; exact c2
      · rw [Nat.zero_add, hc 3 (by omega)]; exact c3

theorem OwnFr.app {w w' : World} {B : Nat} {v v' : Value} {qs : List (Pf × Value)} (h : OwnFr w B v qs) {f : Pf} {u : Value} (hu : w.ownsRow B 52 2 u f.ps.length (pixCells f.ps))
    (h1 : w'.ownsRow B 50 4 v' (qs.length + 1) (frCells qs ++ [.int .i64 f.W, .int .i64 f.H, u, .int .i64 f.d])) (h2 : w.grownBy w' v.ownBlock) : OwnFr w' B v' (qs ++ [(f, u)]) := by
  refine ⟨?_, fun q hq => ?_⟩
  · rw [frCells_app, List.length_append]
    exact h1
  · rcases List.mem_append.1 hq with hq | hq
    · exact (h.2 q hq).kept h2 (apartO (h.2 q hq) h.1 (by decide))
    · simp at hq
      subst hq
      exact hu.kept h2 (apartO hu h.1 (by decide))
end Go.Proofs.YtceabiodelfdoaaGreatDoor
/- A machine, as it lies in memory. -/
namespace Go.Proofs.YtceabiodelfdoaaGreatDoor
open Go.RowKit Go.Maps

/-- all blocks stay but those of some types -/
structure Only (Ts : List TypeId) (w w' : World) : Prop where
  size : w.heap.size ≤ w'.heap.size
  keep : ∀ (g : Nat) (o : Obj), w.heap[g]? = some o → (∀ cur e fz, o = Obj.cells cur e fz → e ∉ Ts) → w'.heap[g]? = some o
theorem Only.refl (Ts : List TypeId) (w : World) : Only Ts w w := ⟨Nat.le_refl _, fun _ _ h _ => h⟩
theorem Only.trans {Ts : List TypeId} {a b c : World} (h : Only Ts a b) (k : Only Ts b c) : Only Ts a c := ⟨Nat.le_trans h.size k.size, fun g o h1 h2 => k.keep g o (h.keep g o h1 h2) h2⟩
theorem Only.mono {Ts Us : List TypeId} {a b : World} (h : Only Ts a b) (hs : ∀ t ∈ Ts, t ∈ Us) : Only Us a b := ⟨h.size, fun g o h1 h2 => h.keep g o h1 fun cur e fz he hm => h2 cur e fz he (hs e hm)⟩
theorem lt_of_some {w : World} {g : Nat} {o : Obj} (h : w.heap[g]? = some o) : g < w.heap.size := by
  rcases Nat.lt_or_ge g w.heap.size with h1 | h1
  · exact h1
  · rw [Array.getElem?_eq_none h1] at h; cases h
theorem Only.below {w w' : World} (h : Below w.heap.size w w') (Ts : List TypeId) : Only Ts w w' := ⟨h.size, fun g o h1 _ => by rw [h.block g (lt_of_some h1)]; exact h1⟩
theorem Only.grown {w w' : World} {g : Nat} {cur : Array Value} {e : TypeId} {fz : Nat × Nat} (h : w.grownBy w' (some g)) (hg : w.heap[g]? = some (.cells cur e fz)) : Only [e] w w' :=
  ⟨h.size, fun k o h1 h2 => by
    have hne : k ≠ g := fun he => by
      subst he
      rw [hg] at h1
      obtain rfl := Option.some.inj h1
      exact h2 cur e fz rfl (by simp)
    rw [h.block k (lt_of_some h1) (by simpa using hne)]
    exact h1⟩
theorem Only.grown0 {w w' : World} (h : w.grownBy w' none) (Ts : List TypeId) : Only Ts w w' :=
  ⟨h.size, fun k o h1 _ => by rw [h.block k (lt_of_some h1) (by simp)]; exact h1⟩
theorem own_only {Ts : List TypeId} {w w' : World} {B : Nat} {e : TypeId} {s : Nat} {v : Value} {n : Nat} {xs : List Value} (h : w.ownsRow B e s v n xs) (ho : Only Ts w w') (he : e ∉ Ts) : w'.ownsRow B e s v n xs := by
  refine ⟨h.1, ?_⟩
  rcases h.2 with h | ⟨g, cap, cur, h1, h2, h3, h4⟩
  · exact .inl h
  · exact .inr ⟨g, cap, cur, h1, h2, ho.keep g _ h3 (fun cur' e' fz he' hm => by simp only [Obj.cells.injEq] at he'; exact he (he'.2.1 ▸ hm)), h4⟩
theorem OwnOb.only {Ts : List TypeId} {w w' : World} {B : Nat} {v : Value} {qs : List (Po × Value)} (h : OwnOb w B v qs) (ho : Only Ts w w') (h1 : 141 ∉ Ts) (h2 : 52 ∉ Ts) : OwnOb w' B v qs :=
  ⟨own_only h.1 ho h1, fun q hq => own_only (h.2 q hq) ho h2⟩
theorem OwnQ.only {Ts : List TypeId} {w w' : World} {B : Nat} {v : Value} {qs : List (Pq × Value)} (h : OwnQ w B v qs) (ho : Only Ts w w') (h1 : 48 ∉ Ts) (h2 : 52 ∉ Ts) : OwnQ w' B v qs :=
  ⟨own_only h.1 ho h1, fun q hq => own_only (h.2 q hq) ho h2⟩
theorem OwnFr.only {Ts : List TypeId} {w w' : World} {B : Nat} {v : Value} {qs : List (Pf × Value)} (h : OwnFr w B v qs) (ho : Only Ts w w') (h1 : 50 ∉ Ts) (h2 : 52 ∉ Ts) : OwnFr w' B v qs :=
  ⟨own_only h.1 ho h1, fun q hq => own_only (h.2 q hq) ho h2⟩
theorem map_only {Ts : List TypeId} {w w' : World} {k : TypeId} {R : Value → Option (DataW Unit × List MemPlace)} {b n : Nat} {D : DataW Unit} (h : w.ownsMap Tryz.prog k R b n D) (ho : Only Ts w w') : w'.ownsMap Tryz.prog k R b n D := by
  obtain ⟨es, clock, h1, h2⟩ := h
  exact ⟨es, clock, ho.keep b _ h1 (fun cur e fz he => by cases he), h2⟩

/-- the types of what a machine writes -/
@[reducible] def MT : List TypeId := [87, 134, 50]
def rndCells : List (Nat × Nat) → List Value
  | [] => []
  | (p, l) :: r => .int .i64 (p : Int) :: .int .i64 (l : Int) :: rndCells r
theorem rndCells_app (a b : List (Nat × Nat)) : rndCells (a ++ b) = rndCells a ++ rndCells b := by
  induction a with
  | nil => rfl
  | cons p a ih => obtain ⟨f, u⟩ := p; simp [rndCells, ih]
theorem rndCells_length : ∀ a : List (Nat × Nat), (rndCells a).length = a.length * 2
  | [] => rfl
  | (f, u) :: r => by simp [rndCells, rndCells_length r]; omega
theorem rndCells_at : ∀ (a : List (Nat × Nat)) (j : Nat), j < a.length → (rndCells a)[j * 2]? = some (.int .i64 ((a.getD j (0, 0)).1 : Int)) ∧ (rndCells a)[j * 2 + 1]? = some (.int .i64 ((a.getD j (0, 0)).2 : Int))
  | (f, u) :: r, 0, _ => by simp [rndCells]
  | (f, u) :: r, j + 1, h => by
    have := rndCells_at r j (by simpa using h)
    refine ⟨?_, ?_⟩
    · have := this.1; rw [show (j + 1) * 2 = j * 2 + 2 by omega]; simpa [rndCells] using this
    · have := this.2; rw [show (j + 1) * 2 + 1 = (j * 2 + 1) + 2 by omega]; simpa [rndCells] using this
theorem rndCells_last (a : List (Nat × Nat)) (l : Nat) (h : 0 < a.length) : (rndCells a).set ((a.length - 1) * 2 + 1) (.int .i64 (l : Int)) = rndCells (a.dropLast ++ [((a.getD (a.length - 1) (0, 0)).1, l)]) := by
  induction a with
  | nil => simp at h
  | cons p r ih =>
    obtain ⟨f, u⟩ := p
    cases r with
    | nil => simp [rndCells]
    | cons p2 r2 =>
      have := ih (by simp)
      simp only [List.length_cons, Nat.add_sub_cancel] at this ⊢
      rw [show (r2.length + 1) * 2 + 1 = (r2.length * 2 + 1) + 2 by omega]
      simp only [rndCells, List.set_cons_succ, List.dropLast_cons_cons, List.cons_append]
      have e : ((f, u) :: p2 :: r2).getD (r2.length + 1) (0, 0) = (p2 :: r2).getD r2.length (0, 0) := rfl
      rw [e, ← this]
      obtain ⟨f2, u2⟩ := p2
      simp [rndCells]
theorem rndCells_drop (a : List (Nat × Nat)) : (rndCells a).take ((a.length - 1) * 2) = rndCells a.dropLast := by
  induction a with
  | nil => rfl
  | cons p r ih =>
    obtain ⟨f, u⟩ := p
    cases r with
    | nil => simp [rndCells]
    | cons p2 r2 =>
      simp only [List.length_cons, Nat.add_sub_cancel] at ih ⊢
      rw [show (r2.length + 1) * 2 = (r2.length * 2) + 1 + 1 by omega]
      simp only [rndCells, List.dropLast_cons_cons, List.take_succ_cons]
      obtain ⟨f2, u2⟩ := p2
      rw [← ih]
      simp [rndCells]

/-- what a machine's fields lead to -/
structure MacR (w : World) (B : Nat) (vo : Value) (bm : Nat) (vr vb vk vf : Value) (qs : List Pq) (op : List (Nat × Nat)) (ob kp : List Po) (fr : List Pf) : Prop where
  ops : ∃ qv, OwnQ w B vo qv ∧ qv.map Prod.fst = qs
  mpl : B ≤ bm
  mp : ∃ D, w.ownsMap Tryz.prog 3 (plainElem Tryz.prog 3) bm 100 D ∧ ∀ p j, Clo qs p j → D.atKey (.int .i64 (p : Int)) (.lit (.int .i64 0)) = (.lit (.int .i64 (j : Int)) : DataW Unit)
  rnd : w.ownsRow B 134 2 vr op.length (rndCells op)
  obs : ∃ ov, OwnOb w B vb ov ∧ ov.map Prod.fst = ob
  kep : ∃ kv, OwnOb w B vk kv ∧ kv.map Prod.fst = kp
  frs : ∃ fv, OwnFr w B vf fv ∧ fv.map Prod.fst = fr
/-- all blocks stay but those of a list; what is written from then on lies in it or is new -/
structure Foot (F F' : List Nat) (w w' : World) : Prop where
  os : w'.os = w.os
  tape : w'.tape = w.tape
  output : w'.output = w.output
  size : w.heap.size ≤ w'.heap.size
  block : ∀ k, k < w.heap.size → k ∉ F → w'.heap[k]? = w.heap[k]?
  new : ∀ g ∈ F', g ∈ F ∨ (w.heap.size ≤ g ∧ g < w'.heap.size)
theorem Foot.refl (F : List Nat) (w : World) : Foot F F w w := ⟨rfl, rfl, rfl, Nat.le_refl _, fun _ _ _ => rfl, fun _ h => .inl h⟩
theorem Foot.trans {F F1 F2 : List Nat} {a b c : World} (h : Foot F F1 a b) (k : Foot F1 F2 b c) : Foot F F2 a c :=
  ⟨k.os.trans h.os, k.tape.trans h.tape, k.output.trans h.output, Nat.le_trans h.size k.size,
    fun i hi hn => (k.block i (Nat.lt_of_lt_of_le hi h.size) (fun hm => by
      rcases h.new i hm with h1 | h1
      · exact hn h1
      · omega)).trans (h.block i hi hn),
    fun g hg => by
      rcases k.new g hg with h1 | ⟨h1, h2⟩
      · rcases h.new g h1 with h3 | ⟨h3, h4⟩
        · exact .inl h3
        · exact .inr ⟨h3, Nat.lt_of_lt_of_le h4 k.size⟩
      · exact .inr ⟨Nat.le_trans h.size h1, h2⟩⟩
theorem Foot.below {w w' : World} (h : Below w.heap.size w w') (F : List Nat) : Foot F F w w' :=
  ⟨h.os, h.tape, h.output, h.size, fun k hk _ => h.block k hk, fun _ h => .inl h⟩
theorem Foot.grown {F : List Nat} {w w' : World} {row : Option Nat} (h : w.grownBy w' row) (hr : ∀ g, row = some g → g ∈ F) : Foot F F w w' :=
  ⟨h.os, h.tape, h.output, h.size, fun k hk hn => h.block k hk (fun e => hn (hr k e.symm)), fun _ h => .inl h⟩
theorem Foot.belowB {F F' : List Nat} {w w' : World} {B : Nat} (h : Foot F F' w w') (hF : ∀ g ∈ F, B ≤ g) (hB : B ≤ w.heap.size) : Below B w w' :=
  ⟨h.os, h.tape, h.output, h.size, fun k hk => h.block k (by omega) (fun hm => by have := hF k hm; omega)⟩
/-- blocks that are none of those stay -/
theorem Foot.cell {F F' : List Nat} {w w' : World} (h : Foot F F' w w') {g o : Nat} (hg : g < w.heap.size) (hn : g ∉ F) : w'.cell? ⟨g, o, none⟩ = w.cell? ⟨g, o, none⟩ :=
  World.cell?_of_block (h.block g hg hn)
theorem Foot.lt {F F' : List Nat} {w w' : World} (h : Foot F F' w w') (hF : ∀ g ∈ F, g < w.heap.size) : ∀ g ∈ F', g < w'.heap.size := by
  intro g hg
  rcases h.new g hg with h1 | h1
  · exact Nat.lt_of_lt_of_le (hF g h1) h.size
  · exact h1.2
theorem Foot.cons {F F' : List Nat} {w w' : World} (h : Foot F F' w w') (g : Nat) (hg : g ∈ F ∨ (w.heap.size ≤ g ∧ g < w'.heap.size)) : Foot F (g :: F') w w' :=
  ⟨h.os, h.tape, h.output, h.size, h.block, fun x hx => by
    rcases List.mem_cons.1 hx with rfl | hx
    · exact hg
    · exact h.new x hx⟩
/-- what a machine may write -/
structure MacF (B b : Nat) (vr vf : Value) (F : List Nat) : Prop where
  self : b ∈ F
  rnd : ∀ g, vr.ownBlock = some g → g ∈ F
  frs : ∀ g, vf.ownBlock = some g → g ∈ F
  low : ∀ g ∈ F, B ≤ g
/-- a machine in block b -/
def Mac (w : World) (B b : Nat) (F : List Nat) (qs : List Pq) (s : Ms) : Prop :=
  ∃ vo bm vr vb vk vf, w.ownsRow B 87 9 (.slice (some ⟨b, 0, none⟩) 1 1) 1 [vo, .map (some bm), .int .i64 (s.pc : Int), vr, .int .i64 s.bv, .int .i64 s.ba, vb, vk, vf] ∧ MacR w B vo bm vr vb vk vf qs s.opn s.obs s.kept s.frs ∧ MacF B b vr vf F
theorem MacR.on {w w' : World} {B : Nat} {vo : Value} {bm : Nat} {vr vb vk vf : Value} {qs : List Pq} {op : List (Nat × Nat)} {ob kp : List Po} {fr : List Pf} (h : MacR w B vo bm vr vb vk vf qs op ob kp fr) (hb : Below w.heap.size w w') : MacR w' B vo bm vr vb vk vf qs op ob kp fr := by
  obtain ⟨⟨qv, a1, a2⟩, b1, ⟨D, c1, c2⟩, d1, ⟨ov, e1, e2⟩, ⟨kv, f1, f2⟩, ⟨fv, g1, g2⟩⟩ := h
  exact ⟨⟨qv, a1.on hb, a2⟩, b1, ⟨D, map_only c1 (Only.below hb []), c2⟩, own_on2 d1 hb, ⟨ov, e1.on hb, e2⟩, ⟨kv, f1.on hb, f2⟩, ⟨fv, g1.on hb, g2⟩⟩
theorem MacR.only {w w' : World} {B : Nat} {vo : Value} {bm : Nat} {vr vb vk vf : Value} {qs : List Pq} {op : List (Nat × Nat)} {ob kp : List Po} {fr : List Pf} (h : MacR w B vo bm vr vb vk vf qs op ob kp fr) (ho : Only [87] w w') : MacR w' B vo bm vr vb vk vf qs op ob kp fr := by
  obtain ⟨⟨qv, a1, a2⟩, b1, ⟨D, c1, c2⟩, d1, ⟨ov, e1, e2⟩, ⟨kv, f1, f2⟩, ⟨fv, g1, g2⟩⟩ := h
  exact ⟨⟨qv, a1.only ho (by decide) (by decide), a2⟩, b1, ⟨D, map_only c1 ho, c2⟩, own_only d1 ho (by decide), ⟨ov, e1.only ho (by decide) (by decide), e2⟩, ⟨kv, f1.only ho (by decide) (by decide), f2⟩, ⟨fv, g1.only ho (by decide) (by decide), g2⟩⟩
theorem Mac.on {w w' : World} {B b : Nat} {F : List Nat} {qs : List Pq} {s : Ms} (h : Mac w B b F qs s) (hb : Below w.heap.size w w') : Mac w' B b F qs s := by
  obtain ⟨vo, bm, vr, vb, vk, vf, h1, h2, h3⟩ := h
  exact ⟨vo, bm, vr, vb, vk, vf, own_on2 h1 hb, h2.on hb, h3⟩
theorem Mac.low {w : World} {B b : Nat} {F : List Nat} {qs : List Pq} {s : Ms} (h : Mac w B b F qs s) : ∀ g ∈ F, B ≤ g := by
  obtain ⟨vo, bm, vr, vb, vk, vf, h1, h2, h3⟩ := h
  exact h3.low
/-- a machine's cells -/
theorem mac_nine {w : World} {B b : Nat} {x0 x1 x2 x3 x4 x5 x6 x7 x8 : Value} (h : w.ownsRow B 87 9 (.slice (some ⟨b, 0, none⟩) 1 1) 1 [x0, x1, x2, x3, x4, x5, x6, x7, x8]) : Nine w b x0 x1 x2 x3 x4 x5 x6 x7 x8 ∧ B ≤ b := by
  have hc := fun k (hk : k < 9) => h.cellAt k (by omega)
  rcases h.2 with ⟨h0, _⟩ | ⟨g, cap, cur, hv, hB, hg, _, _, hs, ht⟩
  · simp at h0
  · simp only [Value.slice.injEq, Option.some.injEq, Addr.mk.injEq, and_true, true_and] at hv
    obtain ⟨rfl, rfl⟩ := hv
    have hf : ∀ k, w.frozen? ⟨b, k, none⟩ = false := fun k => by simp [World.frozen?, hg]
    exact ⟨⟨hc 0 (by omega), hc 1 (by omega), hc 2 (by omega), hc 3 (by omega), hc 4 (by omega), hc 5 (by omega), hc 6 (by omega), hc 7 (by omega), hc 8 (by omega), hf 0, hf 1, hf 2, hf 3, hf 4, hf 5, hf 6, hf 7, hf 8, lt_of_some hg⟩, hB⟩
theorem mac_typ {w : World} {B b n cap s : Nat} {T : TypeId} {xs : List Value} (h : w.ownsRow B T s (.slice (some ⟨b, 0, none⟩) n cap) n xs) : ∃ cur, w.heap[b]? = some (.cells cur T (0, 0)) := by
  rcases h.2 with ⟨h0, _⟩ | ⟨g, cap', cur, hv, hB, hg, _⟩
  · simp at h0
  · simp only [Value.slice.injEq, Option.some.injEq, Addr.mk.injEq, and_true, true_and] at hv
    obtain ⟨rfl, _⟩ := hv
    exact ⟨cur, hg⟩
/-- one of a machine's cells is written -/
theorem mac_set {w : World} {B b : Nat} {xs : List Value} (h : w.ownsRow B 87 9 (.slice (some ⟨b, 0, none⟩) 1 1) 1 xs) (k : Nat) (v : Value) :
    (w.setCell ⟨b, k, none⟩ v).ownsRow B 87 9 (.slice (some ⟨b, 0, none⟩) 1 1) 1 (xs.set k v) ∧ Only [87] w (w.setCell ⟨b, k, none⟩ v) ∧ ∀ F, b ∈ F → Foot F F w (w.setCell ⟨b, k, none⟩ v) := by
  obtain ⟨h1, h2⟩ := h.stored k v
  obtain ⟨cur, hg⟩ := mac_typ h
  exact ⟨h1, Only.grown (by simpa [Value.ownBlock] using h2) hg, fun F hF => Foot.grown h2 (fun g hg => by simp at hg; subst hg; exact hF)⟩
/-- what a step answers, and what it leaves -/
def numM : Ms ⊕ Nat → Nat
  | .inl _ => 0
  | .inr c => c
def nxtM (s : Ms) : Ms ⊕ Nat → Ms
  | .inl s' => s'
  | .inr _ => s
def MacP (B b : Nat) (F : List Nat) (qs : List Pq) (s : Ms) (r : Ms ⊕ Nat) (w : World) (e : Ending) (w' : World) : Prop :=
  ∃ F', e = .returned (errV (numM r)) ∧ Mac w' B b F' qs (nxtM s r) ∧ Foot F F' w w'
end Go.Proofs.YtceabiodelfdoaaGreatDoor
/- Walks of a machine: Done, At. -/
namespace Go.Proofs.YtceabiodelfdoaaGreatDoor
open Go.RowKit Go.Maps

set_option maxHeartbeats 8000000 in
set_option maxRecDepth 100000 in
theorem mdone_any (B b : Nat) (F : List Nat) (qs : List Pq) (st : Ms) (w : World) (HM : Hid (Mac w B b F qs st)) (hpc : st.pc < qs.length) (t : Bool) (HT : Hid (decide ((qs.getD st.pc pq0).kind = 16) = t)) :
    Calls Tryz.prog 33 #[.pointer (some ⟨b, 0, none⟩)] w fun e w' => e = .returned (.bool t) ∧ Below w.heap.size w w' := by
  obtain ⟨vo, bm, vr, vb, vk, vf, hm1, hm2, hm3⟩ := HM.out
  obtain ⟨N, hB⟩ := mac_nine hm1
  obtain ⟨qv, hq1, hq2⟩ := hm2.ops
  have HRQ : Hid (RdQ w vo qs) := by unfold Hid; rw [← hq2]; exact hq1.rd
  obtain ⟨n, HN⟩ : ∃ n, Hid (qs.length = n) := ⟨_, (rfl : _ = _)⟩
  obtain ⟨oa, oc, hvo, hol, hoc⟩ := HRQ.out.shape
  rw [HN.out] at hvo hol
  subst hvo
  obtain ⟨q, HX⟩ : ∃ q, Hid (qs.getD st.pc pq0 = q) := ⟨_, (rfl : _ = _)⟩
  rw [HN.out] at hpc
  rw [HX.out] at HT
  obtain ⟨pc, HPC⟩ : ∃ pc, Hid (st.pc = pc) := ⟨_, (rfl : _ = _)⟩
  rw [HPC.out] at hpc HX N
  obtain ⟨g, o, _, _, _, rfl, hg, OC, _, _⟩ := HRQ.out.at hpc HX
  have hi0 : (0 : Int) ≤ (pc : Int) := by omega
  have hi1 : (pc : Int) < (n : Int) := by omega
  have HTB : Hid ((q.kind == 16) = t) := by unfold Hid; rw [← HT.out]; rfl
  have c0 := OC.c0
  obtain ⟨n0, n1, n2, n3, n4, n5, n6, n7, n8, nf0, nf1, nf2, nf3, nf4, nf5, nf6, nf7, nf8, nlt⟩ := N
  clear hm1 hm2 hm3 hq1 hq2 HRQ HM OC
  go_enter Tryz.func33, Tryz.ntmps33
  go_wp2_with fail
  go_quiet (fail)
  rw [HTB.out]
  go_wp2_with fail
  go_ret
  exact ⟨rfl, below_drewN (Below.refl _ _) nq⟩

end Go.Proofs.YtceabiodelfdoaaGreatDoor
/- Close, as lists: the loops that are open, what is told of those that are closed. -/
namespace Go.Proofs.YtceabiodelfdoaaGreatDoor
open Go.RowKit Go.Maps

/-- the loops that are open ahead of the op at k, the innermost one last -/
def stk (qs : List Pq) : Nat → List Nat
  | 0 => []
  | k + 1 => if (qs.getD k pq0).kind = 12 then stk qs k ++ [k] else if (qs.getD k pq0).kind = 13 ∧ 0 < (stk qs k).length then (stk qs k).dropLast else stk qs k
/-- what is told ahead of the op at k -/
def clD (qs : List Pq) : Nat → DataW Unit
  | 0 => .map []
  | k + 1 => if (qs.getD k pq0).kind = 13 ∧ 0 < (stk qs k).length then (clD qs k).put (.int .i64 (((stk qs k).getD ((stk qs k).length - 1) 0 : Nat) : Int)) (.lit (.int .i64 (k : Int))) else clD qs k
theorem stk_le (qs : List Pq) : ∀ k, (stk qs k).length ≤ k ∧ ∀ p ∈ stk qs k, p < k := by
  intro k
  induction k with
  | zero => simp [stk]
  | succ k ih =>
    unfold stk
    split
    · refine ⟨by simp; omega, fun p hp => ?_⟩
      rcases List.mem_append.1 hp with h | h
      · have := ih.2 p h; omega
      · simp at h; omega
    · split
      · refine ⟨by simp; omega, fun p hp => ?_⟩
        have := ih.2 p (List.dropLast_subset _ hp); omega
      · exact ⟨by omega, fun p hp => by have := ih.2 p hp; omega⟩
theorem clD_map (qs : List Pq) : ∀ k, IsMap (clD qs k) := by
  intro k
  induction k with
  | zero => exact isMap_empty
  | succ k ih =>
    unfold clD
    split
    · exact ih.put _ _
    · exact ih
/-- what holds of the open loops of a book -/
structure StkI (qs : List Pq) (k : Nat) : Prop where
  len : ((stk qs k).length : Int) = dep qs k
  inn : ∀ m, m < (stk qs k).length → (stk qs k).getD m 0 < k ∧ (qs.getD ((stk qs k).getD m 0) pq0).kind = 12 ∧ dep qs ((stk qs k).getD m 0) = m ∧ ∀ j, (stk qs k).getD m 0 < j → j ≤ k → (m : Int) + 1 ≤ dep qs j
theorem dropLast_getN (l : List Nat) {m : Nat} (h : m < l.length - 1) : l.dropLast.getD m 0 = l.getD m 0 := by
  rw [List.getD_eq_getElem?_getD, List.getD_eq_getElem?_getD, List.getElem?_dropLast, if_pos h]
theorem stk_inv {qs : List Pq} (hb : Book qs) : ∀ k, k ≤ qs.length → StkI qs k := by
  intro k
  induction k with
  | zero => intro _; exact ⟨by simp [stk, dep_zero], fun m hm => by simp [stk] at hm⟩
  | succ k ih =>
    intro hk
    have hi := ih (by omega)
    have hs := dep_succ qs k (by omega)
    have hlo := hb.low (k + 1) hk
    unfold stk at *
    rcases opn_cases (qs.getD k pq0) with ⟨h1, h2⟩ | ⟨h1, h2⟩ | ⟨h1, h3, h2⟩
    · have e : stk qs (k + 1) = stk qs k ++ [k] := by rw [stk, if_pos h1]
      refine ⟨by rw [e]; simp; have := hi.len; omega, fun m hm => ?_⟩
      rw [e] at hm ⊢
      simp only [List.length_append, List.length_singleton] at hm
      rw [snoc_getD _ _ _ m hm]
      split
      · rename_i hm2
        have := hi.len
        refine ⟨by omega, h1, by omega, fun j j1 j2 => ?_⟩
        obtain rfl : j = k + 1 := by omega
        omega
      · obtain ⟨a1, a2, a3, a4⟩ := hi.inn m (by omega)
        refine ⟨by omega, a2, a3, fun j j1 j2 => ?_⟩
        rcases Nat.eq_or_lt_of_le j2 with rfl | j2
        · have := hi.len; omega
        · exact a4 j j1 (by omega)
    · have hpos : 0 < (stk qs k).length := by have := hi.len; omega
      have e : stk qs (k + 1) = (stk qs k).dropLast := by rw [stk, if_neg (by omega), if_pos ⟨h1, hpos⟩]
      refine ⟨by rw [e]; simp; have := hi.len; omega, fun m hm => ?_⟩
      rw [e] at hm ⊢
      simp only [List.length_dropLast] at hm
      rw [dropLast_getN _ hm]
      obtain ⟨a1, a2, a3, a4⟩ := hi.inn m (by omega)
      refine ⟨by omega, a2, a3, fun j j1 j2 => ?_⟩
      rcases Nat.eq_or_lt_of_le j2 with rfl | j2
      · have := hi.len; omega
      · exact a4 j j1 (by omega)
    · have e : stk qs (k + 1) = stk qs k := by rw [stk, if_neg h1, if_neg (fun h => h3 h.1)]
      refine ⟨by rw [e]; have := hi.len; omega, fun m hm => ?_⟩
      rw [e] at hm ⊢
      obtain ⟨a1, a2, a3, a4⟩ := hi.inn m hm
      refine ⟨by omega, a2, a3, fun j j1 j2 => ?_⟩
      rcases Nat.eq_or_lt_of_le j2 with rfl | j2
      · have := hi.len; omega
      · exact a4 j j1 (by omega)
/-- the loop that a Next closes -/
theorem clo_top {qs : List Pq} (hb : Book qs) {k : Nat} (hk : k < qs.length) (h : (qs.getD k pq0).kind = 13) : 0 < (stk qs k).length ∧ Clo qs ((stk qs k).getD ((stk qs k).length - 1) 0) k := by
  have hi := stk_inv hb k (by omega)
  have hs := dep_succ qs k hk
  have hlo := hb.low (k + 1) hk
  have ho : opn (qs.getD k pq0) = -1 := by unfold opn; rw [if_neg (by omega), if_pos h]
  have hpos : 0 < (stk qs k).length := by have := hi.len; omega
  obtain ⟨a1, a2, a3, a4⟩ := hi.inn ((stk qs k).length - 1) (by omega)
  refine ⟨hpos, a1, hk, a2, h, ?_, fun j j1 j2 => ?_⟩
  · have := hi.len; omega
  · have := a4 j j1 j2; omega
theorem Clo.two {qs : List Pq} {p p' j : Nat} (h : Clo qs p j) (h' : Clo qs p' j) : p = p' := by
  have h1 := h.same
  have h2 := h'.same
  rcases Nat.lt_trichotomy p p' with hl | rfl | hl
  · have := h.over p' hl (by have := h'.lt; omega); omega
  · rfl
  · have := h'.over p hl (by have := h.lt; omega); omega
theorem int_ne {a b : Nat} (h : a ≠ b) : Lit.int .i64 (a : Int) ≠ Lit.int .i64 (b : Int) := by
  intro e; simp only [Lit.int.injEq, true_and] at e; omega
theorem clD_at {qs : List Pq} (hb : Book qs) : ∀ k, k ≤ qs.length → ∀ p j, Clo qs p j → j < k → ∀ z, (clD qs k).atKey (.int .i64 (p : Int)) z = .lit (.int .i64 (j : Int)) := by
  intro k
  induction k with
  | zero => intro _ p j _ h; omega
  | succ k ih =>
    intro hk p j hc hj z
    by_cases h13 : (qs.getD k pq0).kind = 13
    · obtain ⟨t1, t2⟩ := clo_top hb hk h13
      unfold clD
      rw [if_pos ⟨h13, t1⟩]
      rcases Nat.eq_or_lt_of_le (Nat.le_of_lt_succ hj) with rfl | hj
      · rw [hc.two t2]
        exact atKey_put_same (clD_map qs _) (by constructor) _ _
      · rw [atKey_put_other (int_ne (fun e => by rw [e] at hc; have := hc.one t2; omega))]
        exact ih (by omega) p j hc hj z
    · unfold clD
      rw [if_neg (fun h => h13 h.1)]
      refine ih (by omega) p j hc ?_ z
      rcases Nat.eq_or_lt_of_le (Nat.le_of_lt_succ hj) with rfl | hj
      · exact absurd hc.next h13
      · exact hj
/-- whatever is told is a loop's -/
theorem clD_has {qs : List Pq} (hb : Book qs) : ∀ k, k ≤ qs.length → ∀ kl, has (clD qs k) kl = true → ∃ p j, kl = .int .i64 ((p : Nat) : Int) ∧ Clo qs p j ∧ j < k := by
  intro k
  induction k with
  | zero => intro _ kl h; simp [clD, has] at h
  | succ k ih =>
    intro hk kl h
    by_cases h13 : (qs.getD k pq0).kind = 13
    · obtain ⟨t1, t2⟩ := clo_top hb hk h13
      unfold clD at h
      rw [if_pos ⟨h13, t1⟩] at h
      by_cases he : kl = .int .i64 (((stk qs k).getD ((stk qs k).length - 1) 0 : Nat) : Int)
      · exact ⟨_, k, he, t2, by omega⟩
      · rw [has_put_other he] at h
        obtain ⟨p, j, a, b, c⟩ := ih (by omega) kl h
        exact ⟨p, j, a, b, by omega⟩
    · unfold clD at h
      rw [if_neg (fun h => h13 h.1)] at h
      obtain ⟨p, j, a, b, c⟩ := ih (by omega) kl h
      exact ⟨p, j, a, b, by omega⟩
/-- a row of numbers -/
def natV (l : List Nat) : List Value := l.map fun (p : Nat) => Value.int .i64 (p : Int)
theorem natV_len (l : List Nat) : (natV l).length = l.length := by simp [natV]
theorem natV_snoc (l : List Nat) (p : Nat) : natV (l ++ [p]) = natV l ++ [.int .i64 (p : Int)] := by simp [natV]
theorem natV_at (l : List Nat) {m : Nat} (h : m < l.length) : (natV l)[m]? = some (.int .i64 ((l.getD m 0 : Nat) : Int)) := by
  simp [natV, List.getD_eq_getElem?_getD, List.getElem?_eq_getElem h]
theorem natV_drop (l : List Nat) : natV l.dropLast = (natV l).take (l.length - 1) := by
  simp [natV, List.dropLast_eq_take, List.map_take]
/-- the first elements of a row of one's own -/
theorem own_cut {w : World} {B : Nat} {e : TypeId} {s : Nat} {a : Option Addr} {n c m : Nat} {xs : List Value} (h : w.ownsRow B e s (.slice a n c) n xs) (hm : m ≤ n) (hn : 0 < n) : w.ownsRow B e s (.slice a m c) m (xs.take (m * s)) := by
  rcases h.2 with ⟨_, h0⟩ | ⟨g, cap, cur, hv, hb, hg, h1, h2, h3, h4⟩
  · omega
  · simp only [Value.slice.injEq] at hv
    obtain ⟨rfl, _, rfl⟩ := hv
    have hms : m * s ≤ n * s := Nat.mul_le_mul_right _ hm
    refine ⟨by rw [List.length_take, h.1]; omega, .inr ⟨g, c, cur, rfl, hb, hg, by omega, h2, h3, ?_⟩⟩
    rw [← h4, List.take_take, Nat.min_eq_left hms]
theorem own_cap {w : World} {B : Nat} {e : TypeId} {s n c : Nat} {a : Option Addr} {xs : List Value} (h : w.ownsRow B e s (.slice a n c) n xs) : n ≤ c := by
  rcases h.2 with ⟨h0, hn⟩ | ⟨g, cap, cur, hv, _, _, h1, _⟩
  · omega
  · simp only [Value.slice.injEq] at hv; omega
end Go.Proofs.YtceabiodelfdoaaGreatDoor
