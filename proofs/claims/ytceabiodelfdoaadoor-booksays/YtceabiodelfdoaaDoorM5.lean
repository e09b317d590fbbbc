/- Some of the walks, in one text. -/
import Derived.Test.YtceabiodelfdoaaDoorM4
import Derived.Laws.CopyRow
import Derived.Laws.CopyOwn
import Derived.Maps.OwnOps
import Derived.Maps.OwnSet
import Derived.OneCell
import Derived.Lib.BufferWrite
/- copy of elements of two cells. -/
namespace Go.Proofs.YtceabiodelfdoaaDoor
open Go.RowKit

theorem run_copy_two {P : Program} (w : World) (dT sT ty elem : TypeId) (g o dLen dCap : Nat) (a : Addr) (sLen sCap : Nat) (cur : Array Value) (t : TypeId) (cs : List Value)
    (hu : P.underlying dT = some (.slice elem)) (hs : (P.info? elem).map (·.size) = some 2)
    (hg : w.heap[g]? = some (.cells cur t (0, 0))) (hn : cs.length = Nat.min sLen dLen * 2)
    (hsrc : ∀ j v, cs[j]? = some v → w.cell? (a.add j) = some v) (hfit : o + cs.length ≤ cur.size) (h1 : ∀ v ∈ cs, v.oneCell' = true) :
    (Builtin.copy_ #[dT, sT] ty #[.slice (some ⟨g, o, none⟩) dLen dCap, .slice (some a) sLen sCap]).run P w =
      .ok (goInt (Nat.min sLen dLen)) (w.setRow g (cur.toList.take o ++ cs ++ cur.toList.drop (o + cs.length)).toArray) := by
  have hl := run_loadCells_list (P := P) w a cs hsrc
  have hst := run_storeCells_at P g o t cs 0 cur w hg (by simpa using hfit) h1
  rw [hn] at hl
  cases hq : P.info? elem with
  | none => simp [hq] at hs
  | some i =>
    have hi : i.size = 2 := by simpa [hq] using hs
    simp [Builtin.copy_, run_underlying hu, Builtin.lenOf, Builtin.firstCells, sizeOf, typeInfo, hq, hi, hl, hst]

theorem wpList_copy_two {P : Program} {w : World} {ops : Array Oper} {rest : List Oper} {o : Oper} {a : Act} {Q : Exit → Act → World → Prop} (hgd : o.guard = none) (d s : Operand) (dT sT : TypeId)
    (ho : o.op = .call { callee := .builtin .copy, args := #[d, s], argTypes := #[dT, sT] }) (elem : TypeId) (hu : P.underlying dT = some (.slice elem)) (hsz : (P.info? elem).map (·.size) = some 2)
    (g off dLen dCap : Nat) (ad : Addr) (sLen sCap : Nat) (hd : a.eval d = .slice (some ⟨g, off, none⟩) dLen dCap) (hs : a.eval s = .slice (some ad) sLen sCap)
    (cur : Array Value) (t : TypeId) (hg : w.heap[g]? = some (.cells cur t (0, 0))) (cs : List Value) (hn : cs.length = Nat.min sLen dLen * 2)
    (hsrc : ∀ j v, cs[j]? = some v → w.cell? (ad.add j) = some v) (hfit : off + cs.length ≤ cur.size) (h1 : ∀ v ∈ cs, v.oneCell' = true)
    (h : wpList P ops Q rest (a.put o.dst (goInt (Nat.min sLen dLen))) (w.setRow g (cur.toList.take off ++ cs ++ cur.toList.drop (off + cs.length)).toArray)) : wpList P ops Q (o :: rest) a w := by
  refine wpList_plain hgd fun K hK => ?_
  have hrun := run_copy_two (P := P) w dT sT o.type elem g off dLen dCap ad sLen sCap cur t cs hu hsz hg hn hsrc hfit h1
  unfold Oper.wp
  simp only [execOp, ho, resolve, invoke, builtin, Sem.run_bind, Sem.run_pure, Result.andThen_ok, List.map_toArray, List.map_cons, List.map_nil, hd, hs, hrun]
  exact hK _ _ h

/-- the same, what is then in the block named by the prover -/
theorem wpList_copy_fill {P : Program} {w : World} {ops : Array Oper} {rest : List Oper} {o : Oper} {a : Act} {Q : Exit → Act → World → Prop} (hgd : o.guard = none) (d s : Operand) (dT sT : TypeId)
    (ho : o.op = .call { callee := .builtin .copy, args := #[d, s], argTypes := #[dT, sT] }) (elem : TypeId) (hu : P.underlying dT = some (.slice elem)) (hsz : (P.info? elem).map (·.size) = some 2)
    (g off dLen dCap : Nat) (ad : Addr) (sLen sCap : Nat) (hd : a.eval d = .slice (some ⟨g, off, none⟩) dLen dCap) (hs : a.eval s = .slice (some ad) sLen sCap)
    (cur : List Value) (t : TypeId) (hg : w.heap[g]? = some (.cells cur.toArray t (0, 0))) (cs : List Value) (m : Nat) (hm : Nat.min sLen dLen = m) (hn : cs.length = m * 2)
    (hsrc : ∀ j v, cs[j]? = some v → w.cell? (ad.add j) = some v) (hfit : off + cs.length ≤ cur.length) (h1 : ∀ v ∈ cs, v.oneCell' = true) (new : List Value) (hnew : cur.take off ++ cs ++ cur.drop (off + cs.length) = new) (B : Nat) (w0 : World) (hb : Below B w0 w) (hBg : B ≤ g)
    (h : ∀ w', Hid (w'.heap[g]? = some (.cells new.toArray t (0, 0))) → Below B w0 w' → wpList P ops Q rest (a.put o.dst (goInt m)) w') : wpList P ops Q (o :: rest) a w := by
  subst hm
  refine wpList_copy_two hgd d s dT sT ho elem hu hsz g off dLen dCap ad sLen sCap hd hs cur.toArray t hg cs hn hsrc (by simpa using hfit) h1 ?_
  exact h _ (show _ = _ by rw [← hnew]; simpa using setRow_heap w g _ _ t _ hg) (below_setRow hb hBg _)
/-- as a step of a drawn region; what is then in the block named by the prover -/
theorem step_copy_fill {P : Program} {w : World} {ops : Array Oper} {o : Oper} {a : Act} {K : Act → World → Prop} {Q : Exit → Act → World → Prop} {E : Prop} (hgd : o.guard = none) (d s : Operand) (dT sT : TypeId)
    (ho : o.op = .call { callee := .builtin .copy, args := #[d, s], argTypes := #[dT, sT] }) (elem : TypeId) (hu : P.underlying dT = some (.slice elem)) (hsz : (P.info? elem).map (·.size) = some 2)
    (g off dLen dCap : Nat) (ad : Addr) (sLen sCap : Nat) (hd : a.eval d = .slice (some ⟨g, off, none⟩) dLen dCap) (hs : a.eval s = .slice (some ad) sLen sCap)
    (cur : List Value) (t : TypeId) (hg : w.heap[g]? = some (.cells cur.toArray t (0, 0))) (cs : List Value) (m : Nat) (hm : Nat.min sLen dLen = m) (hn : cs.length = m * 2)
    (hsrc : ∀ j v, cs[j]? = some v → w.cell? (ad.add j) = some v) (hfit : off + cs.length ≤ cur.length) (h1 : ∀ v ∈ cs, v.oneCell' = true) (new : List Value) (hnew : cur.take off ++ cs ++ cur.drop (off + cs.length) = new) (B : Nat) (w0 : World) (hb : Below B w0 w) (hBg : B ≤ g)
    (h : ∀ w', Hid (w'.heap[g]? = some (.cells new.toArray t (0, 0))) → Below B w0 w' → K (a.put o.dst (goInt m)) w') : if Region.wanted o (yielded ops a.tmps) = true then Oper.wp P o a w K Q else E := by
  have hw : Region.wanted o (yielded ops a.tmps) = true := by simp [Region.wanted, hgd]
  rw [if_pos hw]
  subst hm
  have hrun := run_copy_two (P := P) w dT sT o.type elem g off dLen dCap ad sLen sCap cur.toArray t cs hu hsz hg hn hsrc (by simpa using hfit) h1
  unfold Oper.wp
  simp only [execOp, ho, resolve, invoke, builtin, Sem.run_bind, Sem.run_pure, Result.andThen_ok, List.map_toArray, List.map_cons, List.map_nil, hd, hs, hrun]
  exact h _ (show _ = _ by rw [← hnew]; simpa using setRow_heap w g _ _ t _ hg) (below_setRow hb hBg _)
end Go.Proofs.YtceabiodelfdoaaDoor
/- A row of pixels that is filled by copying. -/
namespace Go.Proofs.YtceabiodelfdoaaDoor
open Go.RowKit

theorem pixCells_app (a b : List (Int × Int)) : pixCells (a ++ b) = pixCells a ++ pixCells b := by
  induction a with
  | nil => rfl
  | cons p a ih => obtain ⟨n, d⟩ := p; simp [pixCells, ih]
theorem pixCells_take (a : List (Int × Int)) (k : Nat) : (pixCells a).take (k * 2) = pixCells (a.take k) := by
  induction k generalizing a with
  | zero => simp [pixCells]
  | succ k ih =>
    cases a with
    | nil => simp [pixCells]
    | cons p a => obtain ⟨x, y⟩ := p; rw [show (k + 1) * 2 = k * 2 + 1 + 1 by omega]; simp [pixCells, ih]
theorem pixCells_drop (a : List (Int × Int)) (k : Nat) : (pixCells a).drop (k * 2) = pixCells (a.drop k) := by
  induction k generalizing a with
  | zero => simp
  | succ k ih =>
    cases a with
    | nil => simp [pixCells]
    | cons p a => obtain ⟨x, y⟩ := p; rw [show (k + 1) * 2 = k * 2 + 1 + 1 by omega]; simp [pixCells, ih]
/-- k of n are filled -/
def fillL (k n : Nat) (x : Int × Int) : List (Int × Int) := List.replicate k x ++ List.replicate (n - k) (0, 0)
theorem fill_len (k n : Nat) (x : Int × Int) (h : k ≤ n) : (fillL k n x).length = n := by unfold fillL; simp; omega
theorem fill_more (k m n : Nat) (x : Int × Int) (h : k + m ≤ n) :
    (pixCells (fillL k n x)).take (k * 2) ++ pixCells (List.replicate m x) ++ (pixCells (fillL k n x)).drop (k * 2 + m * 2) = pixCells (fillL (k + m) n x) := by
  rw [pixCells_take, show k * 2 + m * 2 = (k + m) * 2 by omega, pixCells_drop, ← pixCells_app, ← pixCells_app]
  congr 1
  unfold fillL
  rw [List.take_left' (by simp), List.drop_append]
  simp only [List.drop_replicate, List.length_replicate]
  rw [show k - (k + m) = 0 by omega, List.replicate_zero, List.nil_append, List.replicate_append_replicate, show n - k - (k + m - k) = n - (k + m) by omega]
theorem fill_all (n : Nat) (x : Int × Int) : fillL n n x = List.replicate n x := by unfold fillL; simp
theorem fill_none (n : Nat) (x : Int × Int) : fillL 0 n x = List.replicate n (0, 0) := by unfold fillL; simp
theorem made_pix (n : Nat) : (madeCells #[Value.int .i64 0, Value.int .i64 0] (n * 2)).toList = pixCells (List.replicate n (0, 0)) := by
  apply List.ext_getElem?
  intro j
  by_cases hj : j < n * 2
  · have hp := pixCells_at (List.replicate n (0, 0)) (j / 2) (by simp; omega)
    have hg : (List.replicate n ((0 : Int), (0 : Int))).getD (j / 2) (0, 0) = (0, 0) := by
      rw [List.getD_eq_getElem?_getD, List.getElem?_replicate]; split <;> rfl
    rw [hg] at hp
    have h2 : j % 2 = 0 ∨ j % 2 = 1 := by omega
    rcases h2 with h | h
    · rw [show j = j / 2 * 2 by omega, hp.1]
      have : j / 2 * 2 < n * 2 := by omega
      simp [madeCells, this]
    · rw [show j = j / 2 * 2 + 1 by omega, hp.2]
      have : j / 2 * 2 + 1 < n * 2 := by omega
      simp [madeCells, this]
  · rw [List.getElem?_eq_none (by simp [madeCells]; omega), List.getElem?_eq_none (by rw [pixCells_length]; simp; omega)]
end Go.Proofs.YtceabiodelfdoaaDoor
/- Walk of slices.Repeat of one pixel. -/
namespace Go.Proofs.YtceabiodelfdoaaDoor
open Go.RowKit

theorem hid_p {p : Prop} (h : p) : Hid p := h
/-- the whole row, as its block has it -/
theorem own_full {W : World} {B g n : Nat} {e : TypeId} {size : Nat} {xs : List Value} (h : W.ownsRow B e size (.slice (some ⟨g, 0, none⟩) n n) n xs) : W.heap[g]? = some (.cells xs.toArray e (0, 0)) := by
  rcases h.2 with ⟨h0, _⟩ | ⟨g', cap, cur, hv, _, hg, _, _, hsz, htk⟩
  · simp at h0
  · simp only [Value.slice.injEq, Option.some.injEq, Addr.mk.injEq, and_true, true_and] at hv
    obtain ⟨rfl, rfl⟩ := hv
    rw [List.take_of_length_le (by simp [hsz])] at htk
    rw [hg, ← htk]
end Go.Proofs.YtceabiodelfdoaaDoor
/- Walk of blend.Plain: the row is one's own. -/
namespace Go.Proofs.YtceabiodelfdoaaDoor
open Go.RowKit

end Go.Proofs.YtceabiodelfdoaaDoor
/- Walks: objects.Seen. -/
namespace Go.Proofs.YtceabiodelfdoaaDoor
open Go.RowKit

/-- pixels read as before where another block's cell is stored into -/
theorem rdP_set {w : World} {u : Value} {ps : List (Int × Int)} (h : RdP w u ps) {b : Nat} (hne : ∀ z n c, u = .slice (some z) n c → z.block ≠ b) (j : Nat) (x : Value) : RdP (w.setCell ⟨b, j, none⟩ x) u ps := by
  obtain ⟨a, cap, hv, hl, hc, hh⟩ := h
  refine ⟨a, cap, hv, hl, hc, fun h0 => ?_⟩
  obtain ⟨g, off, ha, hg, hcell⟩ := hh h0
  have hgb : g ≠ b := hne ⟨g, off, none⟩ _ _ (by rw [hv, ha])
  refine ⟨g, off, ha, by simpa using hg, fun j' hj => ?_⟩
  rw [World.cell?_of_block (a := ⟨g, off + j' * 2, none⟩) (Below.heap_setCell w ⟨b, j, none⟩ x g (by simpa using hgb)), World.cell?_of_block (a := ⟨g, off + j' * 2 + 1, none⟩) (Below.heap_setCell w ⟨b, j, none⟩ x g (by simpa using hgb))]
  exact hcell j' hj
theorem check_plain (W H : Nat) (v a : Int) (h1 : 1 ≤ W) (h2 : W ≤ 8) (h3 : 1 ≤ H) (h4 : H ≤ 8) (h5 : 0 ≤ v) (h6 : v ≤ 255) (h7 : 0 ≤ a) (h8 : a ≤ 255) : checkL (W : Int) (H : Int) (List.replicate (W * H) (v, a)) = 0 := by
  have s1 : sideB (W : Int) = true := by unfold sideB; simp; omega
  have s2 : sideB (H : Int) = true := by unfold sideB; simp; omega
  unfold checkL
  rw [s1, s2, if_neg (by simp), if_neg (by simp), if_pos]
  rw [List.all_eq_true]
  intro x hx
  rw [(List.mem_replicate.1 hx).2]
  unfold okPix shadeB
  simp
  omega
theorem layO_check (W H : Nat) (ps : List (Int × Int)) (o : Po) (hp : checkL (W : Int) (H : Int) ps = 0) (ho : o.fault' = 0) : checkL (W : Int) (H : Int) (layL W ps o.pw.toNat o.ph.toNat o.ps o.x o.y o.cx o.cy o.cw o.ch o.sh) = 0 := by
  have hz := (objC_zero _ _ _ _ _ _ _ _ _ _ ho).2.2.2.2.2.2.2.2.2.2.2.2.2.2
  obtain ⟨PW, PH, e1, e2, _⟩ := check_zero _ _ _ hz
  refine lay_check W H ps _ _ _ _ _ _ _ _ _ _ hp ?_
  rw [e1, e2] at hz ⊢
  simpa using hz
/-- one object more is seen -/
def layO (W : Nat) (ps : List (Int × Int)) (o : Po) : List (Int × Int) := layL W ps o.pw.toNat o.ph.toNat o.ps o.x o.y o.cx o.cy o.cw o.ch o.sh
/-- what Seen answers -/
def seenL (W H : Nat) (back : Int × Int) (os : List Po) : List (Int × Int) := os.foldl (layO W) (List.replicate (W * H) back)

end Go.Proofs.YtceabiodelfdoaaDoor
/- Frames: what lies in memory, a list of them opened. -/
namespace Go.Proofs.YtceabiodelfdoaaDoor
open Go.ChangeShapes Go.WideShapes Go.ChangeAt Go.RowKit Go.Joins Go.Deep

/-- a frame -/
structure Pf where
  W : Int
  H : Int
  ps : List (Int × Int)
  d : Int

@[reducible] def pf0 : Pf := ⟨0, 0, [], 0⟩
instance : Inhabited Pf := ⟨pf0⟩

/-- a list of frames -/
def RdF (w : World) (v : Value) (fs : List Pf) : Prop :=
  ∃ a cap, v = .slice a fs.length cap ∧ fs.length ≤ cap ∧ cap ≤ 9223372036854775807 ∧ (fs ≠ [] → ∃ g off, a = some ⟨g, off, none⟩ ∧ g < w.heap.size ∧
    ∀ j, j < fs.length → ∃ u, w.cell? ⟨g, off + j * 4, none⟩ = some (.int .i64 (fs.getD j pf0).W) ∧ w.cell? ⟨g, off + j * 4 + 1, none⟩ = some (.int .i64 (fs.getD j pf0).H) ∧
      w.cell? ⟨g, off + j * 4 + 2, none⟩ = some u ∧ w.cell? ⟨g, off + j * 4 + 3, none⟩ = some (.int .i64 (fs.getD j pf0).d) ∧ RdP w u (fs.getD j pf0).ps)

theorem RdF.on {w w' : World} {v : Value} {fs : List Pf} (h : RdF w v fs) (hb : Below w.heap.size w w') : RdF w' v fs := by
  obtain ⟨a, cap, hv, hl, hc, hh⟩ := h
  refine ⟨a, cap, hv, hl, hc, fun hne => ?_⟩
  obtain ⟨g, off, ha, hg, hcell⟩ := hh hne
  refine ⟨g, off, ha, Nat.lt_of_lt_of_le hg hb.size, fun j hj => ?_⟩
  obtain ⟨u, h0, h1, h2, h3, hr⟩ := hcell j hj
  refine ⟨u, ?_, ?_, ?_, ?_, hr.on hb⟩
  · rw [hb.cell (p := ⟨g, off + j * 4, none⟩) hg]; exact h0
  · rw [hb.cell (p := ⟨g, off + j * 4 + 1, none⟩) hg]; exact h1
  · rw [hb.cell (p := ⟨g, off + j * 4 + 2, none⟩) hg]; exact h2
  · rw [hb.cell (p := ⟨g, off + j * 4 + 3, none⟩) hg]; exact h3

theorem RdF.at {w : World} {a : Option Addr} {n cap : Nat} {fs : List Pf} (h : RdF w (.slice a n cap) fs) {k : Nat} (hk : k < n) {f : Pf} (HF : Hid (fs.getD k pf0 = f)) :
    ∃ g o ua m uc, a = some ⟨g, o, none⟩ ∧ g < w.heap.size ∧ w.cell? ⟨g, o + k * 4, none⟩ = some (.int .i64 f.W) ∧ w.cell? ⟨g, o + k * 4 + 1, none⟩ = some (.int .i64 f.H) ∧
      w.cell? ⟨g, o + k * 4 + 2, none⟩ = some (.slice ua m uc) ∧ w.cell? ⟨g, o + k * 4 + 3, none⟩ = some (.int .i64 f.d) ∧ Hid (RdP w (.slice ua m uc) f.ps) ∧ Hid (f.ps.length = m) := by
  obtain ⟨a', cap', hv, hl, hc, hh⟩ := h
  simp only [Value.slice.injEq] at hv
  obtain ⟨rfl, rfl, rfl⟩ := hv
  obtain ⟨g, o, ha, hg, hcell⟩ := hh (by intro e; rw [e] at hk; simp at hk)
  obtain ⟨u, h0, h1, h2, h3, h4⟩ := hcell k hk
  rw [HF.out] at h0 h1 h3 h4
  have h5 := h4
  obtain ⟨ua, uc, rfl, _⟩ := h5
  exact ⟨g, o, ua, _, uc, ha, hg, h0, h1, h2, h3, h4, (rfl : _ = _)⟩
theorem RdF.shape {w : World} {v : Value} {fs : List Pf} (h : RdF w v fs) : ∃ a cap, v = .slice a fs.length cap ∧ fs.length ≤ cap ∧ cap ≤ 9223372036854775807 := by
  obtain ⟨a, cap, h1, h2, h3, _⟩ := h
  exact ⟨a, cap, h1, h2, h3⟩
end Go.Proofs.YtceabiodelfdoaaDoor
/- A book and its machine, as lists. -/
namespace Go.Proofs.YtceabiodelfdoaaDoor
open Go.RowKit

/-- how many loops more are open behind an op -/
def opn (q : Pq) : Int := if q.kind = 12 then 1 else if q.kind = 13 then -1 else 0
/-- how many are open ahead of the op at k -/
def dep (qs : List Pq) (k : Nat) : Int := ((qs.take k).map opn).sum
theorem dep_zero (qs : List Pq) : dep qs 0 = 0 := by simp [dep]
theorem getD_pq {qs : List Pq} {k : Nat} (h : k < qs.length) : qs.getD k pq0 = qs[k] := by rw [List.getD_eq_getElem?_getD, List.getElem?_eq_getElem h]; rfl
theorem mem_pq {qs : List Pq} {k : Nat} (h : k < qs.length) : qs.getD k pq0 ∈ qs := by rw [getD_pq h]; exact List.getElem_mem h
theorem dep_succ (qs : List Pq) (k : Nat) (h : k < qs.length) : dep qs (k + 1) = dep qs k + opn (qs.getD k pq0) := by
  unfold dep
  rw [List.take_succ_eq_append_getElem h, List.map_append, List.sum_append, getD_pq h]
  simp
/-- Check behind the first i ops, d loops open; n: how many ops there are -/
def bkR (n : Nat) : Nat → Int → List Pq → Nat
  | _, d, [] => if 0 < d then 3 else 0
  | i, d, q :: r => if opC q ≠ 0 then opC q else if decide (q.kind = 1) ≠ decide (i = 0) ∨ decide (q.kind = 16) ≠ decide (i + 1 = n) then 3
      else if d + opn q < 0 then 3 else if 3 < d + opn q then 2 else bkR n (i + 1) (d + opn q) r
/-- Check's number -/
def bkC (qs : List Pq) : Nat :=
  if qs.length < 2 ∨ (qs.getD 0 pq0).kind ≠ 1 ∨ (qs.getD (qs.length - 1) pq0).kind ≠ 16 then 3 else if 60 < qs.length then 2 else bkR qs.length 0 0 qs
/-- a book that may be -/
structure Book (qs : List Pq) : Prop where
  two : 2 ≤ qs.length
  few : qs.length ≤ 60
  ok : ∀ j, j < qs.length → opC (qs.getD j pq0) = 0
  head : ∀ j, j < qs.length → ((qs.getD j pq0).kind = 1 ↔ j = 0)
  last : ∀ j, j < qs.length → ((qs.getD j pq0).kind = 16 ↔ j + 1 = qs.length)
  low : ∀ j, j ≤ qs.length → 0 ≤ dep qs j
  high : ∀ j, j ≤ qs.length → dep qs j ≤ 3
  shut : dep qs qs.length = 0
theorem bkR_zero (qs : List Pq) : ∀ (r : List Pq) (i : Nat), i + r.length = qs.length → qs.drop i = r → 0 ≤ dep qs i → dep qs i ≤ 3 → bkR qs.length i (dep qs i) r = 0 →
    (∀ j, i ≤ j → j < qs.length → opC (qs.getD j pq0) = 0 ∧ ((qs.getD j pq0).kind = 1 ↔ j = 0) ∧ ((qs.getD j pq0).kind = 16 ↔ j + 1 = qs.length)) ∧ (∀ j, i ≤ j → j ≤ qs.length → 0 ≤ dep qs j ∧ dep qs j ≤ 3) ∧ dep qs qs.length ≤ 0 := by
  intro r
  induction r with
  | nil =>
    intro i hi _ h0 h3 h
    simp at hi
    subst hi
    simp only [bkR] at h
    refine ⟨fun j h1 h2 => by omega, fun j h1 h2 => by obtain rfl : j = qs.length := by omega
                                                       exact ⟨h0, h3⟩, ?_⟩
    split at h <;> omega
  | cons q r ih =>
    intro i hi hd h0 h3 h
    simp only [List.length_cons] at hi
    have hlt : i < qs.length := by omega
    have hq : qs.getD i pq0 = q := by
      rw [getD_pq hlt]
      have := List.getElem_cons_drop (i := i) hlt
      rw [hd] at this
      exact (List.cons.inj this).1
    have hr : qs.drop (i + 1) = r := by
      have := List.getElem_cons_drop (i := i) hlt
      rw [hd] at this
      exact (List.cons.inj this).2
    have hs := dep_succ qs i hlt
    rw [hq] at hs
    unfold bkR at h
    split at h
    · rename_i hc; omega
    rename_i hc
    split at h
    · cases h
    rename_i hk
    split at h
    · cases h
    split at h
    · cases h
    rename_i hlo hhi
    rw [← hs] at h hlo hhi
    obtain ⟨a1, a2, a3⟩ := ih (i + 1) (by omega) hr (by omega) (by omega) h
    refine ⟨fun j h1 h2 => ?_, fun j h1 h2 => ?_, a3⟩
    · rcases Nat.eq_or_lt_of_le h1 with rfl | h1
      · rw [hq]
        have hk1 : decide (q.kind = 1) = decide (i = 0) := by
          apply Classical.byContradiction; intro hn; exact hk (.inl hn)
        have hk2 : decide (q.kind = 16) = decide (i + 1 = qs.length) := by
          apply Classical.byContradiction; intro hn; exact hk (.inr hn)
        exact ⟨by omega, by simpa using hk1, by simpa using hk2⟩
      · exact a1 j h1 h2
    · rcases Nat.eq_or_lt_of_le h1 with rfl | h1
      · exact ⟨h0, h3⟩
      · exact a2 j h1 h2
theorem book_of {qs : List Pq} (h : bkC qs = 0) : Book qs := by
  unfold bkC at h
  split at h
  · cases h
  rename_i h1
  split at h
  · cases h
  rename_i h2
  have hd := dep_zero qs
  rw [← hd] at h
  obtain ⟨a1, a2, a3⟩ := bkR_zero qs qs 0 (by simp) rfl (by omega) (by omega) h
  exact ⟨by omega, by omega, fun j hj => (a1 j (by omega) hj).1, fun j hj => (a1 j (by omega) hj).2.1, fun j hj => (a1 j (by omega) hj).2.2, fun j hj => (a2 j (by omega) hj).1, fun j hj => (a2 j (by omega) hj).2, by have := (a2 qs.length (by omega) (by omega)).1; omega⟩

/-- the loop at p ends at j -/
structure Clo (qs : List Pq) (p j : Nat) : Prop where
  lt : p < j
  on : j < qs.length
  loop : (qs.getD p pq0).kind = 12
  next : (qs.getD j pq0).kind = 13
  same : dep qs (j + 1) = dep qs p
  over : ∀ k, p < k → k ≤ j → dep qs p + 1 ≤ dep qs k
theorem Clo.one {qs : List Pq} {p j k : Nat} (h : Clo qs p j) (h2 : Clo qs p k) : j = k := by
  rcases Nat.lt_trichotomy j k with hl | rfl | hl
  · have := h2.over (j + 1) (by have := h.lt; omega) (by omega)
    have := h.same
    omega
  · rfl
  · have := h.over (k + 1) (by have := h2.lt; omega) (by omega)
    have := h2.same
    omega
/-- where the loop at p ends -/
def cloF (qs : List Pq) (p : Nat) : Nat := ((List.range qs.length).find? fun j => decide (p < j) && decide (dep qs (j + 1) = dep qs p)).getD 0
theorem Clo.fn {qs : List Pq} {p j : Nat} (h : Clo qs p j) : cloF qs p = j := by
  unfold cloF
  have : (List.range qs.length).find? (fun j => decide (p < j) && decide (dep qs (j + 1) = dep qs p)) = some j := by
    rw [List.find?_eq_some_iff_getElem]
    refine ⟨by simp [h.lt, h.same], j, by simpa using h.on, by simp, fun k hk => ?_⟩
    simp
    rcases Nat.lt_or_ge p k with hp | hp
    · have := h.over (k + 1) (by omega) (by omega)
      exact .inr (by omega)
    · exact .inl hp
  rw [this]
  rfl

/-- a machine -/
structure Ms where
  pc : Nat
  opn : List (Nat × Nat)
  bv : Int
  ba : Int
  obs : List Po
  kept : List Po
  frs : List Pf
def ms0 : Ms := ⟨0, [], 0, 0, [], [], []⟩
/-- what a wait tells -/
def tellF (qs : List Pq) (s : Ms) (d : Int) : Pf := ⟨(qs.getD 0 pq0).a, (qs.getD 0 pq0).b, seenL (qs.getD 0 pq0).a.toNat (qs.getD 0 pq0).b.toNat (s.bv, s.ba) s.obs, d⟩
/-- the op is done; the machine is left ahead of what comes next -/
def doM (qs : List Pq) (s : Ms) (q : Pq) : Ms ⊕ Nat :=
  if q.kind = 1 then .inl s
  else if q.kind = 10 then .inl { s with bv := q.a, ba := q.b }
  else if q.kind = 11 then if 40 ≤ s.frs.length then .inr 7 else .inl { s with frs := s.frs ++ [tellF qs s q.a] }
  else if q.kind = 12 then if q.a = 0 then .inl { s with pc := cloF qs s.pc } else .inl { s with opn := s.opn ++ [(s.pc, q.a.toNat)] }
  else if q.kind = 13 then if 1 < (s.opn.getD (s.opn.length - 1) (0, 0)).2 then .inl { s with pc := (s.opn.getD (s.opn.length - 1) (0, 0)).1, opn := s.opn.dropLast ++ [((s.opn.getD (s.opn.length - 1) (0, 0)).1, (s.opn.getD (s.opn.length - 1) (0, 0)).2 - 1)] } else .inl { s with opn := s.opn.dropLast }
  else if q.kind = 14 then .inl { s with kept := s.obs }
  else if q.kind = 15 then .inl { s with obs := s.kept }
  else match doO s.obs q with
    | .inl rs => .inl { s with obs := rs }
    | .inr c => .inr c
def doneM (qs : List Pq) (s : Ms) : Prop := (qs.getD s.pc pq0).kind = 16
instance (qs : List Pq) (s : Ms) : Decidable (doneM qs s) := by unfold doneM; infer_instance
def stepM (qs : List Pq) (s : Ms) : Ms ⊕ Nat :=
  if doneM qs s then .inl s else match doM qs s (qs.getD s.pc pq0) with
    | .inl s' => .inl { s' with pc := s'.pc + 1 }
    | .inr c => .inr c
/-- what is played -/
def playM (qs : List Pq) : Nat → Ms → List Pf ⊕ Nat
  | 0, s => if doneM qs s then .inl s.frs else .inr 8
  | f + 1, s => if doneM qs s then .inl s.frs else match stepM qs s with
    | .inl s' => playM qs f s'
    | .inr c => .inr c
/-- what holds of a machine on its way -/
structure Way (qs : List Pq) (s : Ms) : Prop where
  on : s.pc < qs.length
  deep : (s.opn.length : Int) = dep qs s.pc
  inn : ∀ m, m < s.opn.length → (s.opn.getD m (0, 0)).1 < qs.length ∧ (qs.getD (s.opn.getD m (0, 0)).1 pq0).kind = 12 ∧ dep qs (s.opn.getD m (0, 0)).1 = m ∧ 1 ≤ (s.opn.getD m (0, 0)).2 ∧ (s.opn.getD m (0, 0)).2 ≤ 9
  bv : 0 ≤ s.bv ∧ s.bv ≤ 255
  ba : 0 ≤ s.ba ∧ s.ba ≤ 255
  obs : FineO s.obs
  kept : FineO s.kept
  frs : s.frs.length ≤ 40
end Go.Proofs.YtceabiodelfdoaaDoor
/- A book's machine: what holds on its way. -/
namespace Go.Proofs.YtceabiodelfdoaaDoor
open Go.RowKit

theorem opn_cases (q : Pq) : (q.kind = 12 ∧ opn q = 1) ∨ (q.kind = 13 ∧ opn q = -1) ∨ (q.kind ≠ 12 ∧ q.kind ≠ 13 ∧ opn q = 0) := by
  unfold opn
  split
  · exact .inl ⟨by assumption, rfl⟩
  split
  · exact .inr (.inl ⟨by assumption, rfl⟩)
  · exact .inr (.inr ⟨by assumption, by assumption, rfl⟩)
theorem first_low (f : Nat → Int) (p : Nat) (c : Int) : ∀ m, (∃ k, p < k ∧ k ≤ m ∧ f k ≤ c) → ∃ j, p ≤ j ∧ j + 1 ≤ m ∧ f (j + 1) ≤ c ∧ ∀ k, p < k → k ≤ j → c < f k := by
  intro m
  induction m with
  | zero => rintro ⟨k, h1, h2, _⟩; omega
  | succ m ih =>
    rintro ⟨k, h1, h2, h3⟩
    by_cases hk : ∃ k, p < k ∧ k ≤ m ∧ f k ≤ c
    · obtain ⟨j, a1, a2, a3, a4⟩ := ih hk
      exact ⟨j, a1, by omega, a3, a4⟩
    · obtain rfl : k = m + 1 := by
        apply Classical.byContradiction
        intro hn
        exact hk ⟨k, h1, by omega, h3⟩
      refine ⟨m, by omega, by omega, h3, fun k h4 h5 => ?_⟩
      apply Classical.byContradiction
      intro hn
      exact hk ⟨k, h4, h5, by omega⟩
theorem clo_ex {qs : List Pq} (hb : Book qs) {p : Nat} (hp : p < qs.length) (hk : (qs.getD p pq0).kind = 12) : ∃ j, Clo qs p j := by
  have hs := dep_succ qs p hp
  have ho : opn (qs.getD p pq0) = 1 := by unfold opn; rw [if_pos hk]
  have hl : p + 1 ≠ qs.length := fun h => by have := (hb.last p hp).2 h; omega
  obtain ⟨j, a1, a2, a3, a4⟩ := first_low (dep qs) p (dep qs p) qs.length ⟨qs.length, hp, Nat.le_refl _, by rw [hb.shut]; exact hb.low p (by omega)⟩
  have hpj : p < j := by
    rcases Nat.eq_or_lt_of_le a1 with rfl | h
    · omega
    · exact h
  have hj := dep_succ qs j (by omega)
  have h5 := a4 j hpj (Nat.le_refl _)
  rcases opn_cases (qs.getD j pq0) with ⟨k1, k2⟩ | ⟨k1, k2⟩ | ⟨_, _, k2⟩
  · omega
  · exact ⟨j, hpj, by omega, hk, k1, by omega, fun k h1 h2 => by have := a4 k h1 h2; omega⟩
  · omega

theorem fine_nil : FineO [] := ⟨by simp, fun i j _ h => by simp at h⟩
theorem way0 {qs : List Pq} (h : Book qs) : Way qs ms0 :=
  ⟨by have := h.two; show 0 < _; omega, by simp [ms0, dep_zero], fun m hm => by simp [ms0] at hm, by simp [ms0], by simp [ms0], fine_nil, fine_nil, by simp [ms0]⟩
theorem dropLast_getD {α : Type} (l : List α) (d : α) {m : Nat} (h : m < l.length - 1) : l.dropLast.getD m d = l.getD m d := by
  rw [List.getD_eq_getElem?_getD, List.getD_eq_getElem?_getD, List.getElem?_dropLast, if_pos h]
theorem snoc_getD {α : Type} (l : List α) (x d : α) (m : Nat) (h : m < l.length + 1) : (l ++ [x]).getD m d = if m = l.length then x else l.getD m d := by
  rw [List.getD_eq_getElem?_getD, List.getD_eq_getElem?_getD]
  split
  · rename_i h1; subst h1; simp
  · rw [List.getElem?_append_left (by omega)]
theorem op_back (q : Pq) (h : opC q = 0) (hk : q.kind = 10) : (0 ≤ q.a ∧ q.a ≤ 255) ∧ 0 ≤ q.b ∧ q.b ≤ 255 := by
  obtain ⟨_, _, h3, _⟩ := op_shape q h ⟨10, [66, 65, 67, 75], false, 2, 0, 255, false⟩ (by rw [hk]; rfl)
  simp [inB, nums4] at h3
  omega
theorem op_loop (q : Pq) (h : opC q = 0) (hk : q.kind = 12) : 0 ≤ q.a ∧ q.a ≤ 9 := by
  obtain ⟨_, _, h3, _⟩ := op_shape q h ⟨12, [76, 79, 79, 80], false, 1, 0, 9, false⟩ (by rw [hk]; rfl)
  simp [inB, nums4] at h3
  omega
theorem op_head (q : Pq) (h : opC q = 0) (hk : q.kind = 1) : (1 ≤ q.a ∧ q.a ≤ 8) ∧ 1 ≤ q.b ∧ q.b ≤ 8 := by
  obtain ⟨_, _, h3, _⟩ := op_shape q h ⟨1, [72, 69, 65, 68], false, 2, 1, 8, false⟩ (by rw [hk]; rfl)
  simp [inB, nums4] at h3
  omega
/-- an op that is neither the last nor opens or closes leads to the next place -/
theorem way_next {qs : List Pq} {s : Ms} (hb : Book qs) (hw : Way qs s) (hd : ¬ doneM qs s) (h2 : (qs.getD s.pc pq0).kind ≠ 12) (h3 : (qs.getD s.pc pq0).kind ≠ 13) : s.pc + 1 < qs.length ∧ (s.opn.length : Int) = dep qs (s.pc + 1) := by
  have hl : s.pc + 1 ≠ qs.length := fun h => hd ((hb.last s.pc hw.on).2 h)
  refine ⟨by have := hw.on; omega, ?_⟩
  rw [hw.deep, dep_succ qs s.pc hw.on]
  rcases opn_cases (qs.getD s.pc pq0) with ⟨k1, k2⟩ | ⟨k1, k2⟩ | ⟨_, _, k2⟩
  · exact absurd k1 h2
  · exact absurd k1 h3
  · omega
theorem open_pos {qs : List Pq} {s : Ms} (hb : Book qs) (hw : Way qs s) (h3 : (qs.getD s.pc pq0).kind = 13) : 0 < s.opn.length ∧ s.opn.length ≤ 3 := by
  have h1 := dep_succ qs s.pc hw.on
  have h2 := hb.low (s.pc + 1) (by have := hw.on; omega)
  have h4 := hb.high s.pc (by have := hw.on; omega)
  have h5 := hw.deep
  unfold opn at h1
  rw [if_neg (by omega), if_pos h3] at h1
  omega
theorem step_way {qs : List Pq} {s s' : Ms} (hb : Book qs) (hw : Way qs s) (hd : ¬ doneM qs s) (h : doM qs s (qs.getD s.pc pq0) = .inl s') : Way qs { s' with pc := s'.pc + 1 } := by
  obtain ⟨q, hq⟩ : ∃ q, qs.getD s.pc pq0 = q := ⟨_, rfl⟩
  have hok := hb.ok s.pc hw.on
  have hn := way_next hb hw hd
  have hl : s.pc + 1 ≠ qs.length := fun h => hd ((hb.last s.pc hw.on).2 h)
  have hon := hw.on
  have hsu := dep_succ qs s.pc hw.on
  rw [hq] at h hok hn hsu
  unfold doM at h
  split at h
  · rename_i hk
    obtain rfl := Sum.inl.inj h
    obtain ⟨a1, a2⟩ := hn (by omega) (by omega)
    exact ⟨a1, a2, hw.inn, hw.bv, hw.ba, hw.obs, hw.kept, hw.frs⟩
  split at h
  · rename_i hk
    obtain rfl := Sum.inl.inj h
    obtain ⟨a1, a2⟩ := hn (by omega) (by omega)
    exact ⟨a1, a2, hw.inn, (op_back q hok hk).1, (op_back q hok hk).2, hw.obs, hw.kept, hw.frs⟩
  split at h
  · rename_i hk
    split at h
    · cases h
    obtain rfl := Sum.inl.inj h
    obtain ⟨a1, a2⟩ := hn (by omega) (by omega)
    exact ⟨a1, a2, hw.inn, hw.bv, hw.ba, hw.obs, hw.kept, by simp only [List.length_append, List.length_singleton]; omega⟩
  split at h
  · rename_i hk
    have ho : opn q = 1 := by unfold opn; rw [if_pos hk]
    split at h
    · obtain rfl := Sum.inl.inj h
      obtain ⟨j, hj⟩ := clo_ex hb hon (by rw [hq]; exact hk)
      have he := hj.fn
      have h5 : j + 1 ≠ qs.length := fun h => by have := (hb.last j hj.on).2 h; have := hj.next; omega
      exact ⟨by simp only [he]; have := hj.on; omega, by simp only [he]; rw [hj.same, hw.deep], hw.inn, hw.bv, hw.ba, hw.obs, hw.kept, hw.frs⟩
    · rename_i ha
      obtain rfl := Sum.inl.inj h
      obtain ⟨b1, b2⟩ := op_loop q hok hk
      refine ⟨by simp only; omega, by simp only [List.length_append, List.length_singleton]; have := hw.deep; omega, fun m hm => ?_, hw.bv, hw.ba, hw.obs, hw.kept, hw.frs⟩
      simp only [List.length_append, List.length_singleton] at hm
      simp only
      rw [snoc_getD _ _ _ m hm]
      split
      · rename_i hm2
        subst hm2
        have := hw.deep
        exact ⟨hon, by rw [hq]; exact hk, by show dep qs s.pc = _; omega, by show 1 ≤ q.a.toNat; omega, by show q.a.toNat ≤ 9; omega⟩
      · exact hw.inn m (by omega)
  split at h
  · rename_i hk
    have ho : opn q = -1 := by unfold opn; rw [if_neg (by omega), if_pos hk]
    obtain ⟨p1, p2⟩ := open_pos hb hw (by rw [hq]; exact hk)
    obtain ⟨c1, c2, c3, c4, c5⟩ := hw.inn (s.opn.length - 1) (by omega)
    split at h
    · rename_i hgt
      obtain rfl := Sum.inl.inj h
      have h5 : (s.opn.getD (s.opn.length - 1) (0, 0)).1 + 1 ≠ qs.length := fun h => by have := (hb.last _ c1).2 h; omega
      have h6 := dep_succ qs _ c1
      have h7 : opn (qs.getD (s.opn.getD (s.opn.length - 1) (0, 0)).1 pq0) = 1 := by unfold opn; rw [if_pos c2]
      refine ⟨by simp only; omega, by simp only [List.length_append, List.length_singleton, List.length_dropLast]; omega, fun m hm => ?_, hw.bv, hw.ba, hw.obs, hw.kept, hw.frs⟩
      simp only [List.length_append, List.length_singleton, List.length_dropLast] at hm
      simp only
      rw [snoc_getD _ _ _ m (by rw [List.length_dropLast]; omega), List.length_dropLast]
      split
      · rename_i hm2
        subst hm2
        exact ⟨c1, c2, c3, by simp only; omega, by simp only; omega⟩
      · rw [dropLast_getD _ _ (by omega)]
        exact hw.inn m (by omega)
    · obtain rfl := Sum.inl.inj h
      refine ⟨by simp only; omega, by simp only [List.length_dropLast]; have := hw.deep; omega, fun m hm => ?_, hw.bv, hw.ba, hw.obs, hw.kept, hw.frs⟩
      simp only [List.length_dropLast] at hm
      simp only
      rw [dropLast_getD _ _ hm]
      exact hw.inn m (by omega)
  split at h
  · rename_i hk
    obtain rfl := Sum.inl.inj h
    obtain ⟨a1, a2⟩ := hn (by omega) (by omega)
    exact ⟨a1, a2, hw.inn, hw.bv, hw.ba, hw.obs, hw.obs, hw.frs⟩
  split at h
  · rename_i hk
    obtain rfl := Sum.inl.inj h
    obtain ⟨a1, a2⟩ := hn (by omega) (by omega)
    exact ⟨a1, a2, hw.inn, hw.bv, hw.ba, hw.kept, hw.kept, hw.frs⟩
  split at h
  · rename_i rs hr
    obtain rfl := Sum.inl.inj h
    obtain ⟨a1, a2⟩ := hn (by omega) (by omega)
    exact ⟨a1, a2, hw.inn, hw.bv, hw.ba, do_fine hw.obs hok hr, hw.kept, hw.frs⟩
  · cases h
end Go.Proofs.YtceabiodelfdoaaDoor
/- Walks: book.opens, book.Check. -/
namespace Go.Proofs.YtceabiodelfdoaaDoor
open Go.RowKit

set_option maxHeartbeats 2000000 in
set_option maxRecDepth 100000 in
theorem opens_any (q : Pq) (u : Value) (w : World) : Calls Tryd.prog 29 #[opV q u] w fun e w' => e = .returned (.int .i64 (opn q)) ∧ Below w.heap.size w w' := by
  have hb : Below w.heap.size w (w.alloc (.cells #[.int .i64 q.kind, .int .i64 q.id, .int .i64 q.a, .int .i64 q.b, .int .i64 q.c, .int .i64 q.d, .int .i64 q.pw, .int .i64 q.ph, u] 45)) := (Below.refl _ _).alloc (Nat.le_refl _) _
  rcases opn_cases q with ⟨h1, h2⟩ | ⟨h1, h2⟩ | ⟨h1, h3, h2⟩
  · rw [h2]
    have b1 : (q.kind == 12) = true := by simpa using h1
    obtain ⟨kd, qid, qa, qb, qc, qd, qw, qh, qp⟩ := q
    simp only at h1
    subst h1
    clear h2 b1
    go_enter Tryd.func29, Tryd.ntmps29
    go_wp2_with fail
    go_ret
    exact ⟨rfl, hb⟩
  · rw [h2]
    obtain ⟨kd, qid, qa, qb, qc, qd, qw, qh, qp⟩ := q
    simp only at h1
    subst h1
    clear h2
    go_enter Tryd.func29, Tryd.ntmps29
    go_wp2_with fail
    go_ret
    exact ⟨rfl, hb⟩
  · rw [h2]
    have b1 : (q.kind == 12) = false := by simpa using h1
    have b2 : (q.kind == 13) = false := by simpa using h3
    clear h1 h3 h2
    go_enter Tryd.func29, Tryd.ntmps29
    go_wp2_with fail
    go_ret
    exact ⟨rfl, hb⟩

theorem getD_dropB (qs : List Pq) (k : Nat) (h : k < qs.length) : qs.drop k = qs.getD k pq0 :: qs.drop (k + 1) := by rw [getD_pq h]; exact (List.getElem_cons_drop h).symm
theorem neq_bb (x y : Bool) : (x == y) = decide (x = y) := by cases x <;> cases y <;> rfl

set_option maxHeartbeats 8000000 in
set_option maxRecDepth 100000 in
theorem bookCheck_any (v : Value) (qs : List Pq) (w : World) (HS : Hid (Shapes w)) (h1 : 1 < w.heap.size) (HR : Hid (RdQ w v qs)) (hps : ∀ j, j < qs.length → (qs.getD j pq0).ps.length ≤ 1000) (hnq : qs.length ≤ 1000) (c : Nat) (HC : Hid (bkC qs = c)) :
    Calls Tryd.prog 12 #[v] w fun e w' => e = .returned (errV c) ∧ Below w.heap.size w w' := by
  obtain ⟨a, cap, hv, hl, hcap⟩ := HR.out.shape
  have HPS : Hid (∀ j, j < qs.length → (qs.getD j pq0).ps.length ≤ 1000) := hps
  obtain ⟨n, HN⟩ : ∃ n, Hid (qs.length = n) := ⟨_, (rfl : _ = _)⟩
  rw [HN.out] at hv hl hnq
  clear hps
  subst hv
  have HC1 := HC
  unfold bkC at HC1
  rw [HN.out] at HC1
  have hbw : Below w.heap.size w w := Below.refl _ _
  by_cases hn2 : n < 2
  · have hc3 : c = 3 := by have := HC1.out; rw [if_pos (.inl hn2)] at this; exact this.symm
    subst hc3
    have hn2i : (n : Int) < 2 := by omega
    clear HC1 HC
    rw [show errV 3 = Value.iface 61 (.int .i64 3) from rfl]
    go_enter Tryd.func12, Tryd.ntmps12
    go_wp2_with fail
    go_ret
    exact ⟨rfl, hbw⟩
  have hn2i : ¬ (n : Int) < 2 := by omega
  obtain ⟨z0, HX0⟩ : ∃ x, Hid (qs.getD 0 pq0 = x) := ⟨_, (rfl : _ = _)⟩
  obtain ⟨zl, HXL⟩ : ∃ x, Hid (qs.getD (n - 1) pq0 = x) := ⟨_, (rfl : _ = _)⟩
  rw [HX0.out, HXL.out] at HC1
  obtain ⟨g, o, _, _, _, ha, hg, OC0, _, _⟩ := HR.out.at (k := 0) (by omega) HX0
  obtain ⟨g', o', _, _, _, ha', _, OCL, _, _⟩ := HR.out.at (k := n - 1) (by omega) HXL
  rw [ha] at ha'
  simp only [Option.some.injEq, Addr.mk.injEq, and_true] at ha'
  obtain ⟨rfl, rfl⟩ := ha'
  subst ha
  have k0 := OC0.c0
  have kl := OCL.c0
  rw [Nat.zero_mul, Nat.add_zero] at k0
  clear OC0 OCL
  have hw1 : IntKind.i64.wrap ((n : Int) - 1) = ((n - 1 : Nat) : Int) := by rw [wrap_s (by omega) (by omega)]; omega
  obtain ⟨m, HM⟩ : ∃ m, Hid (n - 1 = m) := ⟨_, (rfl : _ = _)⟩
  rw [HM.out] at hw1 kl
  have hmn : m < n := by have := HM.out; omega
  have hi1 : (0 : Int) ≤ (m : Int) := by omega
  have hi2 : (m : Int) < (n : Int) := by omega
  have hi3 : (0 : Int) < (n : Int) := by omega
  have hmn1 : Hid (m + 1 = n) := by have := HM.out; unfold Hid; omega
  by_cases hz0 : z0.kind = 1
  case neg =>
    have b0 : (z0.kind != 1) = true := by simpa using hz0
    have hc3 : c = 3 := by have := HC1.out; rw [if_pos (.inr (.inl hz0))] at this; exact this.symm
    subst hc3
    clear HC1 HC hz0
    rw [show errV 3 = Value.iface 61 (.int .i64 3) from rfl]
    go_enter Tryd.func12, Tryd.ntmps12
    go_wp2_with fail
    go_ret
    exact ⟨rfl, hbw⟩
  have b0 : (z0.kind != 1) = false := by simpa using hz0
  by_cases hzl : zl.kind = 16
  case neg =>
    have b1 : (zl.kind != 16) = true := by simpa using hzl
    have hc3 : c = 3 := by have := HC1.out; rw [if_pos (.inr (.inr hzl))] at this; exact this.symm
    subst hc3
    clear HC1 HC hzl hz0
    rw [show errV 3 = Value.iface 61 (.int .i64 3) from rfl]
    go_enter Tryd.func12, Tryd.ntmps12
    go_wp2_with fail
    go_ret
    exact ⟨rfl, hbw⟩
  have b1 : (zl.kind != 16) = false := by simpa using hzl
  rw [if_neg (by omega)] at HC1
  clear hz0 hzl
  by_cases hn60 : 60 < n
  · have hc2 : c = 2 := by have := HC1.out; rw [if_pos hn60] at this; exact this.symm
    subst hc2
    have hn60i : (60 : Int) < (n : Int) := by omega
    clear HC1 HC
    rw [show errV 2 = Value.iface 61 (.int .i64 2) from rfl]
    go_enter Tryd.func12, Tryd.ntmps12
    go_wp2_with fail
    go_ret
    exact ⟨rfl, hbw⟩
  rw [if_neg hn60] at HC1
  have hn60i : ¬ (60 : Int) < (n : Int) := by omega
  have HC2 : Hid (bkR n 0 (dep qs 0) (qs.drop 0) = c) := by unfold Hid; rw [dep_zero]; exact HC1.out
  clear HC1 HC
  have HD : Hid (∀ k, k ≤ n → -60 ≤ dep qs k ∧ dep qs k ≤ 60) := by
    have : ∀ k, k ≤ qs.length → -(k : Int) ≤ dep qs k ∧ dep qs k ≤ k := by
      intro k
      induction k with
      | zero => intro _; rw [dep_zero]; omega
      | succ k ih =>
        intro hk
        have := ih (by omega)
        rw [dep_succ qs k (by omega)]
        rcases opn_cases (qs.getD k pq0) with ⟨_, h2⟩ | ⟨_, h2⟩ | ⟨_, _, h2⟩ <;> omega
    rw [HN.out] at this
    intro k hk
    have := this k hk
    omega
  go_enter Tryd.func12, Tryd.ntmps12
  go_wp2_with fail
  clear k0 kl hi1 hi2 hi3
  go_loopw [4, 36] (fun d i wr => ∃ k : Nat, k ≤ n ∧ i = .int .i64 k ∧ d = .int .i64 (dep qs k) ∧ Hid (bkR n k (dep qs k) (qs.drop k) = c) ∧ Below w.heap.size w wr) (fun _ i _ => n - (intOf i).toNat)
  case atStart => exact ⟨0, by omega, rfl, by rw [dep_zero], HC2, Below.refl _ _⟩
  case round =>
    obtain ⟨k, hk, rfl, rfl, HCK, hbr⟩ := hrel
    by_cases hlt : k < n
    · have hlt' : k < qs.length := by rw [HN.out]; exact hlt
      have hd := HD.out k hk
      have hd1 := HD.out (k + 1) (by omega)
      have hds := dep_succ qs k hlt'
      rw [getD_dropB qs k hlt'] at HCK
      obtain ⟨q, HX⟩ : ∃ q, Hid (qs.getD k pq0 = q) := ⟨_, (rfl : _ = _)⟩
      have hpl : q.ps.length ≤ 1000 := by rw [← HX.out]; exact HPS.out k hlt'
      rw [HX.out] at HCK hds
      obtain ⟨d, HDK⟩ : ∃ d, Hid (dep qs k = d) := ⟨_, (rfl : _ = _)⟩
      obtain ⟨d1, HDK1⟩ : ∃ d, Hid (dep qs (k + 1) = d) := ⟨_, (rfl : _ = _)⟩
      rw [HDK.out] at HCK hds hd ⊢
      rw [HDK1.out] at hds hd1
      have HDS : Hid (d1 = d + opn q) := hds
      clear hds
      obtain ⟨g', o', ua, mu, uc, ha', hg', OC, HU, HMU⟩ := (HR.out.on hbr).at hlt HX
      simp only [Option.some.injEq, Addr.mk.injEq, and_true] at ha'
      obtain ⟨rfl, rfl⟩ := ha'
      obtain ⟨kd, qid, qa, qb, qc, qd, qw, qh, qp⟩ := q
      obtain ⟨c0, c1, c2, c3, c4, c5, c6, c7, c8⟩ := OC
      simp only at c0 c1 c2 c3 c4 c5 c6 c7 c8 HU HMU hpl
      have hbx : Below wr.heap.size wr (wr.alloc (.cells #[.int .i64 kd, .int .i64 qid, .int .i64 qa, .int .i64 qb, .int .i64 qc, .int .i64 qd, .int .i64 qw, .int .i64 qh, .slice ua mu uc] 45)) := (Below.refl _ _).alloc (Nat.le_refl _) _
      have N0 := nine_start wr (.int .i64 kd) (.int .i64 qid) (.int .i64 qa) (.int .i64 qb) (.int .i64 qc) (.int .i64 qd) (.int .i64 qw) (.int .i64 qh) (.slice ua mu uc) 45 wr.heap.size rfl
      have HUX : Hid (RdP _ (.slice ua mu uc) qp) := HU.out.on hbx
      have hbX := hbr.trans (hbx.mono hbr.size)
      have HSX : Hid (Shapes _) := HS.out.on h1 hbX
      have h1X := Nat.lt_of_lt_of_le h1 hbX.size
      have hki0 : (0 : Int) ≤ (k : Int) := by omega
      have hki1 : (k : Int) < (n : Int) := by omega
      obtain ⟨cc, HCC⟩ : ∃ cc, Hid (opC ⟨kd, qid, qa, qb, qc, qd, qw, qh, qp⟩ = cc) := ⟨_, (rfl : _ = _)⟩
      clear HU hbx hlt' HX
      go_wp2_with fail
      refine (opCheck_any ⟨kd, qid, qa, qb, qc, qd, qw, qh, qp⟩ _ _ HSX h1X HUX (by simp only; omega) cc HCC).mono ?_
      rintro e w2 ⟨rfl, hb2⟩
      have N2 := N0.on hb2
      have hbb := hbX.trans (hb2.mono hbX.size)
      clear hb2 N0 HUX HSX h1X hbX c0 c1 c2 c3 c4 c5 c6 c7 c8
      have HCK1 := HCK
      unfold bkR at HCK1
      rw [HCC.out] at HCK1
      cases cc with
      | succ cc =>
        have hcc : c = cc + 1 := by have := HCK1.out; rw [if_pos (by omega)] at this; exact this.symm
        subst hcc
        clear HCK HCK1
        rw [show errV (cc + 1) = .iface 61 (.int .i64 ((cc + 1 : Nat) : Int)) from rfl]
        go_wp2_with fail
        go_ret
        exact ⟨rfl, hbb⟩
      | zero =>
        rw [if_neg (by omega)] at HCK1
        rw [show errV 0 = Value.nilIface from rfl]
        simp only at HCK1
        obtain ⟨m0, m1, m2, m3, m4, m5, m6, m7, m8, mf0, mf1, mf2, mf3, mf4, mf5, mf6, mf7, mf8, mlt⟩ := N2
        have e1 : (kd == 1) = decide (kd = 1) := rfl
        have e2 : ((k : Int) == 0) = decide (k = 0) := by rw [Bool.eq_iff_iff]; simp
        have e3 : (kd == 16) = decide (kd = 16) := rfl
        have e4 : ((k : Int) == (m : Int)) = decide (k + 1 = n) := by rw [Bool.eq_iff_iff]; simp; have := hmn1.out; omega
        obtain ⟨x1, f1⟩ : ∃ b, (kd == 1) = b := ⟨_, rfl⟩
        obtain ⟨x2, f2⟩ : ∃ b, ((k : Int) == 0) = b := ⟨_, rfl⟩
        obtain ⟨x3, f3⟩ : ∃ b, (kd == 16) = b := ⟨_, rfl⟩
        obtain ⟨x4, f4⟩ : ∃ b, ((k : Int) == (m : Int)) = b := ⟨_, rfl⟩
        rw [← e1, ← e2, ← e3, ← e4, f1, f2, f3, f4] at HCK1
        by_cases hg : x1 ≠ x2 ∨ x3 ≠ x4
        · have hc3 : c = 3 := by have := HCK1.out; rw [if_pos hg] at this; exact this.symm
          subst hc3
          clear HCK HCK1 e1 e2 e3 e4
          cases x1 <;> cases x2 <;> cases x3 <;> cases x4 <;> first
            | (exfalso; revert hg; decide)
            | (clear hg; go_wp2_with fail; go_ret; exact ⟨rfl, hbb⟩)
        rw [if_neg hg] at HCK1
        obtain rfl : x1 = x2 := by apply Classical.byContradiction; intro h; exact hg (.inl h)
        obtain rfl : x3 = x4 := by apply Classical.byContradiction; intro h; exact hg (.inr h)
        clear hg
        obtain ⟨oq, HOQ⟩ : ∃ oq, Hid (opn ⟨kd, qid, qa, qb, qc, qd, qw, qh, qp⟩ = oq) := ⟨_, (rfl : _ = _)⟩
        have hoq : -1 ≤ oq ∧ oq ≤ 1 := by
          rw [← HOQ.out]
          rcases opn_cases ⟨kd, qid, qa, qb, qc, qd, qw, qh, qp⟩ with ⟨_, h2⟩ | ⟨_, h2⟩ | ⟨_, _, h2⟩ <;> rw [h2] <;> omega
        obtain ⟨ho1, ho2⟩ := hoq
        obtain ⟨hd1l, hd1h⟩ := hd1
        obtain ⟨hdl, hdh⟩ := hd
        have HD1 : Hid (d1 = d + oq) := by rw [← HOQ.out]; exact HDS.out
        have HCK2 : Hid ((if d + oq < 0 then 3 else if 3 < d + oq then 2 else bkR n (k + 1) (d + oq) (qs.drop (k + 1))) = c) := by rw [← HOQ.out]; exact HCK1.out
        clear HCK HCK1 e1 e2 e3 e4 HDS
        cases x1 <;> cases x3
        all_goals
          go_wp2_with fail
          have hop := opens_any ⟨kd, qid, qa, qb, qc, qd, qw, qh, qp⟩ (.slice ua mu uc) w2
          rw [HOQ.out] at hop
          simp only [opV] at hop
          refine hop.mono ?_
          clear hop
          rintro e w3 ⟨rfl, hb3⟩
          have hbb3 := hbb.trans (hb3.mono hbb.size)
          clear hb3 m0 m1 m2 m3 m4 m5 m6 m7 m8 mf0 mf1 mf2 mf3 mf4 mf5 mf6 mf7 mf8 mlt f1 f2 f3 f4
          by_cases hlo : d + oq < 0
          · have hc3 : c = 3 := by have := HCK2.out; rw [if_pos hlo] at this; exact this.symm
            subst hc3
            clear HCK2
            go_wp2_with fail
            go_ret
            exact ⟨rfl, hbb3⟩
          rw [if_neg hlo] at HCK2
          by_cases hhi : 3 < d + oq
          · have hc3 : c = 2 := by have := HCK2.out; rw [if_pos hhi] at this; exact this.symm
            subst hc3
            clear HCK2
            go_wp2_with fail
            go_ret
            exact ⟨rfl, hbb3⟩
          rw [if_neg hhi] at HCK2
          go_wp2_with fail
          go_roundw
          case rel => exact ⟨k + 1, by omega, by go_num, by rw [HDK1.out, HD1.out], by rw [HDK1.out, HD1.out]; exact HCK2, hbb3⟩
          case measure => simp [intOf]; omega
    · obtain rfl : k = n := by omega
      rw [List.drop_of_length_le (by rw [HN.out]; exact Nat.le_refl _)] at HCK
      have HCK1 := HCK
      unfold bkR at HCK1
      obtain ⟨d, HDK⟩ : ∃ d, Hid (dep qs k = d) := ⟨_, (rfl : _ = _)⟩
      rw [HDK.out] at HCK1 ⊢
      by_cases hd0 : 0 < d
      · have hc3 : c = 3 := by have := HCK1.out; rw [if_pos hd0] at this; exact this.symm
        subst hc3
        clear HCK HCK1
        go_wp2_with fail
        go_ret
        exact ⟨rfl, hbr⟩
      · have hc3 : c = 0 := by have := HCK1.out; rw [if_neg hd0] at this; exact this.symm
        subst hc3
        clear HCK HCK1
        go_wp2_with fail
        go_ret
        exact ⟨rfl, hbr⟩
end Go.Proofs.YtceabiodelfdoaaDoor
/- Walk: SameOp of two that are the same. -- s1 -/
namespace Go.Proofs.YtceabiodelfdoaaDoor
open Go.RowKit

set_option maxHeartbeats 4000000 in
set_option maxRecDepth 100000 in
theorem sameOp_any (q : Pq) (u0 u1 : Value) (w : World) (hps : q.ps.length ≤ 1000) (H0 : Hid (RdP w u0 q.ps)) (H1 : Hid (RdP w u1 q.ps)) :
    Calls Tryd.prog 30 #[opV q u0, opV q u1] w fun e w' => e = .returned (.bool true) ∧ Below w.heap.size w w' := by
  obtain ⟨a0, c0, hv0, _, _, hh0⟩ := H0.out
  obtain ⟨a1, c1, hv1, _, _, hh1⟩ := H1.out
  obtain ⟨n, HN⟩ : ∃ n, Hid (q.ps.length = n) := ⟨_, (rfl : _ = _)⟩
  rw [HN.out] at hv0 hv1
  clear hh0 hh1
  subst hv0 hv1
  unfold opV
  have e1 : (q.kind == q.kind) = true := by simp
  have e2 : (q.id == q.id) = true := by simp
  have e3 : (q.a == q.a) = true := by simp
  have e4 : (q.b == q.b) = true := by simp
  have e5 : (q.c == q.c) = true := by simp
  have e6 : (q.d == q.d) = true := by simp
  obtain ⟨X0, HX0⟩ : ∃ X0, Hid ((w.alloc (.cells #[.int .i64 q.kind, .int .i64 q.id, .int .i64 q.a, .int .i64 q.b, .int .i64 q.c, .int .i64 q.d, .int .i64 q.pw, .int .i64 q.ph, .slice a0 n c0] 45)).alloc (.cells #[.int .i64 q.kind, .int .i64 q.id, .int .i64 q.a, .int .i64 q.b, .int .i64 q.c, .int .i64 q.d, .int .i64 q.pw, .int .i64 q.ph, .slice a1 n c1] 45) = X0) := ⟨_, (rfl : _ = _)⟩
  have hbz : Below w.heap.size w X0 := by rw [← HX0.out]; exact ((Below.refl _ _).alloc (Nat.le_refl _) _).alloc (by simp) _
  have E0 : Nine X0 w.heap.size (.int .i64 q.kind) (.int .i64 q.id) (.int .i64 q.a) (.int .i64 q.b) (.int .i64 q.c) (.int .i64 q.d) (.int .i64 q.pw) (.int .i64 q.ph) (.slice a0 n c0) := by rw [← HX0.out]; exact (nine_start w _ _ _ _ _ _ _ _ _ 45 w.heap.size rfl).alloc _
  have E1 : Nine X0 (w.heap.size + 1) (.int .i64 q.kind) (.int .i64 q.id) (.int .i64 q.a) (.int .i64 q.b) (.int .i64 q.c) (.int .i64 q.d) (.int .i64 q.pw) (.int .i64 q.ph) (.slice a1 n c1) := by rw [← HX0.out]; exact nine_start _ _ _ _ _ _ _ _ _ _ 45 (w.heap.size + 1) (by simp)
  have HR0 : Hid (RdP X0 (.slice a0 n c0) q.ps) := H0.out.on hbz
  have HR1 : Hid (RdP X0 (.slice a1 n c1) q.ps) := H1.out.on hbz
  go_enter Tryd.func30, Tryd.ntmps30
  go_wp2_with fail
  rw [HX0.out]
  refine (samePic_any q.pw q.ph _ _ q.ps _ hps HR0 HR1).mono ?_
  rintro e w1 ⟨rfl, hb1⟩
  have hbb1 := hbz.trans (hb1.mono hbz.size)
  obtain ⟨s0, s1, s2, s3, s4, s5, s6, s7, s8, -, -, -, -, -, -, -, -, -, -⟩ := E0.on hb1
  obtain ⟨t0, t1, t2, t3, t4, t5, t6, t7, t8, -, -, -, -, -, -, -, -, -, -⟩ := E1.on hb1
  clear HX0 hbz E0 E1 HR0 HR1 hb1
  go_wp2_with fail
  go_ret
  exact ⟨rfl, hbb1⟩
end Go.Proofs.YtceabiodelfdoaaDoor
/- Rows of frames of one's own. -/
namespace Go.Proofs.YtceabiodelfdoaaDoor
open Go.RowKit

def frCells : List (Pf × Value) → List Value
  | [] => []
  | (f, u) :: r => .int .i64 f.W :: .int .i64 f.H :: u :: .int .i64 f.d :: frCells r
theorem frCells_app (a b : List (Pf × Value)) : frCells (a ++ b) = frCells a ++ frCells b := by
  induction a with
  | nil => rfl
  | cons p a ih => obtain ⟨f, u⟩ := p; simp [frCells, ih]
theorem frCells_length : ∀ a : List (Pf × Value), (frCells a).length = a.length * 4
  | [] => rfl
  | (f, u) :: r => by simp [frCells, frCells_length r]; omega
@[reducible] def fq0 : Pf × Value := (pf0, .slice none 0 0)
theorem frCells_at : ∀ (a : List (Pf × Value)) (j : Nat), j < a.length → (frCells a)[j * 4]? = some (.int .i64 (a.getD j fq0).1.W) ∧ (frCells a)[j * 4 + 1]? = some (.int .i64 (a.getD j fq0).1.H) ∧
    (frCells a)[j * 4 + 2]? = some (a.getD j fq0).2 ∧ (frCells a)[j * 4 + 3]? = some (.int .i64 (a.getD j fq0).1.d)
  | (f, u) :: r, 0, _ => by simp [frCells]
  | (f, u) :: r, j + 1, h => by
    have := frCells_at r j (by simpa using h)
    have e : ∀ x, (j + 1) * 4 + x = (j * 4 + x) + 4 := by intro x; omega
    refine ⟨?_, ?_, ?_, ?_⟩
    · have := this.1; rw [show (j + 1) * 4 = j * 4 + 4 by omega]; simpa [frCells] using this
    · have := this.2.1; rw [e]; simpa [frCells] using this
    · have := this.2.2.1; rw [e]; simpa [frCells] using this
    · have := this.2.2.2; rw [e]; simpa [frCells] using this
end Go.Proofs.YtceabiodelfdoaaDoor
/- A machine, as it lies in memory. -/
namespace Go.Proofs.YtceabiodelfdoaaDoor
open Go.RowKit Go.Maps

/-- all blocks stay but those of some types -/
structure Only (Ts : List TypeId) (w w' : World) : Prop where
  size : w.heap.size ≤ w'.heap.size
  keep : ∀ (g : Nat) (o : Obj), w.heap[g]? = some o → (∀ cur e fz, o = Obj.cells cur e fz → e ∉ Ts) → w'.heap[g]? = some o
theorem Only.refl (Ts : List TypeId) (w : World) : Only Ts w w := ⟨Nat.le_refl _, fun _ _ h _ => h⟩
theorem Only.trans {Ts : List TypeId} {a b c : World} (h : Only Ts a b) (k : Only Ts b c) : Only Ts a c := ⟨Nat.le_trans h.size k.size, fun g o h1 h2 => k.keep g o (h.keep g o h1 h2) h2⟩
theorem Only.mono {Ts Us : List TypeId} {a b : World} (h : Only Ts a b) (hs : ∀ t ∈ Ts, t ∈ Us) : Only Us a b := ⟨h.size, fun g o h1 h2 => h.keep g o h1 fun cur e fz he hm => h2 cur e fz he (hs e hm)⟩
theorem lt_of_some {w : World} {g : Nat} {o : Obj} (h : w.heap[g]? = some o) : g < w.heap.size := by
  rcases Nat.lt_or_ge g w.heap.size with h1 | h1
  · exact h1
  · rw [Array.getElem?_eq_none h1] at h; cases h
theorem Only.below {w w' : World} (h : Below w.heap.size w w') (Ts : List TypeId) : Only Ts w w' := ⟨h.size, fun g o h1 _ => by rw [h.block g (lt_of_some h1)]; exact h1⟩
theorem Only.grown {w w' : World} {g : Nat} {cur : Array Value} {e : TypeId} {fz : Nat × Nat} (h : w.grownBy w' (some g)) (hg : w.heap[g]? = some (.cells cur e fz)) : Only [e] w w' :=
  ⟨h.size, fun k o h1 h2 => by
    have hne : k ≠ g := fun he => by
      subst he
      rw [hg] at h1
      obtain rfl := Option.some.inj h1
      exact h2 cur e fz rfl (by simp)
    rw [h.block k (lt_of_some h1) (by simpa using hne)]
    exact h1⟩
theorem Only.grown0 {w w' : World} (h : w.grownBy w' none) (Ts : List TypeId) : Only Ts w w' :=
  ⟨h.size, fun k o h1 _ => by rw [h.block k (lt_of_some h1) (by simp)]; exact h1⟩
theorem own_only {Ts : List TypeId} {w w' : World} {B : Nat} {e : TypeId} {s : Nat} {v : Value} {n : Nat} {xs : List Value} (h : w.ownsRow B e s v n xs) (ho : Only Ts w w') (he : e ∉ Ts) : w'.ownsRow B e s v n xs := by
  refine ⟨h.1, ?_⟩
  rcases h.2 with h | ⟨g, cap, cur, h1, h2, h3, h4⟩
  · exact .inl h
  · exact .inr ⟨g, cap, cur, h1, h2, ho.keep g _ h3 (fun cur' e' fz he' hm => by simp only [Obj.cells.injEq] at he'; exact he (he'.2.1 ▸ hm)), h4⟩
theorem OwnQ.only {Ts : List TypeId} {w w' : World} {B : Nat} {v : Value} {qs : List (Pq × Value)} (h : OwnQ w B v qs) (ho : Only Ts w w') (h1 : 45 ∉ Ts) (h2 : 110 ∉ Ts) : OwnQ w' B v qs :=
  ⟨own_only h.1 ho h1, fun q hq => own_only (h.2 q hq) ho h2⟩
theorem map_only {Ts : List TypeId} {w w' : World} {k : TypeId} {R : Value → Option (DataW Unit × List MemPlace)} {b n : Nat} {D : DataW Unit} (h : w.ownsMap Tryd.prog k R b n D) (ho : Only Ts w w') : w'.ownsMap Tryd.prog k R b n D := by
  obtain ⟨es, clock, h1, h2⟩ := h
  exact ⟨es, clock, ho.keep b _ h1 (fun cur e fz he => by cases he), h2⟩

def rndCells : List (Nat × Nat) → List Value
  | [] => []
  | (p, l) :: r => .int .i64 (p : Int) :: .int .i64 (l : Int) :: rndCells r
theorem rndCells_app (a b : List (Nat × Nat)) : rndCells (a ++ b) = rndCells a ++ rndCells b := by
  induction a with
  | nil => rfl
  | cons p a ih => obtain ⟨f, u⟩ := p; simp [rndCells, ih]
theorem rndCells_length : ∀ a : List (Nat × Nat), (rndCells a).length = a.length * 2
  | [] => rfl
  | (f, u) :: r => by simp [rndCells, rndCells_length r]; omega
theorem rndCells_at : ∀ (a : List (Nat × Nat)) (j : Nat), j < a.length → (rndCells a)[j * 2]? = some (.int .i64 ((a.getD j (0, 0)).1 : Int)) ∧ (rndCells a)[j * 2 + 1]? = some (.int .i64 ((a.getD j (0, 0)).2 : Int))
  | (f, u) :: r, 0, _ => by simp [rndCells]
  | (f, u) :: r, j + 1, h => by
    have := rndCells_at r j (by simpa using h)
    refine ⟨?_, ?_⟩
    · have := this.1; rw [show (j + 1) * 2 = j * 2 + 2 by omega]; simpa [rndCells] using this
    · have := this.2; rw [show (j + 1) * 2 + 1 = (j * 2 + 1) + 2 by omega]; simpa [rndCells] using this
theorem rndCells_last (a : List (Nat × Nat)) (l : Nat) (h : 0 < a.length) : (rndCells a).set ((a.length - 1) * 2 + 1) (.int .i64 (l : Int)) = rndCells (a.dropLast ++ [((a.getD (a.length - 1) (0, 0)).1, l)]) := by
  induction a with
  | nil => simp at h
  | cons p r ih =>
    obtain ⟨f, u⟩ := p
    cases r with
    | nil => simp [rndCells]
    | cons p2 r2 =>
      have := ih (by simp)
      simp only [List.length_cons, Nat.add_sub_cancel] at this ⊢
      rw [show (r2.length + 1) * 2 + 1 = (r2.length * 2 + 1) + 2 by omega]
      simp only [rndCells, List.set_cons_succ, List.dropLast_cons_cons, List.cons_append]
      have e : ((f, u) :: p2 :: r2).getD (r2.length + 1) (0, 0) = (p2 :: r2).getD r2.length (0, 0) := rfl
      rw [e, ← this]
      obtain ⟨f2, u2⟩ := p2
      simp [rndCells]
theorem rndCells_drop (a : List (Nat × Nat)) : (rndCells a).take ((a.length - 1) * 2) = rndCells a.dropLast := by
  induction a with
  | nil => rfl
  | cons p r ih =>
    obtain ⟨f, u⟩ := p
    cases r with
    | nil => simp [rndCells]
    | cons p2 r2 =>
      simp only [List.length_cons, Nat.add_sub_cancel] at ih ⊢
      rw [show (r2.length + 1) * 2 = (r2.length * 2) + 1 + 1 by omega]
      simp only [rndCells, List.dropLast_cons_cons, List.take_succ_cons]
      obtain ⟨f2, u2⟩ := p2
      rw [← ih]
      simp [rndCells]

/-- all blocks stay but those of a list; what is written from then on lies in it or is new -/
structure Foot (F F' : List Nat) (w w' : World) : Prop where
  os : w'.os = w.os
  tape : w'.tape = w.tape
  output : w'.output = w.output
  size : w.heap.size ≤ w'.heap.size
  block : ∀ k, k < w.heap.size → k ∉ F → w'.heap[k]? = w.heap[k]?
  new : ∀ g ∈ F', g ∈ F ∨ (w.heap.size ≤ g ∧ g < w'.heap.size)
theorem Foot.refl (F : List Nat) (w : World) : Foot F F w w := ⟨rfl, rfl, rfl, Nat.le_refl _, fun _ _ _ => rfl, fun _ h => .inl h⟩
theorem Foot.trans {F F1 F2 : List Nat} {a b c : World} (h : Foot F F1 a b) (k : Foot F1 F2 b c) : Foot F F2 a c :=
  ⟨k.os.trans h.os, k.tape.trans h.tape, k.output.trans h.output, Nat.le_trans h.size k.size,
    fun i hi hn => (k.block i (Nat.lt_of_lt_of_le hi h.size) (fun hm => by
      rcases h.new i hm with h1 | h1
      · exact hn h1
      · omega)).trans (h.block i hi hn),
    fun g hg => by
      rcases k.new g hg with h1 | ⟨h1, h2⟩
      · rcases h.new g h1 with h3 | ⟨h3, h4⟩
        · exact .inl h3
        · exact .inr ⟨h3, Nat.lt_of_lt_of_le h4 k.size⟩
      · exact .inr ⟨Nat.le_trans h.size h1, h2⟩⟩
theorem Foot.below {w w' : World} (h : Below w.heap.size w w') (F : List Nat) : Foot F F w w' :=
  ⟨h.os, h.tape, h.output, h.size, fun k hk _ => h.block k hk, fun _ h => .inl h⟩
theorem Foot.grown {F : List Nat} {w w' : World} {row : Option Nat} (h : w.grownBy w' row) (hr : ∀ g, row = some g → g ∈ F) : Foot F F w w' :=
  ⟨h.os, h.tape, h.output, h.size, fun k hk hn => h.block k hk (fun e => hn (hr k e.symm)), fun _ h => .inl h⟩
theorem Foot.belowB {F F' : List Nat} {w w' : World} {B : Nat} (h : Foot F F' w w') (hF : ∀ g ∈ F, B ≤ g) (hB : B ≤ w.heap.size) : Below B w w' :=
  ⟨h.os, h.tape, h.output, h.size, fun k hk => h.block k (by omega) (fun hm => by have := hF k hm; omega)⟩
/-- blocks that are none of those stay -/
theorem Foot.cell {F F' : List Nat} {w w' : World} (h : Foot F F' w w') {g o : Nat} (hg : g < w.heap.size) (hn : g ∉ F) : w'.cell? ⟨g, o, none⟩ = w.cell? ⟨g, o, none⟩ :=
  World.cell?_of_block (h.block g hg hn)
theorem Foot.lt {F F' : List Nat} {w w' : World} (h : Foot F F' w w') (hF : ∀ g ∈ F, g < w.heap.size) : ∀ g ∈ F', g < w'.heap.size := by
  intro g hg
  rcases h.new g hg with h1 | h1
  · exact Nat.lt_of_lt_of_le (hF g h1) h.size
  · exact h1.2
theorem Foot.cons {F F' : List Nat} {w w' : World} (h : Foot F F' w w') (g : Nat) (hg : g ∈ F ∨ (w.heap.size ≤ g ∧ g < w'.heap.size)) : Foot F (g :: F') w w' :=
  ⟨h.os, h.tape, h.output, h.size, h.block, fun x hx => by
    rcases List.mem_cons.1 hx with rfl | hx
    · exact hg
    · exact h.new x hx⟩
/-- what a machine may write -/
structure MacF (B b : Nat) (vr vf : Value) (F : List Nat) : Prop where
  self : b ∈ F
  rnd : ∀ g, vr.ownBlock = some g → g ∈ F
  frs : ∀ g, vf.ownBlock = some g → g ∈ F
  low : ∀ g ∈ F, B ≤ g
theorem mac_typ {w : World} {B b n cap s : Nat} {T : TypeId} {xs : List Value} (h : w.ownsRow B T s (.slice (some ⟨b, 0, none⟩) n cap) n xs) : ∃ cur, w.heap[b]? = some (.cells cur T (0, 0)) := by
  rcases h.2 with ⟨h0, _⟩ | ⟨g, cap', cur, hv, hB, hg, _⟩
  · simp at h0
  · simp only [Value.slice.injEq, Option.some.injEq, Addr.mk.injEq, and_true, true_and] at hv
    obtain ⟨rfl, _⟩ := hv
    exact ⟨cur, hg⟩
/-- what a step answers, and what it leaves -/
def numM : Ms ⊕ Nat → Nat
  | .inl _ => 0
  | .inr c => c
def nxtM (s : Ms) : Ms ⊕ Nat → Ms
  | .inl s' => s'
  | .inr _ => s
end Go.Proofs.YtceabiodelfdoaaDoor
/- Walk: machine.own. -/
namespace Go.Proofs.YtceabiodelfdoaaDoor
open Go.RowKit Go.Maps

theorem Tryd.infoOp : (Tryd.prog.info? 45).map (fun i => (i.zero, i.size, i.bytes)) = some (some (.agg #[.int .i64 0, .int .i64 0, .int .i64 0, .int .i64 0, .int .i64 0, .int .i64 0, .int .i64 0, .int .i64 0, .slice none 0 0]), 9, 88) := by kernel_rfl
theorem q_one (x : Pq) (u : Value) (hu : u.oneCell' = true) : ∀ v ∈ qCells x u, v.oneCell' = true := by
  intro v hv
  simp only [qCells, List.mem_cons, List.not_mem_nil, or_false] at hv
  rcases hv with rfl | rfl | rfl | rfl | rfl | rfl | rfl | rfl | rfl <;> first | rfl | exact hu

end Go.Proofs.YtceabiodelfdoaaDoor
/- Walk of picture.Parse, from its head on. -/
namespace Go.Proofs.YtceabiodelfdoaaDoor
open Go.RowKit

set_option maxHeartbeats 4000000 in
set_option maxRecDepth 100000 in
theorem parse_any (s : ByteArray) (w : World) (hs : s.size ≤ 1000000) (W' H' c : Nat) (ps : List (Int × Int)) (HC : Hid (parseL s.data.toList = (W', H', ps, c))) :
    Calls Tryd.prog 46 #[.string s] w fun e w' => ∃ v, e = .returned (.tuple #[.agg #[.int .i64 (W' : Int), .int .i64 (H' : Int), v], errV c]) ∧ RdP w' v ps ∧ Below w.heap.size w w' := by
  have HL : Hid (s.data.toList.length = s.size) := by unfold Hid; simp
  have HT0 := three_start w (.int .i64 0) (.int .i64 0) (.slice none 0 0) 43
  by_cases h2 : s.size < 2
  · have hc := HC.out
    rw [parse_short _ (by rw [HL.out]; exact h2)] at hc
    simp only [Prod.mk.injEq] at hc
    obtain ⟨rfl, rfl, rfl, rfl⟩ := hc
    go_enter Tryd.func46, Tryd.ntmps46
    go_wp2_with fail
    exact bodyPost_ret (v := .tuple #[.agg #[.int .i64 0, .int .i64 0, .slice none 0 0], .iface 61 (.int .i64 4)]) (by simp [results, Tryd.results46, go_sem]) rfl ⟨_, rfl, rdP_nil _, (Below.refl _ _).alloc (Nat.le_refl _) _⟩
  · obtain ⟨x0, HX0⟩ : ∃ c, Hid (s.data.toList.getD 0 0 = c) := ⟨_, (rfl : _ = _)⟩
    obtain ⟨x1, HX1⟩ : ∃ c, Hid (s.data.toList.getD 1 0 = c) := ⟨_, (rfl : _ = _)⟩
    obtain ⟨W, HW⟩ : ∃ m, Hid (x0.toNat = m) := ⟨_, (rfl : _ = _)⟩
    obtain ⟨H, HH⟩ : ∃ m, Hid (x1.toNat = m) := ⟨_, (rfl : _ = _)⟩
    have hix0 := nat_at s 0 x0 HX0 W HW
    have hix1 := nat_at s 1 x1 HX1 H HH
    have hWb := byte_le x0 W HW
    have hHb := byte_le x1 H HH
    have h2' : 1 < s.size := by omega
    have h2'' : 0 < s.size := by omega
    have HWE : Hid ((s.data.toList.getD 0 0).toNat = W) := by unfold Hid; rw [HX0.out, HW.out]
    have HHE : Hid ((s.data.toList.getD 1 0).toNat = H) := by unfold Hid; rw [HX1.out, HH.out]
    have HL2 : Hid (¬ s.data.toList.length < 2) := by unfold Hid; rw [HL.out]; exact h2
    go_enter Tryd.func46, Tryd.ntmps46
    go_upto_region 3 with fail
    go_cut [4, 5] from 15 (fun s4 s5 wc => s4 = .int .i64 (W : Int) ∧ s5 = .int .i64 (H : Int) ∧ Three wc w.heap.size (.int .i64 0) (.int .i64 0) (.slice none 0 0) ∧ Below w.heap.size w wc)
    case first =>
      go_quiet (fail)
      go_wp2_with fail
      go_meet
      exact ⟨rfl, rfl, HT0.drewN _, below_drewN ((Below.refl _ _).alloc (Nat.le_refl _) _) _⟩
    case rest =>
      clear HT0 hix0 hix1
      obtain ⟨rfl, rfl, HT, hb⟩ := hcut
      cases hsw : sideB (W : Int) with
      | false =>
        have HSW : Hid (sideB (W : Int) = false) := hsw
        have hc := HC.out
        rw [parse_side _ W H HL2.out HWE.out HHE.out (.inl hsw)] at hc
        simp only [Prod.mk.injEq] at hc
        obtain ⟨rfl, rfl, rfl, rfl⟩ := hc
        clear hsw
        obtain ⟨t0, t1, t2, f0, f1, f2, tl⟩ := HT
        go_wp2_with fail
        refine (side_any _ _ false HSW).mono ?_
        rintro e w3 ⟨rfl, rfl⟩
        go_wp2_with fail
        exact bodyPost_ret (v := .tuple #[.agg #[.int .i64 0, .int .i64 0, .slice none 0 0], .iface 61 (.int .i64 1)]) (by simp [results, Tryd.results46, go_sem, t0, t1, t2]) rfl ⟨_, rfl, rdP_nil _, ((hb.setCell (Nat.le_refl _) _).setCell (Nat.le_refl _) _).setCell (Nat.le_refl _) _⟩
      | true =>
        have HSW : Hid (sideB (W : Int) = true) := hsw
        cases hsh : sideB (H : Int) with
        | false =>
          have HSH : Hid (sideB (H : Int) = false) := hsh
          have hc := HC.out
          rw [parse_side _ W H HL2.out HWE.out HHE.out (.inr hsh)] at hc
          simp only [Prod.mk.injEq] at hc
          obtain ⟨rfl, rfl, rfl, rfl⟩ := hc
          clear hsw hsh
          obtain ⟨t0, t1, t2, f0, f1, f2, tl⟩ := HT
          go_wp2_with fail
          refine (side_any _ _ true HSW).mono ?_
          rintro e w3 ⟨rfl, rfl⟩
          go_wp2_with fail
          refine (side_any _ _ false HSH).mono ?_
          rintro e w3 ⟨rfl, rfl⟩
          go_wp2_with fail
          exact bodyPost_ret (v := .tuple #[.agg #[.int .i64 0, .int .i64 0, .slice none 0 0], .iface 61 (.int .i64 1)]) (by simp [results, Tryd.results46, go_sem, t0, t1, t2]) rfl ⟨_, rfl, rdP_nil _, ((hb.setCell (Nat.le_refl _) _).setCell (Nat.le_refl _) _).setCell (Nat.le_refl _) _⟩
        | true =>
          have HSH : Hid (sideB (H : Int) = true) := hsh
          have hW1 : 1 ≤ (W : Int) ∧ (W : Int) ≤ 8 := by unfold sideB at hsw; simpa using hsw
          have hH1 : 1 ≤ (H : Int) ∧ (H : Int) ≤ 8 := by unfold sideB at hsh; simpa using hsh
          obtain ⟨hW1, hW8⟩ := hW1
          obtain ⟨hH1, hH8⟩ := hH1
          have HNS : Hid (¬ (sideB (W : Int) = false ∨ sideB (H : Int) = false)) := by unfold Hid; rw [hsw, hsh]; simp
          clear hsw hsh
          obtain ⟨L, HLN⟩ : ∃ L, Hid (1 + 2 * W = L) := ⟨_, (rfl : _ = _)⟩
          have hL1 : L ≤ 17 := by rw [← HLN.out]; omega
          have hL2 : 3 ≤ L := by rw [← HLN.out]; omega
          have hLI : 1 + 2 * (W : Int) = (L : Int) := by rw [← HLN.out]; simp
          obtain ⟨M, HM⟩ : ∃ M, Hid (H * L = M) := ⟨_, (rfl : _ = _)⟩
          have hM : M ≤ 136 := by rw [← HM.out]; have := Nat.mul_le_mul (show H ≤ 8 by omega) hL1; omega
          have hMI : (H : Int) * (L : Int) = (M : Int) := by rw [← HM.out]; simp
          obtain ⟨z, HZ⟩ : ∃ z, Hid (Fb.unpack (s.extract 2 s.size).data.toList (M : Int) = z) := ⟨_, (rfl : _ = _)⟩
          obtain ⟨us, uc⟩ := z
          have HU : Hid (Fb.unpack (s.data.toList.drop 2) ((H * (1 + 2 * W) : Nat) : Int) = (us, uc)) := by unfold Hid; rw [← ext_drop2, HLN.out, HM.out]; exact HZ.out
          have HB : Hid (parseL s.data.toList = if uc ≠ 0 then (0, 0, [], uc) else if us.length < M then (0, 0, [], 4) else if (parseRows us W H 0 []).2 ≠ 0 then (0, 0, [], (parseRows us W H 0 []).2) else (W, H, (parseRows us W H 0 []).1, 0)) := by
            unfold Hid; rw [parse_body _ W H HL2.out HWE.out HHE.out HNS.out us uc HU.out, HLN.out, HM.out]
          have hse : (s.extract 2 s.size).size ≤ 1000000 := by rw [ByteArray.size_extract]; omega
          obtain ⟨x, HX⟩ : ∃ t : ByteArray, Hid (us = t.data.toList) := ⟨⟨us.toArray⟩, by unfold Hid; simp⟩
          have HXS : Hid (x.size = us.length) := by unfold Hid; rw [HX.out]; simp
          go_wp2_with fail
          refine (side_any _ _ true HSW).mono ?_
          rintro e w3 ⟨rfl, rfl⟩
          go_wp2_with fail
          refine (side_any _ _ true HSH).mono ?_
          rintro e w3 ⟨rfl, rfl⟩
          by_cases huc : uc = 0
          · subst huc
            by_cases hshort : x.size < M
            · have hc := HC.out
              rw [HB.out, if_neg (by simp), if_pos (by rw [← HXS.out]; exact hshort)] at hc
              simp only [Prod.mk.injEq] at hc
              obtain ⟨rfl, rfl, rfl, rfl⟩ := hc
              go_wp2_with fail
              refine (unpack_at2 _ _ _ hse (by omega) (by omega) x _ us 0 HZ HX rfl).mono ?_
              rintro e w5 ⟨rfl, hb5⟩
              rw [show errV 0 = .nilIface from rfl]
              obtain ⟨t0, t1, t2, f0, f1, f2, tl⟩ := HT.on hb5
              go_wp2_with fail
              exact bodyPost_ret (v := .tuple #[.agg #[.int .i64 0, .int .i64 0, .slice none 0 0], .iface 61 (.int .i64 4)]) (by simp [results, Tryd.results46, go_sem, t0, t1, t2]) rfl ⟨_, rfl, rdP_nil _, (((hb.trans (hb5.mono hb.size)).setCell (Nat.le_refl _) _).setCell (Nat.le_refl _) _).setCell (Nat.le_refl _) _⟩
            · have HP : Hid ((W', H', ps, c) = if (parseRows us W H 0 []).2 ≠ 0 then (0, 0, [], (parseRows us W H 0 []).2) else (W, H, (parseRows us W H 0 []).1, 0)) := by
                unfold Hid; rw [← HC.out, HB.out, if_neg (by simp), if_neg (by rw [← HXS.out]; exact hshort)]
              go_wp2_with fail
              refine (unpack_at2 _ _ _ hse (by omega) (by omega) x _ us 0 HZ HX rfl).mono ?_
              rintro e w5 ⟨rfl, hb5⟩
              rw [show errV 0 = .nilIface from rfl]
              have HT5 := HT.on hb5
              have hbw5 : Below w.heap.size w w5 := hb.trans (hb5.mono hb.size)
              have HPB := three_start w5 (.int .i64 (W : Int)) (.int .i64 (H : Int)) (.slice none 0 0) 43
              have HRB := HT5.alloc (.cells #[.int .i64 (W : Int), .int .i64 (H : Int), .slice none 0 0] 43)
              obtain ⟨wp, HWP⟩ : ∃ wp, Hid (w5.alloc (.cells #[.int .i64 (W : Int), .int .i64 (H : Int), .slice none 0 0] 43) = wp) := ⟨_, (rfl : _ = _)⟩
              rw [HWP.out] at HPB HRB
              have hbwp : Below w.heap.size w wp := by rw [← HWP.out]; exact hbw5.alloc hbw5.size _
              have HPB' : Hid (Three wp w5.heap.size (.int .i64 (W : Int)) (.int .i64 (H : Int)) (.slice none 0 0)) := HPB
              have HRB' : Hid (Three wp w.heap.size (.int .i64 0) (.int .i64 0) (.slice none 0 0)) := HRB
              have hltp : w5.heap.size < wp.heap.size := HPB.lt
              have hltw : w.heap.size < w5.heap.size := HT5.lt
              clear HPB HRB HT5 HT
              go_wp2_with fail
              rw [HWP.out]
              go_loopw [10, 64] (fun u i wr => ∃ (k : Nat) (qs : List (Int × Int)) (ab : List UInt8) (xv : Value), k ≤ H ∧ i = .int .i64 k ∧ Hid (RdB wr u ab) ∧ Hid (Three wr w5.heap.size (.int .i64 (W : Int)) (.int .i64 (H : Int)) xv) ∧ Hid (wr.ownsRow wp.heap.size 110 2 xv qs.length (pixCells qs)) ∧ Hid (Three wr w.heap.size (.int .i64 0) (.int .i64 0) (.slice none 0 0)) ∧ Below w.heap.size w wr ∧ wp.heap.size ≤ wr.heap.size ∧ qs.length ≤ k * 8 ∧ Hid (parseRows us W H 0 [] = combP qs (parseRows us W (H - k) k ab))) (fun _ i _ => H - (intOf i).toNat)
              case atStart => exact ⟨0, [], [], .slice none 0 0, by omega, rfl, rdB_nil _, HPB', World.ownsRow_nil _ _ _ _, HRB', hbwp, Nat.le_refl _, by simp, (rows_nil _ _ _ _ _).symm⟩
              case round =>
                obtain ⟨k, qs, ab, xv, hk, rfl, HAB, H3P, HOQ, H3R, hbr, hwpr, hql, HK⟩ := hrel
                by_cases hlt : k < H
                · obtain ⟨lo, HLO⟩ : ∃ lo, Hid (k * L = lo) := ⟨_, (rfl : _ = _)⟩
                  obtain ⟨hi2, HHI⟩ : ∃ hi, Hid ((k + 1) * L = hi) := ⟨_, (rfl : _ = _)⟩
                  have hlohi : hi2 = lo + L := by rw [← HLO.out, ← HHI.out, Nat.add_mul, Nat.one_mul]
                  have hhin : hi2 ≤ M := by rw [← HHI.out, ← HM.out]; exact Nat.mul_le_mul_right L (by omega)
                  have hm1 : (k : Int) * (L : Int) = (lo : Int) := by rw [← HLO.out]; simp
                  have hm2 : ((k : Int) + 1) * (L : Int) = (hi2 : Int) := by rw [← HHI.out]; simp
                  have HHW : Hid (hi2 = lo + L) := hlohi
                  have hlt2 : lo + 1 < hi2 := by omega
                  have hlox : lo < x.size := by omega
                  have hhix : hi2 ≤ x.size := by omega
                  clear hlohi
                  obtain ⟨wb, HWB⟩ : ∃ c, Hid (x.data.toList.getD lo 0 = c) := ⟨_, (rfl : _ = _)⟩
                  obtain ⟨way, HWAY⟩ : ∃ m, Hid (wb.toNat = m) := ⟨_, (rfl : _ = _)⟩
                  have hixw := nat_at x lo wb HWB way HWAY
                  have hwyb := byte_le wb way HWAY
                  have HWE2 : Hid ((us.getD (k * (1 + 2 * W)) 0).toNat = way) := by unfold Hid; rw [HLN.out, HLO.out, HX.out, HWB.out, HWAY.out]
                  have hHk : H - k = (H - (k + 1)) + 1 := by omega
                  have HHK : Hid (H - k = (H - (k + 1)) + 1) := hHk
                  clear hHk
                  by_cases hw4 : 4 ≤ way
                  · have HPE : Hid (parseRows us W H 0 [] = ([], 4)) := by
                      unfold Hid; rw [HK.out, HHK.out, rows_err _ _ _ _ _ (by rw [HWE2.out]; exact hw4)]; rfl
                    have hc := HP.out
                    rw [HPE.out] at hc
                    simp at hc
                    obtain ⟨rfl, rfl, rfl, rfl⟩ := hc
                    obtain ⟨t0, t1, t2, f0, f1, f2, tl⟩ := H3R.out
                    go_wp2_with fail
                    go_quiet (fail)
                    go_wp2_with fail
                    exact bodyPost_ret (v := .tuple #[.agg #[.int .i64 0, .int .i64 0, .slice none 0 0], .iface 61 (.int .i64 4)]) (by simp [results, Tryd.results46, go_sem, t0, t1, t2]) rfl ⟨_, rfl, rdP_nil _, (((below_drewN hbr _).setCell (Nat.le_refl _) _).setCell (Nat.le_refl _) _).setCell (Nat.le_refl _) _⟩
                  · obtain ⟨t, HT2⟩ : ∃ t, Hid (x.extract (lo + 1) hi2 = t) := ⟨_, (rfl : _ = _)⟩
                    have HTS : Hid (t.size = 2 * W) := by unfold Hid; rw [← HT2.out, ByteArray.size_extract]; have h1 := HHW.out; have h2 := HLN.out; omega
                    have HTD : Hid (t.data.toList = (us.drop (k * (1 + 2 * W) + 1)).take (2 * W)) := by
                      unfold Hid
                      rw [← HT2.out, ByteArray.data_extract, Array.toList_extract, List.extract_eq_take_drop, ← HX.out, HLN.out, HLO.out]
                      rw [show hi2 - (lo + 1) = 2 * W by have h1 := HHW.out; have h2 := HLN.out; omega]
                    obtain ⟨row, HROW⟩ : ∃ row, Hid (Fb.restL way t.data.toList ab = row) := ⟨_, (rfl : _ = _)⟩
                    have HRLN : Hid (row.length = 2 * W) := by unfold Hid; rw [← HROW.out]; unfold Fb.restL; rw [Fb.restTo_len, ← HTS.out]; simp
                    have HN2 : Hid (parseRows us W H 0 [] = combP (qs ++ pixOf row) (parseRows us W (H - (k + 1)) (k + 1) row)) := by
                      unfold Hid
                      rw [HK.out, HHK.out, rows_step _ _ _ _ _ (by rw [HWE2.out]; exact hw4), combP_combP, HWE2.out, ← HTD.out, HROW.out]
                    go_wp2_with fail
                    go_quiet (fail)
                    go_wp2_with fail
                    rw [HT2.out]
                    obtain ⟨wq, HWQ⟩ : ∃ wq, Hid (wr.drewN nq = wq) := ⟨_, (rfl : _ = _)⟩
                    have hbq : Below wr.heap.size wr wq := by rw [← HWQ.out]; exact below_drewN (Below.refl _ _) _
                    have hbwq : Below w.heap.size w wq := by rw [← HWQ.out]; exact below_drewN hbr _
                    rw [HWQ.out]
                    have HPQ := H3P.out.on hbq
                    have HRQ := H3R.out.on hbq
                    have HOQ2 := own_on2 HOQ.out hbq
                    refine (restore_any way (by omega) _ t ab wq (by rw [HTS.out]; omega) (by rw [HTS.out]; omega) (HAB.out.on hbq)).mono ?_
                    rintro e w6 ⟨vrow, rfl, hrow, hb6⟩
                    rw [HROW.out] at hrow
                    have hq0 : wp.heap.size ≤ wq.heap.size := Nat.le_trans hwpr hbq.size
                    have HVR : Hid (w6.ownsRow wp.heap.size 5 1 vrow row.length (row.map bv)) := own_mono hrow hq0
                    have HO6 : Hid (w6.ownsRow wp.heap.size 110 2 xv qs.length (pixCells qs)) := own_on2 HOQ2 hb6
                    have HP6 : Hid (Three w6 w5.heap.size (.int .i64 (W : Int)) (.int .i64 (H : Int)) xv) := HPQ.on hb6
                    have HR6 : Hid (Three w6 w.heap.size (.int .i64 0) (.int .i64 0) (.slice none 0 0)) := HRQ.on hb6
                    have hw6 : wp.heap.size ≤ w6.heap.size := Nat.le_trans hq0 hb6.size
                    have hbw6 : Below w.heap.size w w6 := hbwq.trans (hb6.mono hbwq.size)
                    clear hrow hb6 HPQ HRQ HOQ2 hbwq hbq H3P H3R HOQ HAB
                    have hc2 := HP6.out.c2
                    go_wp2_with fail
                    refine (appendPixels_any wp.heap.size W xv vrow qs row w6 hw6 HO6 HVR HRLN (by omega) (by omega) (by omega)).mono ?_
                    rintro e w7 ⟨v', rfl, hown7, hrow7, hb7⟩
                    obtain ⟨n7, HN7⟩ : ∃ n, Hid ((qs ++ pixOf row).length = n) := ⟨_, (rfl : _ = _)⟩
                    obtain ⟨av7, cv7, hv7⟩ := own_any hown7
                    rw [HN7.out] at hv7
                    subst hv7
                    have HP7 := HP6.out.onB hb7 hltp
                    have HR7 := HR6.out.onB hb7 (by omega)
                    have hbw7 : Below w.heap.size w w7 := hbw6.trans (hb7.mono (by omega))
                    have hw7 : wp.heap.size ≤ w7.heap.size := Nat.le_trans hw6 hb7.size
                    have HP8 : Hid (Three (w7.setCell ⟨w5.heap.size, 2, none⟩ (.slice av7 n7 cv7)) w5.heap.size (.int .i64 (W : Int)) (.int .i64 (H : Int)) (.slice av7 n7 cv7)) := HP7.set2
                    have HR8 : Hid (Three (w7.setCell ⟨w5.heap.size, 2, none⟩ (.slice av7 n7 cv7)) w.heap.size (.int .i64 0) (.int .i64 0) (.slice none 0 0)) := HR7.other (by omega)
                    have HO8 : Hid ((w7.setCell ⟨w5.heap.size, 2, none⟩ (.slice av7 n7 cv7)).ownsRow wp.heap.size 110 2 (.slice av7 n7 cv7) (qs ++ pixOf row).length (pixCells (qs ++ pixOf row))) := ownsRow_setCell_below hown7 (a := ⟨w5.heap.size, 2, none⟩) hltp (.slice av7 n7 cv7)
                    have HB8 : Hid (RdB (w7.setCell ⟨w5.heap.size, 2, none⟩ (.slice av7 n7 cv7)) vrow row) := rdB_own (ownsRow_setCell_below hrow7 (a := ⟨w5.heap.size, 2, none⟩) hltp (.slice av7 n7 cv7))
                    have hb8 : Below w.heap.size w (w7.setCell ⟨w5.heap.size, 2, none⟩ (.slice av7 n7 cv7)) := hbw7.setCell (show w.heap.size ≤ w5.heap.size by omega) (.slice av7 n7 cv7)
                    have hw8 : wp.heap.size ≤ (w7.setCell ⟨w5.heap.size, 2, none⟩ (.slice av7 n7 cv7)).heap.size := by simpa using hw7
                    have hpl : (qs ++ pixOf row).length ≤ (k + 1) * 8 := by rw [List.length_append, pixOf_len W row HRLN.out]; omega
                    have hc3 := HP7.c2
                    have hf3 := HP7.f2
                    clear hown7 hrow7 hb7 HP7 HR7 HP6 HR6 HO6 HVR
                    go_wp2_with fail
                    go_roundw
                    case rel => exact ⟨k + 1, qs ++ pixOf row, row, (.slice av7 n7 cv7), by omega, by go_num, HB8, HP8, HO8, HR8, hb8, hw8, hpl, HN2⟩
                    case measure => simp [intOf]; omega
                · have HPE : Hid (parseRows us W H 0 [] = (qs, 0)) := by
                    unfold Hid; rw [HK.out, show H - k = 0 by omega]; simp [parseRows, combP]
                  have hc := HP.out
                  rw [HPE.out] at hc
                  simp at hc
                  obtain ⟨rfl, rfl, rfl, rfl⟩ := hc
                  obtain ⟨t0, t1, t2, f0, f1, f2, tl⟩ := H3R.out
                  obtain ⟨n7, HN7⟩ : ∃ n, Hid (ps.length = n) := ⟨_, (rfl : _ = _)⟩
                  obtain ⟨av7, cv7, hv7⟩ := own_any HOQ.out
                  rw [HN7.out] at hv7
                  subst hv7
                  obtain ⟨p0, p1, p2, q0, q1, q2, pl⟩ := H3P.out
                  go_wp2_with fail
                  exact bodyPost_ret (v := .tuple #[.agg #[.int .i64 (W' : Int), .int .i64 (H' : Int), .slice av7 n7 cv7], .nilIface]) (by simp [results, Tryd.results46, go_sem, t0, t1, t2]) rfl
                    ⟨_, rfl, rdP_own (ownsRow_setCell_below (ownsRow_setCell_below (ownsRow_setCell_below HOQ.out (a := ⟨w.heap.size, 0, none⟩) (show w.heap.size < wp.heap.size by omega) _) (a := ⟨w.heap.size, 1, none⟩) (show w.heap.size < wp.heap.size by omega) _) (a := ⟨w.heap.size, 2, none⟩) (show w.heap.size < wp.heap.size by omega) _),
                      ((hbr.setCell (Nat.le_refl _) _).setCell (Nat.le_refl _) _).setCell (Nat.le_refl _) _⟩
          · have HE : Hid (errV uc = .iface 61 (.int .i64 (uc : Int))) := by unfold Hid errV; rw [if_neg huc]
            have hc := HC.out
            rw [HB.out, if_pos huc] at hc
            simp only [Prod.mk.injEq] at hc
            obtain ⟨rfl, rfl, rfl, rfl⟩ := hc
            go_wp2_with fail
            refine (unpack_at2 _ _ _ hse (by omega) (by omega) x _ us uc HZ HX HE).mono ?_
            rintro e w5 ⟨rfl, hb5⟩
            obtain ⟨t0, t1, t2, f0, f1, f2, tl⟩ := HT.on hb5
            go_wp2_with fail
            exact bodyPost_ret (v := .tuple #[.agg #[.int .i64 0, .int .i64 0, .slice none 0 0], .iface 61 (.int .i64 (uc : Int))]) (by simp [results, Tryd.results46, go_sem, t0, t1, t2]) rfl ⟨_, by rw [HE.out]; rfl, rdP_nil _, (((hb.trans (hb5.mono hb.size)).setCell (Nat.le_refl _) _).setCell (Nat.le_refl _) _).setCell (Nat.le_refl _) _⟩
end Go.Proofs.YtceabiodelfdoaaDoor
/- Walk of picture.tell, way by way. -/
namespace Go.Proofs.YtceabiodelfdoaaDoor
open Go.RowKit

set_option maxHeartbeats 4000000 in
set_option maxRecDepth 100000 in
theorem tell0 (v u : Value) (row ab : List UInt8) (w : World) (hne : row ≠ []) (hlen : row.length ≤ 1000) (HR : Hid (RdB w v row)) (HA : Hid (RdB w u ab)) :
    Calls Tryd.prog 83 #[.int .i64 0, v, u] w fun e w' => e = .returned (str (Fb.tellL 0 row ab)) ∧ Below w.heap.size w w' := by
  obtain ⟨i0, hi, hz0, hz1, hz2⟩ := info_parts Tryd.infoByte
  obtain ⟨a, cap, hv, hlc, hcap, hh⟩ := HR.out
  obtain ⟨gr, rfl, hgr, hcr⟩ := hh hne
  obtain ⟨a2, cap2, hu, hl2, hc2, hh2⟩ := HA.out
  clear hl2 hh2
  obtain ⟨n, HN⟩ : ∃ n, Hid (row.length = n) := ⟨_, (rfl : _ = _)⟩
  rw [HN.out] at hv hlc hlen
  have HCR : Hid (∀ j, j < n → w.cell? ⟨gr, j, none⟩ = some (bv (row.getD j 0))) := by unfold Hid; rw [← HN.out]; exact hcr
  clear hcr hh
  have HGC : Hid (GuessC 0 87 #[] w.heap.size v u) := guess0 _ _ _
  have HGU : Hid (Calls Tryd.prog 80 #[.int .i64 0, v, u] w fun e w' => e = .returned (.func (.func 87) #[] #[]) ∧ Boxes w' w.heap.size v u ∧ Below w.heap.size w w') := guesser_any 0 (by decide) v u w n cap ab.length cap2 _ a2 hv hu
  subst hv hu
  go_enter Tryd.func83, Tryd.ntmps83
  go_wp2_with fail
  refine Calls.mono HGU.out ?_
  rintro e w1 ⟨rfl, hbx, hb1⟩
  have HBX : Hid (Boxes w1 w.heap.size (.slice (some ⟨gr, 0, none⟩) n cap) (.slice a2 ab.length cap2)) := hbx
  clear hbx HGU
  go_wp2_with (at_make; refine wpList_make_full _ rfl _ _ 51 rfl w1.heap.size 5 i0 (.int .u8 0) 1 Tryd.underlying51 hi hz0 hz1 _ _ _ _ n rfl rfl rfl rfl ?b1 ?b2 ?b3 ?_)
  case b1 => rw [hz2]; omega
  case b2 => unfold maxLen; omega
  case b3 => exact Nat.le_refl _
  intro w2 hown2 hgrow2
  rw [made_zero] at hown2
  have hb2 : Below w1.heap.size w1 w2 := (Below.refl _ _).grown hgrow2 (Nat.le_refl _) (by intro k hk; cases hk)
  clear hgrow2
  go_wp2_with fail
  go_loopw [19] (fun i wr => ∃ k : Nat, k ≤ n ∧ i = .int .i64 k ∧ Below w1.heap.size w1 wr ∧ Hid (wr.ownsRow w1.heap.size 5 1 (.slice (some ⟨w1.heap.size, 0, none⟩) n n) n ((Fb.tellTo 0 row ab k ++ List.replicate (n - k) 0).map bv))) (fun i _ => n - (intOf i).toNat)
  case atStart => exact ⟨0, by omega, rfl, hb2, hown2⟩
  case round =>
    obtain ⟨k, hk, rfl, hb, HOWN⟩ := hrel
    by_cases hlt : k < n
    · have hc := HCR.out k hlt
      obtain ⟨x, HX⟩ : ∃ x, Hid (row.getD k 0 = x) := ⟨_, (rfl : _ = _)⟩
      obtain ⟨y, HY⟩ : ∃ x, Hid (Fb.guessB 0 row ab k = x) := ⟨_, (rfl : _ = _)⟩
      obtain ⟨xx, HXX⟩ : ∃ m, Hid (x.toNat = m) := ⟨_, (rfl : _ = _)⟩
      obtain ⟨yy, HYY⟩ : ∃ m, Hid (y.toNat = m) := ⟨_, (rfl : _ = _)⟩
      obtain ⟨dd, HDD⟩ : ∃ m, Hid ((x - y).toNat = m) := ⟨_, (rfl : _ = _)⟩
      have hgr1 : gr < w1.heap.size := Nat.lt_of_lt_of_le hgr hb1.size
      have hcx : wr.cell? ⟨gr, k, none⟩ = some (.int .u8 (xx : Int)) := by
        rw [hb.cell (p := ⟨gr, k, none⟩) hgr1, hb1.cell (p := ⟨gr, k, none⟩) hgr, hc, HX.out, ← HXX.out]; rfl
      have hsub : IntKind.u8.wrap ((xx : Int) - (yy : Int)) = (dd : Int) := by rw [← HXX.out, ← HYY.out, ← HDD.out]; exact sub_byte x y
      have hfz := HOWN.out.frozenAt k
      have hcg : wr.cell? ⟨w1.heap.size, k, none⟩ = some (.int .u8 0) := by
        rw [HOWN.out.cellAt k (by omega), List.getElem?_map, List.getElem?_append_right (by rw [Fb.tellTo_len]; omega), Fb.tellTo_len, Nat.sub_self, show n - k = (n - k - 1) + 1 by omega, List.replicate_succ]; rfl
      have HCALL : Hid (Calls Tryd.prog 87 #[.int .i64 (k : Int)] wr.drew fun e W' => e = .returned (.int .u8 (yy : Int)) ∧ ∃ q, W' = wr.drew.drewN q) := by
        have h := HGC.out wr.drew row ab k (by omega) (by rw [HN.out]; omega) (HBX.out.on hb).drew ((HR.out.on hb1).on hb).drew ((HA.out.on hb1).on hb).drew
        rw [HY.out, HYY.out] at h
        exact h
      have HSET : Hid (∀ m, ((wr.drewN m).setCell ⟨w1.heap.size, k, none⟩ (.int .u8 (dd : Int))).ownsRow w1.heap.size 5 1 (.slice (some ⟨w1.heap.size, 0, none⟩) n n) n ((Fb.tellTo 0 row ab (k + 1) ++ List.replicate (n - (k + 1)) 0).map bv)) := by
        unfold Hid
        intro m
        have h := ((owns_drewN HOWN.out m).stored k (.int .u8 (dd : Int))).1
        have e : (.int .u8 (dd : Int) : Value) = bv (x - y) := by unfold bv; rw [HDD.out]
        rw [e, set_row _ _ k n hlt (Fb.tellTo_len _ _ _ _)] at h
        rw [e, Fb.tellTo, HX.out, HY.out]
        exact h
      clear hc
      go_upto_region 6 with fail
      go_region_with (go_at_call 87; refine Calls.mono HCALL.out ?_; rintro e w3 ⟨rfl, q, rfl⟩)
      all_goals go_wp2_with fail
      all_goals (go_roundw; (case rel => exact ⟨k + 1, by omega, by go_num, (below_drewN hb _).setCell (Nat.le_refl _) _, HSET.out _⟩); (case measure => simp [intOf]; omega))
    · have hkn : k = n := by omega
      subst hkn
      have HOWN2 : wr.ownsRow w1.heap.size 5 1 (.slice (some ⟨w1.heap.size, 0, none⟩) k k) (Fb.tellL 0 row ab).length ((Fb.tellL 0 row ab).map bv) := by
        have h := HOWN.out
        rw [Nat.sub_self] at h
        unfold Fb.tellL
        rw [Fb.tellTo_len, HN.out]
        simpa using h
      have hst := run_str HOWN2
      clear HOWN2
      go_wp2_with fail
      go_ret
      exact ⟨rfl, hb1.trans (hb.mono hb1.size)⟩

set_option maxHeartbeats 4000000 in
set_option maxRecDepth 100000 in
theorem tell1 (v u : Value) (row ab : List UInt8) (w : World) (hne : row ≠ []) (hlen : row.length ≤ 1000) (HR : Hid (RdB w v row)) (HA : Hid (RdB w u ab)) :
    Calls Tryd.prog 83 #[.int .i64 1, v, u] w fun e w' => e = .returned (str (Fb.tellL 1 row ab)) ∧ Below w.heap.size w w' := by
  obtain ⟨i0, hi, hz0, hz1, hz2⟩ := info_parts Tryd.infoByte
  obtain ⟨a, cap, hv, hlc, hcap, hh⟩ := HR.out
  obtain ⟨gr, rfl, hgr, hcr⟩ := hh hne
  obtain ⟨a2, cap2, hu, hl2, hc2, hh2⟩ := HA.out
  clear hl2 hh2
  obtain ⟨n, HN⟩ : ∃ n, Hid (row.length = n) := ⟨_, (rfl : _ = _)⟩
  rw [HN.out] at hv hlc hlen
  have HCR : Hid (∀ j, j < n → w.cell? ⟨gr, j, none⟩ = some (bv (row.getD j 0))) := by unfold Hid; rw [← HN.out]; exact hcr
  clear hcr hh
  have HGC : Hid (GuessC 1 84 #[.pointer (some ⟨w.heap.size, 0, none⟩)] w.heap.size v u) := guess1 _ _ _
  have HGU : Hid (Calls Tryd.prog 80 #[.int .i64 1, v, u] w fun e w' => e = .returned (.func (.func 84) #[] #[.pointer (some ⟨w.heap.size, 0, none⟩)]) ∧ Boxes w' w.heap.size v u ∧ Below w.heap.size w w') := guesser_any 1 (by decide) v u w n cap ab.length cap2 _ a2 hv hu
  subst hv hu
  go_enter Tryd.func83, Tryd.ntmps83
  go_wp2_with fail
  refine Calls.mono HGU.out ?_
  rintro e w1 ⟨rfl, hbx, hb1⟩
  have HBX : Hid (Boxes w1 w.heap.size (.slice (some ⟨gr, 0, none⟩) n cap) (.slice a2 ab.length cap2)) := hbx
  clear hbx HGU
  go_wp2_with (at_make; refine wpList_make_full _ rfl _ _ 51 rfl w1.heap.size 5 i0 (.int .u8 0) 1 Tryd.underlying51 hi hz0 hz1 _ _ _ _ n rfl rfl rfl rfl ?b1 ?b2 ?b3 ?_)
  case b1 => rw [hz2]; omega
  case b2 => unfold maxLen; omega
  case b3 => exact Nat.le_refl _
  intro w2 hown2 hgrow2
  rw [made_zero] at hown2
  have hb2 : Below w1.heap.size w1 w2 := (Below.refl _ _).grown hgrow2 (Nat.le_refl _) (by intro k hk; cases hk)
  clear hgrow2
  go_wp2_with fail
  go_loopw [19] (fun i wr => ∃ k : Nat, k ≤ n ∧ i = .int .i64 k ∧ Below w1.heap.size w1 wr ∧ Hid (wr.ownsRow w1.heap.size 5 1 (.slice (some ⟨w1.heap.size, 0, none⟩) n n) n ((Fb.tellTo 1 row ab k ++ List.replicate (n - k) 0).map bv))) (fun i _ => n - (intOf i).toNat)
  case atStart => exact ⟨0, by omega, rfl, hb2, hown2⟩
  case round =>
    obtain ⟨k, hk, rfl, hb, HOWN⟩ := hrel
    by_cases hlt : k < n
    · have hc := HCR.out k hlt
      obtain ⟨x, HX⟩ : ∃ x, Hid (row.getD k 0 = x) := ⟨_, (rfl : _ = _)⟩
      obtain ⟨y, HY⟩ : ∃ x, Hid (Fb.guessB 1 row ab k = x) := ⟨_, (rfl : _ = _)⟩
      obtain ⟨xx, HXX⟩ : ∃ m, Hid (x.toNat = m) := ⟨_, (rfl : _ = _)⟩
      obtain ⟨yy, HYY⟩ : ∃ m, Hid (y.toNat = m) := ⟨_, (rfl : _ = _)⟩
      obtain ⟨dd, HDD⟩ : ∃ m, Hid ((x - y).toNat = m) := ⟨_, (rfl : _ = _)⟩
      have hgr1 : gr < w1.heap.size := Nat.lt_of_lt_of_le hgr hb1.size
      have hcx : wr.cell? ⟨gr, k, none⟩ = some (.int .u8 (xx : Int)) := by
        rw [hb.cell (p := ⟨gr, k, none⟩) hgr1, hb1.cell (p := ⟨gr, k, none⟩) hgr, hc, HX.out, ← HXX.out]; rfl
      have hsub : IntKind.u8.wrap ((xx : Int) - (yy : Int)) = (dd : Int) := by rw [← HXX.out, ← HYY.out, ← HDD.out]; exact sub_byte x y
      have hfz := HOWN.out.frozenAt k
      have hcg : wr.cell? ⟨w1.heap.size, k, none⟩ = some (.int .u8 0) := by
        rw [HOWN.out.cellAt k (by omega), List.getElem?_map, List.getElem?_append_right (by rw [Fb.tellTo_len]; omega), Fb.tellTo_len, Nat.sub_self, show n - k = (n - k - 1) + 1 by omega, List.replicate_succ]; rfl
      have HCALL : Hid (Calls Tryd.prog 84 #[.int .i64 (k : Int), .pointer (some ⟨w.heap.size, 0, none⟩)] wr.drew fun e W' => e = .returned (.int .u8 (yy : Int)) ∧ ∃ q, W' = wr.drew.drewN q) := by
        have h := HGC.out wr.drew row ab k (by omega) (by rw [HN.out]; omega) (HBX.out.on hb).drew ((HR.out.on hb1).on hb).drew ((HA.out.on hb1).on hb).drew
        rw [HY.out, HYY.out] at h
        exact h
      have HSET : Hid (∀ m, ((wr.drewN m).setCell ⟨w1.heap.size, k, none⟩ (.int .u8 (dd : Int))).ownsRow w1.heap.size 5 1 (.slice (some ⟨w1.heap.size, 0, none⟩) n n) n ((Fb.tellTo 1 row ab (k + 1) ++ List.replicate (n - (k + 1)) 0).map bv)) := by
        unfold Hid
        intro m
        have h := ((owns_drewN HOWN.out m).stored k (.int .u8 (dd : Int))).1
        have e : (.int .u8 (dd : Int) : Value) = bv (x - y) := by unfold bv; rw [HDD.out]
        rw [e, set_row _ _ k n hlt (Fb.tellTo_len _ _ _ _)] at h
        rw [e, Fb.tellTo, HX.out, HY.out]
        exact h
      clear hc
      go_upto_region 6 with fail
      go_region_with (go_at_call 84; refine Calls.mono HCALL.out ?_; rintro e w3 ⟨rfl, q, rfl⟩)
      all_goals go_wp2_with fail
      all_goals (go_roundw; (case rel => exact ⟨k + 1, by omega, by go_num, (below_drewN hb _).setCell (Nat.le_refl _) _, HSET.out _⟩); (case measure => simp [intOf]; omega))
    · have hkn : k = n := by omega
      subst hkn
      have HOWN2 : wr.ownsRow w1.heap.size 5 1 (.slice (some ⟨w1.heap.size, 0, none⟩) k k) (Fb.tellL 1 row ab).length ((Fb.tellL 1 row ab).map bv) := by
        have h := HOWN.out
        rw [Nat.sub_self] at h
        unfold Fb.tellL
        rw [Fb.tellTo_len, HN.out]
        simpa using h
      have hst := run_str HOWN2
      clear HOWN2
      go_wp2_with fail
      go_ret
      exact ⟨rfl, hb1.trans (hb.mono hb1.size)⟩

set_option maxHeartbeats 4000000 in
set_option maxRecDepth 100000 in
theorem tell2 (v u : Value) (row ab : List UInt8) (w : World) (hne : row ≠ []) (hlen : row.length ≤ 1000) (HR : Hid (RdB w v row)) (HA : Hid (RdB w u ab)) :
    Calls Tryd.prog 83 #[.int .i64 2, v, u] w fun e w' => e = .returned (str (Fb.tellL 2 row ab)) ∧ Below w.heap.size w w' := by
  obtain ⟨i0, hi, hz0, hz1, hz2⟩ := info_parts Tryd.infoByte
  obtain ⟨a, cap, hv, hlc, hcap, hh⟩ := HR.out
  obtain ⟨gr, rfl, hgr, hcr⟩ := hh hne
  obtain ⟨a2, cap2, hu, hl2, hc2, hh2⟩ := HA.out
  clear hl2 hh2
  obtain ⟨n, HN⟩ : ∃ n, Hid (row.length = n) := ⟨_, (rfl : _ = _)⟩
  rw [HN.out] at hv hlc hlen
  have HCR : Hid (∀ j, j < n → w.cell? ⟨gr, j, none⟩ = some (bv (row.getD j 0))) := by unfold Hid; rw [← HN.out]; exact hcr
  clear hcr hh
  have HGC : Hid (GuessC 2 85 #[.pointer (some ⟨w.heap.size + 1, 0, none⟩)] w.heap.size v u) := guess2 _ _ _
  have HGU : Hid (Calls Tryd.prog 80 #[.int .i64 2, v, u] w fun e w' => e = .returned (.func (.func 85) #[] #[.pointer (some ⟨w.heap.size + 1, 0, none⟩)]) ∧ Boxes w' w.heap.size v u ∧ Below w.heap.size w w') := guesser_any 2 (by decide) v u w n cap ab.length cap2 _ a2 hv hu
  subst hv hu
  go_enter Tryd.func83, Tryd.ntmps83
  go_wp2_with fail
  refine Calls.mono HGU.out ?_
  rintro e w1 ⟨rfl, hbx, hb1⟩
  have HBX : Hid (Boxes w1 w.heap.size (.slice (some ⟨gr, 0, none⟩) n cap) (.slice a2 ab.length cap2)) := hbx
  clear hbx HGU
  go_wp2_with (at_make; refine wpList_make_full _ rfl _ _ 51 rfl w1.heap.size 5 i0 (.int .u8 0) 1 Tryd.underlying51 hi hz0 hz1 _ _ _ _ n rfl rfl rfl rfl ?b1 ?b2 ?b3 ?_)
  case b1 => rw [hz2]; omega
  case b2 => unfold maxLen; omega
  case b3 => exact Nat.le_refl _
  intro w2 hown2 hgrow2
  rw [made_zero] at hown2
  have hb2 : Below w1.heap.size w1 w2 := (Below.refl _ _).grown hgrow2 (Nat.le_refl _) (by intro k hk; cases hk)
  clear hgrow2
  go_wp2_with fail
  go_loopw [19] (fun i wr => ∃ k : Nat, k ≤ n ∧ i = .int .i64 k ∧ Below w1.heap.size w1 wr ∧ Hid (wr.ownsRow w1.heap.size 5 1 (.slice (some ⟨w1.heap.size, 0, none⟩) n n) n ((Fb.tellTo 2 row ab k ++ List.replicate (n - k) 0).map bv))) (fun i _ => n - (intOf i).toNat)
  case atStart => exact ⟨0, by omega, rfl, hb2, hown2⟩
  case round =>
    obtain ⟨k, hk, rfl, hb, HOWN⟩ := hrel
    by_cases hlt : k < n
    · have hc := HCR.out k hlt
      obtain ⟨x, HX⟩ : ∃ x, Hid (row.getD k 0 = x) := ⟨_, (rfl : _ = _)⟩
      obtain ⟨y, HY⟩ : ∃ x, Hid (Fb.guessB 2 row ab k = x) := ⟨_, (rfl : _ = _)⟩
      obtain ⟨xx, HXX⟩ : ∃ m, Hid (x.toNat = m) := ⟨_, (rfl : _ = _)⟩
      obtain ⟨yy, HYY⟩ : ∃ m, Hid (y.toNat = m) := ⟨_, (rfl : _ = _)⟩
      obtain ⟨dd, HDD⟩ : ∃ m, Hid ((x - y).toNat = m) := ⟨_, (rfl : _ = _)⟩
      have hgr1 : gr < w1.heap.size := Nat.lt_of_lt_of_le hgr hb1.size
      have hcx : wr.cell? ⟨gr, k, none⟩ = some (.int .u8 (xx : Int)) := by
        rw [hb.cell (p := ⟨gr, k, none⟩) hgr1, hb1.cell (p := ⟨gr, k, none⟩) hgr, hc, HX.out, ← HXX.out]; rfl
      have hsub : IntKind.u8.wrap ((xx : Int) - (yy : Int)) = (dd : Int) := by rw [← HXX.out, ← HYY.out, ← HDD.out]; exact sub_byte x y
      have hfz := HOWN.out.frozenAt k
      have hcg : wr.cell? ⟨w1.heap.size, k, none⟩ = some (.int .u8 0) := by
        rw [HOWN.out.cellAt k (by omega), List.getElem?_map, List.getElem?_append_right (by rw [Fb.tellTo_len]; omega), Fb.tellTo_len, Nat.sub_self, show n - k = (n - k - 1) + 1 by omega, List.replicate_succ]; rfl
      have HCALL : Hid (Calls Tryd.prog 85 #[.int .i64 (k : Int), .pointer (some ⟨w.heap.size + 1, 0, none⟩)] wr.drew fun e W' => e = .returned (.int .u8 (yy : Int)) ∧ ∃ q, W' = wr.drew.drewN q) := by
        have h := HGC.out wr.drew row ab k (by omega) (by rw [HN.out]; omega) (HBX.out.on hb).drew ((HR.out.on hb1).on hb).drew ((HA.out.on hb1).on hb).drew
        rw [HY.out, HYY.out] at h
        exact h
      have HSET : Hid (∀ m, ((wr.drewN m).setCell ⟨w1.heap.size, k, none⟩ (.int .u8 (dd : Int))).ownsRow w1.heap.size 5 1 (.slice (some ⟨w1.heap.size, 0, none⟩) n n) n ((Fb.tellTo 2 row ab (k + 1) ++ List.replicate (n - (k + 1)) 0).map bv)) := by
        unfold Hid
        intro m
        have h := ((owns_drewN HOWN.out m).stored k (.int .u8 (dd : Int))).1
        have e : (.int .u8 (dd : Int) : Value) = bv (x - y) := by unfold bv; rw [HDD.out]
        rw [e, set_row _ _ k n hlt (Fb.tellTo_len _ _ _ _)] at h
        rw [e, Fb.tellTo, HX.out, HY.out]
        exact h
      clear hc
      go_upto_region 6 with fail
      go_region_with (go_at_call 85; refine Calls.mono HCALL.out ?_; rintro e w3 ⟨rfl, q, rfl⟩)
      all_goals go_wp2_with fail
      all_goals (go_roundw; (case rel => exact ⟨k + 1, by omega, by go_num, (below_drewN hb _).setCell (Nat.le_refl _) _, HSET.out _⟩); (case measure => simp [intOf]; omega))
    · have hkn : k = n := by omega
      subst hkn
      have HOWN2 : wr.ownsRow w1.heap.size 5 1 (.slice (some ⟨w1.heap.size, 0, none⟩) k k) (Fb.tellL 2 row ab).length ((Fb.tellL 2 row ab).map bv) := by
        have h := HOWN.out
        rw [Nat.sub_self] at h
        unfold Fb.tellL
        rw [Fb.tellTo_len, HN.out]
        simpa using h
      have hst := run_str HOWN2
      clear HOWN2
      go_wp2_with fail
      go_ret
      exact ⟨rfl, hb1.trans (hb.mono hb1.size)⟩

set_option maxHeartbeats 4000000 in
set_option maxRecDepth 100000 in
theorem tell3 (v u : Value) (row ab : List UInt8) (w : World) (hne : row ≠ []) (hlen : row.length ≤ 1000) (HR : Hid (RdB w v row)) (HA : Hid (RdB w u ab)) :
    Calls Tryd.prog 83 #[.int .i64 3, v, u] w fun e w' => e = .returned (str (Fb.tellL 3 row ab)) ∧ Below w.heap.size w w' := by
  obtain ⟨i0, hi, hz0, hz1, hz2⟩ := info_parts Tryd.infoByte
  obtain ⟨a, cap, hv, hlc, hcap, hh⟩ := HR.out
  obtain ⟨gr, rfl, hgr, hcr⟩ := hh hne
  obtain ⟨a2, cap2, hu, hl2, hc2, hh2⟩ := HA.out
  clear hl2 hh2
  obtain ⟨n, HN⟩ : ∃ n, Hid (row.length = n) := ⟨_, (rfl : _ = _)⟩
  rw [HN.out] at hv hlc hlen
  have HCR : Hid (∀ j, j < n → w.cell? ⟨gr, j, none⟩ = some (bv (row.getD j 0))) := by unfold Hid; rw [← HN.out]; exact hcr
  clear hcr hh
  have HGC : Hid (GuessC 3 86 #[.pointer (some ⟨w.heap.size + 2, 0, none⟩), .pointer (some ⟨w.heap.size + 3, 0, none⟩)] w.heap.size v u) := guess3 _ _ _
  have HGU : Hid (Calls Tryd.prog 80 #[.int .i64 3, v, u] w fun e w' => e = .returned (.func (.func 86) #[] #[.pointer (some ⟨w.heap.size + 2, 0, none⟩), .pointer (some ⟨w.heap.size + 3, 0, none⟩)]) ∧ Boxes w' w.heap.size v u ∧ Below w.heap.size w w') := guesser_any 3 (by decide) v u w n cap ab.length cap2 _ a2 hv hu
  subst hv hu
  go_enter Tryd.func83, Tryd.ntmps83
  go_wp2_with fail
  refine Calls.mono HGU.out ?_
  rintro e w1 ⟨rfl, hbx, hb1⟩
  have HBX : Hid (Boxes w1 w.heap.size (.slice (some ⟨gr, 0, none⟩) n cap) (.slice a2 ab.length cap2)) := hbx
  clear hbx HGU
  go_wp2_with (at_make; refine wpList_make_full _ rfl _ _ 51 rfl w1.heap.size 5 i0 (.int .u8 0) 1 Tryd.underlying51 hi hz0 hz1 _ _ _ _ n rfl rfl rfl rfl ?b1 ?b2 ?b3 ?_)
  case b1 => rw [hz2]; omega
  case b2 => unfold maxLen; omega
  case b3 => exact Nat.le_refl _
  intro w2 hown2 hgrow2
  rw [made_zero] at hown2
  have hb2 : Below w1.heap.size w1 w2 := (Below.refl _ _).grown hgrow2 (Nat.le_refl _) (by intro k hk; cases hk)
  clear hgrow2
  go_wp2_with fail
  go_loopw [19] (fun i wr => ∃ k : Nat, k ≤ n ∧ i = .int .i64 k ∧ Below w1.heap.size w1 wr ∧ Hid (wr.ownsRow w1.heap.size 5 1 (.slice (some ⟨w1.heap.size, 0, none⟩) n n) n ((Fb.tellTo 3 row ab k ++ List.replicate (n - k) 0).map bv))) (fun i _ => n - (intOf i).toNat)
  case atStart => exact ⟨0, by omega, rfl, hb2, hown2⟩
  case round =>
    obtain ⟨k, hk, rfl, hb, HOWN⟩ := hrel
    by_cases hlt : k < n
    · have hc := HCR.out k hlt
      obtain ⟨x, HX⟩ : ∃ x, Hid (row.getD k 0 = x) := ⟨_, (rfl : _ = _)⟩
      obtain ⟨y, HY⟩ : ∃ x, Hid (Fb.guessB 3 row ab k = x) := ⟨_, (rfl : _ = _)⟩
      obtain ⟨xx, HXX⟩ : ∃ m, Hid (x.toNat = m) := ⟨_, (rfl : _ = _)⟩
      obtain ⟨yy, HYY⟩ : ∃ m, Hid (y.toNat = m) := ⟨_, (rfl : _ = _)⟩
      obtain ⟨dd, HDD⟩ : ∃ m, Hid ((x - y).toNat = m) := ⟨_, (rfl : _ = _)⟩
      have hgr1 : gr < w1.heap.size := Nat.lt_of_lt_of_le hgr hb1.size
      have hcx : wr.cell? ⟨gr, k, none⟩ = some (.int .u8 (xx : Int)) := by
        rw [hb.cell (p := ⟨gr, k, none⟩) hgr1, hb1.cell (p := ⟨gr, k, none⟩) hgr, hc, HX.out, ← HXX.out]; rfl
      have hsub : IntKind.u8.wrap ((xx : Int) - (yy : Int)) = (dd : Int) := by rw [← HXX.out, ← HYY.out, ← HDD.out]; exact sub_byte x y
      have hfz := HOWN.out.frozenAt k
      have hcg : wr.cell? ⟨w1.heap.size, k, none⟩ = some (.int .u8 0) := by
        rw [HOWN.out.cellAt k (by omega), List.getElem?_map, List.getElem?_append_right (by rw [Fb.tellTo_len]; omega), Fb.tellTo_len, Nat.sub_self, show n - k = (n - k - 1) + 1 by omega, List.replicate_succ]; rfl
      have HCALL : Hid (Calls Tryd.prog 86 #[.int .i64 (k : Int), .pointer (some ⟨w.heap.size + 2, 0, none⟩), .pointer (some ⟨w.heap.size + 3, 0, none⟩)] wr.drew fun e W' => e = .returned (.int .u8 (yy : Int)) ∧ ∃ q, W' = wr.drew.drewN q) := by
        have h := HGC.out wr.drew row ab k (by omega) (by rw [HN.out]; omega) (HBX.out.on hb).drew ((HR.out.on hb1).on hb).drew ((HA.out.on hb1).on hb).drew
        rw [HY.out, HYY.out] at h
        exact h
      have HSET : Hid (∀ m, ((wr.drewN m).setCell ⟨w1.heap.size, k, none⟩ (.int .u8 (dd : Int))).ownsRow w1.heap.size 5 1 (.slice (some ⟨w1.heap.size, 0, none⟩) n n) n ((Fb.tellTo 3 row ab (k + 1) ++ List.replicate (n - (k + 1)) 0).map bv)) := by
        unfold Hid
        intro m
        have h := ((owns_drewN HOWN.out m).stored k (.int .u8 (dd : Int))).1
        have e : (.int .u8 (dd : Int) : Value) = bv (x - y) := by unfold bv; rw [HDD.out]
        rw [e, set_row _ _ k n hlt (Fb.tellTo_len _ _ _ _)] at h
        rw [e, Fb.tellTo, HX.out, HY.out]
        exact h
      clear hc
      go_upto_region 6 with fail
      go_region_with (go_at_call 86; refine Calls.mono HCALL.out ?_; rintro e w3 ⟨rfl, q, rfl⟩)
      all_goals go_wp2_with fail
      all_goals (go_roundw; (case rel => exact ⟨k + 1, by omega, by go_num, (below_drewN hb _).setCell (Nat.le_refl _) _, HSET.out _⟩); (case measure => simp [intOf]; omega))
    · have hkn : k = n := by omega
      subst hkn
      have HOWN2 : wr.ownsRow w1.heap.size 5 1 (.slice (some ⟨w1.heap.size, 0, none⟩) k k) (Fb.tellL 3 row ab).length ((Fb.tellL 3 row ab).map bv) := by
        have h := HOWN.out
        rw [Nat.sub_self] at h
        unfold Fb.tellL
        rw [Fb.tellTo_len, HN.out]
        simpa using h
      have hst := run_str HOWN2
      clear HOWN2
      go_wp2_with fail
      go_ret
      exact ⟨rfl, hb1.trans (hb.mono hb1.size)⟩

set_option maxRecDepth 100000 in
theorem tell_any (way : Nat) (hway : way < 4) (v u : Value) (row ab : List UInt8) (w : World) (hne : row ≠ []) (hlen : row.length ≤ 1000) (HR : Hid (RdB w v row)) (HA : Hid (RdB w u ab)) :
    Calls Tryd.prog 83 #[.int .i64 (way : Int), v, u] w fun e w' => e = .returned (str (Fb.tellL way row ab)) ∧ Below w.heap.size w w' := by
  have h4 : way = 0 ∨ way = 1 ∨ way = 2 ∨ way = 3 := by omega
  rcases h4 with rfl | rfl | rfl | rfl
  · exact tell0 v u row ab w hne hlen HR HA
  · exact tell1 v u row ab w hne hlen HR HA
  · exact tell2 v u row ab w hne hlen HR HA
  · exact tell3 v u row ab w hne hlen HR HA
end Go.Proofs.YtceabiodelfdoaaDoor
