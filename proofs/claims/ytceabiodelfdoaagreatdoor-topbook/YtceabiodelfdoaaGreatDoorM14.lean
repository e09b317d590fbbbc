/- Some of the walks, in one text. -/
import Derived.Test.YtceabiodelfdoaaGreatDoorM13
import Derived.StillTailTactics
import Derived.Lib.IndexBytes
import Derived.Shelf.Strings.Builder1
import Derived.Laws.BitsLemmas
/- Walk: the reference's OpOf. -- s1 -/
namespace Go.Proofs.YtceabiodelfdoaaGreatDoor
open Go.RowKit

/-- what the reference reads of a chunk -/
def ROfP (r : Pq × Nat) (w : World) (e : Ending) (w' : World) : Prop := ∃ u, e = .returned (.tuple #[opV r.1 u, .int .i64 (r.2 : Nat)]) ∧ RdP w' u r.1.ps ∧ Below w.heap.size w w'
def ROwP (r : Pq × Nat) (w : World) (e : Ending) (w' : World) : Prop := ∃ u, e = .returned (.tuple #[opV r.1 u, .int .i64 (r.2 : Nat)]) ∧ w'.ownsRow w.heap.size 52 2 u r.1.ps.length (pixCells r.1.ps) ∧ Below w.heap.size w w'
theorem rofP_err {r : Pq × Nat} {c : Nat} {w w' : World} (h : Hid (r = (q00, c))) (hb : Below w.heap.size w w') : ROwP r w (.returned (.tuple #[.agg #[.int .i64 0, .int .i64 0, .int .i64 0, .int .i64 0, .int .i64 0, .int .i64 0, .int .i64 0, .int .i64 0, .slice none 0 0], .int .i64 (c : Int)])) w' := by
  rw [h.out]
  exact ⟨_, rfl, World.ownsRow_nil _ _ _ _, hb⟩
theorem name_eq (k : Nat) (l : List UInt8) (nm : ByteArray) (h : nmsB[k]? = some l) : (l == nm.toList) = decide (kindNm k = nm) := by
  have e : kindNm k = { data := l.toArray } := by
    unfold kindNm
    rw [List.getD_eq_getElem?_getD, h]
    rfl
  have e2 : (kindNm k).toList = l := by rw [e, ByteArray.toList_eq]
  rw [← txt_eq, e2]

theorem nine_nums {W : World} {b : Nat} {x0 x1 x2 x3 x4 x5 x6 x7 x8 : Value} (h : Nine W b x0 x1 x2 x3 x4 x5 x6 x7 x8) (y2 y3 y4 y5 : Value) : Nine ((((W.setCell ⟨b, 2, none⟩ y2).setCell ⟨b, 3, none⟩ y3).setCell ⟨b, 4, none⟩ y4).setCell ⟨b, 5, none⟩ y5) b x0 x1 y2 y3 y4 y5 x6 x7 x8 := by
  refine ⟨?_, ?_, ?_, ?_, ?_, ?_, ?_, ?_, ?_, by simp [h.f0], by simp [h.f1], by simp [h.f2], by simp [h.f3], by simp [h.f4], by simp [h.f5], by simp [h.f6], by simp [h.f7], by simp [h.f8], by simpa using h.lt⟩
  · rw [cell_set_ne _ _ _ _ _ (by decide), cell_set_ne _ _ _ _ _ (by decide), cell_set_ne _ _ _ _ _ (by decide), cell_set_ne _ _ _ _ _ (by decide)]; exact h.c0
  · rw [cell_set_ne _ _ _ _ _ (by decide), cell_set_ne _ _ _ _ _ (by decide), cell_set_ne _ _ _ _ _ (by decide), cell_set_ne _ _ _ _ _ (by decide)]; exact h.c1
  · rw [cell_set_ne _ _ _ _ _ (by decide)]; rw [cell_set_ne _ _ _ _ _ (by decide)]; rw [cell_set_ne _ _ _ _ _ (by decide)]; exact World.cell?_setCell_same _ _ _ (h.c2)
  · rw [cell_set_ne _ _ _ _ _ (by decide)]; rw [cell_set_ne _ _ _ _ _ (by decide)]; exact World.cell?_setCell_same _ _ _ ((cell_set_ne _ _ _ _ _ (by decide)).trans (h.c3))
  · rw [cell_set_ne _ _ _ _ _ (by decide)]; exact World.cell?_setCell_same _ _ _ ((cell_set_ne _ _ _ _ _ (by decide)).trans ((cell_set_ne _ _ _ _ _ (by decide)).trans (h.c4)))
  · exact World.cell?_setCell_same _ _ _ ((cell_set_ne _ _ _ _ _ (by decide)).trans ((cell_set_ne _ _ _ _ _ (by decide)).trans ((cell_set_ne _ _ _ _ _ (by decide)).trans (h.c5))))
  · rw [cell_set_ne _ _ _ _ _ (by decide), cell_set_ne _ _ _ _ _ (by decide), cell_set_ne _ _ _ _ _ (by decide), cell_set_ne _ _ _ _ _ (by decide)]; exact h.c6
  · rw [cell_set_ne _ _ _ _ _ (by decide), cell_set_ne _ _ _ _ _ (by decide), cell_set_ne _ _ _ _ _ (by decide), cell_set_ne _ _ _ _ _ (by decide)]; exact h.c7
  · rw [cell_set_ne _ _ _ _ _ (by decide), cell_set_ne _ _ _ _ _ (by decide), cell_set_ne _ _ _ _ _ (by decide), cell_set_ne _ _ _ _ _ (by decide)]; exact h.c8
theorem rofP_ok {r : Pq × Nat} {q : Pq} {w w' : World} {u : Value} (h : Hid (r = (q, 0))) (hr : w'.ownsRow w.heap.size 52 2 u q.ps.length (pixCells q.ps)) (hb : Below w.heap.size w w') : ROwP r w (.returned (.tuple #[.agg #[.int .i64 q.kind, .int .i64 q.id, .int .i64 q.a, .int .i64 q.b, .int .i64 q.c, .int .i64 q.d, .int .i64 q.pw, .int .i64 q.ph, u], .int .i64 0])) w' := by
  rw [h.out]
  exact ⟨u, rfl, hr, hb⟩
theorem td1 (l : List UInt8) (N i : Nat) (h : 1 + i < N) : ((l.take N).drop 1).getD i 0 = l.getD (1 + i) 0 := by
  rw [List.getD_eq_getElem?_getD, List.getD_eq_getElem?_getD, List.getElem?_drop, List.getElem?_take, if_pos h]
theorem td0 (l : List UInt8) (N i : Nat) (h : i < N) : (l.take N).getD i 0 = l.getD i 0 := by
  rw [List.getD_eq_getElem?_getD, List.getD_eq_getElem?_getD, List.getElem?_take, if_pos h]
end Go.Proofs.YtceabiodelfdoaaGreatDoor
/- Walk: the reference's BookOf. -- s1 -/
namespace Go.Proofs.YtceabiodelfdoaaGreatDoor
open Go.RowKit

/-- what is read of a book's bytes -/
def RBoP (r : List Pq × Nat) (w : World) (e : Ending) (w' : World) : Prop := ∃ v, e = .returned (.tuple #[v, .int .i64 (r.2 : Nat)]) ∧ RdQ w' v r.1 ∧ Below w.heap.size w w'
theorem rdQ_nil2 (w : World) : RdQ w (.slice none 0 0) [] := ⟨none, 0, rfl, by simp, by omega, fun h => absurd rfl h⟩
theorem rbo_err {r : List Pq × Nat} {c : Nat} {w w' : World} (h : Hid (r = ([], c))) (hb : Below w.heap.size w w') : RBoP r w (.returned (.tuple #[.slice none 0 0, .int .i64 (c : Int)])) w' := by
  rw [h.out]; exact ⟨_, rfl, rdQ_nil2 _, hb⟩
theorem own_someC {w : World} {B : Nat} {v : Value} {n : Nat} {xs : List Value} {e : TypeId} {size : Nat} (h : w.ownsRow B e size v n xs) (hn : 0 < n) : ∃ g cap, v = .slice (some ⟨g, 0, none⟩) n cap := by
  rcases h.2 with ⟨h1, h0⟩ | ⟨g, cap, cur, h1, _⟩
  · omega
  · exact ⟨g, cap, h1⟩
theorem first_err2 {l : List UInt8} {m c : Nat} (h : Fb.measureL l = (m, c)) (hc : c ≠ 0) : Fb.firstL l = ([], [], [], c) := by
  unfold Fb.firstL; rw [h]; rw [if_neg hc]
theorem comb_err (rs : List (List UInt8 × List UInt8)) (c : Nat) (hc : c ≠ 0) : Fb.comb rs ([], c) = ([], c) := by unfold Fb.comb; rw [if_pos hc]
theorem comb_done (rs : List (List UInt8 × List UInt8)) : Fb.comb rs ([], 0) = (rs, 0) := by unfold Fb.comb; rw [if_neg (by simp)]; simp
theorem finQ_len2 (q : Pq) (h : q.ps.length ≤ 64) : (finQ q).1.ps.length ≤ 64 := by
  unfold finQ
  split
  · exact h
  · simp [q00]
theorem parQ_len2 (nm dt : ByteArray) : (parQ nm dt).1.ps.length ≤ 64 := by
  unfold parQ
  split
  · simp [q00]
  · split
    · simp [q00]
    · split
      · split
        · exact finQ_len2 _ (parse_lenP _ _ _ _ _ rfl)
        · simp [q00]
      · exact finQ_len2 _ (by simp [readQ])
end Go.Proofs.YtceabiodelfdoaaGreatDoor
/- Walk of chunk.All. -/
namespace Go.Proofs.YtceabiodelfdoaaGreatDoor
open Go.RowKit

theorem Tryz.infoChunk : (Tryz.prog.info? 37).map (fun i => (i.zero, i.size, i.bytes)) = some (some (.agg #[.string ⟨#[]⟩, .string ⟨#[]⟩]), 2, 32) := by kernel_rfl

/-- the cells of chunks -/
def chunkCells : List (List UInt8 × List UInt8) → List Value
  | [] => []
  | (n, d) :: r => str n :: str d :: chunkCells r

set_option maxRecDepth 100000 in
theorem chunkCells_append (a b : List (List UInt8 × List UInt8)) : chunkCells (a ++ b) = chunkCells a ++ chunkCells b := by
  induction a with
  | nil => rfl
  | cons p a ih => obtain ⟨n, d⟩ := p; simp [chunkCells, ih]

set_option maxRecDepth 100000 in
theorem two_strs (w : World) (T : TypeId) (x y : ByteArray) : ∀ j u, [Value.string x, .string y][j]? = some u → (w.alloc (.cells #[.string x, .string y] T)).cell? ((⟨w.heap.size, 0, none⟩ : Addr).add j) = some u := by
  intro j u hj
  match j, hj with
  | 0, hj => simp at hj; subst hj; simp [Addr.add]
  | 1, hj => simp at hj; subst hj; simp [Addr.add]
  | j + 2, hj => simp at hj
set_option maxRecDepth 100000 in
theorem two_strs_one (x y : ByteArray) : ∀ u ∈ [Value.string x, .string y], u.oneCell' = true := by
  intro u hu; simp at hu; rcases hu with rfl | rfl <;> rfl

set_option maxRecDepth 100000 in
theorem grown_below {W W' : World} (h : Below W.heap.size W W') : W.grownBy W' none := ⟨h.os, h.tape, h.output, h.size, fun k hk _ => h.block k hk⟩
set_option maxRecDepth 100000 in
theorem own_on {W W' : World} {B : Nat} {e : TypeId} {size : Nat} {v : Value} {n : Nat} {xs : List Value} (h : W.ownsRow B e size v n xs) (hb : Below W.heap.size W W') : W'.ownsRow B e size v n xs :=
  h.kept (grown_below hb) (by cases hv : v.ownBlock <;> simp)

set_option maxHeartbeats 4000000 in
set_option maxRecDepth 100000 in
theorem all_any (s : ByteArray) (most : Int) (w : World) (hs : s.size ≤ 1000000) (hm0 : -9223372036854775808 ≤ most) (hm1 : most ≤ 9223372036854775807) (cs : List (List UInt8 × List UInt8)) (c : Nat) (HZ : Hid (Fb.allOf most s.data.toList 0 = (cs, c))) :
    Calls Tryz.prog 22 #[.string s, .int .i64 most] w fun e w' => ∃ v, e = .returned (.tuple #[v, errV c]) ∧ w'.ownsRow w.heap.size 37 2 v cs.length (chunkCells cs) ∧ Below w.heap.size w w' := by
  obtain ⟨i0, hi, hz0, hz1, hz2⟩ := info_parts Tryz.infoChunk
  go_enter Tryz.func22, Tryz.ntmps22
  go_wp2
  go_loopw [0, 6] (fun x v wr => ∃ (t : ByteArray) (rs : List (List UInt8 × List UInt8)), x = .string t ∧ t.size + 8 * rs.length ≤ 1000000 ∧ wr.ownsRow w.heap.size 37 2 v rs.length (chunkCells rs) ∧ Below w.heap.size w wr ∧ Hid ((cs, c) = Fb.comb rs (Fb.allOf most t.data.toList rs.length))) (fun x _ _ => match x with | .string t => t.size | _ => 0)
  case atStart => exact ⟨s, [], rfl, by simpa using hs, World.ownsRow_nil _ _ _ _, Below.refl _ _, by unfold Hid; rw [← HZ.out]; exact (Fb.comb_nil _ _ _).symm⟩
  case round =>
    obtain ⟨t, rs, rfl, hsz, hown, hb, HK⟩ := hrel
    have HL : Hid (t.data.toList.length = t.size) := by unfold Hid; simp
    obtain ⟨ao, cp, hv⟩ := own_any hown
    by_cases hpos : 0 < t.size
    · have HNE : Hid (t.data.toList ≠ []) := by unfold Hid; intro e; have := HL.out; rw [e] at this; simp at this; omega
      by_cases hmany : most ≤ rs.length
      · have HC : Hid ((cs, c) = ([], 2)) := by unfold Hid; rw [HK.out, Fb.allOf_many _ _ _ HNE.out hmany]; rfl
        rw [hv]
        go_wp2_with fail
        go_ret2
        have e1 : cs = [] := congrArg Prod.fst HC.out
        have e2 : c = 2 := congrArg Prod.snd HC.out
        subst e1 e2
        exact ⟨_, rfl, World.ownsRow_nil _ _ _ _, hb⟩
      · obtain ⟨z, HM⟩ : ∃ z, Hid (Fb.measureL t.data.toList = z) := ⟨_, (rfl : _ = _)⟩
        obtain ⟨n, mc⟩ := z
        by_cases hmc : mc = 0
        · subst hmc
          have hfit := measure_fit HM.out
          rw [HL.out] at hfit
          obtain ⟨hn8, hns⟩ := hfit
          obtain ⟨x, HX⟩ : ∃ x, Hid ((t.extract 0 n).extract 0 4 = x) := ⟨_, (rfl : _ = _)⟩
          obtain ⟨y, HY⟩ : ∃ x, Hid ((t.extract 0 n).extract 6 (n - 2) = x) := ⟨_, (rfl : _ = _)⟩
          have HXS : Hid (str (t.data.toList.take 4) = .string x) := by
            unfold Hid
            rw [← HX.out, ← str_ext (t.extract 0 n) 0 4, ext_data]
            simp only [List.drop_zero, Nat.sub_zero, List.take_take]
            rw [Nat.min_eq_left (by omega)]
          have HYS : Hid (str (((t.data.toList.take n).drop 6).take (n - 8)) = .string y) := by
            unfold Hid
            rw [← HY.out, ← str_ext (t.extract 0 n) 6 (n - 2), ext_data]
            simp only [List.drop_zero, Nat.sub_zero]
            rw [show n - 2 - 6 = n - 8 by omega]
          obtain ⟨p, HP⟩ : ∃ p, Hid ((t.data.toList.take 4, ((t.data.toList.take n).drop 6).take (n - 8)) = p) := ⟨_, (rfl : _ = _)⟩
          have HN : Hid ((cs, c) = Fb.comb (rs ++ [p]) (Fb.allOf most (t.data.toList.drop n) (rs ++ [p]).length)) := by
            unfold Hid
            rw [HK.out, Fb.allOf_step _ _ _ HNE.out hmany (by rw [HM.out]), HM.out, Fb.comb_comb, ← HP.out]
            simp
          have HPC : Hid (chunkCells (rs ++ [p]) = chunkCells rs ++ [.string x, .string y]) := by
            unfold Hid; rw [chunkCells_append, ← HP.out]; unfold chunkCells; rw [HXS.out, HYS.out]; rfl
          have hxx := ext_size t (show t.size ≤ 1000000 by omega)
          have hx0 : (t.extract 0 n).size = n := by rw [ByteArray.size_extract]; omega
          have HOP : Hid (∀ W, Calls Tryz.prog 30 #[.string (t.extract 0 n)] W fun e w' => e = .returned (.agg #[.string x, .string y]) ∧ Below W.heap.size W w') := by
            unfold Hid
            intro W
            have := open_any (t.extract 0 n) W (hxx _ _) (by omega)
            rw [hx0, HX.out, HY.out] at this
            exact this
          clear hx0 hxx
          have HTE : Hid ((t.extract n t.size).data.toList = t.data.toList.drop n) := by
            unfold Hid; rw [ext_data, List.take_of_length_le (by rw [List.length_drop, HL.out]; omega)]
          have HTS : Hid ((t.extract n t.size).size = t.size - n) := by unfold Hid; rw [ByteArray.size_extract]; omega
          have hi1 : (n : Int) ≤ (t.size : Int) := by omega
          rw [hv] at hown
          rw [hv]
          go_wp2_with fail
          refine (measure_at t _ (by omega) n 0 .nilIface HM rfl).mono ?_
          rintro e w1 ⟨rfl, hb1⟩
          have hown1 := own_on hown hb1
          have hbb1 : Below w.heap.size w w1 := hb.trans (hb1.mono hb.size)
          go_wp2_with fail
          refine (HOP.out _).mono ?_
          rintro e w2 ⟨rfl, hb2⟩
          have hown2 := own_on hown1 hb2
          have hbb2 : Below w.heap.size w w2 := hbb1.trans (hb2.mono hbb1.size)
          go_wp2_with (at_builtin; refine wpList_append_own _ rfl _ _ 66 rfl w.heap.size 37 i0 (.agg #[.string ⟨#[]⟩, .string ⟨#[]⟩]) 2 32 Tryz.underlying66 hi hz0 hz1 hz2 rfl (by decide) _ _ _ rfl (hown2.alloc _) ⟨w2.heap.size, 0, none⟩ 1 1 [.string x, .string y] rfl rfl ?c1 ?c2 ?c3 ?c4 ?c5 ?_)
          case c1 => exact two_strs _ _ _ _
          case c2 => exact two_strs_one _ _
          case c3 => unfold maxLen; omega
          case c4 => omega
          case c5 => have := hbb2.size; simp; omega
          · intro v' w3 hown' hgrow _
            have hb3 : Below w.heap.size w w3 := below_app hbb2 hown2 hgrow
            have hown3 : w3.ownsRow w.heap.size 37 2 v' (rs ++ [p]).length (chunkCells (rs ++ [p])) := by
              rw [HPC.out]; simpa using hown'
            clear hown' hgrow
            go_wp2
            go_roundw
            case rel => exact ⟨t.extract n t.size, rs ++ [p], rfl, by rw [HTS.out]; simp; omega, hown3, hb3, by unfold Hid; rw [HTE.out]; exact HN.out⟩
            case measure => simp only []; rw [HTS.out]; omega
        · have HE : Hid (errV mc = .iface 62 (.int .i64 (mc : Int))) := by unfold Hid errV; rw [if_neg hmc]
          have HC : Hid ((cs, c) = ([], mc)) := by
            unfold Hid; rw [HK.out, Fb.allOf_err _ _ _ HNE.out hmany (by rw [HM.out]; exact hmc), HM.out]; unfold Fb.comb; rw [if_pos hmc]
          rw [hv]
          go_wp2_with fail
          refine (measure_at t _ (by omega) n mc _ HM HE).mono ?_
          rintro e w1 ⟨rfl, hb1⟩
          go_wp2_with fail
          go_ret2
          have e1 : cs = [] := congrArg Prod.fst HC.out
          have e2 : c = mc := congrArg Prod.snd HC.out
          subst e1 e2
          exact ⟨_, by rw [HE.out]; rfl, World.ownsRow_nil _ _ _ _, hb.trans (hb1.mono hb.size)⟩
    · have hl0 : t.data.toList = [] := List.eq_nil_of_length_eq_zero (by rw [HL.out]; omega)
      have HC : Hid ((cs, c) = (rs, 0)) := by unfold Hid; rw [HK.out, hl0, Fb.allOf_nil]; simp [Fb.comb]
      clear hl0
      go_wp2_with fail
      go_ret2
      have e1 : cs = rs := congrArg Prod.fst HC.out
      have e2 : c = 0 := congrArg Prod.snd HC.out
      subst e1 e2
      exact ⟨_, rfl, hown, hb⟩
end Go.Proofs.YtceabiodelfdoaaGreatDoor
/- Walk of the law TopAll. -/
namespace Go.Proofs.YtceabiodelfdoaaGreatDoor
open Go.RowKit

/-- a list of texts that came in: nil, or a row of texts -/
def IsStrs (w : World) (a : Option Addr) (len cap : Nat) (ss : List ByteArray) : Prop :=
  (a = none ∧ len = 0 ∧ cap = 0 ∧ ss = []) ∨
  ∃ x : Addr, a = some x ∧ len ≤ cap ∧ cap ≤ maxLen ∧ ss.length = cap ∧ (∀ i, i < ss.length → w.cell? (x.add i) = some (.string (ss.getD i ByteArray.empty))) ∧ (∀ s ∈ ss, s.size ≤ maxLen)

set_option maxRecDepth 100000 in
theorem strs_at {w : World} {a : Option Addr} {len cap : Nat} {ss : List ByteArray} (H : IsStrs w a len cap ss) (h : 0 < len) :
    ∃ b off, a = some ⟨b, off, none⟩ ∧ b < w.heap.size ∧ (∀ i, i < len → w.cell? ⟨b, off + i, none⟩ = some (.string (ss.getD i ByteArray.empty))) ∧ (∀ i, (ss.getD i ByteArray.empty).size ≤ 9223372036854775807) := by
  rcases H with ⟨_, h0, _⟩ | ⟨x, ha, hl, hm, hs, hc, hz⟩
  · omega
  · obtain ⟨b, off, spot⟩ := x
    have h0 := hc 0 (by omega)
    have hspot : spot = none := by simpa [Addr.add] using World.cell?_spot h0
    subst hspot
    have hlt := World.block_lt_of_cell? w _ h0
    have hadd : ∀ i, (⟨b, off, none⟩ : Addr).add i = ⟨b, off + i, none⟩ := fun i => by unfold Addr.add; split <;> simp_all
    refine ⟨b, off, ha, by simpa [Addr.add] using hlt, fun i hi => by rw [← hadd]; exact hc i (by omega), fun i => ?_⟩
    rw [List.getD_eq_getElem?_getD]
    by_cases hi : i < ss.length
    · rw [List.getElem?_eq_getElem hi]
      have := hz ss[i] (List.getElem_mem hi)
      unfold maxLen at this
      simp only [Option.getD_some]
      omega
    · rw [List.getElem?_eq_none (by omega)]; decide

set_option maxRecDepth 100000 in
theorem strs_len {w : World} {a : Option Addr} {len cap : Nat} {ss : List ByteArray} (H : IsStrs w a len cap ss) : len ≤ 9223372036854775807 := by
  rcases H with ⟨_, h0, _⟩ | ⟨x, ha, hl, hm, _⟩
  · omega
  · unfold maxLen at hm; omega

set_option maxRecDepth 100000 in
theorem catL_snoc (cs : List (List UInt8 × List UInt8)) (n d : List UInt8) : Fb.catL (cs ++ [(n, d)]) = Fb.catL cs ++ Fb.sealL (Fb.headL n d) := by
  induction cs with
  | nil => simp [Fb.catL]
  | cons p r ih => obtain ⟨a, b⟩ := p; simp [Fb.catL, ih]

set_option maxRecDepth 100000 in
theorem cells_at (cs : List (List UInt8 × List UInt8)) (n d : List UInt8) : ∀ k, cs[k]? = some (n, d) → (chunkCells cs)[k * 2]? = some (str n) ∧ (chunkCells cs)[k * 2 + 1]? = some (str d) := by
  induction cs with
  | nil => intro k h; simp at h
  | cons p r ih =>
    intro k h
    obtain ⟨a, b⟩ := p
    cases k with
    | zero => simp at h; obtain ⟨rfl, rfl⟩ := h; simp [chunkCells]
    | succ k =>
      simp at h
      have := ih k h
      rw [show (k + 1) * 2 = k * 2 + 2 by omega]
      simpa [chunkCells] using this

set_option maxRecDepth 100000 in
theorem cat_len (cs : List (List UInt8 × List UInt8)) (h : ∀ p ∈ cs, Fb.nameB p.1 = true ∧ p.2.length ≤ 100) : (Fb.catL cs).length ≤ 108 * cs.length := by
  induction cs with
  | nil => simp [Fb.catL]
  | cons p r ih =>
    obtain ⟨a, b⟩ := p
    have h1 := ih (fun q hq => h q (by simp [hq]))
    have h2 := h (a, b) (by simp)
    simp only [Fb.catL, List.length_append, List.length_cons]
    rw [Fb.sealL_len, Fb.headL_len _ _ (Fb.nameB_len h2.1)]
    have := h2.2
    simp only at this
    omega

set_option maxRecDepth 100000 in
theorem all_at (s : ByteArray) (most : Int) (w : World) (hs : s.size ≤ 1000000) (hm0 : -9223372036854775808 ≤ most) (hm1 : most ≤ 9223372036854775807) (cs : List (List UInt8 × List UInt8)) (c : Nat) (u : Value) (HZ : Hid (Fb.allOf most s.data.toList 0 = (cs, c))) (HU : Hid (errV c = u)) :
    Calls Tryz.prog 22 #[.string s, .int .i64 most] w fun e w' => ∃ v, e = .returned (.tuple #[v, u]) ∧ w'.ownsRow w.heap.size 37 2 v cs.length (chunkCells cs) ∧ Below w.heap.size w w' := by
  rw [← HU.out]; exact all_any s most w hs hm0 hm1 cs c HZ

end Go.Proofs.YtceabiodelfdoaaGreatDoor
/- Walk: book.Parse. -- s1 -/
namespace Go.Proofs.YtceabiodelfdoaaGreatDoor
open Go.RowKit

def PBoP (r : List Pq × Nat) (w : World) (e : Ending) (w' : World) : Prop := ∃ v, e = .returned (.tuple #[v, errV r.2]) ∧ RdQ w' v r.1 ∧ Below w.heap.size w w'
theorem pbo_err {r : List Pq × Nat} {c : Nat} {w w' : World} (h : Hid (r = ([], c))) (hb : Below w.heap.size w w') (ev : Value) (he : errV c = ev) : PBoP r w (.returned (.tuple #[.slice none 0 0, ev])) w' := by
  rw [h.out, ← he]; exact ⟨_, rfl, rdQ_nil2 _, hb⟩
theorem err_v {c : Nat} (h : c ≠ 0) : errV c = .iface 62 (.int .i64 (c : Int)) := by unfold errV; rw [if_neg h]
theorem allOf_ok : ∀ (m : Nat) (l : List UInt8) (k : Nat), l.length ≤ m → k ≤ 120 → (Fb.allOf 120 l k).2 = 0 → (Fb.allOf 120 l k).1.length + k ≤ 120 ∧ ∀ p ∈ (Fb.allOf 120 l k).1, p.1.length = 4 ∧ p.2.length ≤ l.length := by
  intro m
  induction m with
  | zero =>
    intro l k hl hk h
    have : l = [] := List.eq_nil_of_length_eq_zero (by omega)
    subst this
    rw [Fb.allOf_nil]
    exact ⟨by simpa using hk, by simp⟩
  | succ m ih =>
    intro l k hl hk h
    by_cases hn : l = []
    · subst hn; rw [Fb.allOf_nil]; exact ⟨by simpa using hk, by simp⟩
    by_cases hm : (120 : Int) ≤ (k : Int)
    · rw [Fb.allOf_many 120 l k hn hm] at h; simp at h
    by_cases he : (Fb.measureL l).2 = 0
    case neg => rw [Fb.allOf_err 120 l k hn hm he] at h; exact absurd h he
    obtain ⟨h8, hle⟩ := Fb.measure_pos he
    rw [Fb.allOf_step 120 l k hn hm he] at h ⊢
    unfold Fb.comb at h ⊢
    by_cases hz : (Fb.allOf 120 (l.drop (Fb.measureL l).1) (k + 1)).2 = 0
    case neg => rw [if_pos hz] at h; exact absurd h hz
    rw [if_neg (fun h => h hz)]
    obtain ⟨h1, h2⟩ := ih (l.drop (Fb.measureL l).1) (k + 1) (by rw [List.length_drop]; omega) (by omega) hz
    refine ⟨by simp only [List.length_append, List.length_singleton]; omega, ?_⟩
    intro p hp
    rcases List.mem_append.1 hp with hp | hp
    · have hp := List.mem_singleton.1 hp
      subst hp
      simp only [List.length_take, List.length_drop]
      omega
    · have := h2 p hp
      rw [List.length_drop] at this
      omega
set_option maxHeartbeats 16000000 in
set_option maxRecDepth 100000 in
theorem bookParse_any (s : ByteArray) (w : World) (HS : Hid (Shapes w)) (h1 : 0 < w.heap.size) (hs : s.size ≤ 1000000) :
    Calls Tryz.prog 10 #[.string s] w fun e w' => PBoP (bookOf s.data.toList) w e w' := by
  obtain ⟨r, HRR⟩ : ∃ r, Hid (bookOf s.data.toList = r) := ⟨_, (rfl : _ = _)⟩
  rw [HRR.out]
  have HL : Hid (s.data.toList.length = s.size) := by unfold Hid; simp
  by_cases h4 : 4000 < s.size
  · have h4i : (4000 : Int) < (s.size : Int) := by omega
    have HR : Hid (r = ([], 2)) := by unfold Hid; rw [← HRR.out]; unfold bookOf; rw [if_pos (by rw [HL.out]; exact h4)]
    go_enter Tryz.func10, Tryz.ntmps10
    go_wp2_with fail
    refine bodyPost_ret (v := .tuple #[.slice none 0 0, .iface 62 (.int .i64 2)]) (by simp [results, Tryz.results10, go_sem]) rfl (pbo_err HR (Below.refl _ _) _ rfl)
  have h4i : ¬ (4000 : Int) < (s.size : Int) := by omega
  obtain ⟨z, HZ⟩ : ∃ z, Hid (Fb.allOf 120 s.data.toList 0 = z) := ⟨_, (rfl : _ = _)⟩
  obtain ⟨cs, c1⟩ := z
  have HR0 : Hid (r = if c1 ≠ 0 then ([], c1) else if (parB cs []).2 ≠ 0 then ([], (parB cs []).2) else if bkC (parB cs []).1 ≠ 0 then ([], bkC (parB cs []).1) else ((parB cs []).1, 0)) := by
    unfold Hid; rw [← HRR.out]; unfold bookOf; rw [if_neg (by rw [HL.out]; exact h4), HZ.out]
  have hall := all_any s 120 w hs (by decide) (by decide) cs c1 HZ
  by_cases hc1 : c1 = 0
  case neg =>
    rw [err_v hc1] at hall
    have HR : Hid (r = ([], c1)) := by unfold Hid; rw [HR0.out, if_pos hc1]
    have HA := hid_of3 hall
    clear hall
    go_enter Tryz.func10, Tryz.ntmps10
    go_wp2_with fail
    refine HA.out.mono ?_
    rintro e w1 ⟨v, rfl, ho, hb1⟩
    clear HA
    go_wp2_with fail
    refine bodyPost_ret (v := .tuple #[.slice none 0 0, .iface 62 (.int .i64 (c1 : Int))]) (by simp [results, Tryz.results10, go_sem]) rfl (pbo_err HR hb1 _ (err_v hc1))
  subst hc1
  rw [show errV 0 = Value.nilIface from rfl] at hall
  have hok := allOf_ok _ s.data.toList 0 (Nat.le_refl _) (by omega) (by rw [HZ.out])
  rw [HZ.out] at hok
  simp only [HL.out] at hok
  obtain ⟨R, HRL⟩ : ∃ R, Hid (cs.length = R) := ⟨_, (rfl : _ = _)⟩
  have hR : R ≤ 120 := by have := hok.1; have := HRL.out; omega
  have HP : Hid (∀ p ∈ cs, p.1.length = 4 ∧ p.2.length ≤ 4000) := fun p hp => by have := hok.2 p hp; omega
  have HR1 : Hid (r = if (parB cs []).2 ≠ 0 then ([], (parB cs []).2) else if bkC (parB cs []).1 ≠ 0 then ([], bkC (parB cs []).1) else ((parB cs []).1, 0)) := by
    unfold Hid; rw [HR0.out, if_neg (by simp)]
  have HA := hid_of3 hall
  clear hall hok
  go_enter Tryz.func10, Tryz.ntmps10
  go_wp2_with fail
  refine HA.out.mono ?_
  rintro e w1 ⟨v, rfl, ho, hb1⟩
  clear HA
  have HO := hid_of3 ho
  obtain ⟨ca, cc, hv⟩ := own_any ho
  rw [HRL.out] at hv
  subst hv
  clear ho
  have hb1s := hb1.size
  go_wp2_with fail
  go_loopw [6, 26] (fun lv i w2 => ∃ (k : Nat) (qv : List (Pq × Value)), k ≤ R ∧ i = .int .i64 k ∧ Hid (OwnQ w2 w1.heap.size lv qv) ∧ qv.length ≤ k ∧ Hid (parB (cs.drop k) (qv.map Prod.fst) = parB cs []) ∧ Hid (∀ p ∈ qv, p.1.ps.length ≤ 64) ∧ Below w1.heap.size w1 w2) (fun _ i _ => R - (intOf i).toNat)
  case atStart => exact ⟨0, [], by omega, rfl, ⟨World.ownsRow_nil _ _ _ _, by simp⟩, by simp, rfl, by unfold Hid; simp, Below.refl _ _⟩
  case round =>
    obtain ⟨w2, rfl⟩ : ∃ x, x = wr := ⟨_, rfl⟩
    obtain ⟨k, qv, hk, rfl, HQ, hql, HPB, HPL, hb2⟩ := hrel
    obtain ⟨la, lc, hlv⟩ := own_any HQ.out.1
    obtain ⟨qn, HQN⟩ : ∃ n, Hid (qv.length = n) := ⟨_, (rfl : _ = _)⟩
    rw [HQN.out] at hlv
    subst hlv
    have hb2s := hb2.size
    have h12 : 0 < w2.heap.size := by omega
    have hbw2 : Below w.heap.size w w2 := hb1.trans (hb2.mono hb1.size)
    have HS2 : Hid (Shapes w2) := HS.out.on h1 hbw2
    by_cases hlt : k < R
    case neg =>
      have hki : ¬ (k : Int) < (R : Int) := by omega
      obtain rfl : R = k := by omega
      have HE : Hid (parB cs [] = (qv.map Prod.fst, 0)) := by
        unfold Hid
        rw [← HPB.out, List.drop_of_length_le (by rw [HRL.out]; exact Nat.le_refl _)]
        rfl
      obtain ⟨cb, HCB⟩ : ∃ c, Hid (bkC (qv.map Prod.fst) = c) := ⟨_, (rfl : _ = _)⟩
      have HR : Hid (r = if cb ≠ 0 then ([], cb) else (qv.map Prod.fst, 0)) := by
        unfold Hid
        rw [HR1.out, HE.out, if_neg (by simp), HCB.out]
      have HRQ : Hid (RdQ w2 (.slice la qn lc) (qv.map Prod.fst)) := HQ.out.rd
      have hlq : (qv.map Prod.fst).length ≤ 1000 := by rw [List.length_map]; omega
      have hpq : ∀ j, j < (qv.map Prod.fst).length → ((qv.map Prod.fst).getD j pq0).ps.length ≤ 1000 := fun j hj => by
        have hm : (qv.map Prod.fst).getD j pq0 ∈ qv.map Prod.fst := by
          rw [List.getD_eq_getElem?_getD, List.getElem?_eq_getElem hj]
          exact List.getElem_mem hj
        obtain ⟨p, hp, he⟩ := List.mem_map.1 hm
        have := HPL.out p hp
        rw [← he]
        omega
      have hbf := bookCheck_any _ _ w2 HS2 h12 HRQ hpq hlq cb HCB
      clear hlq hpq
      by_cases hcb : cb = 0
      · subst hcb
        rw [if_neg (by simp)] at HR
        rw [show errV 0 = Value.nilIface from rfl] at hbf
        have HBF := hid_of3 hbf
        clear hbf
        go_wp2_with fail
        refine HBF.out.mono ?_
        rintro e w3 ⟨rfl, hb3⟩
        clear HBF
        go_wp2_with fail
        refine bodyPost_ret (v := .tuple #[.slice la qn lc, .nilIface]) (by simp [results, Tryz.results10, go_sem]) rfl ?_
        rw [HR.out]
        exact ⟨_, rfl, (HQ.out.on hb3).rd, hbw2.trans (hb3.mono hbw2.size)⟩
      rw [if_pos hcb] at HR
      rw [err_v hcb] at hbf
      have HBF := hid_of3 hbf
      clear hbf
      go_wp2_with fail
      refine HBF.out.mono ?_
      rintro e w3 ⟨rfl, hb3⟩
      clear HBF
      go_wp2_with fail
      refine bodyPost_ret (v := .tuple #[.slice none 0 0, .iface 62 (.int .i64 (cb : Int))]) (by simp [results, Tryz.results10, go_sem]) rfl (pbo_err HR (hbw2.trans (hb3.mono hbw2.size)) _ (err_v hcb))
    have hki : (k : Int) < (R : Int) := by omega
    have hki0 : (0 : Int) ≤ (k : Int) := by omega
    have HO2 := HO.out
    rw [HRL.out] at HO2
    obtain ⟨g, cg, hga⟩ := own_someC HO2 (by omega)
    simp only [Value.slice.injEq] at hga
    obtain ⟨rfl, -, rfl⟩ := hga
    have hkl : k < cs.length := by rw [HRL.out]; exact hlt
    obtain ⟨p, HPX⟩ : ∃ p, Hid (cs[k]'hkl = p) := ⟨_, (rfl : _ = _)⟩
    obtain ⟨pn, pd⟩ := p
    have hpm := HP.out (pn, pd) (by rw [← HPX.out]; exact List.getElem_mem hkl)
    simp only at hpm
    obtain ⟨nb, HNB⟩ := bytes_of pn
    obtain ⟨db, HDB⟩ := bytes_of pd
    have hns : nb.size = 4 := by rw [size_of HNB]; exact hpm.1
    have hds : db.size ≤ 4000 := by rw [size_of HDB]; exact hpm.2
    have hca := cells_at cs pn pd k (by rw [List.getElem?_eq_getElem hkl, HPX.out])
    have en : w1.cell? ⟨g, k * 2, none⟩ = some (.string nb) := by
      rw [HO2.cellAt (k * 2) (by omega), hca.1, HNB.out, str_self]
    have ed : w1.cell? ⟨g, k * 2 + 1, none⟩ = some (.string db) := by
      rw [HO2.cellAt (k * 2 + 1) (by omega), hca.2, HDB.out, str_self]
    have hgn : g < w1.heap.size := World.block_lt_of_cell? w1 ⟨g, k * 2, none⟩ en
    have en2 : w2.cell? ⟨g, k * 2, none⟩ = some (.string nb) := (hb2.cell (p := ⟨g, k * 2, none⟩) hgn).trans en
    have ed2 : w2.cell? ⟨g, k * 2 + 1, none⟩ = some (.string db) := (hb2.cell (p := ⟨g, k * 2 + 1, none⟩) hgn).trans ed
    have HDR : Hid (cs.drop k = (pn, pd) :: cs.drop (k + 1)) := by unfold Hid; rw [List.drop_eq_getElem_cons hkl, HPX.out]
    obtain ⟨b, HB⟩ : ∃ b, Hid (decide ((nb.data.toList.getD 0 0).toNat = 88) = b) := ⟨_, (rfl : _ = _)⟩
    have HPS : Hid (passB pn = b) := by unfold Hid passB; rw [HNB.out]; exact HB.out
    clear hca HO2
    obtain ⟨X0, HX0⟩ : ∃ X, Hid (w2.alloc (.cells #[.string nb, .string db] 37) = X) := ⟨_, (rfl : _ = _)⟩
    have hbx : Below w2.heap.size w2 X0 := by rw [← HX0.out]; exact (Below.refl _ _).alloc (Nat.le_refl _) _
    have T0 := hid_of3 (show Two X0 w2.heap.size (.string nb) (.string db) by rw [← HX0.out]; exact two_startB w2 _ _ 37 w2.heap.size rfl)
    have HHX := hid_of3 (hasX_any nb X0 (by omega) (by omega) b HB)
    go_wp2_with fail
    rw [HX0.out]
    refine HHX.out.mono ?_
    rintro e w3 ⟨rfl, hb3⟩
    clear HHX
    have T3 := T0.out.on hb3
    have q0 := T3.c0
    have q1 := T3.c1
    have hbx3 : Below w2.heap.size w2 w3 := hbx.trans (hb3.mono hbx.size)
    cases hb : b with
    | true =>
      subst hb
      have HPB2 : Hid (parB (cs.drop (k + 1)) (qv.map Prod.fst) = parB cs []) := by
        unfold Hid
        rw [← HPB.out, HDR.out]
        conv => rhs; unfold parB
        rw [if_pos HPS.out]
      go_wp2_with fail
      go_roundw
      case rel => exact ⟨k + 1, qv, by omega, by go_num, HQ.out.on hbx3, by omega, HPB2, HPL, hb2.trans (hbx3.mono hb2.size)⟩
      case measure => simp [intOf]; omega
    | false =>
      subst hb
      obtain ⟨z, HPQ⟩ : ∃ z, Hid (parQ nb db = z) := ⟨_, (rfl : _ = _)⟩
      obtain ⟨q, c⟩ := z
      have HPQ2 : Hid (parQ ⟨pn.toArray⟩ ⟨pd.toArray⟩ = (q, c)) := by
        unfold Hid
        rw [← HPQ.out]
        congr 1
        · rw [HNB.out]
        · rw [HDB.out]
      have HQL : Hid (q.ps.length ≤ 64) := by have h := parQ_len2 nb db; rw [HPQ.out] at h; exact h
      have hpo := parseOp_own nb db w3 (HS2.out.on h12 hbx3) (Nat.lt_of_lt_of_le h12 hbx3.size) (by omega)
      rw [HPQ.out] at hpo
      unfold PaOP at hpo
      have HPO := hid_of3 hpo
      clear hpo
      go_wp2_with fail
      refine HPO.out.mono ?_
      rintro e w4 ⟨u, rfl, hu, hb4⟩
      clear HPO
      obtain ⟨ua, uc, hue⟩ := own_any hu
      obtain ⟨um, HUM⟩ : ∃ n, Hid (q.ps.length = n) := ⟨_, (rfl : _ = _)⟩
      rw [HUM.out] at hue
      subst hue
      simp only [opV]
      have HU4 := hid_of3 hu
      clear hu
      have hb24 : Below w2.heap.size w2 w4 := hbx3.trans (hb4.mono hbx3.size)
      have hbw4 : Below w.heap.size w w4 := hbw2.trans (hb24.mono hbw2.size)
      by_cases hc : c = 0
      · subst hc
        rw [show errV 0 = Value.nilIface from rfl]
        have hxa : Below w4.heap.size w4 (w4.alloc (.cells #[.int .i64 q.kind, .int .i64 q.id, .int .i64 q.a, .int .i64 q.b, .int .i64 q.c, .int .i64 q.d, .int .i64 q.pw, .int .i64 q.ph, .slice ua um uc] 48)) := (Below.refl _ _).alloc (Nat.le_refl _) _
        have hxb : Below (w4.alloc (.cells #[.int .i64 q.kind, .int .i64 q.id, .int .i64 q.a, .int .i64 q.b, .int .i64 q.c, .int .i64 q.d, .int .i64 q.pw, .int .i64 q.ph, .slice ua um uc] 48)).heap.size (w4.alloc (.cells #[.int .i64 q.kind, .int .i64 q.id, .int .i64 q.a, .int .i64 q.b, .int .i64 q.c, .int .i64 q.d, .int .i64 q.pw, .int .i64 q.ph, .slice ua um uc] 48)) ((w4.alloc (.cells #[.int .i64 q.kind, .int .i64 q.id, .int .i64 q.a, .int .i64 q.b, .int .i64 q.c, .int .i64 q.d, .int .i64 q.pw, .int .i64 q.ph, .slice ua um uc] 48)).alloc (.cells #[.int .i64 q.kind, .int .i64 q.id, .int .i64 q.a, .int .i64 q.b, .int .i64 q.c, .int .i64 q.d, .int .i64 q.pw, .int .i64 q.ph, .slice ua um uc] 48)) := (Below.refl _ _).alloc (Nat.le_refl _) _
        have hcell : ∀ (Y : World) (j : Nat) (z : Value), (qCells q (.slice ua um uc))[j]? = some z → (Y.alloc (.cells #[.int .i64 q.kind, .int .i64 q.id, .int .i64 q.a, .int .i64 q.b, .int .i64 q.c, .int .i64 q.d, .int .i64 q.pw, .int .i64 q.ph, .slice ua um uc] 48)).cell? ⟨Y.heap.size, j, none⟩ = some z := fun Y j z hj => by
          show (Y.alloc (.cells (qCells q (.slice ua um uc)).toArray 48)).cell? _ = _
          simpa using hj
        have hb24s := hb24.size
        have hbx3s := hbx3.size
        obtain ⟨v5, w5, hr5, ho5, hb5⟩ := op_app ((w4.alloc (.cells #[.int .i64 q.kind, .int .i64 q.id, .int .i64 q.a, .int .i64 q.b, .int .i64 q.c, .int .i64 q.d, .int .i64 q.pw, .int .i64 q.ph, .slice ua um uc] 48)).alloc (.cells #[.int .i64 q.kind, .int .i64 q.id, .int .i64 q.a, .int .i64 q.b, .int .i64 q.c, .int .i64 q.d, .int .i64 q.pw, .int .i64 q.ph, .slice ua um uc] 48)) w1.heap.size (.slice la qn lc) qv (((HQ.out.on hb24).on hxa).on hxb) (by omega) (by simp; omega) q (.slice ua um uc) (own_on2 (own_on2 (own_mono HU4.out (by omega)) hxa) hxb) (w4.alloc (.cells #[.int .i64 q.kind, .int .i64 q.id, .int .i64 q.a, .int .i64 q.b, .int .i64 q.c, .int .i64 q.d, .int .i64 q.pw, .int .i64 q.ph, .slice ua um uc] 48)).heap.size (hcell _)
        rw [show (w4.alloc (.cells #[.int .i64 q.kind, .int .i64 q.id, .int .i64 q.a, .int .i64 q.b, .int .i64 q.c, .int .i64 q.d, .int .i64 q.pw, .int .i64 q.ph, .slice ua um uc] 48)).heap.size = w4.heap.size + 1 by simp] at hr5
        have HR5 := hid_of3 hr5
        have HO5 := hid_of3 ho5
        obtain ⟨a5, c5, hv5⟩ := own_any ho5.1
        obtain ⟨n5, HN5⟩ : ∃ n, Hid ((qv ++ [(q, Value.slice ua um uc)]).length = n) := ⟨_, (rfl : _ = _)⟩
        rw [HN5.out] at hv5
        subst hv5
        have hb14 : Below w1.heap.size w1 w4 := hb2.trans (hb24.mono hb2.size)
        have hbw5 : Below w1.heap.size w1 w5 := ((hb14.alloc hb14.size _).alloc (by simp; have := hb14.size; omega) _).trans hb5
        have HPB2 : Hid (parB (cs.drop (k + 1)) ((qv ++ [(q, Value.slice ua um uc)]).map Prod.fst) = parB cs []) := by
          unfold Hid
          rw [← HPB.out, HDR.out, List.map_append]
          conv => rhs; unfold parB
          rw [if_neg (by rw [HPS.out]; simp), HPQ2.out, if_pos rfl]
          rfl
        have HPL5 : Hid (∀ p ∈ qv ++ [(q, Value.slice ua um uc)], p.1.ps.length ≤ 64) := by
          intro p hp
          rcases List.mem_append.1 hp with hp | hp
          · exact HPL.out p hp
          · simp at hp; subst hp; exact HQL.out
        clear hr5 ho5 hb5 hxa hxb hcell
        go_wp2_with (at_builtin; refine Lib.wpList_append_run _ rfl _ _ _ _ rfl _ _ rfl rfl _ _ HR5.out ?_)
        go_roundw
        case rel => exact ⟨k + 1, qv ++ [(q, .slice ua um uc)], by omega, by go_num, HO5, by simp; omega, HPB2, HPL5, hbw5⟩
        case measure => simp [intOf]; omega
      rw [err_v hc]
      have HE : Hid (parB cs [] = ([], c)) := by unfold Hid; rw [← HPB.out, HDR.out]; unfold parB; rw [if_neg (by rw [HPS.out]; simp), HPQ2.out, if_neg hc]
      have HR : Hid (r = ([], c)) := by unfold Hid; rw [HR1.out, HE.out, if_pos hc]
      go_wp2_with fail
      refine bodyPost_ret (v := .tuple #[.slice none 0 0, .iface 62 (.int .i64 (c : Int))]) (by simp [results, Tryz.results10, go_sem]) rfl (pbo_err HR ?_ _ (err_v hc))
      exact hbw4.alloc hbw4.size _
end Go.Proofs.YtceabiodelfdoaaGreatDoor
/- strings.Builder at this program: walks (the shelf's own texts do not fit this translation of copyCheck). -- s1 -/
namespace Go.Proofs.YtceabiodelfdoaaGreatDoor
open Go.RowKit

set_option maxHeartbeats 2000000 in
set_option maxRecDepth 100000 in
theorem copyCheck_used (b : Nat) (w : World) (h0 : w.cell? ⟨b, 0, none⟩ = some (.pointer (some ⟨b, 0, none⟩))) :
    Calls Tryz.prog 36 #[.pointer (some ⟨b, 0, none⟩)] w fun e w' => e = .returned (.tuple #[]) ∧ w' = w := by
  have hsz : (Tryz.prog.info? 57).map (·.size) = some 2 := by kernel_rfl
  obtain ⟨j, hj, _⟩ := Option.map_eq_some_iff.1 hsz
  go_enter Tryz.func36, Tryz.ntmps36
  go_wp2_with fail
  rw [Lib.run_neq_ptr_same w _ Tryz.underlying54 hj]
  go_wp2_with fail
  go_end0
  exact ⟨rfl, rfl⟩
set_option maxHeartbeats 2000000 in
set_option maxRecDepth 100000 in
theorem copyCheck_fresh (b : Nat) (w : World) (h0 : w.cell? ⟨b, 0, none⟩ = some (.pointer none)) (hsh : w.shape? b = some (57, 2)) (hfz : w.frozen? ⟨b, 0, none⟩ = false) :
    Calls Tryz.prog 36 #[.pointer (some ⟨b, 0, none⟩)] w fun e w' => e = .returned (.tuple #[]) ∧ w' = w.setCell ⟨b, 0, none⟩ (.pointer (some ⟨b, 0, none⟩)) := by
  have hsz : (Tryz.prog.info? 57).map (·.size) = some 2 := by kernel_rfl
  obtain ⟨j, hj, hjs⟩ := Option.map_eq_some_iff.1 hsz
  go_enter Tryz.func36, Tryz.ntmps36
  go_wp2_with fail
  rw [Lib.run_to_unsafe w ⟨b, 0, none⟩ Tryz.underlying54 Tryz.underlying112 hj (by rw [hjs]; decide) hsh (Nat.zero_lt_succ 1)]
  simp only [Result.andThen]
  rw [Oper.upon_value]
  go_wp2_with fail
  rw [run_callFunc_extern Tryz.func56 (by kernel_rfl) (by kernel_rfl) (by kernel_rfl) (e := Extern.AbiNoEscape.same) (by kernel_rfl)]
  rw [Lib.run_noEscape]
  simp only [Result.andThen]
  rw [Oper.upon_value]
  go_wp2_with fail
  rw [Lib.run_from_unsafe w ⟨b, 0, none⟩ Tryz.underlying112 Tryz.underlying54 hj hsh (by kernel_rfl)]
  simp only [Result.andThen]
  rw [Oper.upon_value]
  go_wp2_with fail
  go_end0
  exact ⟨rfl, rfl⟩
theorem copyCheck_bld (B b : Nat) (bs : List Value) (w : World) (h : Lib.IsBuilder 57 5 B b bs w) :
    Calls Tryz.prog 36 #[.pointer (some ⟨b, 0, none⟩)] w fun e w' => e = .returned (.tuple #[]) ∧ (Lib.BuilderAt 57 5 B b (.pointer (some ⟨b, 0, none⟩)) bs w' ∧ Below B w w') := by
  rcases h with h | h
  · refine (copyCheck_fresh b w h.cell0 h.shape h.frozen0).mono ?_
    rintro e w' ⟨rfl, rfl⟩
    exact ⟨rfl, h.used _, (Below.refl B w).setCell (p := ⟨b, 0, none⟩) h.1 _⟩
  · refine (copyCheck_used b w h.cell0).mono ?_
    rintro e w' ⟨rfl, rfl⟩
    exact ⟨rfl, h, Below.refl B _⟩
theorem Tryz.infoByteB : (Tryz.prog.info? 5).map (fun i => (i.zero, i.size, i.bytes)) = some (some (.int .u8 0), 1, 1) := by kernel_rfl
set_option maxHeartbeats 2000000 in
set_option maxRecDepth 100000 in
theorem writeString_bld (B b : Nat) (bs : List Value) (s : ByteArray) (w : World) (h : Lib.IsBuilder 57 5 B b bs w) (hlen : bs.length + s.size ≤ 140737488355328) (hBw : B ≤ w.heap.size) :
    Calls Tryz.prog 18 #[.pointer (some ⟨b, 0, none⟩), .string s] w fun e w' => e = .returned (.tuple #[.int .i64 s.size, .nilIface]) ∧ (Lib.BuilderAt 57 5 B b (.pointer (some ⟨b, 0, none⟩)) (bs ++ Lib.strCells s) w' ∧ Below B w w') := by
  obtain ⟨i0, hi, hz0, hz1, hz2⟩ := info_parts Tryz.infoByteB
  have HC := hid_of3 (copyCheck_bld B b bs w h)
  go_enter Tryz.func18, Tryz.ntmps18
  go_wp2_with fail
  refine HC.out.mono ?_
  clear HC
  rintro e w1 ⟨rfl, h1, hb1⟩
  obtain ⟨hB, v, hbk, hown, hne⟩ := h1
  have c0 : w1.cell? ⟨b, 0, none⟩ = some (.pointer (some ⟨b, 0, none⟩)) := by rw [Lib.cell_of_heap hbk]; rfl
  have c1 : w1.cell? ⟨b, 1, none⟩ = some v := by rw [Lib.cell_of_heap hbk]; rfl
  go_wp2_with (at_builtin; refine Lib.wpList_append_own_string _ rfl _ _ 55 9 rfl B 5 i0 Tryz.underlying55 Tryz.underlying9 hi hz0 hz1 hz2 _ _ _ rfl hown s rfl ?c3 ?c4 ?c5 ?_)
  case c3 => unfold maxLen; omega
  case c4 => omega
  case c5 => have := hb1.size; omega
  intro v' w2 hown' hgrow _
  have hlt : b < w1.heap.size := by
    rcases Nat.lt_or_ge b w1.heap.size with h' | h'
    · exact h'
    · simp [Array.getElem?_eq_none h'] at hbk
  have hb2 : w2.heap[b]? = some (.cells #[.pointer (some ⟨b, 0, none⟩), v] 57 (0, 0)) := by
    rw [hgrow.block b hlt (fun e => hne e.symm)]
    exact hbk
  have d0 : w2.cell? ⟨b, 0, none⟩ = some (.pointer (some ⟨b, 0, none⟩)) := by rw [Lib.cell_of_heap hb2]; rfl
  have d1 : w2.cell? ⟨b, 1, none⟩ = some v := by rw [Lib.cell_of_heap hb2]; rfl
  have f1 : w2.frozen? ⟨b, 1, none⟩ = false := Lib.frozen_of_heap hb2 1
  obtain ⟨ao, n', cap, rfl⟩ : ∃ ao n' cap, v' = .slice ao n' cap := by
    rcases hown'.2 with ⟨hv, _⟩ | ⟨g, cap, cur, hv, _⟩
    · exact ⟨_, _, _, hv⟩
    · exact ⟨_, _, _, hv⟩
  go_wp2_with fail
  go_ret2
  refine ⟨rfl, ?_, ?_⟩
  · exact Lib.BuilderAt.put (T := 57) (e := 5) hB hb2 (bs' := bs ++ Lib.strCells s) (by simpa [Lib.strCells_length] using hown') (by decide)
  · exact (hb1.grown hgrow (by have := hb1.size; omega) (fun k hk => (hown.lt k hk).1)).setCell (p := ⟨b, 1, none⟩) hB _
set_option maxHeartbeats 2000000 in
set_option maxRecDepth 100000 in
theorem string_bld (B b : Nat) (l : List UInt8) (w : World) (h : Lib.IsBuilder 57 5 B b (Lib.byteCells l) w) (h0 : l ≠ []) :
    Calls Tryz.prog 19 #[.pointer (some ⟨b, 0, none⟩)] w fun e w' => e = .returned (.string ⟨l.toArray⟩) ∧ Below B w w' := by
  obtain ⟨p, hB, v, hbk, hown, hne⟩ : ∃ p, Lib.BuilderAt 57 5 B b p (Lib.byteCells l) w := by
    rcases h with h | h
    · exact ⟨_, h⟩
    · exact ⟨_, h⟩
  have hl0 : l.length ≠ 0 := by simpa using h0
  rw [Lib.byteCells_length] at hown
  obtain ⟨g, cap, cur, rfl, hbg, hg, hnc, hcm, hcs, htake⟩ : ∃ g cap cur, v = .slice (some ⟨g, 0, none⟩) l.length cap ∧ B ≤ g ∧ w.heap[g]? = some (.cells cur 5 (0, 0)) ∧ l.length ≤ cap ∧ cap ≤ maxLen ∧ cur.size = cap * 1 ∧ cur.toList.take (l.length * 1) = Lib.byteCells l := by
    rcases hown.2 with ⟨_, hz⟩ | ⟨g, cap, cur, hv, r⟩
    · exact absurd hz hl0
    · exact ⟨g, cap, cur, hv, r⟩
  have c1 : w.drew.cell? ⟨b, 1, none⟩ = some (.slice (some ⟨g, 0, none⟩) l.length cap) := by
    have : w.drew.heap[b]? = some (.cells #[p, .slice (some ⟨g, 0, none⟩) l.length cap] 57 (0, 0)) := hbk
    rw [Lib.cell_of_heap this]; rfl
  have hSD : (Builtin.unsafeSliceData_ #[55] 90 #[.slice (some ⟨g, 0, none⟩) l.length cap]).run Tryz.prog w.drew = .ok (.pointer (some ⟨g, 0, none⟩)) w.drew :=
    Lib.run_unsafeSliceData_row _ _ _ _ _ _ (by omega)
  have hUS : (Builtin.unsafeString_ #[90, 3] 9 #[.pointer (some ⟨g, 0, none⟩), .int .i64 l.length]).run Tryz.prog w.drew = .ok (.string ⟨l.toArray⟩) (w.drew.freeze ⟨g, 0, none⟩ l.length) := by
    refine Lib.run_unsafeString_row w.drew 90 3 9 5 Tryz.underlying90 (by kernel_rfl) g cur.size (by have hg' : w.drew.heap[g]? = some (.cells cur 5 (0, 0)) := hg; simp [World.shape?, hg']) l h0 (by omega) (by unfold maxLen at hcm; omega) ?_
    intro j x hx
    have := hown.cells (g := g) rfl j (.int .u8 x.toNat) (by simp [Lib.byteCells, hx])
    exact this
  have mixed : Tryz.prog.follows .mixedOrders = true := by kernel_rfl
  go_enter Tryz.func19, Tryz.ntmps19
  go_wp2
  go_region_o
  all_goals (go_wp2; go_ret; exact ⟨rfl, Lib.below_freeze (Below.drew (Below.refl B w)) (p := ⟨g, 0, none⟩) hbg _⟩)
end Go.Proofs.YtceabiodelfdoaaGreatDoor
/- Walk: op.Chunk. -- s1 -/
namespace Go.Proofs.YtceabiodelfdoaaGreatDoor
open Go.RowKit

/-- what Chunk answers -/
def ChkP (q : Pq) (w : World) (e : Ending) (w' : World) : Prop :=
  Below w.heap.size w w' ∧ ((∃ c, opC q = c ∧ c ≠ 0 ∧ e = .returned (.tuple #[.agg #[.string ⟨#[]⟩, .string ⟨#[]⟩], errV c])) ∨
    (opC q = 0 ∧ ∃ s, kindAt q.kind shps = some s ∧ e = .returned (.tuple #[.agg #[.string s.bytes, str (opB q s.id s.nums s.pic)], .nilIface])))
/-- what holds on the road -/
structure Goc (w : World) (q : Pq) (ap : Option Addr) (np cp : Nat) (sb : Nat) (s : Shp) (fid : Bool) (w' : World) : Prop where
  nn : Nine w' w.heap.size (.int .i64 q.kind) (.int .i64 q.id) (.int .i64 q.a) (.int .i64 q.b) (.int .i64 q.c) (.int .i64 q.d) (.int .i64 q.pw) (.int .i64 q.ph) (.slice ap np cp)
  tt : Two w' (w.heap.size + 1) (.string ⟨#[]⟩) (.string ⟨#[]⟩)
  ss : Seven w' sb (.int .i64 (s.kind : Int)) (.string s.bytes) (.bool fid) (.int .i64 (s.nums : Int)) (.int .i64 s.low) (.int .i64 s.high) (.bool s.pic)
  rp : RdP w' (.slice ap np cp) q.ps
  bel : Below w.heap.size w w'
section
variable {w : World} {q : Pq} {ap : Option Addr} {np cp sb : Nat} {s : Shp} {fid : Bool} {w1 w2 : World}
theorem Goc.on (h : Goc w q ap np cp sb s fid w1) (hb : Below w1.heap.size w1 w2) : Goc w q ap np cp sb s fid w2 :=
  ⟨h.nn.on hb, h.tt.on hb, h.ss.on hb, h.rp.on hb, h.bel.trans (hb.mono h.bel.size)⟩
theorem Goc.onB {B : Nat} (h : Goc w q ap np cp sb s fid w1) (hb : Below B w1 w2) (hB : w1.heap.size ≤ B) : Goc w q ap np cp sb s fid w2 := h.on (hb.mono hB)
theorem Goc.drew (h : Goc w q ap np cp sb s fid w1) : Goc w q ap np cp sb s fid w1.drew :=
  ⟨h.nn.drew, h.tt.drew, h.ss.drew, h.rp, h.bel.drew⟩
end
set_option maxHeartbeats 8000000 in
set_option maxRecDepth 100000 in
theorem chunkOp_any (q : Pq) (u : Value) (w : World) (HS : Hid (Shapes w)) (h1 : 0 < w.heap.size) (HU : Hid (RdP w u q.ps)) (hps : q.ps.length ≤ 1000000000) :
    Calls Tryz.prog 35 #[opV q u] w fun e w' => ChkP q w e w' := by
  obtain ⟨ap, cp, hv, hl0, hcp, -⟩ := HU.out
  obtain ⟨np, HNP⟩ : ∃ n, Hid (q.ps.length = n) := ⟨_, (rfl : _ = _)⟩
  rw [HNP.out] at hv hl0
  subst hv
  obtain ⟨X0, HX0⟩ : ∃ X0, Hid ((w.alloc (.cells #[.int .i64 q.kind, .int .i64 q.id, .int .i64 q.a, .int .i64 q.b, .int .i64 q.c, .int .i64 q.d, .int .i64 q.pw, .int .i64 q.ph, .slice ap np cp] 48)).alloc (.cells #[.string ⟨#[]⟩, .string ⟨#[]⟩] 37) = X0) := ⟨_, (rfl : _ = _)⟩
  have hbz : Below w.heap.size w X0 := by rw [← HX0.out]; exact ((Below.refl _ _).alloc (Nat.le_refl _) _).alloc (by simp) _
  have N0 : Nine X0 w.heap.size (.int .i64 q.kind) (.int .i64 q.id) (.int .i64 q.a) (.int .i64 q.b) (.int .i64 q.c) (.int .i64 q.d) (.int .i64 q.pw) (.int .i64 q.ph) (.slice ap np cp) := by rw [← HX0.out]; exact (nine_start w _ _ _ _ _ _ _ _ _ 48 w.heap.size rfl).alloc _
  have T0 := hid_of3 (show Two X0 (w.heap.size + 1) (.string ⟨#[]⟩) (.string ⟨#[]⟩) by rw [← HX0.out]; exact two_startB _ _ _ 37 (w.heap.size + 1) (by simp))
  have HS0 : Hid (Shapes X0) := HS.out.on h1 hbz
  have h1' := Nat.lt_of_lt_of_le h1 hbz.size
  have HU0 : Hid (RdP X0 (.slice ap np cp) q.ps) := HU.out.on hbz
  obtain ⟨c, HC⟩ : ∃ c, Hid (opC q = c) := ⟨_, (rfl : _ = _)⟩
  have hck := opCheck_any q (.slice ap np cp) X0 HS0 h1' HU0 hps c HC
  unfold opV at hck ⊢
  obtain ⟨m0, m1, m2, m3, m4, m5, m6, m7, m8, mf0, mf1, mf2, mf3, mf4, mf5, mf6, mf7, mf8, mlt⟩ := N0
  have N0 := hid_of3 (show Nine X0 w.heap.size (.int .i64 q.kind) (.int .i64 q.id) (.int .i64 q.a) (.int .i64 q.b) (.int .i64 q.c) (.int .i64 q.d) (.int .i64 q.pw) (.int .i64 q.ph) (.slice ap np cp) from ⟨m0, m1, m2, m3, m4, m5, m6, m7, m8, mf0, mf1, mf2, mf3, mf4, mf5, mf6, mf7, mf8, mlt⟩)
  go_enter Tryz.func35, Tryz.ntmps35
  go_wp2_with fail
  rw [HX0.out]
  refine hck.mono ?_
  clear hck m0 m1 m2 m3 m4 m5 m6 m7 m8 mf0 mf1 mf2 mf3 mf4 mf5 mf6 mf7 mf8 mlt
  rintro e w1 ⟨rfl, hb1⟩
  have hbb1 := hbz.trans (hb1.mono hbz.size)
  have N1 := hid_of3 (N0.out.on hb1)
  have T1 := hid_of3 (T0.out.on hb1)
  have HU1 := hid_of3 (HU0.out.on hb1)
  have HS1 : Hid (Shapes w1) := HS0.out.on h1' hb1
  have h11 := Nat.lt_of_lt_of_le h1' hb1.size
  have hsz1 : w.heap.size + 2 ≤ w1.heap.size := by
    have h := hb1.size
    have e : X0.heap.size = w.heap.size + 2 := by rw [← HX0.out]; simp
    omega
  clear hbz hb1 N0 T0 HU0 HS0 h1' HX0
  by_cases hc : c = 0
  case neg =>
    have he : errV c = .iface 62 (.int .i64 (c : Int)) := by unfold errV; rw [if_neg hc]
    rw [he]
    obtain ⟨t0, t1, tf0, tf1, tl⟩ := T1.out
    go_wp2_with fail
    refine bodyPost_ret (v := .tuple #[.agg #[.string ⟨#[]⟩, .string ⟨#[]⟩], .iface 62 (.int .i64 (c : Int))]) (by simp [results, Tryz.results35, go_sem, t0, t1]) rfl ⟨?_, .inl ⟨c, HC.out, hc, by rw [he]⟩⟩
    repeat (refine Below.setCell ?_ (by simp) _)
    exact hbb1
  subst hc
  have he : errV 0 = .nilIface := rfl
  rw [he]
  obtain ⟨s, hs⟩ := opC_some HC.out
  have HK := hid_of3 hs
  have HOK := hid_of3 (opC_ok HC.out hs)
  obtain ⟨hs1, hs2⟩ := shps_ok s (kindAt_mem _ _ _ hs).1
  clear hs he
  obtain ⟨m0, m1, m2, m3, m4, m5, m6, m7, m8, -, -, -, -, -, -, -, -, -, -⟩ := N1.out
  go_wp2_with fail
  clear m0 m1 m2 m3 m4 m5 m6 m7 m8
  refine (ofKind_any q.kind w1 HS1 h11).mono ?_
  unfold FindP
  rw [HK.out]
  rintro e w2 ⟨hb2, he⟩
  simp only at he
  subst he
  have hbs : Below w2.heap.size w2 (w2.alloc (.cells #[.int .i64 (s.kind : Int), .string s.bytes, .bool s.id, .int .i64 (s.nums : Int), .int .i64 s.low, .int .i64 s.high, .bool s.pic] 92)) := (Below.refl _ _).alloc (Nat.le_refl _) _
  have S2 := seven_start w2 (.int .i64 (s.kind : Int)) (.string s.bytes) (.bool s.id) (.int .i64 (s.nums : Int)) (.int .i64 s.low) (.int .i64 s.high) (.bool s.pic) 92 w2.heap.size rfl
  have N2 := hid_of3 ((N1.out.on hb2).on hbs)
  have T2 := hid_of3 ((T1.out.on hb2).on hbs)
  have HU2 := hid_of3 ((HU1.out.on hb2).on hbs)
  have hbb2 := (hbb1.trans (hb2.mono hbb1.size)).trans (hbs.mono (hbb1.trans (hb2.mono hbb1.size)).size)
  have hsz2 : w.heap.size + 3 ≤ (w2.alloc (.cells #[.int .i64 (s.kind : Int), .string s.bytes, .bool s.id, .int .i64 (s.nums : Int), .int .i64 s.low, .int .i64 s.high, .bool s.pic] 92)).heap.size := by have := hb2.size; simp; omega
  clear hb2 hbs N1 T1 HU1 HS1 h11 hsz1 hbb1
  have hwid : s.id = true → IntKind.u8.wrap q.id = q.id ∧ bv (UInt8.ofNat q.id.toNat) = .int .u8 q.id := fun h => by
    obtain ⟨i1, i2⟩ := HOK.out.id h
    refine ⟨by rw [IntKind.wrap_u8]; omega, ?_⟩
    unfold bv
    rw [u8_toNat _ (by omega)]
    congr 1; omega
  have HWID := hid_of3 hwid
  clear hwid
  unfold Shp.val
  obtain ⟨fid, HFID⟩ : ∃ b, Hid (s.id = b) := ⟨_, (rfl : _ = _)⟩
  rw [HFID.out] at S2 N2 T2 HU2 hbb2 hsz2 ⊢
  obtain ⟨m0, m1, m2, m3, m4, m5, m6, m7, m8, -, -, -, -, -, -, -, -, -, -⟩ := N2.out
  obtain ⟨s0, s1, s2, s3, s4, s5, s6, sf0, sf1, sf2, sf3, sf4, sf5, sf6, slt⟩ := S2
  have S2 := hid_of3 (show Seven _ _ _ _ _ _ _ _ _ from ⟨s0, s1, s2, s3, s4, s5, s6, sf0, sf1, sf2, sf3, sf4, sf5, sf6, slt⟩)
  clear sf0 sf1 sf2 sf3 sf4 sf5 sf6 slt
  have KG : Hid (∀ W, Below (w2.heap.size + 1) (w2.alloc (.cells #[.int .i64 (s.kind : Int), .string s.bytes, .bool fid, .int .i64 (s.nums : Int), .int .i64 s.low, .int .i64 s.high, .bool s.pic] 92)) W → Goc w q ap np cp w2.heap.size s fid W) := fun W hb =>
    (show Goc w q ap np cp w2.heap.size s fid _ from ⟨N2.out, T2.out, S2.out, HU2.out, hbb2⟩).onB hb (by simp)
  cases fid with
  | true =>
    obtain ⟨hw1, hw2⟩ := HWID.out HFID.out
    obtain ⟨v7, w7, hr7, ho7, hb7, -⟩ := by_app2 (X := w2.alloc (.cells #[.int .i64 (s.kind : Int), .string s.bytes, .bool true, .int .i64 (s.nums : Int), .int .i64 s.low, .int .i64 s.high, .bool s.pic] 92)) (B := w2.heap.size + 1) (ownY_nil _ _) [UInt8.ofNat q.id.toNat] 1 #[.int .u8 q.id] (w2.heap.size + 1) (by rw [← hw2]; rfl) (by simp) rfl (by simp) (by simp)
    have HR7 := hid_of3 hr7
    have HO7 := hid_of3 ho7
    have HG7 := hid_of3 (KG.out w7 hb7)
    have hB7 : w2.heap.size + 1 ≤ w7.heap.size := by have := hb7.size; simpa using this
    clear hr7 ho7 hw2
    go_wp2_with (at_builtin; refine Lib.wpList_append_run _ rfl _ _ _ _ rfl _ _ rfl rfl _ _ HR7.out ?_)
    have HGD := hid_of3 (show Goc w q ap np cp w2.heap.size s true w7.drew from HG7.out.drew)
    have hnum := fun X => numbers_any q (.slice ap np cp) X
    unfold opV at hnum
    have HNUM := hid_of3 hnum
    clear hnum
    have hn4 : (0 : Int) ≤ (s.nums : Int) := by omega
    have hn5 : (s.nums : Int) ≤ 4 := by omega
    have hn6 : s.nums ≤ 4 := hs1
    go_region_held3 (fun w' => w'.cell? ⟨w.heap.size, 0, none⟩ = some (.int .i64 q.kind) ∧ w'.cell? ⟨w.heap.size, 1, none⟩ = some (.int .i64 q.id) ∧ w'.cell? ⟨w.heap.size, 2, none⟩ = some (.int .i64 q.a) ∧ w'.cell? ⟨w.heap.size, 3, none⟩ = some (.int .i64 q.b) ∧ w'.cell? ⟨w.heap.size, 4, none⟩ = some (.int .i64 q.c) ∧ w'.cell? ⟨w.heap.size, 5, none⟩ = some (.int .i64 q.d) ∧ w'.cell? ⟨w.heap.size, 6, none⟩ = some (.int .i64 q.pw) ∧ w'.cell? ⟨w.heap.size, 7, none⟩ = some (.int .i64 q.ph) ∧ w'.cell? ⟨w.heap.size, 8, none⟩ = some (.slice ap np cp) ∧ w'.cell? ⟨w2.heap.size, 3, none⟩ = some (.int .i64 (s.nums : Int)))
      (first
        | exact ⟨HG8.out.nn.c0, HG8.out.nn.c1, HG8.out.nn.c2, HG8.out.nn.c3, HG8.out.nn.c4, HG8.out.nn.c5, HG8.out.nn.c6, HG8.out.nn.c7, HG8.out.nn.c8, HG8.out.ss.c3⟩
        | exact ⟨HGD.out.nn.c0, HGD.out.nn.c1, HGD.out.nn.c2, HGD.out.nn.c3, HGD.out.nn.c4, HGD.out.nn.c5, HGD.out.nn.c6, HGD.out.nn.c7, HGD.out.nn.c8, HGD.out.ss.c3⟩
        | fail)
      (first
        | (go_at_call 54; refine (HNUM.out _).mono ?_; rintro e w8 ⟨g, rfl, hg, hcell, hb8⟩; have HG8 := hid_of3 (HGD.out.on hb8); have HC8 := hid_of3 hcell; have hb8' := hb8; clear hcell)
        | fail)
    clear HGD HNUM
    have hb8D : Below w7.heap.size w7 w8 := (show Below w7.heap.size w7 w7.drew from (Below.refl _ _).drew).trans hb8'
    have hB8 : w2.heap.size + 1 ≤ w8.heap.size := by have h := hb8D.size; have h2 := hB7; omega
    have HO8 := hid_of3 (HO7.out.on hb8D)
    have HR8 := hid_of3 (nums_own (B := w2.heap.size + 1) q HC8.out (Nat.le_trans hB7 hg) s.nums hs1)
    have hbX8 : Below (w2.heap.size + 1) (w2.alloc (.cells #[.int .i64 (s.kind : Int), .string s.bytes, .bool true, .int .i64 (s.nums : Int), .int .i64 s.low, .int .i64 s.high, .bool s.pic] 92)) w8 := hb7.trans (hb8D.mono hB7)
    obtain ⟨l0, HL0⟩ : ∃ l, Hid (idB q.id s.id = l) := ⟨_, (rfl : _ = _)⟩
    have hl0 : l0.length ≤ 1 := by rw [← HL0.out]; exact idB_len _ _
    rw [show [] ++ [UInt8.ofNat q.id.toNat] = l0 by rw [← HL0.out, HFID.out]; rfl] at HO8
    obtain ⟨ns, HNS⟩ : ∃ l, Hid ((nums4 q).take s.nums = l) := ⟨_, (rfl : _ = _)⟩
    obtain ⟨nn, HNN⟩ : ∃ n, Hid (s.nums = n) := ⟨_, (rfl : _ = _)⟩
    have hnl : Hid (ns.length = nn) := by unfold Hid; rw [← HNS.out, ← HNN.out, List.length_take]; simp [nums4]; omega
    have HNB := hid_of3 HOK.out.num
    rw [HNS.out] at HR8 HNB
    have hn7 : nn ≤ 4 := by rw [← HNN.out]; exact hs1
    clear HC8 hb8 hb8' hn4 hn5 hn6 hg hb8D hb7
    rw [HNN.out] at HR8 ⊢
    go_wp2_with fail
    go_loopw [7, 9, 38] (fun d _ i wr => ∃ (k : Nat) (l : List UInt8), k ≤ nn ∧ i = .int .i64 k ∧ Hid (OwnY wr (w2.heap.size + 1) d l) ∧ Hid (l = l0 ++ nsB (ns.take k)) ∧ Hid (wr.ownsRow (w2.heap.size + 1) 3 1 (.slice (some ⟨g, 0, none⟩) nn 4) nn (intCells ns)) ∧ Below (w2.heap.size + 1) (w2.alloc (.cells #[.int .i64 (s.kind : Int), .string s.bytes, .bool true, .int .i64 (s.nums : Int), .int .i64 s.low, .int .i64 s.high, .bool s.pic] 92)) wr) (fun _ _ i _ => nn - (intOf i).toNat)
    case atStart => exact ⟨0, l0, by omega, rfl, HO8, by unfold Hid; simp [nsB], HR8, hbX8⟩
    case round =>
      obtain ⟨k, l, hk, rfl, HO, HLK, HRN, hbr⟩ := hrel
      by_cases hlt : k < nn
      · have hki : (k : Int) < (nn : Int) := by omega
        have hki0 : (0 : Int) ≤ (k : Int) := by omega
        obtain ⟨x, HX⟩ : ∃ x, Hid (ns.getD k 0 = x) := ⟨_, (rfl : _ = _)⟩
        obtain ⟨gg, po, hag, hgl, hcx⟩ := (rdI_own HRN.out hnl.out).at hlt hnl HX
        simp only [Option.some.injEq, Addr.mk.injEq, and_true] at hag
        obtain ⟨rfl, rfl⟩ := hag
        have hxm : x ∈ ns := by rw [← HX.out, List.getD_eq_getElem?_getD, List.getElem?_eq_getElem (by rw [hnl.out]; exact hlt)]; exact List.getElem_mem _
        obtain ⟨hx1, hx2⟩ := HNB.out x hxm
        rw [Nat.zero_add] at hcx
        have hln : l.length ≤ 100 := by
          rw [HLK.out, List.length_append, nsB_len, List.length_take]
          have := hnl.out
          omega
        obtain ⟨N, n0, n1, hn0, hn1, hwx, ee1, ee2, ee3, hnb⟩ := two_parts x hx1 hx2
        have HLK2 : Hid (l ++ [UInt8.ofNat n0, UInt8.ofNat n1] = l0 ++ nsB (ns.take (k + 1))) := by
          unfold Hid
          rw [take_nsB (by rw [hnl.out]; exact hlt) HX.out, hnb, HLK.out, List.append_assoc]
        obtain ⟨vx, wx, hrx, hox, hbx, hkx⟩ := by_app2 (X := wr) (B := w2.heap.size + 1) HO.out [UInt8.ofNat n0, UInt8.ofNat n1] 2 #[.int .u8 (n0 : Int), .int .u8 (n1 : Int)] wr.heap.size (by simp only [List.map_cons, List.map_nil, bv]; rw [u8_toNat n0 hn0, u8_toNat n1 hn1]) rfl rfl (by omega) (Nat.le_trans (by simp) hbr.size)
        have HRX := hid_of3 hrx
        have HOX := hid_of3 hox
        have hbrx := hbr.trans hbx
        have HRNx := hid_of3 (hkx (by decide) HRN.out)
        clear hxm hx1 hx2 hrx hox hnb hbx hln HLK hkx HRN
        go_wp2_with (at_builtin; refine Lib.wpList_append_run _ rfl _ _ _ _ rfl _ _ rfl rfl _ _ HRX.out ?_)
        clear hwx ee1 ee2 ee3 hn0 hn1
        go_roundw
        case rel => exact ⟨k + 1, _, by omega, by go_num, HOX, HLK2, HRNx, hbrx⟩
        case measure => simp [intOf]; omega
      · have hki : ¬ (k : Int) < (nn : Int) := by omega
        obtain rfl : nn = k := by omega
        have HGZ := hid_of3 (KG.out wr hbr)
        have hl1 : l = l0 ++ nsB ns := by rw [HLK.out, List.take_of_length_le (by rw [hnl.out]; exact Nat.le_refl _)]
        have hll : l.length ≤ 100 := by
          rw [hl1, List.length_append, nsB_len]
          have := hnl.out
          omega
        have HL1 := hid_of3 hl1
        clear hl1 HLK HRN
        obtain ⟨fpc, HFPC⟩ : ∃ b, Hid (s.pic = b) := ⟨_, (rfl : _ = _)⟩
        obtain ⟨⟨m0, m1, m2, m3, m4, m5, m6, m7, m8, -, -, -, -, -, -, -, -, -, -⟩, ⟨t0, t1, tf0, tf1, tl⟩, ⟨s0, s1, s2, s3, s4, s5, s6, -, -, -, -, -, -, -, -⟩, -, -⟩ := HGZ.out
        rw [HFPC.out] at s6 ⊢
        cases fpc with
        | false =>
          have HST := hid_of3 (run_str HO.out)
          have hst := HST.out
          have HFIN : Hid (opB q s.id s.nums s.pic = l) := by
            unfold Hid opB pcB
            rw [HL1.out, HFPC.out, HL0.out, HNS.out]
            simp
          unfold str at hst
          go_wp2_with fail
          refine bodyPost_ret (v := .tuple #[.agg #[.string s.bytes, .string ⟨l.toArray⟩], .nilIface]) (by simp [results, Tryz.results35, go_sem, t0, t1]) rfl ⟨?_, .inr ⟨HC.out, s, HK.out, by rw [HFIN.out]; rfl⟩⟩
          repeat (refine Below.setCell ?_ (by simp) _)
          exact HGZ.out.bel
        | true =>
          have hpok := HOK.out.pic HFPC.out
          obtain ⟨PW, PH, e1, e2, -⟩ := check_zero _ _ _ hpok
          rw [e1] at m6
          rw [e2] at m7
          rw [e1, e2] at hpok
          have HCP := hid_of3 hpok
          have HE := hid_of3 (And.intro e1 e2)
          clear hpok e1 e2
          obtain ⟨t, HT⟩ := bytes_of (picBytes PW PH q.ps)
          have hts : t.size ≤ 1000 := by
            have h := picBytes_len PW PH q.ps HCP.out
            obtain ⟨i1, i2, i3, i4, -, -⟩ := check_ok HCP.out
            have h3 : PH * (1 + 2 * PW) ≤ 8 * 17 := Nat.mul_le_mul (by omega) (by omega)
            rw [size_of HT]
            omega
          go_wp2_with fail
          refine (picBytes_at PW PH (.slice ap np cp) q.ps _ HGZ.out.rp HCP t HT).mono ?_
          rintro e wp ⟨rfl, hbp⟩
          have HGP := hid_of3 (HGZ.out.on hbp)
          have HOP := hid_of3 (HO.out.on hbp)
          clear m0 m1 m2 m3 m4 m5 m6 m7 m8 t0 t1 tf0 tf1 tl s0 s1 s2 s3 s4 s5 s6
          obtain ⟨⟨m0, m1, m2, m3, m4, m5, m6, m7, m8, -, -, -, -, -, -, -, -, -, -⟩, ⟨t0, t1, tf0, tf1, tl⟩, ⟨s0, s1, s2, s3, s4, s5, s6, -, -, -, -, -, -, -, -⟩, -, -⟩ := HGP.out
          obtain ⟨vq, wq, hrq, hoq, hbq⟩ := st_app (X := wp) (B := w2.heap.size + 1) HOP.out t (by omega) (Nat.le_trans (by simp) (hbr.trans (hbp.mono (Nat.le_trans (by simp) hbr.size))).size)
          have hbrq := (hbr.trans (hbp.mono (Nat.le_trans (by simp) hbr.size))).trans hbq
          have HGQ := hid_of3 (KG.out wq hbrq)
          have HRQ := hid_of3 hrq
          have HST := hid_of3 (run_str hoq)
          have HFIN : Hid (opB q s.id s.nums s.pic = l ++ t.data.toList) := by
            unfold Hid opB pcB
            rw [HFPC.out, HL0.out, HNS.out, if_pos rfl, HE.out.1, HE.out.2, ← HL1.out, ← HT.out]
            rfl
          clear hrq hoq hbq
          obtain ⟨-, ⟨u0, u1, uf0, uf1, ul⟩, ⟨-, z1, -, -, -, -, -, -, -, -, -, -, -, -, -⟩, -, -⟩ := HGQ.out
          have hst := HST.out
          unfold str at hst
          go_wp2_with (at_builtin; refine Lib.wpList_append_run _ rfl _ _ _ _ rfl _ _ rfl rfl _ _ HRQ.out ?_)
          refine bodyPost_ret (v := .tuple #[.agg #[.string s.bytes, .string ⟨(l ++ t.data.toList).toArray⟩], .nilIface]) (by simp [results, Tryz.results35, go_sem, u0, u1]) rfl ⟨?_, .inr ⟨HC.out, s, HK.out, by rw [HFIN.out]; rfl⟩⟩
          repeat (refine Below.setCell ?_ (by simp) _)
          exact HGQ.out.bel
  | false =>
    go_wp2_with fail
    obtain ⟨w7, HW7⟩ : ∃ W, Hid ((w2.alloc (.cells #[.int .i64 (s.kind : Int), .string s.bytes, .bool false, .int .i64 (s.nums : Int), .int .i64 s.low, .int .i64 s.high, .bool s.pic] 92)) = W) := ⟨_, (rfl : _ = _)⟩
    have hb7 : Below (w2.heap.size + 1) (w2.alloc (.cells #[.int .i64 (s.kind : Int), .string s.bytes, .bool false, .int .i64 (s.nums : Int), .int .i64 s.low, .int .i64 s.high, .bool s.pic] 92)) w7 := by rw [← HW7.out]; exact Below.refl _ _
    have HG7 := hid_of3 (KG.out w7 hb7)
    have HO7 := hid_of3 (ownY_nil w7 (w2.heap.size + 1))
    have hB7 : w2.heap.size + 1 ≤ w7.heap.size := by have := hb7.size; simpa using this
    rw [HW7.out]
    clear HW7
    have HGD := hid_of3 (show Goc w q ap np cp w2.heap.size s false w7.drew from HG7.out.drew)
    have hnum := fun X => numbers_any q (.slice ap np cp) X
    unfold opV at hnum
    have HNUM := hid_of3 hnum
    clear hnum
    have hn4 : (0 : Int) ≤ (s.nums : Int) := by omega
    have hn5 : (s.nums : Int) ≤ 4 := by omega
    have hn6 : s.nums ≤ 4 := hs1
    go_region_held3 (fun w' => w'.cell? ⟨w.heap.size, 0, none⟩ = some (.int .i64 q.kind) ∧ w'.cell? ⟨w.heap.size, 1, none⟩ = some (.int .i64 q.id) ∧ w'.cell? ⟨w.heap.size, 2, none⟩ = some (.int .i64 q.a) ∧ w'.cell? ⟨w.heap.size, 3, none⟩ = some (.int .i64 q.b) ∧ w'.cell? ⟨w.heap.size, 4, none⟩ = some (.int .i64 q.c) ∧ w'.cell? ⟨w.heap.size, 5, none⟩ = some (.int .i64 q.d) ∧ w'.cell? ⟨w.heap.size, 6, none⟩ = some (.int .i64 q.pw) ∧ w'.cell? ⟨w.heap.size, 7, none⟩ = some (.int .i64 q.ph) ∧ w'.cell? ⟨w.heap.size, 8, none⟩ = some (.slice ap np cp) ∧ w'.cell? ⟨w2.heap.size, 3, none⟩ = some (.int .i64 (s.nums : Int)))
      (first
        | exact ⟨HG8.out.nn.c0, HG8.out.nn.c1, HG8.out.nn.c2, HG8.out.nn.c3, HG8.out.nn.c4, HG8.out.nn.c5, HG8.out.nn.c6, HG8.out.nn.c7, HG8.out.nn.c8, HG8.out.ss.c3⟩
        | exact ⟨HGD.out.nn.c0, HGD.out.nn.c1, HGD.out.nn.c2, HGD.out.nn.c3, HGD.out.nn.c4, HGD.out.nn.c5, HGD.out.nn.c6, HGD.out.nn.c7, HGD.out.nn.c8, HGD.out.ss.c3⟩
        | fail)
      (first
        | (go_at_call 54; refine (HNUM.out _).mono ?_; rintro e w8 ⟨g, rfl, hg, hcell, hb8⟩; have HG8 := hid_of3 (HGD.out.on hb8); have HC8 := hid_of3 hcell; have hb8' := hb8; clear hcell)
        | fail)
    clear HGD HNUM
    have hb8D : Below w7.heap.size w7 w8 := (show Below w7.heap.size w7 w7.drew from (Below.refl _ _).drew).trans hb8'
    have hB8 : w2.heap.size + 1 ≤ w8.heap.size := by have h := hb8D.size; have h2 := hB7; omega
    have HO8 := hid_of3 (HO7.out.on hb8D)
    have HR8 := hid_of3 (nums_own (B := w2.heap.size + 1) q HC8.out (Nat.le_trans hB7 hg) s.nums hs1)
    have hbX8 : Below (w2.heap.size + 1) (w2.alloc (.cells #[.int .i64 (s.kind : Int), .string s.bytes, .bool false, .int .i64 (s.nums : Int), .int .i64 s.low, .int .i64 s.high, .bool s.pic] 92)) w8 := hb7.trans (hb8D.mono hB7)
    obtain ⟨l0, HL0⟩ : ∃ l, Hid (idB q.id s.id = l) := ⟨_, (rfl : _ = _)⟩
    have hl0 : l0.length ≤ 1 := by rw [← HL0.out]; exact idB_len _ _
    rw [show ([] : List UInt8) = l0 by rw [← HL0.out, HFID.out]; rfl] at HO8
    obtain ⟨ns, HNS⟩ : ∃ l, Hid ((nums4 q).take s.nums = l) := ⟨_, (rfl : _ = _)⟩
    obtain ⟨nn, HNN⟩ : ∃ n, Hid (s.nums = n) := ⟨_, (rfl : _ = _)⟩
    have hnl : Hid (ns.length = nn) := by unfold Hid; rw [← HNS.out, ← HNN.out, List.length_take]; simp [nums4]; omega
    have HNB := hid_of3 HOK.out.num
    rw [HNS.out] at HR8 HNB
    have hn7 : nn ≤ 4 := by rw [← HNN.out]; exact hs1
    clear HC8 hb8 hb8' hn4 hn5 hn6 hg hb8D hb7
    rw [HNN.out] at HR8 ⊢
    go_wp2_with fail
    go_loopw [7, 9, 38] (fun d _ i wr => ∃ (k : Nat) (l : List UInt8), k ≤ nn ∧ i = .int .i64 k ∧ Hid (OwnY wr (w2.heap.size + 1) d l) ∧ Hid (l = l0 ++ nsB (ns.take k)) ∧ Hid (wr.ownsRow (w2.heap.size + 1) 3 1 (.slice (some ⟨g, 0, none⟩) nn 4) nn (intCells ns)) ∧ Below (w2.heap.size + 1) (w2.alloc (.cells #[.int .i64 (s.kind : Int), .string s.bytes, .bool false, .int .i64 (s.nums : Int), .int .i64 s.low, .int .i64 s.high, .bool s.pic] 92)) wr) (fun _ _ i _ => nn - (intOf i).toNat)
    case atStart => exact ⟨0, l0, by omega, rfl, HO8, by unfold Hid; simp [nsB], HR8, hbX8⟩
    case round =>
      obtain ⟨k, l, hk, rfl, HO, HLK, HRN, hbr⟩ := hrel
      by_cases hlt : k < nn
      · have hki : (k : Int) < (nn : Int) := by omega
        have hki0 : (0 : Int) ≤ (k : Int) := by omega
        obtain ⟨x, HX⟩ : ∃ x, Hid (ns.getD k 0 = x) := ⟨_, (rfl : _ = _)⟩
        obtain ⟨gg, po, hag, hgl, hcx⟩ := (rdI_own HRN.out hnl.out).at hlt hnl HX
        simp only [Option.some.injEq, Addr.mk.injEq, and_true] at hag
        obtain ⟨rfl, rfl⟩ := hag
        have hxm : x ∈ ns := by rw [← HX.out, List.getD_eq_getElem?_getD, List.getElem?_eq_getElem (by rw [hnl.out]; exact hlt)]; exact List.getElem_mem _
        obtain ⟨hx1, hx2⟩ := HNB.out x hxm
        rw [Nat.zero_add] at hcx
        have hln : l.length ≤ 100 := by
          rw [HLK.out, List.length_append, nsB_len, List.length_take]
          have := hnl.out
          omega
        obtain ⟨N, n0, n1, hn0, hn1, hwx, ee1, ee2, ee3, hnb⟩ := two_parts x hx1 hx2
        have HLK2 : Hid (l ++ [UInt8.ofNat n0, UInt8.ofNat n1] = l0 ++ nsB (ns.take (k + 1))) := by
          unfold Hid
          rw [take_nsB (by rw [hnl.out]; exact hlt) HX.out, hnb, HLK.out, List.append_assoc]
        obtain ⟨vx, wx, hrx, hox, hbx, hkx⟩ := by_app2 (X := wr) (B := w2.heap.size + 1) HO.out [UInt8.ofNat n0, UInt8.ofNat n1] 2 #[.int .u8 (n0 : Int), .int .u8 (n1 : Int)] wr.heap.size (by simp only [List.map_cons, List.map_nil, bv]; rw [u8_toNat n0 hn0, u8_toNat n1 hn1]) rfl rfl (by omega) (Nat.le_trans (by simp) hbr.size)
        have HRX := hid_of3 hrx
        have HOX := hid_of3 hox
        have hbrx := hbr.trans hbx
        have HRNx := hid_of3 (hkx (by decide) HRN.out)
        clear hxm hx1 hx2 hrx hox hnb hbx hln HLK hkx HRN
        go_wp2_with (at_builtin; refine Lib.wpList_append_run _ rfl _ _ _ _ rfl _ _ rfl rfl _ _ HRX.out ?_)
        clear hwx ee1 ee2 ee3 hn0 hn1
        go_roundw
        case rel => exact ⟨k + 1, _, by omega, by go_num, HOX, HLK2, HRNx, hbrx⟩
        case measure => simp [intOf]; omega
      · have hki : ¬ (k : Int) < (nn : Int) := by omega
        obtain rfl : nn = k := by omega
        have HGZ := hid_of3 (KG.out wr hbr)
        have hl1 : l = l0 ++ nsB ns := by rw [HLK.out, List.take_of_length_le (by rw [hnl.out]; exact Nat.le_refl _)]
        have hll : l.length ≤ 100 := by
          rw [hl1, List.length_append, nsB_len]
          have := hnl.out
          omega
        have HL1 := hid_of3 hl1
        clear hl1 HLK HRN
        obtain ⟨fpc, HFPC⟩ : ∃ b, Hid (s.pic = b) := ⟨_, (rfl : _ = _)⟩
        obtain ⟨⟨m0, m1, m2, m3, m4, m5, m6, m7, m8, -, -, -, -, -, -, -, -, -, -⟩, ⟨t0, t1, tf0, tf1, tl⟩, ⟨s0, s1, s2, s3, s4, s5, s6, -, -, -, -, -, -, -, -⟩, -, -⟩ := HGZ.out
        rw [HFPC.out] at s6 ⊢
        cases fpc with
        | false =>
          have HST := hid_of3 (run_str HO.out)
          have hst := HST.out
          have HFIN : Hid (opB q s.id s.nums s.pic = l) := by
            unfold Hid opB pcB
            rw [HL1.out, HFPC.out, HL0.out, HNS.out]
            simp
          unfold str at hst
          go_wp2_with fail
          refine bodyPost_ret (v := .tuple #[.agg #[.string s.bytes, .string ⟨l.toArray⟩], .nilIface]) (by simp [results, Tryz.results35, go_sem, t0, t1]) rfl ⟨?_, .inr ⟨HC.out, s, HK.out, by rw [HFIN.out]; rfl⟩⟩
          repeat (refine Below.setCell ?_ (by simp) _)
          exact HGZ.out.bel
        | true =>
          have hpok := HOK.out.pic HFPC.out
          obtain ⟨PW, PH, e1, e2, -⟩ := check_zero _ _ _ hpok
          rw [e1] at m6
          rw [e2] at m7
          rw [e1, e2] at hpok
          have HCP := hid_of3 hpok
          have HE := hid_of3 (And.intro e1 e2)
          clear hpok e1 e2
          obtain ⟨t, HT⟩ := bytes_of (picBytes PW PH q.ps)
          have hts : t.size ≤ 1000 := by
            have h := picBytes_len PW PH q.ps HCP.out
            obtain ⟨i1, i2, i3, i4, -, -⟩ := check_ok HCP.out
            have h3 : PH * (1 + 2 * PW) ≤ 8 * 17 := Nat.mul_le_mul (by omega) (by omega)
            rw [size_of HT]
            omega
          go_wp2_with fail
          refine (picBytes_at PW PH (.slice ap np cp) q.ps _ HGZ.out.rp HCP t HT).mono ?_
          rintro e wp ⟨rfl, hbp⟩
          have HGP := hid_of3 (HGZ.out.on hbp)
          have HOP := hid_of3 (HO.out.on hbp)
          clear m0 m1 m2 m3 m4 m5 m6 m7 m8 t0 t1 tf0 tf1 tl s0 s1 s2 s3 s4 s5 s6
          obtain ⟨⟨m0, m1, m2, m3, m4, m5, m6, m7, m8, -, -, -, -, -, -, -, -, -, -⟩, ⟨t0, t1, tf0, tf1, tl⟩, ⟨s0, s1, s2, s3, s4, s5, s6, -, -, -, -, -, -, -, -⟩, -, -⟩ := HGP.out
          obtain ⟨vq, wq, hrq, hoq, hbq⟩ := st_app (X := wp) (B := w2.heap.size + 1) HOP.out t (by omega) (Nat.le_trans (by simp) (hbr.trans (hbp.mono (Nat.le_trans (by simp) hbr.size))).size)
          have hbrq := (hbr.trans (hbp.mono (Nat.le_trans (by simp) hbr.size))).trans hbq
          have HGQ := hid_of3 (KG.out wq hbrq)
          have HRQ := hid_of3 hrq
          have HST := hid_of3 (run_str hoq)
          have HFIN : Hid (opB q s.id s.nums s.pic = l ++ t.data.toList) := by
            unfold Hid opB pcB
            rw [HFPC.out, HL0.out, HNS.out, if_pos rfl, HE.out.1, HE.out.2, ← HL1.out, ← HT.out]
            rfl
          clear hrq hoq hbq
          obtain ⟨-, ⟨u0, u1, uf0, uf1, ul⟩, ⟨-, z1, -, -, -, -, -, -, -, -, -, -, -, -, -⟩, -, -⟩ := HGQ.out
          have hst := HST.out
          unfold str at hst
          go_wp2_with (at_builtin; refine Lib.wpList_append_run _ rfl _ _ _ _ rfl _ _ rfl rfl _ _ HRQ.out ?_)
          refine bodyPost_ret (v := .tuple #[.agg #[.string s.bytes, .string ⟨(l ++ t.data.toList).toArray⟩], .nilIface]) (by simp [results, Tryz.results35, go_sem, u0, u1]) rfl ⟨?_, .inr ⟨HC.out, s, HK.out, by rw [HFIN.out]; rfl⟩⟩
          repeat (refine Below.setCell ?_ (by simp) _)
          exact HGQ.out.bel
end Go.Proofs.YtceabiodelfdoaaGreatDoor
/- Walk: book.bytesOf of an op that may be. -- s1 -/
namespace Go.Proofs.YtceabiodelfdoaaGreatDoor
open Go.RowKit

set_option maxHeartbeats 4000000 in
set_option maxRecDepth 100000 in
theorem bytesOf_ok (q : Pq) (u : Value) (w : World) (HS : Hid (Shapes w)) (h1 : 0 < w.heap.size) (HU : Hid (RdP w u q.ps)) (hps : q.ps.length ≤ 1000000000) (h0 : opC q = 0) :
    Calls Tryz.prog 17 #[opV q u] w fun e w' => e = .returned (.tuple #[str (cB q), .nilIface]) ∧ Below w.heap.size w w' ∧ (cB q).length ≤ 1008 := by
  obtain ⟨s, hs⟩ := opC_some h0
  have HSS := hid_of3 hs
  have HOK := hid_of3 h0
  obtain ⟨b1, b2, b3⟩ := cB_of q s hs (opC_ok h0 hs)
  have HB1 := hid_of3 b1
  have HB2 := hid_of3 b2
  have hol := opB_len q s (opC_ok h0 hs)
  have hnl := (name_ok s (kindAt_mem _ _ _ hs).1).2
  clear b1 b2 hs h0
  obtain ⟨X0, HX0⟩ : ∃ X0, Hid (w.alloc (.cells #[.int .i64 q.kind, .int .i64 q.id, .int .i64 q.a, .int .i64 q.b, .int .i64 q.c, .int .i64 q.d, .int .i64 q.pw, .int .i64 q.ph, u] 48) = X0) := ⟨_, (rfl : _ = _)⟩
  have hbx : Below w.heap.size w X0 := by rw [← HX0.out]; exact (Below.refl _ _).alloc (Nat.le_refl _) _
  have hoc := chunkOp_any q u X0 (HS.out.on h1 hbx) (Nat.lt_of_lt_of_le h1 hbx.size) (HU.out.on hbx) hps
  unfold opV at hoc ⊢
  have HOC := hid_of3 hoc
  clear hoc
  obtain ⟨d, HD⟩ := bytes_of (opB q s.id s.nums s.pic)
  have HSTR : Hid (str (opB q s.id s.nums s.pic) = .string d) := by unfold Hid; rw [HD.out, str_self]
  have hds : d.size ≤ 1000 := by rw [size_of HD]; exact hol
  go_enter Tryz.func17, Tryz.ntmps17
  go_wp2_with fail
  rw [HX0.out]
  refine HOC.out.mono ?_
  clear HOC
  rintro e w2 ⟨hb2, he⟩
  have he2 : e = .returned (.tuple #[.agg #[.string s.bytes, .string d], .nilIface]) := by
    rcases he with ⟨c', hc', hn', _⟩ | ⟨_, s', hs', rfl⟩
    · exact absurd (hc'.symm.trans HOK.out) hn'
    · obtain rfl := Option.some.inj (HSS.out.symm.trans hs')
      rw [HSTR.out]
  subst he2
  clear he
  have hbb2 : Below w.heap.size w w2 := hbx.trans (hb2.mono hbx.size)
  have hb2s := hbb2.size
  have hnb : s.bytes.size ≤ 1000000 := by show s.name.toArray.size ≤ _; simp; omega
  have HZ : Hid (Fb.chunkBytes s.bytes.data.toList d.data.toList = (cB q, 0)) := by
    unfold Hid
    rw [← HD.out, show s.bytes.data.toList = s.name by unfold Shp.bytes; simp, ← HB2.out, HB1.out]
  have HCB := hid_of3 (fun W : World => bytes_at s.bytes d W (by omega) (by omega) (str (cB q)) .nilIface (cB q) 0 HZ rfl rfl)
  go_wp2_with fail
  refine (HCB.out _).mono ?_
  rintro e w3 ⟨rfl, hb3⟩
  go_wp2_with fail
  refine bodyPost_ret (v := .tuple #[str (cB q), .nilIface]) (by simp [results, Tryz.results17, go_sem]) rfl ⟨rfl, ?_, b3⟩
  exact (hbb2.alloc hbb2.size _).trans (hb3.mono (by simp; omega))
end Go.Proofs.YtceabiodelfdoaaGreatDoor
/- Walk: book.Bytes. -- s1 -/
namespace Go.Proofs.YtceabiodelfdoaaGreatDoor
open Go.RowKit

theorem bld_on {T e : TypeId} {B b : Nat} {bs : List Value} {W W' : World} (h : Lib.IsBuilder T e B b bs W) (hb : Below W.heap.size W W') : Lib.IsBuilder T e B b bs W' := by
  have k : ∀ p, Lib.BuilderAt T e B b p bs W → Lib.BuilderAt T e B b p bs W' := fun p h => by
    have hlt := h.lt
    obtain ⟨hB, v, hk, ho, hn⟩ := h
    exact ⟨hB, v, (hb.block b hlt).trans hk, own_on2 ho hb, hn⟩
  exact h.imp (k _) (k _)
theorem bookB_ne {qs : List Pq} (HBK : Book qs) : bookB qs ≠ [] := fun e => by
  unfold bookB at e
  rw [List.flatMap_eq_nil_iff] at e
  have hn0 : 0 < qs.length := by have := HBK.two; omega
  have h1 := e _ (List.getElem_mem hn0)
  have h0 := HBK.ok 0 hn0
  rw [List.getD_eq_getElem?_getD, List.getElem?_eq_getElem hn0] at h0
  simp only [Option.getD_some] at h0
  obtain ⟨s, hs⟩ := opC_some h0
  unfold cB at h1
  rw [hs] at h1
  have h2 := seal_len s.name (opB qs[0] s.id s.nums s.pic)
  simp only at h1
  rw [h1] at h2
  simp at h2
theorem alloc_new (w : World) (o : Obj) : (w.alloc o).heap[w.heap.size]? = some o := by
  show (w.heap.push o)[w.heap.size]? = some o
  exact Array.getElem?_push_size
/-- what book.Bytes answers -/
def BBP (qs : List Pq) (w : World) (e : Ending) (w' : World) : Prop :=
  Below w.heap.size w w' ∧ ((∃ c, bkC qs = c ∧ c ≠ 0 ∧ e = .returned (.tuple #[.string ⟨#[]⟩, errV c])) ∨ (bkC qs = 0 ∧ e = .returned (.tuple #[str (bookB qs), .nilIface])))
set_option maxHeartbeats 8000000 in
set_option maxRecDepth 100000 in
theorem bookBytes_any (v : Value) (qs : List Pq) (w : World) (HS : Hid (Shapes w)) (h1 : 0 < w.heap.size) (HR : Hid (RdQ w v qs)) (hps : ∀ j, j < qs.length → (qs.getD j pq0).ps.length ≤ 1000) (hn : qs.length ≤ 1000) :
    Calls Tryz.prog 7 #[v] w fun e w' => BBP qs w e w' := by
  obtain ⟨a, cap, hv, hl0, hcap⟩ := HR.out.shape
  obtain ⟨n, HN⟩ : ∃ n, Hid (qs.length = n) := ⟨_, (rfl : _ = _)⟩
  rw [HN.out] at hv hl0
  subst hv
  have HPS := hid_of3 hps
  obtain ⟨c, HC⟩ : ∃ c, Hid (bkC qs = c) := ⟨_, (rfl : _ = _)⟩
  have hbf := bookCheck_any (.slice a n cap) qs w HS h1 HR hps hn c HC
  rw [HN.out] at hn
  clear hps
  by_cases hc : c = 0
  case neg =>
    have hev : errV c = .iface 62 (.int .i64 (c : Int)) := by unfold errV; rw [if_neg hc]
    rw [hev] at hbf
    have HBF := hid_of3 hbf
    clear hbf
    go_enter Tryz.func7, Tryz.ntmps7
    go_wp2_with fail
    refine HBF.out.mono ?_
    rintro e w1 ⟨rfl, hb1⟩
    go_wp2_with fail
    refine bodyPost_ret (v := .tuple #[.string ⟨#[]⟩, .iface 62 (.int .i64 (c : Int))]) (by simp [results, Tryz.results7, go_sem]) rfl ⟨hb1, .inl ⟨c, HC.out, hc, by rw [hev]⟩⟩
  subst hc
  rw [show errV 0 = Value.nilIface from rfl] at hbf
  have HBF := hid_of3 hbf
  clear hbf
  have HBK : Hid (Book qs) := book_of HC.out
  have HCL : Hid (∀ q ∈ qs, (cB q).length ≤ 1008) := fun q hq => by
    obtain ⟨j, hj, rfl⟩ := List.mem_iff_getElem.1 hq
    have h0 := HBK.out.ok j hj
    rw [List.getD_eq_getElem?_getD, List.getElem?_eq_getElem hj] at h0
    simp only [Option.getD_some] at h0
    obtain ⟨s, hs⟩ := opC_some h0
    exact (cB_of _ s hs (opC_ok h0 hs)).2.2
  go_enter Tryz.func7, Tryz.ntmps7
  go_wp2_with fail
  refine HBF.out.mono ?_
  clear HBF
  rintro e w1 ⟨rfl, hb1⟩
  have hb1s := hb1.size
  go_wp2_with fail
  go_loopw [17] (fun i wr => ∃ (k : Nat), k ≤ n ∧ i = .int .i64 k ∧ Hid (Lib.IsBuilder 57 5 w.heap.size w1.heap.size (Lib.byteCells (bookB (qs.take k))) wr) ∧ Below w.heap.size w wr) (fun i _ => n - (intOf i).toNat)
  case atStart =>
    refine ⟨0, by omega, rfl, .inl ⟨hb1s, .slice none 0 0, alloc_new _ _, ?_, by simp [Value.ownBlock]⟩, hb1.alloc hb1s _⟩
    exact World.ownsRow_nil _ _ _ _
  case round =>
    obtain ⟨k, hk, rfl, HBL, hbr⟩ := hrel
    have hbrs := hbr.size
    have HTL : Hid ((Lib.byteCells (bookB (qs.take k))).length ≤ 1008 * 1000) := by
      unfold Hid
      rw [Lib.byteCells_length]
      have h2 := bookB_len (qs.take k) (fun q hq => HCL.out q (List.mem_of_mem_take hq))
      have h3 := List.length_take_le k qs
      have : 1008 * (qs.take k).length ≤ 1008 * 1000 := Nat.mul_le_mul (Nat.le_refl _) (by omega)
      omega
    by_cases hlt : k < n
    case neg =>
      obtain rfl : k = n := by omega
      have hki : ¬ (k : Int) < (k : Int) := by omega
      have HBL2 := HBL.out
      rw [List.take_of_length_le (by rw [HN.out]; exact Nat.le_refl _)] at HBL2
      have HST := hid_of3 (string_bld _ _ _ _ HBL2 (bookB_ne HBK.out))
      clear HBL2
      go_wp2_with fail
      refine HST.out.mono ?_
      rintro e w2 ⟨rfl, hb2⟩
      go_wp2_with fail
      refine bodyPost_ret (v := .tuple #[str (bookB qs), .nilIface]) (by simp [results, Tryz.results7, go_sem, str]) rfl ⟨hbr.trans hb2, .inr ⟨HC.out, rfl⟩⟩
    have hki : (k : Int) < (n : Int) := by omega
    have hki0 : (0 : Int) ≤ (k : Int) := by omega
    obtain ⟨q, HX⟩ : ∃ q, Hid (qs.getD k pq0 = q) := ⟨_, (rfl : _ = _)⟩
    have HRr : Hid (RdQ wr (.slice a n cap) qs) := HR.out.on hbr
    obtain ⟨g, o, ua, m, uc, rfl, hg, OC, HU, HMU⟩ := HRr.out.at hlt HX
    obtain ⟨c0, c1, c2, c3, c4, c5, c6, c7, c8⟩ := OC
    have hok : opC q = 0 := by rw [← HX.out]; exact HBK.out.ok k (by rw [HN.out]; exact hlt)
    have HST : Hid (bookB (qs.take (k + 1)) = bookB (qs.take k) ++ cB q) := bookB_take qs k (by rw [HN.out]; exact hlt) HX.out
    have hql : q.ps.length ≤ 1000000000 := by rw [← HX.out]; have := HPS.out k (by rw [HN.out]; exact hlt); omega
    obtain ⟨X0, HX0⟩ : ∃ X0, Hid (wr.alloc (.cells #[.int .i64 q.kind, .int .i64 q.id, .int .i64 q.a, .int .i64 q.b, .int .i64 q.c, .int .i64 q.d, .int .i64 q.pw, .int .i64 q.ph, .slice ua m uc] 48) = X0) := ⟨_, (rfl : _ = _)⟩
    have hbx : Below wr.heap.size wr X0 := by rw [← HX0.out]; exact (Below.refl _ _).alloc (Nat.le_refl _) _
    have hwx := hbr.trans (hbx.mono hbrs)
    have hbo := bytesOf_ok q (.slice ua m uc) X0 (HS.out.on h1 hwx) (Nat.lt_of_lt_of_le h1 hwx.size) (HU.on hbx) hql hok
    obtain ⟨u, HUU⟩ := bytes_of (cB q)
    rw [HUU.out, str_self] at hbo
    unfold opV at hbo
    have HBO := hid_of3 hbo
    clear hbo hok
    go_wp2_with fail
    rw [HX0.out]
    refine HBO.out.mono ?_
    clear HBO
    rintro e w2 ⟨rfl, hb2, hul⟩
    have hus : u.size ≤ 1008 := by rw [size_of HUU, HUU.out]; exact hul
    have hb22 : Below wr.heap.size wr w2 := hbx.trans (hb2.mono hbx.size)
    have hbw2 : Below w.heap.size w w2 := hbr.trans (hb22.mono hbrs)
    have HWS := hid_of3 (writeString_bld _ _ _ u w2 (bld_on HBL.out hb22) (by have := HTL.out; omega) hbw2.size)
    clear c0 c1 c2 c3 c4 c5 c6 c7 c8
    go_wp2_with fail
    refine HWS.out.mono ?_
    clear HWS
    rintro e w3 ⟨rfl, hat, hb3⟩
    have HAT : Hid (Lib.IsBuilder 57 5 w.heap.size w1.heap.size (Lib.byteCells (bookB (qs.take (k + 1)))) w3) := by
      unfold Hid
      rw [HST.out, HUU.out, show Lib.byteCells (bookB (qs.take k) ++ u.data.toList) = Lib.byteCells (bookB (qs.take k)) ++ Lib.strCells u by unfold Lib.byteCells Lib.strCells; rw [List.map_append]]
      exact .inr hat
    go_wp2_with fail
    go_roundw
    case rel => exact ⟨k + 1, by omega, by go_num, HAT, hbw2.trans hb3⟩
    case measure => simp [intOf]; omega
end Go.Proofs.YtceabiodelfdoaaGreatDoor
/- Walk: the reference's SameOps of two rows that hold the same ops. -- s1 -/
namespace Go.Proofs.YtceabiodelfdoaaGreatDoor
open Go.RowKit

set_option maxHeartbeats 8000000 in
set_option maxRecDepth 100000 in
theorem sameOps_any (v0 v1 : Value) (qs : List Pq) (w : World) (H0 : Hid (RdQ w v0 qs)) (H1 : Hid (RdQ w v1 qs)) (hps : ∀ j, j < qs.length → (qs.getD j pq0).ps.length ≤ 1000) :
    Calls Tryz.prog 11 #[v0, v1] w fun e w' => e = .returned (.bool true) ∧ Below w.heap.size w w' := by
  obtain ⟨a0, cap0, hv0, hl0, hcap0⟩ := H0.out.shape
  obtain ⟨a1, cap1, hv1, hl1, hcap1⟩ := H1.out.shape
  have HPS := hid_of3 hps
  obtain ⟨n, HN⟩ : ∃ n, Hid (qs.length = n) := ⟨_, (rfl : _ = _)⟩
  rw [HN.out] at hv0 hv1 hl0 hl1
  subst hv0 hv1
  clear hps
  have hbz : Below w.heap.size w w := Below.refl _ _
  go_enter Tryz.func11, Tryz.ntmps11
  go_wp2_with fail
  go_loopw [5] (fun i wr => ∃ k : Nat, k ≤ n ∧ i = .int .i64 k ∧ Below w.heap.size w wr) (fun i _ => n - (intOf i).toNat)
  case atStart => exact ⟨0, by omega, rfl, hbz⟩
  case round =>
    obtain ⟨k, hk, rfl, hbr⟩ := hrel
    by_cases hlt : k < n
    · obtain ⟨q, HX⟩ : ∃ q, Hid (qs.getD k pq0 = q) := ⟨_, (rfl : _ = _)⟩
      obtain ⟨g, o, ua, mu, uc, rfl, hg, OC, HU, HMU⟩ := (H0.out.on hbr).at hlt HX
      obtain ⟨c0, c1, c2, c3, c4, c5, c6, c7, c8⟩ := OC
      obtain ⟨g', o', ua', mu', uc', rfl, hg', OC', HU', HMU'⟩ := (H1.out.on hbr).at hlt HX
      obtain ⟨d0, d1, d2, d3, d4, d5, d6, d7, d8⟩ := OC'
      have hki0 : (0 : Int) ≤ (k : Int) := by omega
      have hki1 : (k : Int) < (n : Int) := by omega
      have hqp : q.ps.length ≤ 1000 := by rw [← HX.out]; exact HPS.out k (by rw [HN.out]; exact hlt)
      have hso := sameOp_any q (.slice ua mu uc) (.slice ua' mu' uc') wr.drew hqp (HU.out.on (Below.refl _ _).drew) (HU'.out.on (Below.refl _ _).drew)
      unfold opV at hso
      have HSO := hid_of3 hso
      clear hso
      go_wp2_with fail
      refine wp_region_held_drew (S := (fun w' => w'.cell? ⟨g, o + k * 9, none⟩ = some (.int .i64 q.kind) ∧ w'.cell? ⟨g, o + k * 9 + 1, none⟩ = some (.int .i64 q.id) ∧ w'.cell? ⟨g, o + k * 9 + 2, none⟩ = some (.int .i64 q.a) ∧ w'.cell? ⟨g, o + k * 9 + 3, none⟩ = some (.int .i64 q.b) ∧ w'.cell? ⟨g, o + k * 9 + 4, none⟩ = some (.int .i64 q.c) ∧ w'.cell? ⟨g, o + k * 9 + 5, none⟩ = some (.int .i64 q.d) ∧ w'.cell? ⟨g, o + k * 9 + 6, none⟩ = some (.int .i64 q.pw) ∧ w'.cell? ⟨g, o + k * 9 + 7, none⟩ = some (.int .i64 q.ph) ∧ w'.cell? ⟨g, o + k * 9 + 8, none⟩ = some (.slice ua mu uc) ∧ w'.cell? ⟨g', o' + k * 9, none⟩ = some (.int .i64 q.kind) ∧ w'.cell? ⟨g', o' + k * 9 + 1, none⟩ = some (.int .i64 q.id) ∧ w'.cell? ⟨g', o' + k * 9 + 2, none⟩ = some (.int .i64 q.a) ∧ w'.cell? ⟨g', o' + k * 9 + 3, none⟩ = some (.int .i64 q.b) ∧ w'.cell? ⟨g', o' + k * 9 + 4, none⟩ = some (.int .i64 q.c) ∧ w'.cell? ⟨g', o' + k * 9 + 5, none⟩ = some (.int .i64 q.d) ∧ w'.cell? ⟨g', o' + k * 9 + 6, none⟩ = some (.int .i64 q.pw) ∧ w'.cell? ⟨g', o' + k * 9 + 7, none⟩ = some (.int .i64 q.ph) ∧ w'.cell? ⟨g', o' + k * 9 + 8, none⟩ = some (.slice ua' mu' uc'))) (by kernel_rfl) ?_ (fun hHeld => ?_)
      · exact ⟨c0, c1, c2, c3, c4, c5, c6, c7, c8, d0, d1, d2, d3, d4, d5, d6, d7, d8⟩
      refine wpAnyH_take (i := 0) (oi := ({ dst := some 18, op := Op.move (Operand.tmp 0), type := 22, pos := "parts.go:103", after := #[], guard := none } : Oper)) (v := ?_) rfl (by kernel_rfl) (by kernel_rfl) (by kernel_rfl) (fun _ _ _ h => h) (Or.inl ⟨by rfl, ?_⟩) (by assumption) ?_
      rotate_left
      · (intro w hSw; (try dsimp only at hSw); go_simp; try with_reducible rfl)
      try simp only [Act.put, List.setIfInBounds_toArray, List.set_cons_zero, List.set_cons_succ]
      refine wpAnyH_take (i := 1) (oi := ({ dst := some 19, op := Op.move (Operand.tmp 5), type := 3, pos := "parts.go:103", after := #[], guard := none } : Oper)) (v := ?_) rfl (by kernel_rfl) (by kernel_rfl) (by kernel_rfl) (fun _ _ _ h => h) (Or.inl ⟨by rfl, ?_⟩) (by assumption) ?_
      rotate_left
      · (intro w hSw; (try dsimp only at hSw); go_simp; try with_reducible rfl)
      try simp only [Act.put, List.setIfInBounds_toArray, List.set_cons_zero, List.set_cons_succ]
      refine wpAnyH_take (i := 2) (oi := ({ dst := some 20, op := Op.indexAddr 22 (Operand.tmp 18) (Operand.tmp 19), type := 0, pos := "parts.go:103", after := #[{ on := 0, ground := Ground.data }, { on := 1, ground := Ground.data }], guard := none } : Oper)) (v := ?_) rfl (by kernel_rfl) (by kernel_rfl) (by kernel_rfl) (fun _ _ _ h => h) (Or.inl ⟨by rfl, ?_⟩) (by assumption) ?_
      rotate_left
      · (intro w hSw; (try dsimp only at hSw); go_simp; try with_reducible rfl)
      try simp only [Act.put, List.setIfInBounds_toArray, List.set_cons_zero, List.set_cons_succ]
      refine wpAnyH_take (i := 3) (oi := ({ dst := some 21, op := Op.load 48 (Operand.tmp 20), type := 48, pos := "parts.go:103", after := #[{ on := 2, ground := Ground.data }], guard := none } : Oper)) (v := ?_) rfl (by kernel_rfl) (by kernel_rfl) (by kernel_rfl) (fun _ _ _ h => h) (Or.inl ⟨by rfl, ?_⟩) (by assumption) ?_
      rotate_left
      · (intro w hSw; (try dsimp only at hSw); go_simp; try with_reducible rfl)
      try simp only [Act.put, List.setIfInBounds_toArray, List.set_cons_zero, List.set_cons_succ]
      refine wpAnyH_take (i := 4) (oi := ({ dst := some 22, op := Op.move (Operand.tmp 1), type := 22, pos := "parts.go:103", after := #[], guard := none } : Oper)) (v := ?_) rfl (by kernel_rfl) (by kernel_rfl) (by kernel_rfl) (fun _ _ _ h => h) (Or.inl ⟨by rfl, ?_⟩) (by assumption) ?_
      rotate_left
      · (intro w hSw; (try dsimp only at hSw); go_simp; try with_reducible rfl)
      try simp only [Act.put, List.setIfInBounds_toArray, List.set_cons_zero, List.set_cons_succ]
      refine wpAnyH_take (i := 5) (oi := ({ dst := some 23, op := Op.move (Operand.tmp 5), type := 3, pos := "parts.go:103", after := #[], guard := none } : Oper)) (v := ?_) rfl (by kernel_rfl) (by kernel_rfl) (by kernel_rfl) (fun _ _ _ h => h) (Or.inl ⟨by rfl, ?_⟩) (by assumption) ?_
      rotate_left
      · (intro w hSw; (try dsimp only at hSw); go_simp; try with_reducible rfl)
      try simp only [Act.put, List.setIfInBounds_toArray, List.set_cons_zero, List.set_cons_succ]
      refine wpAnyH_take (i := 6) (oi := ({ dst := some 24, op := Op.indexAddr 22 (Operand.tmp 22) (Operand.tmp 23), type := 0, pos := "parts.go:103", after := #[{ on := 4, ground := Ground.data }, { on := 5, ground := Ground.data }], guard := none } : Oper)) (v := ?_) rfl (by kernel_rfl) (by kernel_rfl) (by kernel_rfl) (fun _ _ _ h => h) (Or.inl ⟨by rfl, ?_⟩) (by assumption) ?_
      rotate_left
      · (intro w hSw; (try dsimp only at hSw); go_simp; try with_reducible rfl)
      try simp only [Act.put, List.setIfInBounds_toArray, List.set_cons_zero, List.set_cons_succ]
      refine wpAnyH_take (i := 7) (oi := ({ dst := some 25, op := Op.load 48 (Operand.tmp 24), type := 48, pos := "parts.go:103", after := #[{ on := 6, ground := Ground.data }], guard := none } : Oper)) (v := ?_) rfl (by kernel_rfl) (by kernel_rfl) (by kernel_rfl) (fun _ _ _ h => h) (Or.inl ⟨by rfl, ?_⟩) (by assumption) ?_
      rotate_left
      · (intro w hSw; (try dsimp only at hSw); go_simp; try with_reducible rfl)
      try simp only [Act.put, List.setIfInBounds_toArray, List.set_cons_zero, List.set_cons_succ]
      refine wpAnyH_ready (rs := [8]) (by kernel_rfl) (by simp) ?_
      refine AllReadyH.cons (o := ({ dst := some 26, op := Op.call { callee := Callee.value (Operand.func 25), args := #[Operand.tmp 21, Operand.tmp 25], argTypes := #[48, 48] }, type := 4, pos := "parts.go:103", after := #[{ on := 3, ground := Ground.data }, { on := 7, ground := Ground.data }], guard := none } : Oper)) rfl (fun K_ hK => ?_) AllReadyH.nil
      go_simp
      refine HSO.out.mono ?_
      rintro e w2 ⟨rfl, hb2⟩
      refine hK.out _ _ ?_ (fun hHeld => ?_)
      · exact ⟨(hb2.cell (p := ⟨g, _, none⟩) hg).trans c0, (hb2.cell (p := ⟨g, _, none⟩) hg).trans c1, (hb2.cell (p := ⟨g, _, none⟩) hg).trans c2, (hb2.cell (p := ⟨g, _, none⟩) hg).trans c3, (hb2.cell (p := ⟨g, _, none⟩) hg).trans c4, (hb2.cell (p := ⟨g, _, none⟩) hg).trans c5, (hb2.cell (p := ⟨g, _, none⟩) hg).trans c6, (hb2.cell (p := ⟨g, _, none⟩) hg).trans c7, (hb2.cell (p := ⟨g, _, none⟩) hg).trans c8, (hb2.cell (p := ⟨g', _, none⟩) hg').trans d0, (hb2.cell (p := ⟨g', _, none⟩) hg').trans d1, (hb2.cell (p := ⟨g', _, none⟩) hg').trans d2, (hb2.cell (p := ⟨g', _, none⟩) hg').trans d3, (hb2.cell (p := ⟨g', _, none⟩) hg').trans d4, (hb2.cell (p := ⟨g', _, none⟩) hg').trans d5, (hb2.cell (p := ⟨g', _, none⟩) hg').trans d6, (hb2.cell (p := ⟨g', _, none⟩) hg').trans d7, (hb2.cell (p := ⟨g', _, none⟩) hg').trans d8⟩
      clear hK K_
      try simp only [Act.put, List.setIfInBounds_toArray, List.set_cons_zero, List.set_cons_succ]
      refine wpAnyH_take (i := 9) (oi := ({ dst := some 6, op := Op.assign (Operand.tmp 26), type := 4, pos := "parts.go:103", after := #[{ on := 8, ground := Ground.data }, { on := 8, ground := Ground.chain }, { on := 0, ground := Ground.phase }, { on := 1, ground := Ground.phase }, { on := 2, ground := Ground.phase }, { on := 3, ground := Ground.phase }, { on := 4, ground := Ground.phase }, { on := 5, ground := Ground.phase }, { on := 6, ground := Ground.phase }, { on := 7, ground := Ground.phase }, { on := 8, ground := Ground.phase }], guard := none } : Oper)) (v := ?_) rfl (by kernel_rfl) (by kernel_rfl) (by kernel_rfl) (fun _ _ _ h => h) (Or.inl ⟨by rfl, ?_⟩) (by assumption) ?_
      rotate_left
      · (intro w hSw; (try dsimp only at hSw); go_simp; try with_reducible rfl)
      try simp only [Act.put, List.setIfInBounds_toArray, List.set_cons_zero, List.set_cons_succ]
      refine wpAnyH_done (by kernel_rfl) ?_ _
      have hbb2 := hbr.drew.trans (hb2.mono hbr.size)
      clear hb2
      go_wp2_with fail
      go_roundw
      case rel => exact ⟨k + 1, by omega, by go_num, hbb2⟩
      case measure => simp [intOf]; omega
    · obtain rfl : k = n := by omega
      have hki : ¬ (k : Int) < (k : Int) := by omega
      go_wp2_with fail
      go_ret
      exact ⟨rfl, hbr⟩
end Go.Proofs.YtceabiodelfdoaaGreatDoor
/- What a book's own bytes are read as, with chunks that are passed over between them. -- s1 -/
namespace Go.Proofs.YtceabiodelfdoaaGreatDoor
open Go.RowKit

/-- an op's name and data -/
def ndB (q : Pq) : List UInt8 × List UInt8 := match kindAt q.kind shps with
  | some s => (s.name, opB q s.id s.nums s.pic)
  | none => ([], [])
theorem nd_some {q : Pq} (h : opC q = 0) : ∃ s, kindAt q.kind shps = some s ∧ s ∈ shps ∧ ndB q = (s.name, opB q s.id s.nums s.pic) ∧ cB q = Fb.sealL (Fb.headL s.name (opB q s.id s.nums s.pic)) := by
  obtain ⟨s, hs⟩ := opC_some h
  exact ⟨s, hs, (kindAt_mem _ _ _ hs).1, by unfold ndB; rw [hs], by unfold cB; rw [hs]⟩
theorem nd_fine {q : Pq} (h : opC q = 0) : Fb.nameB (ndB q).1 = true ∧ (ndB q).2.length ≤ 65535 := by
  obtain ⟨s, hs, hm, he, _⟩ := nd_some h
  rw [he]
  have := opB_len q s (opC_ok h hs)
  exact ⟨(name_ok s hm).1, by simp only; omega⟩
theorem cat_nd : ∀ (qs : List Pq), (∀ q ∈ qs, opC q = 0) → bookB qs = Fb.catL (qs.map ndB) := by
  intro qs
  induction qs with
  | nil => intro _; rfl
  | cons q r ih =>
    intro h
    obtain ⟨s, hs, hm, he, hc⟩ := nd_some (h q (by simp))
    rw [List.map_cons, he]
    unfold Fb.catL
    rw [← ih (fun x hx => h x (by simp [hx])), ← hc]
    unfold bookB
    rw [List.flatMap_cons]
theorem catL_app (a b : List (List UInt8 × List UInt8)) : Fb.catL (a ++ b) = Fb.catL a ++ Fb.catL b := by
  induction a with
  | nil => rfl
  | cons p r ih =>
    obtain ⟨n, d⟩ := p
    rw [List.cons_append]
    show Fb.sealL (Fb.headL n d) ++ Fb.catL (r ++ b) = (Fb.sealL (Fb.headL n d) ++ Fb.catL r) ++ Fb.catL b
    rw [ih, List.append_assoc]
theorem pass_not : ∀ s ∈ shps, passB s.name = false := by decide
theorem parB_nd : ∀ (qs : List Pq) (rest : List (List UInt8 × List UInt8)) (acc : List Pq), (∀ q ∈ qs, opC q = 0) → parB (qs.map ndB ++ rest) acc = parB rest (acc ++ qs) := by
  intro qs
  induction qs with
  | nil => intro rest acc _; simp
  | cons q r ih =>
    intro rest acc h
    have h0 := h q (by simp)
    obtain ⟨s, hs, hm, he, _⟩ := nd_some h0
    have hp := par_opB q s h0 hs ⟨(opB q s.id s.nums s.pic).toArray⟩ (by simp)
    have hb : s.bytes = ⟨s.name.toArray⟩ := rfl
    rw [hb] at hp
    rw [List.map_cons, List.cons_append, he]
    conv => lhs; unfold parB
    rw [if_neg (by rw [pass_not s hm]; decide), hp, if_pos rfl, ih rest _ (fun x hx => h x (by simp [hx]))]
    simp
theorem mem_ok {qs : List Pq} (hb : Book qs) : ∀ q ∈ qs, opC q = 0 := fun q hq => by
  obtain ⟨j, hj, rfl⟩ := List.mem_iff_getElem.1 hq
  have := hb.ok j hj
  rwa [getD_pq hj] at this
/-- chunks of other names between, behind so many ops -/
theorem bookOf_more (qs : List Pq) (xs : List (List UInt8 × List UInt8)) (k : Nat) (h : bkC qs = 0) (hx : ∀ p ∈ xs, Fb.nameB p.1 = true ∧ p.2.length ≤ 65535 ∧ passB p.1 = true) (hn : xs.length ≤ 60)
    (hl : (bookB (qs.take k) ++ (Fb.catL xs ++ bookB (qs.drop k))).length ≤ 4000) : bookOf (bookB (qs.take k) ++ (Fb.catL xs ++ bookB (qs.drop k))) = (qs, 0) := by
  have hbk := book_of h
  have hok := mem_ok hbk
  have h1 : ∀ q ∈ qs.take k, opC q = 0 := fun q hq => hok q (List.mem_of_mem_take hq)
  have h2 : ∀ q ∈ qs.drop k, opC q = 0 := fun q hq => hok q (List.mem_of_mem_drop hq)
  have hpx : ∀ (ys : List (List UInt8 × List UInt8)) (rest : List (List UInt8 × List UInt8)) (acc : List Pq), (∀ p ∈ ys, passB p.1 = true) → parB (ys ++ rest) acc = parB rest acc := by
    intro ys
    induction ys with
    | nil => intro rest acc _; rfl
    | cons p r ih =>
      intro rest acc hp
      obtain ⟨n, d⟩ := p
      have hn := hp (n, d) (by simp)
      simp only at hn
      rw [List.cons_append]
      conv => lhs; unfold parB
      rw [if_pos hn]
      exact ih rest acc (fun q hq => hp q (by simp [hq]))
  have he : bookB (qs.take k) ++ (Fb.catL xs ++ bookB (qs.drop k)) = Fb.catL ((qs.take k).map ndB ++ (xs ++ (qs.drop k).map ndB)) := by
    rw [catL_app, catL_app, cat_nd _ h1, cat_nd _ h2]
  have hall : Fb.allOf 120 (bookB (qs.take k) ++ (Fb.catL xs ++ bookB (qs.drop k))) 0 = ((qs.take k).map ndB ++ (xs ++ (qs.drop k).map ndB), 0) := by
    rw [he, Fb.allOf_cat 120 _ 0, if_pos]
    · right
      simp only [List.length_append, List.length_map, List.length_take, List.length_drop]
      have := hbk.few
      omega
    · intro p hp
      rcases List.mem_append.1 hp with hp | hp
      · obtain ⟨q, hq, rfl⟩ := List.mem_map.1 hp
        exact nd_fine (h1 q hq)
      · rcases List.mem_append.1 hp with hp | hp
        · exact ⟨(hx p hp).1, (hx p hp).2.1⟩
        · obtain ⟨q, hq, rfl⟩ := List.mem_map.1 hp
          exact nd_fine (h2 q hq)
  have hpar : parB ((qs.take k).map ndB ++ (xs ++ (qs.drop k).map ndB)) [] = (qs, 0) := by
    rw [parB_nd _ _ _ h1, hpx xs _ _ (fun p hp => (hx p hp).2.2)]
    have := parB_nd (qs.drop k) [] ([] ++ qs.take k) h2
    rw [List.append_nil] at this
    rw [this]
    simp [parB]
  unfold bookOf
  rw [if_neg (by omega), hall, if_neg (by simp), hpar, if_neg (by simp), h, if_neg (by simp)]
theorem bookOf_book (qs : List Pq) (h : bkC qs = 0) (hl : (bookB qs).length ≤ 4000) : bookOf (bookB qs) = (qs, 0) := by
  have := bookOf_more qs [] 0 h (by simp) (by simp) (by simpa [Fb.catL, bookB] using hl)
  simpa [Fb.catL, bookB] using this
theorem bookOf_long (l : List UInt8) (h : 4000 < l.length) : bookOf l = ([], 2) := by unfold bookOf; rw [if_pos h]
end Go.Proofs.YtceabiodelfdoaaGreatDoor
/- Plain lemmas: a chunk of which one byte is another one, by another remainder than that of 251, is not read. -/
namespace Go.Proofs.YtceabiodelfdoaaGreatDoor
namespace Fb

def sumA (a : Nat) (x : UInt8) : Nat := (a + x.toNat) % 251

set_option maxRecDepth 100000 in
theorem foldl_fst (l : List UInt8) : ∀ p : Nat × Nat, (l.foldl sumStep p).1 = l.foldl sumA p.1 := by
  induction l with
  | nil => intro p; rfl
  | cons x l ih => intro p; simp only [List.foldl_cons]; rw [ih]; rfl

set_option maxRecDepth 100000 in
theorem sumA_inj (l : List UInt8) : ∀ a b : Nat, l.foldl sumA a = l.foldl sumA b → a % 251 = b % 251 ∨ l = [] := by
  induction l with
  | nil => intro a b _; exact .inr rfl
  | cons x l ih =>
    intro a b h
    left
    simp only [List.foldl_cons] at h
    rcases ih _ _ h with h1 | h1
    · unfold sumA at h1; omega
    · subst h1
      simp only [List.foldl_nil] at h
      unfold sumA at h; omega

set_option maxRecDepth 100000 in
theorem sumA_spoil (pre post : List UInt8) (x y : UInt8) (a : Nat) (hne : x.toNat % 251 ≠ y.toNat % 251) : (pre ++ [x] ++ post).foldl sumA a ≠ (pre ++ [y] ++ post).foldl sumA a := by
  intro h
  simp only [List.foldl_append, List.foldl_cons, List.foldl_nil] at h
  rcases sumA_inj post _ _ h with h1 | h1
  · unfold sumA at h1; omega
  · subst h1
    simp only [List.foldl_nil] at h
    unfold sumA at h; omega

set_option maxRecDepth 100000 in
theorem sumL_spoil (pre post : List UInt8) (x y : UInt8) (hne : x.toNat % 251 ≠ y.toNat % 251) : (sumL (pre ++ [x] ++ post)).1 ≠ (sumL (pre ++ [y] ++ post)).1 := by
  unfold sumL
  rw [foldl_fst, foldl_fst]
  exact sumA_spoil pre post x y 1 hne

set_option maxRecDepth 100000 in
theorem pairL_inj {a b c d : Nat} (ha : a < 256) (hc : c < 256) (h : pairL a b = pairL c d) : a = c := by
  unfold pairL at h
  simp only [List.cons.injEq] at h
  have h1 := congrArg UInt8.toNat h.1
  rw [ofNat_toNat _ ha, ofNat_toNat _ hc] at h1
  exact h1

/-- the byte at k is another one -/
def spoilt (t : List UInt8) (k : Nat) (y : UInt8) : List UInt8 := t.take k ++ [y] ++ t.drop (k + 1)

set_option maxRecDepth 100000 in
theorem spoilt_append_left (a b : List UInt8) (k : Nat) (y : UInt8) (h : k < a.length) : spoilt (a ++ b) k y = spoilt a k y ++ b := by
  unfold spoilt
  rw [List.take_append_of_le_length (by omega), List.drop_append_of_le_length (by omega)]
  simp
set_option maxRecDepth 100000 in
theorem spoilt_append_right (a b : List UInt8) (k : Nat) (y : UInt8) (h : a.length ≤ k) : spoilt (a ++ b) k y = a ++ spoilt b (k - a.length) y := by
  unfold spoilt
  rw [List.take_append, List.drop_append, List.take_of_length_le h, List.drop_of_length_le (by omega)]
  rw [show k + 1 - a.length = k - a.length + 1 by omega]
  simp
set_option maxRecDepth 100000 in
theorem spoilt_len (t : List UInt8) (k : Nat) (y : UInt8) (h : k < t.length) : (spoilt t k y).length = t.length := by
  unfold spoilt
  simp; omega
set_option maxRecDepth 100000 in
theorem split_at (t : List UInt8) (k : Nat) (h : k < t.length) : t = t.take k ++ [t.getD k 0] ++ t.drop (k + 1) := by
  have e := getD_drop t k h
  conv => lhs; rw [← List.take_append_drop k t, e]
  simp

set_option maxRecDepth 100000 in
theorem sum_spoilt (t : List UInt8) (k : Nat) (y : UInt8) (h : k < t.length) (hne : (t.getD k 0).toNat % 251 ≠ y.toNat % 251) : (sumL t).1 ≠ (sumL (spoilt t k y)).1 := by
  intro e
  have h2 := sumL_spoil (t.take k) (t.drop (k + 1)) (t.getD k 0) y hne
  rw [← split_at t k h] at h2
  exact h2 e

set_option maxRecDepth 100000 in
theorem getD_left (a b : List UInt8) (k : Nat) (h : k < a.length) : (a ++ b).getD k 0 = a.getD k 0 := by
  rw [List.getD_eq_getElem?_getD, List.getElem?_append_left h, ← List.getD_eq_getElem?_getD]
set_option maxRecDepth 100000 in
theorem getD_right (a b : List UInt8) (k : Nat) (h : a.length ≤ k) : (a ++ b).getD k 0 = b.getD (k - a.length) 0 := by
  rw [List.getD_eq_getElem?_getD, List.getElem?_append_right h, ← List.getD_eq_getElem?_getD]

set_option maxRecDepth 100000 in
theorem measure_spoilt (name data : List UInt8) (k : Nat) (y : UInt8) (hn : nameB name = true) (hd : data.length ≤ 65535) (hk6 : 6 ≤ k) (hk : k < 8 + data.length)
    (hne : ((sealL (headL name data)).getD k 0).toNat % 251 ≠ y.toNat % 251) : measureL (spoilt (sealL (headL name data)) k y) = (0, 6) := by
  have h4 := nameB_len hn
  have hL := headL_len name data h4
  have hlt := sumL_lt (headL name data)
  unfold sealL at hne ⊢
  by_cases hc : k < 6 + data.length
  · rw [spoilt_append_left _ _ _ _ (by omega)]
    rw [getD_left _ _ _ (by omega)] at hne
    have hsum := sum_spoilt (headL name data) k y (by omega) hne
    have hh : spoilt (headL name data) k y = headL name (spoilt data (k - 6) y) := by
      unfold headL
      rw [spoilt_append_right _ _ _ _ (by unfold pairL; simp [h4]; omega), spoilt_len _ _ _ (by omega)]
      rw [show (name ++ pairL (data.length % 256) (data.length / 256)).length = 6 by unfold pairL; simp [h4]]
    rw [hh] at hsum ⊢
    have hlt2 := sumL_lt (headL name (spoilt data (k - 6) y))
    have hdl := spoilt_len data (k - 6) y (by omega)
    rw [measure_head name _ _ hn (by omega) (by unfold pairL; simp), if_neg]
    intro e
    rw [List.take_of_length_le (by unfold pairL; simp)] at e
    exact hsum (pairL_inj (by omega) (by omega) e)
  · rw [spoilt_append_right _ _ _ _ (by omega)]
    rw [getD_right _ _ _ (by omega), hL] at hne
    rw [hL]
    have hk2 : k - (6 + data.length) = 0 ∨ k - (6 + data.length) = 1 := by omega
    rw [measure_head name _ _ hn hd (by rw [spoilt_len _ _ _ (by unfold pairL; simp; omega)]; unfold pairL; simp), if_neg]
    intro e
    rw [List.take_of_length_le (by rw [spoilt_len _ _ _ (by unfold pairL; simp; omega)]; unfold pairL; simp)] at e
    rcases hk2 with h | h
    · rw [h] at e hne
      unfold spoilt pairL at e
      unfold pairL at hne
      simp at e
      apply hne
      rw [e]; rfl
    · rw [h] at e hne
      unfold spoilt pairL at e
      unfold pairL at hne
      simp at e
      apply hne
      rw [e]; rfl

end Fb
end Go.Proofs.YtceabiodelfdoaaGreatDoor
/- Walk of the law TopSum. -/
namespace Go.Proofs.YtceabiodelfdoaaGreatDoor
open Go.RowKit

set_option maxRecDepth 100000 in
theorem and_1023 (n : Int) : bits .and .i64 n 1023 = n % 1024 := by
  have hm : (BitVec.ofInt 64 1023).toNat = 2 ^ 10 - 1 := by decide
  have key : (BitVec.ofInt 64 n &&& BitVec.ofInt 64 1023).toNat = (n % ((2 ^ 64 : Nat) : Int)).toNat % 2 ^ 10 := by
    rw [BitVec.toNat_and, BitVec.toNat_ofInt, hm, Nat.and_two_pow_sub_one_eq_mod]
  show IntKind.i64.wrap ((BitVec.ofInt 64 n &&& BitVec.ofInt 64 1023).toNat : Nat) = n % 1024
  rw [key, IntKind.wrap_i64]
  omega

set_option maxRecDepth 100000 in
theorem run_one (W : World) (B : Nat) (a : Int) (x : UInt8) (ha : Hid ((x.toNat : Int) = a)) (hc : W.cell? ⟨B, 0, none⟩ = some (.int .u8 a)) :
    (convert 55 9 (.slice (some ⟨B, 0, none⟩) 1 1)).run Tryz.prog W = .ok (.string ⟨#[x]⟩) W := by
  refine run_convert_bytes_back _ 55 9 5 ⟨B, 0, none⟩ 1 [x] Tryz.underlying55 Tryz.underlying5 Tryz.underlying9 ?_
  intro j hj
  match j, hj with
  | 0, _ => rw [← ha.out] at hc; simpa [Addr.add] using hc

set_option maxRecDepth 100000 in
theorem wrap_small (n : Int) (h : 0 ≤ n ∧ n ≤ 9223372036854775807) : wrap64 n = n := by unfold wrap64; omega

end Go.Proofs.YtceabiodelfdoaaGreatDoor
