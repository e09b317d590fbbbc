/- Walk of chunk.All. -/
import Derived.Test.YtjoggjjkafamlabChunkD
import Derived.Test.YtjoggjjkafamlabAllM
namespace Go.Proofs.Ytjoggjjkafamlab
open Go.RowKit

theorem Try.infoChunk : (Try.prog.info? 29).map (fun i => (i.zero, i.size, i.bytes)) = some (some (.agg #[.string ⟨#[]⟩, .string ⟨#[]⟩]), 2, 32) := by kernel_rfl

/-- the cells of chunks -/
def chunkCells : List (List UInt8 × List UInt8) → List Value
  | [] => []
  | (n, d) :: r => str n :: str d :: chunkCells r

theorem chunkCells_append (a b : List (List UInt8 × List UInt8)) : chunkCells (a ++ b) = chunkCells a ++ chunkCells b := by
  induction a with
  | nil => rfl
  | cons p a ih => obtain ⟨n, d⟩ := p; simp [chunkCells, ih]

theorem two_strs (w : World) (T : TypeId) (x y : ByteArray) : ∀ j u, [Value.string x, .string y][j]? = some u → (w.alloc (.cells #[.string x, .string y] T)).cell? ((⟨w.heap.size, 0, none⟩ : Addr).add j) = some u := by
  intro j u hj
  match j, hj with
  | 0, hj => simp at hj; subst hj; simp [Addr.add]
  | 1, hj => simp at hj; subst hj; simp [Addr.add]
  | j + 2, hj => simp at hj
theorem two_strs_one (x y : ByteArray) : ∀ u ∈ [Value.string x, .string y], u.oneCell' = true := by
  intro u hu; simp at hu; rcases hu with rfl | rfl <;> rfl

theorem grown_below {W W' : World} (h : Below W.heap.size W W') : W.grownBy W' none := ⟨h.os, h.tape, h.output, h.size, fun k hk _ => h.block k hk⟩
theorem own_on {W W' : World} {B : Nat} {e : TypeId} {size : Nat} {v : Value} {n : Nat} {xs : List Value} (h : W.ownsRow B e size v n xs) (hb : Below W.heap.size W W') : W'.ownsRow B e size v n xs :=
  h.kept (grown_below hb) (by cases hv : v.ownBlock <;> simp)

set_option maxHeartbeats 4000000 in
set_option maxRecDepth 100000 in
theorem all_any (s : ByteArray) (most : Int) (w : World) (hs : s.size ≤ 1000000) (hm0 : -9223372036854775808 ≤ most) (hm1 : most ≤ 9223372036854775807) (cs : List (List UInt8 × List UInt8)) (c : Nat) (HZ : Hid (Fb.allOf most s.data.toList 0 = (cs, c))) :
    Calls Try.prog 10 #[.string s, .int .i64 most] w fun e w' => ∃ v, e = .returned (.tuple #[v, errV c]) ∧ w'.ownsRow w.heap.size 29 2 v cs.length (chunkCells cs) ∧ Below w.heap.size w w' := by
  obtain ⟨i0, hi, hz0, hz1, hz2⟩ := info_parts Try.infoChunk
  go_enter Try.func10, Try.ntmps10
  go_wp2
  go_loopw [0, 6] (fun x v wr => ∃ (t : ByteArray) (rs : List (List UInt8 × List UInt8)), x = .string t ∧ t.size + 8 * rs.length ≤ 1000000 ∧ wr.ownsRow w.heap.size 29 2 v rs.length (chunkCells rs) ∧ Below w.heap.size w wr ∧ Hid ((cs, c) = Fb.comb rs (Fb.allOf most t.data.toList rs.length))) (fun x _ _ => match x with | .string t => t.size | _ => 0)
  case atStart => exact ⟨s, [], rfl, by simpa using hs, World.ownsRow_nil _ _ _ _, Below.refl _ _, by unfold Hid; rw [← HZ.out]; exact (Fb.comb_nil _ _ _).symm⟩
  case round =>
    obtain ⟨t, rs, rfl, hsz, hown, hb, HK⟩ := hrel
    have HL : Hid (t.data.toList.length = t.size) := by unfold Hid; simp
    obtain ⟨ao, cp, hv⟩ := own_any hown
    by_cases hpos : 0 < t.size
    · have HNE : Hid (t.data.toList ≠ []) := by unfold Hid; intro e; have := HL.out; rw [e] at this; simp at this; omega
      by_cases hmany : most ≤ rs.length
      · have HC : Hid ((cs, c) = ([], 2)) := by unfold Hid; rw [HK.out, Fb.allOf_many _ _ _ HNE.out hmany]; rfl
        rw [hv]
        go_wp2_with fail
        go_ret2
        have e1 : cs = [] := congrArg Prod.fst HC.out
        have e2 : c = 2 := congrArg Prod.snd HC.out
        subst e1 e2
        exact ⟨_, rfl, World.ownsRow_nil _ _ _ _, hb⟩
      · obtain ⟨z, HM⟩ : ∃ z, Hid (Fb.measureL t.data.toList = z) := ⟨_, (rfl : _ = _)⟩
        obtain ⟨n, mc⟩ := z
        by_cases hmc : mc = 0
        · subst hmc
          have hfit := measure_fit HM.out
          rw [HL.out] at hfit
          obtain ⟨hn8, hns⟩ := hfit
          obtain ⟨x, HX⟩ : ∃ x, Hid ((t.extract 0 n).extract 0 4 = x) := ⟨_, (rfl : _ = _)⟩
          obtain ⟨y, HY⟩ : ∃ x, Hid ((t.extract 0 n).extract 6 (n - 2) = x) := ⟨_, (rfl : _ = _)⟩
          have HXS : Hid (str (t.data.toList.take 4) = .string x) := by
            unfold Hid
            rw [← HX.out, ← str_ext (t.extract 0 n) 0 4, ext_data]
            simp only [List.drop_zero, Nat.sub_zero, List.take_take]
            rw [Nat.min_eq_left (by omega)]
          have HYS : Hid (str (((t.data.toList.take n).drop 6).take (n - 8)) = .string y) := by
            unfold Hid
            rw [← HY.out, ← str_ext (t.extract 0 n) 6 (n - 2), ext_data]
            simp only [List.drop_zero, Nat.sub_zero]
            rw [show n - 2 - 6 = n - 8 by omega]
          obtain ⟨p, HP⟩ : ∃ p, Hid ((t.data.toList.take 4, ((t.data.toList.take n).drop 6).take (n - 8)) = p) := ⟨_, (rfl : _ = _)⟩
          have HN : Hid ((cs, c) = Fb.comb (rs ++ [p]) (Fb.allOf most (t.data.toList.drop n) (rs ++ [p]).length)) := by
            unfold Hid
            rw [HK.out, Fb.allOf_step _ _ _ HNE.out hmany (by rw [HM.out]), HM.out, Fb.comb_comb, ← HP.out]
            simp
          have HPC : Hid (chunkCells (rs ++ [p]) = chunkCells rs ++ [.string x, .string y]) := by
            unfold Hid; rw [chunkCells_append, ← HP.out]; unfold chunkCells; rw [HXS.out, HYS.out]; rfl
          have hxx := ext_size t (show t.size ≤ 1000000 by omega)
          have hx0 : (t.extract 0 n).size = n := by rw [ByteArray.size_extract]; omega
          have HOP : Hid (∀ W, Calls Try.prog 19 #[.string (t.extract 0 n)] W fun e w' => e = .returned (.agg #[.string x, .string y]) ∧ Below W.heap.size W w') := by
            unfold Hid
            intro W
            have := open_any (t.extract 0 n) W (hxx _ _) (by omega)
            rw [hx0, HX.out, HY.out] at this
            exact this
          clear hx0 hxx
          have HTE : Hid ((t.extract n t.size).data.toList = t.data.toList.drop n) := by
            unfold Hid; rw [ext_data, List.take_of_length_le (by rw [List.length_drop, HL.out]; omega)]
          have HTS : Hid ((t.extract n t.size).size = t.size - n) := by unfold Hid; rw [ByteArray.size_extract]; omega
          have hi1 : (n : Int) ≤ (t.size : Int) := by omega
          rw [hv] at hown
          rw [hv]
          go_wp2_with fail
          refine (measure_at t _ (by omega) n 0 .nilIface HM rfl).mono ?_
          rintro e w1 ⟨rfl, hb1⟩
          have hown1 := own_on hown hb1
          have hbb1 : Below w.heap.size w w1 := hb.trans (hb1.mono hb.size)
          go_wp2_with fail
          refine (HOP.out _).mono ?_
          rintro e w2 ⟨rfl, hb2⟩
          have hown2 := own_on hown1 hb2
          have hbb2 : Below w.heap.size w w2 := hbb1.trans (hb2.mono hbb1.size)
          go_wp2_with (at_builtin; refine wpList_append_own _ rfl _ _ 36 rfl w.heap.size 29 i0 (.agg #[.string ⟨#[]⟩, .string ⟨#[]⟩]) 2 32 Try.underlying36 hi hz0 hz1 hz2 rfl (by decide) _ _ _ rfl (hown2.alloc _) ⟨w2.heap.size, 0, none⟩ 1 1 [.string x, .string y] rfl rfl ?c1 ?c2 ?c3 ?c4 ?c5 ?_)
          case c1 => exact two_strs _ _ _ _
          case c2 => exact two_strs_one _ _
          case c3 => unfold maxLen; omega
          case c4 => omega
          case c5 => have := hbb2.size; simp; omega
          · intro v' w3 hown' hgrow _
            have hb3 : Below w.heap.size w w3 := below_app hbb2 hown2 hgrow
            have hown3 : w3.ownsRow w.heap.size 29 2 v' (rs ++ [p]).length (chunkCells (rs ++ [p])) := by
              rw [HPC.out]; simpa using hown'
            clear hown' hgrow
            go_wp2
            go_roundw
            case rel => exact ⟨t.extract n t.size, rs ++ [p], rfl, by rw [HTS.out]; simp; omega, hown3, hb3, by unfold Hid; rw [HTE.out]; exact HN.out⟩
            case measure => simp only []; rw [HTS.out]; omega
        · have HE : Hid (errV mc = .iface 52 (.int .i64 (mc : Int))) := by unfold Hid errV; rw [if_neg hmc]
          have HC : Hid ((cs, c) = ([], mc)) := by
            unfold Hid; rw [HK.out, Fb.allOf_err _ _ _ HNE.out hmany (by rw [HM.out]; exact hmc), HM.out]; unfold Fb.comb; rw [if_pos hmc]
          rw [hv]
          go_wp2_with fail
          refine (measure_at t _ (by omega) n mc _ HM HE).mono ?_
          rintro e w1 ⟨rfl, hb1⟩
          go_wp2_with fail
          go_ret2
          have e1 : cs = [] := congrArg Prod.fst HC.out
          have e2 : c = mc := congrArg Prod.snd HC.out
          subst e1 e2
          exact ⟨_, by rw [HE.out]; rfl, World.ownsRow_nil _ _ _ _, hb.trans (hb1.mono hb.size)⟩
    · have hl0 : t.data.toList = [] := List.eq_nil_of_length_eq_zero (by rw [HL.out]; omega)
      have HC : Hid ((cs, c) = (rs, 0)) := by unfold Hid; rw [HK.out, hl0, Fb.allOf_nil]; simp [Fb.comb]
      clear hl0
      go_wp2_with fail
      go_ret2
      have e1 : cs = rs := congrArg Prod.fst HC.out
      have e2 : c = 0 := congrArg Prod.snd HC.out
      subst e1 e2
      exact ⟨_, rfl, hown, hb⟩
end Go.Proofs.Ytjoggjjkafamlab
