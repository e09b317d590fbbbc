/- Walk of picture.appendPixels. -/
import Derived.Test.YtjoggjjkafamlaaPicF
import Derived.Test.YtjoggjjkafamlaaPicG2
namespace Go.Proofs.Ytjoggjjkafamlaa
open Go.RowKit

theorem Try.infoPix : (Try.prog.info? 60).map (fun i => (i.zero, i.size, i.bytes)) = some (some (.agg #[.int .i64 0, .int .i64 0]), 2, 16) := by kernel_rfl

def pixOf : List UInt8 → List (Int × Int)
  | a :: b :: r => ((a.toNat : Int), (b.toNat : Int)) :: pixOf r
  | _ => []
def pixCells : List (Int × Int) → List Value
  | [] => []
  | (v, a) :: r => .int .i64 v :: .int .i64 a :: pixCells r
theorem pixCells_append (a b : List (Int × Int)) : pixCells (a ++ b) = pixCells a ++ pixCells b := by
  induction a with
  | nil => rfl
  | cons p a ih => obtain ⟨n, d⟩ := p; simp [pixCells, ih]

/-- rows of two kinds lie apart -/
theorem own_diff {W : World} {B B' : Nat} {e e' : TypeId} {size size' : Nat} {x v : Value} {n m : Nat} {xs ys : List Value} (hx : W.ownsRow B e size x n xs) (hv : W.ownsRow B' e' size' v m ys) (hne : e ≠ e') : v.ownBlock = none ∨ v.ownBlock ≠ x.ownBlock := by
  rcases hv.2 with ⟨rfl, _⟩ | ⟨g, cap, cur, rfl, _, hg, _⟩
  · exact .inl rfl
  · right
    intro h
    rcases hx.2 with ⟨rfl, _⟩ | ⟨g2, cap2, cur2, rfl, _, hg2, _⟩
    · simp [Value.ownBlock] at h
    · simp [Value.ownBlock] at h
      subst h
      rw [hg] at hg2
      simp at hg2
      exact hne hg2.2.symm

theorem below_app3 {w wr w2 : World} {B : Nat} {v : Value} {n : Nat} {xs : List Value} {e : TypeId} {size : Nat} {ob : Obj} (hb : Below B w wr) (hB : B ≤ wr.heap.size) (hown : wr.ownsRow B e size v n xs) (hg : ((wr.alloc ob).drew).grownBy w2 v.ownBlock) : Below B w w2 := by
  refine ((hb.alloc hB ob).drew).grown hg (by simp; omega) ?_
  intro k hk
  exact (hown.lt k hk).1

theorem drop_two2 (l : List UInt8) (k : Nat) (h : 2 * k + 1 < l.length) : l.drop (2 * k) = l.getD (2 * k) 0 :: l.getD (2 * k + 1) 0 :: l.drop (2 * (k + 1)) := drop_two l k h

theorem pix_new (w : World) (n d : Int) : ∀ j u, [Value.int .i64 n, .int .i64 d][j]? = some u → ((w.alloc (.cells #[.int .i64 n, .int .i64 d] 60)).drew).cell? ((⟨w.heap.size, 0, none⟩ : Addr).add j) = some u := by
  intro j u hj
  match j, hj with
  | 0, hj => simp at hj; subst hj; simp [Addr.add]
  | 1, hj => simp at hj; subst hj; simp [Addr.add]
  | j + 2, hj => simp at hj
theorem pix_one (n d : Int) : ∀ u ∈ [Value.int .i64 n, .int .i64 d], u.oneCell' = true := by
  intro u hu; simp at hu; rcases hu with rfl | rfl <;> rfl

set_option maxHeartbeats 2000000 in
set_option maxRecDepth 100000 in
theorem appendPixels_any (B m : Nat) (vl vrow : Value) (ps : List (Int × Int)) (row : List UInt8) (w : World) (hB : B ≤ w.heap.size) (HP : Hid (w.ownsRow B 60 2 vl ps.length (pixCells ps))) (HR : Hid (w.ownsRow B 5 1 vrow row.length (row.map bv)))
    (HM : Hid (row.length = 2 * m)) (hm : m ≤ 100) (hm1 : 1 ≤ m) (hps : ps.length ≤ 10000) :
    Calls Try.prog 32 #[vl, vrow] w fun e w' => ∃ v', e = .returned v' ∧ w'.ownsRow B 60 2 v' (ps ++ pixOf row).length (pixCells (ps ++ pixOf row)) ∧ w'.ownsRow B 5 1 vrow row.length (row.map bv) ∧ Below B w w' := by
  obtain ⟨i0, hi, hz0, hz1, hz2⟩ := info_parts Try.infoPix
  obtain ⟨g, cap, hv, hgB, hlc, hcm⟩ := own_shape HR.out (by rw [HM.out]; omega)
  rw [HM.out] at hv hlc
  unfold maxLen at hcm
  subst hv
  obtain ⟨av, cv, hvl⟩ := own_any HP.out
  go_enter Try.func32, Try.ntmps32
  go_wp2_with fail
  go_loopw [0, 9] (fun x i wr => ∃ (k : Nat) (qs : List (Int × Int)), k ≤ m ∧ i = .int .i64 k ∧ Hid (wr.ownsRow B 60 2 x qs.length (pixCells qs)) ∧ Hid (wr.ownsRow B 5 1 (.slice (some ⟨g, 0, none⟩) (2 * m) cap) row.length (row.map bv)) ∧ Below B w wr ∧ qs.length ≤ ps.length + k ∧ Hid (ps ++ pixOf row = qs ++ pixOf (row.drop (2 * k)))) (fun _ i _ => m - (intOf i).toNat)
  case atStart => exact ⟨0, ps, by omega, rfl, HP, HR, Below.refl _ _, by omega, rfl⟩
  case round =>
    obtain ⟨k, qs, hk, rfl, HO, HRR, hb, hqs, HK⟩ := hrel
    by_cases hlt : k < m
    · obtain ⟨x, HX⟩ : ∃ x, Hid (row.getD (2 * k) 0 = x) := ⟨_, (rfl : _ = _)⟩
      obtain ⟨y, HY⟩ : ∃ x, Hid (row.getD (2 * k + 1) 0 = x) := ⟨_, (rfl : _ = _)⟩
      obtain ⟨xx, HXX⟩ : ∃ m, Hid (x.toNat = m) := ⟨_, (rfl : _ = _)⟩
      obtain ⟨yy, HYY⟩ : ∃ m, Hid (y.toNat = m) := ⟨_, (rfl : _ = _)⟩
      have hxb := byte_le x xx HXX
      have hyb := byte_le y yy HYY
      have hrd := rdB_own HRR.out
      obtain ⟨_, _, hv2, _, _, hh⟩ := hrd
      obtain ⟨g2, hg2, hglt, hcell⟩ := hh (by intro e; have h := HM.out; rw [e] at h; simp at h; omega)
      simp only [Value.slice.injEq] at hv2
      have hgg : g2 = g := by
        have h1 := hv2.1
        rw [hg2] at h1
        simp at h1
        exact h1.symm
      subst hgg
      have hc0 : wr.cell? ⟨g2, 2 * k, none⟩ = some (.int .u8 (xx : Int)) := by rw [hcell (2 * k) (by rw [HM.out]; omega), HX.out, ← HXX.out]; rfl
      have hc1 : wr.cell? ⟨g2, 2 * k + 1, none⟩ = some (.int .u8 (yy : Int)) := by rw [hcell (2 * k + 1) (by rw [HM.out]; omega), HY.out, ← HYY.out]; rfl
      clear hcell hh hv2 hg2
      have hq1 : IntKind.i64.wrap (2 * (k : Int)) = 2 * (k : Int) := by rw [IntKind.wrap_i64]; omega
      have hq2 : IntKind.i64.wrap (2 * (k : Int) + 1) = 2 * (k : Int) + 1 := by rw [IntKind.wrap_i64]; omega
      have hq3 : IntKind.i64.wrap (xx : Int) = (xx : Int) := by rw [IntKind.wrap_i64]; omega
      have hq4 : IntKind.i64.wrap (yy : Int) = (yy : Int) := by rw [IntKind.wrap_i64]; omega
      have hq5 : (2 * (k : Int)).toNat = 2 * k := by omega
      have hq6 : (2 * (k : Int) + 1).toNat = 2 * k + 1 := by omega
      have hq7 : (0 : Int) ≤ 2 * (k : Int) := by omega
      have hq8 : 2 * (k : Int) < ((2 * m : Nat) : Int) := by omega
      have hq9 : 2 * (k : Int) + 1 < ((2 * m : Nat) : Int) := by omega
      have hq10 : 2 * (k : Int) < 2 * (m : Int) := by omega
      have hq11 : 2 * (k : Int) + 1 < 2 * (m : Int) := by omega
      have hq12 : (0 : Int) ≤ 2 * (k : Int) + 1 := by omega
      have HS : Hid (ps ++ pixOf row = (qs ++ [((xx : Int), (yy : Int))]) ++ pixOf (row.drop (2 * (k + 1)))) := by
        unfold Hid; rw [HK.out, drop_two2 row k (by rw [HM.out]; omega), HX.out, HY.out, pixOf, HXX.out, HYY.out]; simp
      go_upto_region 4 with fail
      go_region_law (refine step_append_own rfl (.tmp 12) (.tmp 27) 31 rfl B 60 i0 (.agg #[.int .i64 0, .int .i64 0]) 2 16 Try.underlying31 hi hz0 hz1 hz2 rfl (by decide) _ _ _ rfl (HO.out.alloc _).drew ⟨wr.heap.size, 0, none⟩ 1 1 [.int .i64 (xx : Int), .int .i64 (yy : Int)] rfl rfl (pix_new _ _ _) (pix_one _ _) (by unfold maxLen; omega) (by omega) (by have := hb.size; simp; omega) ?_; intro v' w2 hown' hgrow)
      all_goals (have hb2 : Below B w w2 := below_app3 hb (Nat.le_trans hB hb.size) HO.out hgrow)
      all_goals (have HO2 : Hid (w2.ownsRow B 60 2 v' (qs ++ [((xx : Int), (yy : Int))]).length (pixCells (qs ++ [((xx : Int), (yy : Int))]))) := by unfold Hid; rw [pixCells_append]; simpa [pixCells] using hown')
      all_goals (have HR2 : Hid (w2.ownsRow B 5 1 (.slice (some ⟨g2, 0, none⟩) (2 * m) cap) row.length (row.map bv)) := ((HRR.out.alloc _).drew).kept hgrow (own_diff HO.out HRR.out (by decide)))
      all_goals clear hown' hgrow
      all_goals go_wp2_with fail
      all_goals (go_roundw; (case rel => exact ⟨k + 1, qs ++ [((xx : Int), (yy : Int))], by omega, by go_num, HO2, HR2, hb2, by simp; omega, HS⟩); (case measure => simp [intOf]; omega))
    · have HF : Hid (ps ++ pixOf row = qs) := by unfold Hid; rw [HK.out, List.drop_eq_nil_of_le (by rw [HM.out]; omega)]; simp [pixOf]
      go_wp2_with fail
      go_ret
      exact ⟨_, rfl, by rw [HF.out]; exact HO.out, HRR.out, hb⟩
end Go.Proofs.Ytjoggjjkafamlaa
