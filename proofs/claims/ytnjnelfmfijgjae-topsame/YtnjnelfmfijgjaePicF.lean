/- Walk of picture.flatten. -/
import Derived.Test.YtnjnelfmfijgjaePicA
import Derived.Deep.RegionLaw
namespace Go.Proofs.Ytnjnelfmfijgjae
open Go.RowKit

/-- an append to a row that the call owns, as one step of a region that draws its order -/
theorem step_append_own {P : Program} {ops : Array Oper} {o : Oper} {a : Act} {w : World} {K : Act → World → Prop} {Q : Exit → Act → World → Prop} {E : Prop}
    (hg : o.guard = none) (s x : Operand) (t : TypeId) (hop : o.op = Op.call { callee := Callee.builtin Builtin.append, args := #[s, x], argTypes := #[t, t] })
    (base : Nat) (e : TypeId) (i : TypeInfo) (z : Value) (size bytes : Nat) (h1 : P.underlying t = some (.slice e)) (h2 : P.info? e = some i) (h3 : i.zero = some z) (h4 : i.size = size) (h5 : i.bytes = bytes) (h6 : z.cells.size = size) (h7 : 0 < size)
    (v : Value) (n : Nat) (xs : List Value) (hs : a.eval s = v) (hown : w.ownsRow base e size v n xs)
    (ad : Addr) (m c : Nat) (news : List Value) (hx : a.eval x = .slice (some ad) m c) (hn : news.length = m * size) (hc : ∀ j u, news[j]? = some u → w.cell? (ad.add j) = some u) (h1c : ∀ u ∈ news, u.oneCell' = true)
    (b1 : n + m ≤ maxLen) (b2 : (n + m) * bytes ≤ 140737488355328) (b3 : base ≤ w.heap.size)
    (hK : ∀ v' w', w'.ownsRow base e size v' (n + m) (xs ++ news) → w.grownBy w' v.ownBlock → K (a.put o.dst v') w') :
    if Region.wanted o (yielded ops a.tmps) = true then Oper.wp P o a w K Q else E := by
  have hw : Region.wanted o (yielded ops a.tmps) = true := by simp [Region.wanted, hg]
  rw [if_pos hw]
  obtain ⟨v', w', hrun, r1, r2, _⟩ := run_append_own (P := P) w base t o.type e i z size bytes h1 h2 h3 h4 h5 h6 h7 v n xs hown ad m c news hn hc h1c b1 b2 b3
  unfold Oper.wp
  simp [execOp, hop, resolve, invoke, builtin, hs, hx, hrun, Result.andThen]
  exact hK v' w' r1 r2

def flatP : List (Int × Int) → List UInt8
  | [] => []
  | (v, a) :: r => UInt8.ofNat v.toNat :: UInt8.ofNat a.toNat :: flatP r

theorem flatP_len (ps : List (Int × Int)) : (flatP ps).length = 2 * ps.length := by
  induction ps with
  | nil => rfl
  | cons p r ih => obtain ⟨v, a⟩ := p; simp [flatP, ih]; omega

theorem below_app2 {w wr w2 : World} {v : Value} {n : Nat} {xs : List Value} {e : TypeId} {size : Nat} {ob : Obj} (hb : Below w.heap.size w wr) (hown : wr.ownsRow w.heap.size e size v n xs) (hg : ((wr.alloc ob).drew).grownBy w2 v.ownBlock) : Below w.heap.size w w2 := by
  refine ((hb.alloc hb.size ob).drew).grown hg (by have := hb.size; simp; omega) ?_
  intro k hk
  exact (hown.lt k hk).1

theorem shade_nat {n : Int} (h : shadeB n = true) : 0 ≤ n ∧ n ≤ 255 := by unfold shadeB at h; simpa using h
theorem shade_byte {n : Int} (h0 : 0 ≤ n) (h1 : n ≤ 255) : bv (UInt8.ofNat n.toNat) = .int .u8 n := by
  unfold bv
  have : (UInt8.ofNat n.toNat).toNat = n.toNat := by rw [UInt8.toNat_ofNat']; omega
  rw [this]
  congr 1
  omega

theorem two_new2 (w : World) (n d : Int) : ∀ j u, [Value.int .u8 n, .int .u8 d][j]? = some u → ((w.alloc (.cells #[.int .u8 n, .int .u8 d] 5)).drew).cell? ((⟨w.heap.size, 0, none⟩ : Addr).add j) = some u := two_new w n d

set_option maxHeartbeats 2000000 in
set_option maxRecDepth 100000 in
theorem flatten_any (v : Value) (ps : List (Int × Int)) (w : World) (hlen : ps.length ≤ 1000) (hok : Hid (∀ p ∈ ps, okPix p = true)) (HR : Hid (RdP w v ps)) (hne : ps ≠ []) :
    Calls Try.prog 17 #[v] w fun e w' => ∃ v', e = .returned v' ∧ w'.ownsRow w.heap.size 5 1 v' (flatP ps).length ((flatP ps).map bv) ∧ Below w.heap.size w w' := by
  obtain ⟨i0, hi, hz0, hz1, hz2⟩ := info_parts Try.infoByte
  obtain ⟨a, cap, hv, hlc, hcap, hh⟩ := HR.out
  obtain ⟨g, off, rfl, hg, hcell⟩ := hh hne
  obtain ⟨n, HN⟩ : ∃ n, Hid (ps.length = n) := ⟨_, (rfl : _ = _)⟩
  rw [HN.out] at hv hlc hlen
  have HC : Hid (∀ j, j < n → w.cell? ⟨g, off + j * 2, none⟩ = some (.int .i64 (ps.getD j (0, 0)).1) ∧ w.cell? ⟨g, off + j * 2 + 1, none⟩ = some (.int .i64 (ps.getD j (0, 0)).2)) := by unfold Hid; rw [← HN.out]; exact hcell
  clear hcell hh
  subst hv
  go_enter Try.func17, Try.ntmps17
  go_wp2_with (at_make; refine wpList_make_own _ rfl _ _ 46 rfl w.heap.size 5 i0 (.int .u8 0) 1 Try.underlying46 hi hz0 hz1 _ _ _ (2 * n) rfl rfl (by simp) ?b1 ?b2 ?b3 ?_)
  case b1 => rw [hz2]; omega
  case b2 => unfold maxLen; omega
  case b3 => exact Nat.le_refl _
  intro w1 hown1 hgrow1
  have hb1 : Below w.heap.size w w1 := (Below.refl _ _).grown hgrow1 (Nat.le_refl _) (by intro k hk; cases hk)
  clear hgrow1
  go_wp2_with fail
  go_loopw [3, 11] (fun x i wr => ∃ (k : Nat) (o : List UInt8), k ≤ n ∧ i = .int .i64 k ∧ Hid (wr.ownsRow w.heap.size 5 1 x o.length (o.map bv)) ∧ Below w.heap.size w wr ∧ o.length ≤ 2 * k ∧ Hid (flatP ps = o ++ flatP (ps.drop k))) (fun _ i _ => n - (intOf i).toNat)
  case atStart => exact ⟨0, [], by omega, rfl, hown1, hb1, by simp, rfl⟩
  case round =>
    obtain ⟨k, o, hk, rfl, HOWN, hb, ho, HK⟩ := hrel
    by_cases hlt : k < n
    · obtain ⟨p, HP⟩ : ∃ p, Hid (ps.getD k (0, 0) = p) := ⟨_, (rfl : _ = _)⟩
      obtain ⟨pv, pa⟩ := p
      have hc := HC.out k hlt
      rw [HP.out] at hc
      have hc0 : wr.cell? ⟨g, off + k * 2, none⟩ = some (.int .i64 pv) := by rw [hb.cell (p := ⟨g, off + k * 2, none⟩) hg, hc.1]
      have hc1 : wr.cell? ⟨g, off + k * 2 + 1, none⟩ = some (.int .i64 pa) := by rw [hb.cell (p := ⟨g, off + k * 2 + 1, none⟩) hg, hc.2]
      have hmem : (pv, pa) ∈ ps := by
        rw [← HP.out, List.getD_eq_getElem?_getD, List.getElem?_eq_getElem (show k < ps.length by rw [HN.out]; exact hlt)]
        exact List.getElem_mem _
      have hpx := hok.out _ hmem
      unfold okPix at hpx
      simp only [Bool.and_eq_true] at hpx
      obtain ⟨v0, v1⟩ := shade_nat hpx.1
      obtain ⟨a0, a1⟩ := shade_nat hpx.2
      have hw1 : IntKind.u8.wrap pv = pv := by rw [IntKind.wrap_u8]; omega
      have hw2 : IntKind.u8.wrap pa = pa := by rw [IntKind.wrap_u8]; omega
      have HS : Hid (flatP ps = (o ++ [UInt8.ofNat pv.toNat, UInt8.ofNat pa.toNat]) ++ flatP (ps.drop (k + 1))) := by
        unfold Hid; rw [HK.out, drop_pix ps k (by rw [HN.out]; exact hlt), HP.out]; simp [flatP]
      have HVB : Hid (bv (UInt8.ofNat pv.toNat) = .int .u8 pv) := shade_byte v0 v1
      have HAB : Hid (bv (UInt8.ofNat pa.toNat) = .int .u8 pa) := shade_byte a0 a1
      clear hc hmem hpx
      go_upto_region 5 with fail
      go_region_law (refine step_append_own rfl (.tmp 14) (.tmp 27) 46 rfl w.heap.size 5 i0 (.int .u8 0) 1 1 Try.underlying46 hi hz0 hz1 hz2 rfl (by decide) _ _ _ rfl (HOWN.out.alloc _).drew ⟨wr.heap.size, 0, none⟩ 2 2 [.int .u8 pv, .int .u8 pa] rfl rfl (two_new2 _ _ _) (two_one _ _) (by unfold maxLen; omega) (by omega) (by have := hb.size; simp; omega) ?_; intro v' w2 hown' hgrow)
      all_goals (have hb2 : Below w.heap.size w w2 := below_app2 hb HOWN.out hgrow)
      all_goals (have HO2 : Hid (w2.ownsRow w.heap.size 5 1 v' (o ++ [UInt8.ofNat pv.toNat, UInt8.ofNat pa.toNat]).length ((o ++ [UInt8.ofNat pv.toNat, UInt8.ofNat pa.toNat]).map bv)) := by unfold Hid; rw [List.map_append, List.map_cons, List.map_cons, HVB.out, HAB.out]; simpa using hown')
      all_goals clear hown' hgrow
      all_goals go_wp2_with fail
      all_goals (go_roundw; (case rel => exact ⟨k + 1, o ++ [UInt8.ofNat pv.toNat, UInt8.ofNat pa.toNat], by omega, by go_num, HO2, hb2, by simp; omega, HS⟩); (case measure => simp [intOf]; omega))
    · have HF : Hid (flatP ps = o) := by unfold Hid; rw [HK.out, List.drop_eq_nil_of_le (by rw [HN.out]; omega)]; simp [flatP]
      go_wp2_with fail
      go_ret
      exact ⟨_, rfl, by rw [HF.out]; exact HOWN.out, hb⟩
end Go.Proofs.Ytnjnelfmfijgjae
