/- Walk of pack.Pack. -/
import Derived.Test.YtnjnelfmfijgjaePackB
namespace Go.Proofs.Ytnjnelfmfijgjae
open Go.RowKit

theorem own_shape {w : World} {B : Nat} {v : Value} {n : Nat} {xs : List Value} {e : TypeId} {size : Nat} (h : w.ownsRow B e size v n xs) (hn : n ≠ 0) :
    ∃ g cap, v = .slice (some ⟨g, 0, none⟩) n cap ∧ B ≤ g ∧ n ≤ cap ∧ cap ≤ maxLen := by
  rcases h.2 with ⟨_, h0⟩ | ⟨g, cap, cur, rfl, hb, hg, hn', hm, _⟩
  · exact absurd h0 hn
  · exact ⟨g, cap, rfl, hb, hn', hm⟩

theorem own_any {w : World} {B : Nat} {v : Value} {n : Nat} {xs : List Value} {e : TypeId} {size : Nat} (h : w.ownsRow B e size v n xs) :
    ∃ a cap, v = .slice a n cap := by
  rcases h.2 with ⟨h1, h0⟩ | ⟨g, cap, cur, h1, _⟩
  · subst h0; exact ⟨none, 0, h1⟩
  · exact ⟨_, _, h1⟩

theorem drop_one (l : List UInt8) (k : Nat) (h : k < l.length) : l.drop k = l.getD k 0 :: l.drop (k + 1) := by
  rw [List.drop_eq_getElem_cons h]
  simp only [List.getD_eq_getElem?_getD, List.getElem?_eq_getElem h]
  rfl

theorem two_new (w : World) (n d : Int) : ∀ j u, [Value.int .u8 n, .int .u8 d][j]? = some u → (w.alloc (.cells #[.int .u8 n, .int .u8 d] 5)).cell? ((⟨w.heap.size, 0, none⟩ : Addr).add j) = some u := by
  intro j u hj
  match j, hj with
  | 0, hj => simp at hj; subst hj; simp [Addr.add]
  | 1, hj => simp at hj; subst hj; simp [Addr.add]
  | j + 2, hj => simp at hj

theorem two_one (n d : Int) : ∀ u ∈ [Value.int .u8 n, .int .u8 d], u.oneCell' = true := by
  intro u hu; simp at hu; rcases hu with rfl | rfl <;> rfl

/-- two bytes more in a row -/
theorem own_two {w' : World} {B : Nat} {v' : Value} {o : List UInt8} {d : UInt8} {dd : Nat} (hd : Hid (d.toNat = dd)) (h : w'.ownsRow B 5 1 v' (o.length + 2) (o.map bv ++ [.int .u8 1, .int .u8 (dd : Int)])) : w'.ownsRow B 5 1 v' (o ++ [1, d]).length ((o ++ [1, d]).map bv) := by
  have e : (o ++ [1, d]).map bv = o.map bv ++ [.int .u8 1, .int .u8 (dd : Int)] := by
    rw [List.map_append, ← hd.out]; rfl
  rw [e]; simpa using h

/-- one byte is counted up -/
theorem own_up {wr : World} {B g cap : Nat} {x : List UInt8} {n c : UInt8} {nn L : Nat} (hn : Hid (n.toNat = nn)) (hl : Hid (x.length = L)) (h255 : nn < 255)
    (h : wr.ownsRow B 5 1 (.slice (some ⟨g, 0, none⟩) (L + 2) cap) (L + 2) ((x ++ [n, c]).map bv)) :
    (wr.setCell ⟨g, L, none⟩ (.int .u8 ((nn : Int) + 1))).ownsRow B 5 1 (.slice (some ⟨g, 0, none⟩) (L + 2) cap) (x ++ [n + 1, c]).length ((x ++ [n + 1, c]).map bv) := by
  have h2 := (h.stored L (.int .u8 ((nn : Int) + 1))).1
  have e : ((x ++ [n, c]).map bv).set L (.int .u8 ((nn : Int) + 1)) = (x ++ [n + 1, c]).map bv := by
    have e2 : bv (n + 1) = .int .u8 ((nn : Int) + 1) := by
      unfold bv; rw [Fb.succ_toNat n (by rw [hn.out]; exact h255), hn.out]; simp
    rw [← hl.out]
    simp [e2]
  rw [e] at h2
  have e3 : (x ++ [n + 1, c]).length = L + 2 := by rw [← hl.out]; simp
  rw [e3]; exact h2

theorem cell_last {wr : World} {B g cap : Nat} {x : List UInt8} {n c : UInt8} {nn cc L : Nat} (hn : Hid (n.toNat = nn)) (hc : Hid (c.toNat = cc)) (hl : Hid (x.length = L))
    (h : wr.ownsRow B 5 1 (.slice (some ⟨g, 0, none⟩) (L + 2) cap) (L + 2) ((x ++ [n, c]).map bv)) :
    wr.cell? ⟨g, L, none⟩ = some (.int .u8 (nn : Int)) ∧ wr.cell? ⟨g, L + 1, none⟩ = some (.int .u8 (cc : Int)) ∧ wr.frozen? ⟨g, L, none⟩ = false := by
  refine ⟨?_, ?_, h.frozenAt L⟩
  · rw [h.cellAt L (by omega), ← hl.out, ← hn.out]; simp [bv]
  · rw [h.cellAt (L + 1) (by omega), ← hl.out, ← hc.out]; simp [bv]

theorem step_app (n c d : UInt8) (r : List (UInt8 × UInt8)) (nn cc dd : Nat) (hn : Hid (n.toNat = nn)) (hc : Hid (c.toNat = cc)) (hd : Hid (d.toNat = dd)) (h : cc ≠ dd ∨ ¬ nn < 255) : Fb.stepR ((n, c) :: r) d = (1, d) :: (n, c) :: r := by
  rw [Fb.stepR, if_neg]
  intro ⟨h1, h2⟩
  rw [hn.out] at h2
  subst h1
  have := hc.out.symm.trans hd.out
  rcases h with h | h
  · exact h this
  · exact h h2
theorem step_up (n c d : UInt8) (r : List (UInt8 × UInt8)) (nn cc : Nat) (hn : Hid (n.toNat = nn)) (hc : Hid (c.toNat = cc)) (hd : Hid (d.toNat = cc)) (h : nn < 255) : Fb.stepR ((n, c) :: r) d = (n + 1, c) :: r := by
  rw [Fb.stepR, if_pos]
  exact ⟨UInt8.toNat_inj.1 (hc.out.trans hd.out.symm), by rw [hn.out]; exact h⟩

theorem below_store {w wr : World} {B g L : Nat} {u : Value} (hb : Below B w wr) (hg : B ≤ g) : Below B w (wr.setCell ⟨g, L, none⟩ u) := hb.setCell hg u
theorem below_drewN {B : Nat} {a w : World} (h : Below B a w) (n : Nat) : Below B a (w.drewN n) := ⟨h.os, h.tape, h.output, h.size, h.block⟩
theorem owns_drewN {w : World} {base : Nat} {e : TypeId} {size : Nat} {v : Value} {n : Nat} {xs : List Value} (h : w.ownsRow base e size v n xs) (q : Nat) : (w.drewN q).ownsRow base e size v n xs := h

theorem pack_end (l : List UInt8) (k : Nat) (r : List (UInt8 × UInt8)) (h : l.length ≤ k) (H : Hid (Fb.packR l = (l.drop k).foldl Fb.stepR r)) : Fb.packL l = Fb.flat r := by
  unfold Fb.packL; rw [H.out, List.drop_eq_nil_of_le h]; rfl

set_option maxHeartbeats 1000000 in
set_option maxRecDepth 100000 in
theorem pack_any (s : ByteArray) (w : World) (hs : s.size ≤ 1000000) :
    Calls Try.prog 19 #[.string s] w fun e w' => e = .returned (str (Fb.packL s.data.toList)) ∧ Below w.heap.size w w' := by
  obtain ⟨i0, hi, hz0, hz1, hz2⟩ := info_parts Try.infoByte
  have HL : Hid (s.data.toList.length = s.size) := by unfold Hid; simp
  go_enter Try.func19, Try.ntmps19
  go_wp2
  go_loopw [3, 8] (fun v i wr => ∃ (k : Nat) (r : List (UInt8 × UInt8)) (o : List UInt8), k ≤ s.size ∧ i = .int .i64 k ∧ wr.ownsRow w.heap.size 5 1 v o.length (o.map bv) ∧ Below w.heap.size w wr ∧ r.length ≤ k ∧ Hid (o = Fb.flat r) ∧ Hid (Fb.packR s.data.toList = (s.data.toList.drop k).foldl Fb.stepR r)) (fun _ i _ => s.size - (intOf i).toNat)
  case atStart => exact ⟨0, [], [], by omega, rfl, World.ownsRow_nil _ _ _ _, Below.refl _ _, by simp, (rfl : _ = _), (rfl : _ = _)⟩
  case round =>
    obtain ⟨k, r, o, hk, rfl, hown, hb, hr, HO, HK⟩ := hrel
    by_cases hlt : k < s.size
    · obtain ⟨d, HD⟩ : ∃ d, Hid (s.data.toList.getD k 0 = d) := ⟨_, (rfl : _ = _)⟩
      obtain ⟨dd, HDD⟩ : ∃ m, Hid (d.toNat = m) := ⟨_, (rfl : _ = _)⟩
      have hix := nat_at s k d HD dd HDD
      have hddb := byte_le d dd HDD
      have HN : Hid (Fb.packR s.data.toList = (s.data.toList.drop (k + 1)).foldl Fb.stepR (Fb.stepR r d)) := by
        unfold Hid; rw [HK.out, drop_one _ k (by rw [HL.out]; exact hlt), HD.out]; rfl
      have hoL : o.length = 2 * r.length := by rw [HO.out, Fb.flat_len]
      have hoB : o.length ≤ 2000000 := by omega
      clear hoL
      cases r with
      | nil =>
        have ho : o = [] := HO.out
        subst ho
        obtain ⟨ao, cp, hv⟩ := own_any hown
        simp only [List.length_nil] at hv
        rw [hv] at hown
        rw [hv]
        go_wp2
        go_quiet (fail)
        have hownq := owns_drewN hown nq
        go_wp2_with (at_builtin; refine wpList_append_own _ rfl _ _ 46 rfl w.heap.size 5 i0 (.int .u8 0) 1 1 Try.underlying46 hi hz0 hz1 hz2 rfl (by decide) _ _ _ rfl (hownq.alloc _) ⟨wr.heap.size, 0, none⟩ 2 2 [.int .u8 1, .int .u8 (dd : Int)] rfl rfl ?c1 ?c2 ?c3 ?c4 ?c5 ?_)
        case c1 => exact two_new (wr.drewN nq) _ _
        case c2 => exact two_one _ _
        case c3 => unfold maxLen; simp
        case c4 => simp
        case c5 => have := hb.size; simp; omega
        · intro v' w2 hown' hgrow _
          have hb2 : Below w.heap.size w w2 := below_app (below_drewN hb nq) hownq hgrow
          have hown2 := own_two (o := []) HDD hown'
          clear hown' hgrow
          go_wp2
          go_roundw
          case rel => exact ⟨k + 1, [(1, d)], [1, d], by omega, by go_num, hown2, hb2, by simp, rfl, HN⟩
          case measure => simp [intOf]; omega
      | cons p r' =>
        obtain ⟨n, c⟩ := p
        obtain ⟨nn, HNN⟩ : ∃ m, Hid (n.toNat = m) := ⟨_, (rfl : _ = _)⟩
        obtain ⟨cc, HCC⟩ : ∃ m, Hid (c.toNat = m) := ⟨_, (rfl : _ = _)⟩
        obtain ⟨x, HX⟩ : ∃ x, Hid (Fb.flat r' = x) := ⟨_, (rfl : _ = _)⟩
        obtain ⟨L, HLL⟩ : ∃ m, Hid (x.length = m) := ⟨_, (rfl : _ = _)⟩
        have ho : o = x ++ [n, c] := by rw [HO.out, Fb.flat, HX.out]
        subst ho
        have hlen2 : (x ++ [n, c]).length = L + 2 := by rw [← HLL.out]; simp
        rw [hlen2] at hown hoB
        have hlen3 : Hid ((x ++ [n, c]).length = L + 2) := hlen2
        clear hlen2
        obtain ⟨g, cp, hv, hgB, hcp, hcpm⟩ := own_shape hown (by omega)
        rw [hv] at hown
        rw [hv]
        unfold maxLen at hcpm
        obtain ⟨hcn, hcl, hfz⟩ := cell_last HNN HCC HLL hown
        have hnb := byte_le n nn HNN
        have hcb := byte_le c cc HCC
        by_cases hcd : cc = dd
        · subst hcd
          by_cases h255 : nn < 255
          · have HS : Hid (Fb.stepR ((n, c) :: r') d = (n + 1, c) :: r') := step_up n c d r' nn cc HNN HCC HDD h255
            have hown2 := own_up HNN HLL h255 hown
            have hb2 : Below w.heap.size w (wr.setCell ⟨g, L, none⟩ (.int .u8 ((nn : Int) + 1))) := below_store hb hgB
            go_wp2
            go_quiet (fail)
            go_wp2
            go_roundw
            case rel => exact ⟨k + 1, (n + 1, c) :: r', x ++ [n + 1, c], by omega, by go_num, owns_drewN hown2 nq, below_drewN hb2 nq, by simp at hr ⊢; omega, by unfold Hid; rw [Fb.flat, HX.out], by unfold Hid; rw [HN.out, HS.out]⟩
            case measure => simp [intOf]; omega
          · have HS : Hid (Fb.stepR ((n, c) :: r') d = (1, d) :: (n, c) :: r') := step_app n c d r' nn cc cc HNN HCC HDD (.inr h255)
            go_wp2
            go_quiet (fail)
            have hownq := owns_drewN hown nq
            go_wp2_with (at_builtin; refine wpList_append_own _ rfl _ _ 46 rfl w.heap.size 5 i0 (.int .u8 0) 1 1 Try.underlying46 hi hz0 hz1 hz2 rfl (by decide) _ _ _ rfl (hownq.alloc _) ⟨wr.heap.size, 0, none⟩ 2 2 [.int .u8 1, .int .u8 (cc : Int)] rfl rfl ?e1 ?e2 ?e3 ?e4 ?e5 ?_)
            case e1 => exact two_new (wr.drewN nq) _ _
            case e2 => exact two_one _ _
            case e3 => unfold maxLen; omega
            case e4 => omega
            case e5 => have := hb.size; simp; omega
            · intro v' w2 hown' hgrow _
              have hb2 : Below w.heap.size w w2 := below_app (below_drewN hb nq) hownq hgrow
              have hown2 := own_two (o := x ++ [n, c]) HDD (by rw [hlen3.out]; simpa using hown')
              clear hown' hgrow
              go_wp2
              go_roundw
              case rel => exact ⟨k + 1, (1, d) :: (n, c) :: r', x ++ [n, c] ++ [1, d], by omega, by go_num, hown2, hb2, by simp at hr ⊢; omega, by unfold Hid; rw [Fb.flat, Fb.flat, HX.out], by unfold Hid; rw [HN.out, HS.out]⟩
              case measure => simp [intOf]; omega
        · have HS : Hid (Fb.stepR ((n, c) :: r') d = (1, d) :: (n, c) :: r') := step_app n c d r' nn cc dd HNN HCC HDD (.inl hcd)
          have hcdb : ((cc : Int) == (dd : Int)) = false := by rw [beq_eq_false_iff_ne]; omega
          go_wp2
          go_quiet (fail)
          have hownq := owns_drewN hown nq
          go_wp2_with (at_builtin; refine wpList_append_own _ rfl _ _ 46 rfl w.heap.size 5 i0 (.int .u8 0) 1 1 Try.underlying46 hi hz0 hz1 hz2 rfl (by decide) _ _ _ rfl (hownq.alloc _) ⟨wr.heap.size, 0, none⟩ 2 2 [.int .u8 1, .int .u8 (dd : Int)] rfl rfl ?f1 ?f2 ?f3 ?f4 ?f5 ?_)
          case f1 => exact two_new (wr.drewN nq) _ _
          case f2 => exact two_one _ _
          case f3 => unfold maxLen; omega
          case f4 => omega
          case f5 => have := hb.size; simp; omega
          · intro v' w2 hown' hgrow _
            have hb2 : Below w.heap.size w w2 := below_app (below_drewN hb nq) hownq hgrow
            have hown2 := own_two (o := x ++ [n, c]) HDD (by rw [hlen3.out]; simpa using hown')
            clear hown' hgrow
            go_wp2
            go_roundw
            case rel => exact ⟨k + 1, (1, d) :: (n, c) :: r', x ++ [n, c] ++ [1, d], by omega, by go_num, hown2, hb2, by simp at hr ⊢; omega, by unfold Hid; rw [Fb.flat, Fb.flat, HX.out], by unfold Hid; rw [HN.out, HS.out]⟩
            case measure => simp [intOf]; omega
    · have hst := run_str hown
      go_wp2
      go_ret
      exact ⟨by rw [pack_end _ k r (by rw [HL.out]; omega) HK, HO.out]; rfl, hb⟩
end Go.Proofs.Ytnjnelfmfijgjae
