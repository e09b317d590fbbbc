/- Walks: script.PictureNumbers, script.numbers. -- s1 -/
import Derived.Test.YtfhfedcamcpceaaDoorM4
import Derived.Test.YtfhfedcamcpceaaDoorScCJ
namespace Go.Proofs.YtfhfedcamcpceaaDoor
open Go.RowKit
open Go.Lib hiding intOf

theorem ints_row {w : World} {B : Nat} {v : Value} {n : Nat} {ns : List Int} (h : w.ownsRow B 3 1 v n (intCells ns)) : ns.length = n := by
  have := h.1
  simpa [intCells] using this
theorem pix_taken (ps : List (Int × Int)) (k : Nat) (h : k < ps.length) {p : Int × Int} (hp : ps.getD k (0, 0) = p) : Sc.pixN (ps.take (k + 1)) = Sc.pixN (ps.take k) ++ [p.1, p.2] := by
  rw [List.take_succ_eq_append_getElem h, Sc.pixN_app]
  rw [List.getD_eq_getElem?_getD, List.getElem?_eq_getElem h] at hp
  simp only [Option.getD_some] at hp
  rw [hp]
  rfl
set_option maxHeartbeats 8000000 in
set_option maxRecDepth 100000 in
theorem picNums_any (pW pH : Int) (v : Value) (ps : List (Int × Int)) (w : World) (HP : Hid (RdP w v ps)) (hn : ps.length ≤ 100000) :
    Calls Tryd.prog 68 #[.agg #[.int .i64 pW, .int .i64 pH, v]] w fun e w' => ∃ g cap, e = .returned (.slice (some ⟨g, 0, none⟩) (2 + 2 * ps.length) cap) ∧ w'.ownsRow w.heap.size 3 1 (.slice (some ⟨g, 0, none⟩) (2 + 2 * ps.length) cap) (2 + 2 * ps.length) (intCells (pW :: pH :: Sc.pixN ps)) ∧ Below w.heap.size w w' := by
  obtain ⟨i0, hi, hz0, hz1, hz2⟩ := info_parts Tryd.infoInt
  obtain ⟨a, cap, hv, hlc, hcap, -⟩ := HP.out
  obtain ⟨n, HL⟩ : ∃ n, Hid (ps.length = n) := ⟨_, (rfl : _ = _)⟩
  rw [HL.out] at hv hlc hn ⊢
  subst hv
  obtain ⟨X0, HX0⟩ : ∃ X, Hid (w.alloc (.cells #[.int .i64 pW, .int .i64 pH, .slice a n cap] 24) = X) := ⟨_, (rfl : _ = _)⟩
  have hbx : Below w.heap.size w X0 := by rw [← HX0.out]; exact (Below.refl _ _).alloc (Nat.le_refl _) _
  have T0 := hid_of3 (show Three X0 w.heap.size (.int .i64 pW) (.int .i64 pH) (.slice a n cap) by rw [← HX0.out]; exact three_start w _ _ _ _)
  have hsX : Hid (X0.heap.size = w.heap.size + 1) := by unfold Hid; rw [← HX0.out]; simp
  obtain ⟨t0, t1, t2, tf0, tf1, tf2, tlt⟩ := T0.out
  go_enter Tryd.func68, Tryd.ntmps68
  go_upto_region 1 with fail
  rw [HX0.out]
  clear HX0
  obtain ⟨C, HC⟩ : ∃ C, Hid (2 + 2 * n = C) := ⟨_, (rfl : _ = _)⟩
  have hm1 : (2 : Int) + 2 * (n : Int) = (C : Int) := by have := HC.out; omega
  have hC : C ≤ 300000 := by have := HC.out; omega
  go_wp2_with (at_make; refine wpList_make_own _ rfl _ _ 60 rfl X0.heap.size 3 i0 (.int .i64 0) 1 Tryd.underlying60 hi hz0 hz1 _ _ _ C rfl rfl ?a1 ?b1 ?b2 ?b3 ?_)
  case a1 => first | rfl | (simp; done) | omega
  case b1 => rw [hz2]; omega
  case b2 => unfold maxLen; omega
  case b3 => exact Nat.le_refl _
  intro W0 hown0 hgrow0
  have hb01 : Below X0.heap.size X0 W0 := (Below.refl _ _).grown hgrow0 (Nat.le_refl _) (by intro k hk; cases hk)
  have hb0 : Below w.heap.size w W0 := hbx.trans (hb01.mono hbx.size)
  have T1 := hid_of3 (T0.out.on hb01)
  have hs0 : X0.heap.size ≤ W0.heap.size := hb01.size
  have hc1 : ∀ j, j < 2 → (W0.alloc (.cells #[.int .i64 pW, .int .i64 pH] 3)).cell? ⟨W0.heap.size, 0 + j, none⟩ = some (.int .i64 (([pW, pH] : List Int).getD j 0)) := fun j hj => by
    rcases (show j = 0 ∨ j = 1 by omega) with rfl | rfl <;> simp
  have hxa : Below W0.heap.size W0 (W0.alloc (.cells #[.int .i64 pW, .int .i64 pH] 3)) := (Below.refl _ _).alloc (Nat.le_refl _) _
  obtain ⟨v', W1, hr, ho, hb1, hg1, hnn⟩ := ints_app (W0.alloc (.cells #[.int .i64 pW, .int .i64 pH] 3)) X0.heap.size _ [] [pW, pH] 0 (own_on2 hown0 hxa) (by simp) (by simp; omega) W0.heap.size 0 2 2 rfl hc1
  have HRR := hid_of3 hr
  obtain ⟨na, nc, hv'⟩ : ∃ g c, v' = .slice (some ⟨g, 0, none⟩) 2 c := by
    rcases ho.2 with ⟨hv', _⟩ | ⟨g, c, cur, hv', _⟩
    · exact absurd (hnn hv') (by simp)
    · exact ⟨g, c, hv'⟩
  subst hv'
  have HO1 := hid_of3 ho
  obtain ⟨u0, u1, u2, uf0, uf1, uf2, ult⟩ := T1.out
  clear hr ho hown0 hgrow0 hc1 t0 t1 t2 tf0 tf1 tf2 tlt
  have hbX1 : Below X0.heap.size X0 W1 := (hb01.alloc hs0 _).trans hb1
  have hwX : w.heap.size < X0.heap.size := by have := hsX.out; omega
  have T2 := hid_of3 (T0.out.onB hbX1 hwX)
  have hbw1 : Below w.heap.size w W1 := hbx.trans (hbX1.mono hbx.size)
  have hs1 : X0.heap.size ≤ W1.heap.size := hbX1.size
  obtain ⟨y0, y1, y2, yf0, yf1, yf2, ylt⟩ := T2.out
  go_wp2_with (at_builtin; first | refine Lib.wpList_append_run _ rfl _ _ _ _ rfl _ _ rfl rfl _ _ HRR.out ?_)
  clear u0 u1 u2 uf0 uf1 uf2 ult y0 y1 y2 yf0 yf1 yf2 ylt
  go_loopw [3, 22] (fun o i wr => ∃ (k ln g1 c1 : Nat), k ≤ n ∧ Hid (ln = 2 + 2 * k) ∧ i = .int .i64 k ∧ o = .slice (some ⟨g1, 0, none⟩) ln c1 ∧ Hid (wr.ownsRow X0.heap.size 3 1 (.slice (some ⟨g1, 0, none⟩) ln c1) ln (intCells (pW :: pH :: Sc.pixN (ps.take k)))) ∧ Below w.heap.size w wr ∧ X0.heap.size ≤ wr.heap.size) (fun _ i _ => n - (intOf i).toNat)
  case atStart => exact ⟨0, 2, na, nc, by omega, rfl, rfl, rfl, HO1.out, hbw1, hs1⟩
  case round =>
    obtain ⟨k, ln, g1, cc1, hk, HLN, rfl, rfl, HO, hbr, hsr⟩ := hrel
    by_cases hlt : k < n
    · have hlt' : k < ps.length := by rw [HL.out]; exact hlt
      obtain ⟨⟨x, y⟩, HX⟩ : ∃ p, Hid (ps.getD k (0, 0) = p) := ⟨_, (rfl : _ = _)⟩
      have HPr : Hid (RdP wr (.slice a n cap) ps) := HP.out.on hbr
      obtain ⟨g, off, rfl, hg, hcell⟩ := rd_some HPr.out (fun e => by rw [e] at hlt'; simp at hlt')
      obtain ⟨cx, cy⟩ := hcell wr (Below.refl _ _) k hlt'
      rw [HX.out] at cx cy
      simp only at cx cy
      clear hcell
      have hki0 : (0 : Int) ≤ (k : Int) := by omega
      have hki1 : (k : Int) < (n : Int) := by omega
      have HPT := hid_of3 (pix_taken ps k hlt' HX.out)
      have hxp : Below wr.heap.size wr (wr.alloc (.cells #[.int .i64 x, .int .i64 y] 88)) := (Below.refl _ _).alloc (Nat.le_refl _) _
      have hxq : Below wr.heap.size wr ((wr.alloc (.cells #[.int .i64 x, .int .i64 y] 88)).alloc (.cells #[.int .i64 x, .int .i64 y] 3)) := hxp.alloc hxp.size _
      have hc1 : ∀ j, j < 2 → ((wr.alloc (.cells #[.int .i64 x, .int .i64 y] 88)).alloc (.cells #[.int .i64 x, .int .i64 y] 3)).cell? ⟨(wr.alloc (.cells #[.int .i64 x, .int .i64 y] 88)).heap.size, 0 + j, none⟩ = some (.int .i64 (([x, y] : List Int).getD j 0)) := fun j hj => by
        rcases (show j = 0 ∨ j = 1 by omega) with rfl | rfl <;> simp
      have hln : ln ≤ 300000 := by have := HLN.out; omega
      obtain ⟨v', W3, hr, ho, hb3, -, hnn⟩ := ints_app ((wr.alloc (.cells #[.int .i64 x, .int .i64 y] 88)).alloc (.cells #[.int .i64 x, .int .i64 y] 3)) X0.heap.size _ _ [x, y] ln (own_on2 HO.out hxq) (by simp; omega) (by simp; omega) (wr.alloc (.cells #[.int .i64 x, .int .i64 y] 88)).heap.size 0 2 2 rfl hc1
      rw [show (wr.alloc (.cells #[.int .i64 x, .int .i64 y] 88)).heap.size = wr.heap.size + 1 by simp] at hr
      have HRR := hid_of3 hr
      obtain ⟨mg, mc, hv'⟩ : ∃ g c, v' = .slice (some ⟨g, 0, none⟩) (ln + 2) c := by
        rcases ho.2 with ⟨hv', _⟩ | ⟨g, c, cur, hv', _⟩
        · exact absurd (hnn hv') (by simp)
        · exact ⟨g, c, hv'⟩
      subst hv'
      have HO3 : Hid (W3.ownsRow X0.heap.size 3 1 (.slice (some ⟨mg, 0, none⟩) (ln + 2) mc) (ln + 2) (intCells (pW :: pH :: Sc.pixN (ps.take (k + 1))))) := by
        unfold Hid; rw [HPT.out]; simpa using ho
      have hbX3 : Below X0.heap.size wr W3 := (hxq.mono hsr).trans hb3
      have hbw3 : Below w.heap.size w W3 := hbr.trans (hbX3.mono hbx.size)
      have hs3 : X0.heap.size ≤ W3.heap.size := Nat.le_trans hsr hbX3.size
      have HL3 : Hid (ln + 2 = 2 + 2 * (k + 1)) := by have := HLN.out; unfold Hid; omega
      clear hr ho hb3 hxp hxq hc1 hnn HPT HX
      go_wp2_with (at_builtin; refine Lib.wpList_append_run _ rfl _ _ _ _ rfl _ _ rfl rfl _ _ HRR.out ?_)
      go_roundw
      case rel => exact ⟨k + 1, ln + 2, mg, mc, by omega, HL3, by go_num, rfl, HO3, hbw3, hs3⟩
      case measure => simp [intOf]; omega
    · obtain rfl : k = n := by omega
      have hki : ¬ (k : Int) < (k : Int) := by omega
      rw [List.take_of_length_le (by rw [HL.out]; exact Nat.le_refl _)] at HO
      obtain rfl : ln = 2 + 2 * k := HLN.out
      go_wp2_with fail
      go_ret
      exact ⟨g1, cc1, rfl, own_mono HO.out hbx.size, hbr⟩
end Go.Proofs.YtfhfedcamcpceaaDoor
