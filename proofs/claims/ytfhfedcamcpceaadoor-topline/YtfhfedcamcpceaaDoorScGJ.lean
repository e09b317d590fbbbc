/- Walks: script.numbers. -- s1 -/
import Derived.Test.YtfhfedcamcpceaaDoorScFJ
import Derived.Test.YtfhfedcamcpceaaDoorScDJ
namespace Go.Proofs.YtfhfedcamcpceaaDoor
open Go.RowKit
open Go.Lib hiding intOf

theorem four_read {W : World} {c : Nat} {T : TypeId} {fz : Nat × Nat} (q : Pq) (h : W.heap[c]? = some (.cells #[.int .i64 q.a, .int .i64 q.b, .int .i64 q.c, .int .i64 q.d] T fz)) (nn : Nat) (hn : nn ≤ 4) : ∀ j, j < nn → W.cell? ⟨c, 0 + j, none⟩ = some (.int .i64 (((nums4 q).take nn).getD j 0)) := by
  intro j hj
  rw [Nat.zero_add, cell_of_row W c j _ _ _ h, List.getD_eq_getElem?_getD, List.getElem?_take, if_pos hj]
  rcases (show j = 0 ∨ j = 1 ∨ j = 2 ∨ j = 3 by omega) with rfl | rfl | rfl | rfl <;> rfl
theorem row_read {W : World} {B g cap n : Nat} {ns : List Int} (h : W.ownsRow B 3 1 (.slice (some ⟨g, 0, none⟩) n cap) n (intCells ns)) (hn : ns.length = n) : ∀ j, j < n → W.cell? ⟨g, 0 + j, none⟩ = some (.int .i64 (ns.getD j 0)) := by
  intro j hj
  rw [Nat.zero_add, h.cellAt j (by omega)]
  exact intCells_at ns j (by omega)
set_option maxHeartbeats 16000000 in
set_option maxRecDepth 100000 in
theorem numbersS2_any (q : Pq) (u : Value) (s : Shp) (w : World) (HS : Hid (Shapes w)) (h1 : 3 < w.heap.size) (HK : Hid (kindAt q.kind shps = some s)) (HU : Hid (RdP w u q.ps)) (hp : q.ps.length ≤ 100000) :
    Calls Tryd.prog 42 #[opV q u] w fun e w' => ∃ v, e = .returned v ∧ RdI w' v (Sc.numsQ q s.id s.nums s.pic) ∧ Below w.heap.size w w' := by
  obtain ⟨ap, cp, hv, hl0, hcp, -⟩ := HU.out
  obtain ⟨np, HNP⟩ : ∃ n, Hid (q.ps.length = n) := ⟨_, (rfl : _ = _)⟩
  rw [HNP.out] at hv hl0 hp
  subst hv
  unfold opV
  obtain ⟨X0, HX0⟩ : ∃ X0, Hid (w.alloc (.cells #[.int .i64 q.kind, .int .i64 q.id, .int .i64 q.a, .int .i64 q.b, .int .i64 q.c, .int .i64 q.d, .int .i64 q.pw, .int .i64 q.ph, .slice ap np cp] 26) = X0) := ⟨_, (rfl : _ = _)⟩
  have hbx : Below w.heap.size w X0 := by rw [← HX0.out]; exact (Below.refl _ _).alloc (Nat.le_refl _) _
  have NX : Hid (Nine X0 w.heap.size (.int .i64 q.kind) (.int .i64 q.id) (.int .i64 q.a) (.int .i64 q.b) (.int .i64 q.c) (.int .i64 q.d) (.int .i64 q.pw) (.int .i64 q.ph) (.slice ap np cp)) := by rw [← HX0.out]; exact nine_start _ _ _ _ _ _ _ _ _ _ _ _ rfl
  have HPA := hid_of3 (opParts_any q.kind s X0 (HS.out.on h1 hbx) (Nat.lt_of_lt_of_le h1 hbx.size) HK)
  obtain ⟨x0, x1, x2, x3, x4, x5, x6, x7, x8, xf0, xf1, xf2, xf3, xf4, xf5, xf6, xf7, xf8, xlt⟩ := NX.out
  go_enter Tryd.func42, Tryd.ntmps42
  go_upto_region 1 with fail
  rw [HX0.out]
  clear HX0
  go_wp2_with fail
  refine HPA.out.mono ?_
  rintro e w1 ⟨rfl, hb1⟩
  clear HPA x0 x1 x2 x3 x4 x5 x6 x7 x8 xf0 xf1 xf2 xf3 xf4 xf5 xf6 xf7 xf8
  obtain ⟨fid, HFI⟩ : ∃ f, Hid (s.id = f) := ⟨_, (rfl : _ = _)⟩
  obtain ⟨nn, HNN⟩ : ∃ f, Hid (s.nums = f) := ⟨_, (rfl : _ = _)⟩
  obtain ⟨fp, HFP⟩ : ∃ f, Hid (s.pic = f) := ⟨_, (rfl : _ = _)⟩
  have hnn4 : nn ≤ 4 := by rw [← HNN.out]; exact (shps_ok s (kindAt_mem _ _ _ HK.out).1).1
  have hnn4i : (nn : Int) ≤ 4 := by omega
  have hbw1 : Below w.heap.size w w1 := hbx.trans (hb1.mono hbx.size)
  have N1 := hid_of3 (NX.out.on hb1)
  have hxs : X0.heap.size ≤ w1.heap.size := hb1.size
  rw [HFI.out, HNN.out, HFP.out]
  clear hb1 NX
  cases fid with
  | false =>
    have HO2 : Hid (w1.ownsRow X0.heap.size 3 1 (.slice none 0 0) 0 (intCells [])) := World.ownsRow_nil _ _ _ _
    obtain ⟨w2, HW2⟩ : ∃ w2, Hid (w1 = w2) := ⟨_, (rfl : _ = _)⟩
    rw [HW2.out] at hbw1 N1 hxs HO2
    rw [HW2.out]
    clear HW2
    have N2 := N1
    have hbw2 := hbw1
    obtain ⟨x0, x1, x2, x3, x4, x5, x6, x7, x8, xf0, xf1, xf2, xf3, xf4, xf5, xf6, xf7, xf8, _⟩ := N2.out
    have hxa : Below w2.heap.size w2 (w2.alloc (.cells #[.int .i64 q.a, .int .i64 q.b, .int .i64 q.c, .int .i64 q.d] 3)) := (Below.refl _ _).alloc (Nat.le_refl _) _
    have hc4 := four_read q (heap_alloc_new w2 (.cells #[.int .i64 q.a, .int .i64 q.b, .int .i64 q.c, .int .i64 q.d] 3)) nn hnn4
    have htl : ((nums4 q).take nn).length = nn := by rw [List.length_take, show (nums4 q).length = 4 from rfl]; omega
    obtain ⟨v', w3, hr, ho, hb3, -, -⟩ := ints_app (w2.alloc (.cells #[.int .i64 q.a, .int .i64 q.b, .int .i64 q.c, .int .i64 q.d] 3)) X0.heap.size (.slice none 0 0) ([] : List Int) ((nums4 q).take nn) 0 (own_on2 HO2.out hxa) (by rw [htl]; omega) (by simp; omega) w2.heap.size 0 nn 4 htl hc4
    have HRR := hid_of3 hr
    obtain ⟨M, HM⟩ : ∃ M, Hid (0 + nn = M) := ⟨_, (rfl : _ = _)⟩
    rw [HM.out] at ho
    have hM : M ≤ 5 := by have := HM.out; omega
    obtain ⟨na', nc', hv'⟩ := own_any ho
    subst hv'
    have HO3 := hid_of3 ho
    have hbX3 : Below X0.heap.size w2 w3 := (hxa.mono hxs).trans hb3
    have N3 := hid_of3 (N2.out.onB hbX3 xlt)
    have hbw3 : Below w.heap.size w w3 := hbw2.trans (hbX3.mono hbx.size)
    have hxs3 : X0.heap.size ≤ w3.heap.size := Nat.le_trans hxs hbX3.size
    have HTL := hid_of3 htl
    clear hr ho hb3 hxa hc4 htl
    go_wp2_with (first | (at_builtin; refine Lib.wpList_append_run _ rfl _ _ _ _ rfl _ _ rfl rfl _ _ HRR.out ?_; refine Hid.out ?_) | fail)
    refine Lib.hid ?_
    clear HRR x0 x1 x2 x3 x4 x5 x6 x7 x8 xf0 xf1 xf2 xf3 xf4 xf5 xf6 xf7 xf8
    cases fp with
    | false =>
      have HNS : Hid (([] : List Int) ++ (nums4 q).take nn = Sc.numsQ q s.id s.nums s.pic) := by
        unfold Hid Sc.numsQ; rw [HFI.out, HNN.out, HFP.out]; simp
      go_wp2_with fail
      go_ret
      refine ⟨_, rfl, ?_, hbw3⟩
      rw [← HNS.out]
      exact rdI_own HO3.out (by rw [List.length_append, HTL.out, ← HM.out]; rfl)
    | true =>
      obtain ⟨x0, x1, x2, x3, x4, x5, x6, x7, x8, xf0, xf1, xf2, xf3, xf4, xf5, xf6, xf7, xf8, _⟩ := N3.out
      have HPN := hid_of3 (picNums_any q.pw q.ph (.slice ap np cp) q.ps w3 (HU.out.on hbw3) (by rw [HNP.out]; exact hp))
      rw [HNP.out] at HPN
      go_wp2_with fail
      refine HPN.out.mono ?_
      rintro e w4 ⟨g4, c4, rfl, ho4, hb4⟩
      obtain ⟨C4, HC4⟩ : ∃ C, Hid (2 + 2 * np = C) := ⟨_, (rfl : _ = _)⟩
      rw [HC4.out] at ho4
      rw [HC4.out]
      have hl4 : (q.pw :: q.ph :: Sc.pixN q.ps).length = C4 := ints_row ho4
      have hC4 : C4 ≤ 300000 := by have := HC4.out; omega
      obtain ⟨v5, w5, hr5, ho5, hb5, -, -⟩ := ints_app w4 X0.heap.size _ _ (q.pw :: q.ph :: Sc.pixN q.ps) _ (own_on2 HO3.out hb4) (by rw [hl4]; omega) (by have := hb4.size; omega) g4 0 C4 c4 hl4 (row_read ho4 hl4)
      have HRR := hid_of3 hr5
      obtain ⟨M5, HM5⟩ : ∃ M', Hid (M + C4 = M') := ⟨_, (rfl : _ = _)⟩
      rw [HM5.out] at ho5
      obtain ⟨na5, nc5, hv5⟩ := own_any ho5
      subst hv5
      have HO5 := hid_of3 ho5
      have hbw4 : Below w.heap.size w w4 := hbw3.trans (hb4.mono hbw3.size)
      have hbw5 : Below w.heap.size w w5 := hbw4.trans (hb5.mono hbx.size)
      have HL4 := hid_of3 hl4
      clear hr5 ho5 hb5 ho4 hb4 hl4 HPN
      have HNS : Hid ((([] : List Int) ++ (nums4 q).take nn) ++ (q.pw :: q.ph :: Sc.pixN q.ps) = Sc.numsQ q s.id s.nums s.pic) := by
        unfold Hid Sc.numsQ; rw [HFI.out, HNN.out, HFP.out]; simp
      go_wp2_with (first | (at_builtin; refine Lib.wpList_append_run _ rfl _ _ _ _ rfl _ _ rfl rfl _ _ HRR.out ?_) | fail)
      go_ret
      refine ⟨_, rfl, ?_, hbw5⟩
      rw [← HNS.out]
      exact rdI_own HO5.out (by rw [List.length_append, List.length_append, HTL.out, HL4.out, ← HM5.out, ← HM.out]; rfl)
  | true =>
    obtain ⟨x0, x1, x2, x3, x4, x5, x6, x7, x8, xf0, xf1, xf2, xf3, xf4, xf5, xf6, xf7, xf8, _⟩ := N1.out
    have hc1 : ∀ j, j < 1 → (w1.alloc (.cells #[.int .i64 q.id] 3)).cell? ⟨w1.heap.size, 0 + j, none⟩ = some (.int .i64 (([q.id] : List Int).getD j 0)) := fun j hj => by
      obtain rfl : j = 0 := by omega
      simp
    have hxa : Below w1.heap.size w1 (w1.alloc (.cells #[.int .i64 q.id] 3)) := (Below.refl _ _).alloc (Nat.le_refl _) _
    obtain ⟨v', w2, hr, ho, hb2, -, -⟩ := ints_app (w1.alloc (.cells #[.int .i64 q.id] 3)) X0.heap.size (.slice none 0 0) [] [q.id] 0 (World.ownsRow_nil _ _ _ _) (by simp) (by simp; omega) w1.heap.size 0 1 1 rfl hc1
    have HRR := hid_of3 hr
    obtain ⟨na, nc, hv'⟩ := own_any ho
    subst hv'
    have HO2 : Hid (w2.ownsRow X0.heap.size 3 1 (.slice na 1 nc) 1 (intCells [q.id])) := ho
    have hbX2 : Below X0.heap.size w1 w2 := (hxa.mono hxs).trans hb2
    have N2 := hid_of3 (N1.out.onB hbX2 xlt)
    have hbw2 : Below w.heap.size w w2 := hbw1.trans (hbX2.mono hbx.size)
    have hxs : X0.heap.size ≤ w2.heap.size := Nat.le_trans hxs hbX2.size
    clear hr ho hb2 hxa hc1
    go_wp2_with (first | (at_builtin; refine Lib.wpList_append_run _ rfl _ _ _ _ rfl _ _ rfl rfl _ _ HRR.out ?_; refine Hid.out ?_) | fail)
    refine Lib.hid ?_
    clear HRR x0 x1 x2 x3 x4 x5 x6 x7 x8 xf0 xf1 xf2 xf3 xf4 xf5 xf6 xf7 xf8
    obtain ⟨x0, x1, x2, x3, x4, x5, x6, x7, x8, xf0, xf1, xf2, xf3, xf4, xf5, xf6, xf7, xf8, _⟩ := N2.out
    have hxa : Below w2.heap.size w2 (w2.alloc (.cells #[.int .i64 q.a, .int .i64 q.b, .int .i64 q.c, .int .i64 q.d] 3)) := (Below.refl _ _).alloc (Nat.le_refl _) _
    have hc4 := four_read q (heap_alloc_new w2 (.cells #[.int .i64 q.a, .int .i64 q.b, .int .i64 q.c, .int .i64 q.d] 3)) nn hnn4
    have htl : ((nums4 q).take nn).length = nn := by rw [List.length_take, show (nums4 q).length = 4 from rfl]; omega
    obtain ⟨v', w3, hr, ho, hb3, -, -⟩ := ints_app (w2.alloc (.cells #[.int .i64 q.a, .int .i64 q.b, .int .i64 q.c, .int .i64 q.d] 3)) X0.heap.size (.slice na 1 nc) [q.id] ((nums4 q).take nn) 1 (own_on2 HO2.out hxa) (by rw [htl]; omega) (by simp; omega) w2.heap.size 0 nn 4 htl hc4
    have HRR := hid_of3 hr
    obtain ⟨M, HM⟩ : ∃ M, Hid (1 + nn = M) := ⟨_, (rfl : _ = _)⟩
    rw [HM.out] at ho
    have hM : M ≤ 5 := by have := HM.out; omega
    obtain ⟨na', nc', hv'⟩ := own_any ho
    subst hv'
    have HO3 := hid_of3 ho
    have hbX3 : Below X0.heap.size w2 w3 := (hxa.mono hxs).trans hb3
    have N3 := hid_of3 (N2.out.onB hbX3 xlt)
    have hbw3 : Below w.heap.size w w3 := hbw2.trans (hbX3.mono hbx.size)
    have hxs3 : X0.heap.size ≤ w3.heap.size := Nat.le_trans hxs hbX3.size
    have HTL := hid_of3 htl
    clear hr ho hb3 hxa hc4 htl
    go_wp2_with (first | (at_builtin; refine Lib.wpList_append_run _ rfl _ _ _ _ rfl _ _ rfl rfl _ _ HRR.out ?_; refine Hid.out ?_) | fail)
    refine Lib.hid ?_
    clear HRR x0 x1 x2 x3 x4 x5 x6 x7 x8 xf0 xf1 xf2 xf3 xf4 xf5 xf6 xf7 xf8
    cases fp with
    | false =>
      have HNS : Hid ([q.id] ++ (nums4 q).take nn = Sc.numsQ q s.id s.nums s.pic) := by
        unfold Hid Sc.numsQ; rw [HFI.out, HNN.out, HFP.out]; simp
      go_wp2_with fail
      go_ret
      refine ⟨_, rfl, ?_, hbw3⟩
      rw [← HNS.out]
      exact rdI_own HO3.out (by rw [List.length_append, HTL.out, ← HM.out]; rfl)
    | true =>
      obtain ⟨x0, x1, x2, x3, x4, x5, x6, x7, x8, xf0, xf1, xf2, xf3, xf4, xf5, xf6, xf7, xf8, _⟩ := N3.out
      have HPN := hid_of3 (picNums_any q.pw q.ph (.slice ap np cp) q.ps w3 (HU.out.on hbw3) (by rw [HNP.out]; exact hp))
      rw [HNP.out] at HPN
      go_wp2_with fail
      refine HPN.out.mono ?_
      rintro e w4 ⟨g4, c4, rfl, ho4, hb4⟩
      obtain ⟨C4, HC4⟩ : ∃ C, Hid (2 + 2 * np = C) := ⟨_, (rfl : _ = _)⟩
      rw [HC4.out] at ho4
      rw [HC4.out]
      have hl4 : (q.pw :: q.ph :: Sc.pixN q.ps).length = C4 := ints_row ho4
      have hC4 : C4 ≤ 300000 := by have := HC4.out; omega
      obtain ⟨v5, w5, hr5, ho5, hb5, -, -⟩ := ints_app w4 X0.heap.size _ _ (q.pw :: q.ph :: Sc.pixN q.ps) _ (own_on2 HO3.out hb4) (by rw [hl4]; omega) (by have := hb4.size; omega) g4 0 C4 c4 hl4 (row_read ho4 hl4)
      have HRR := hid_of3 hr5
      obtain ⟨M5, HM5⟩ : ∃ M', Hid (M + C4 = M') := ⟨_, (rfl : _ = _)⟩
      rw [HM5.out] at ho5
      obtain ⟨na5, nc5, hv5⟩ := own_any ho5
      subst hv5
      have HO5 := hid_of3 ho5
      have hbw4 : Below w.heap.size w w4 := hbw3.trans (hb4.mono hbw3.size)
      have hbw5 : Below w.heap.size w w5 := hbw4.trans (hb5.mono hbx.size)
      have HL4 := hid_of3 hl4
      clear hr5 ho5 hb5 ho4 hb4 hl4 HPN
      have HNS : Hid (([q.id] ++ (nums4 q).take nn) ++ (q.pw :: q.ph :: Sc.pixN q.ps) = Sc.numsQ q s.id s.nums s.pic) := by
        unfold Hid Sc.numsQ; rw [HFI.out, HNN.out, HFP.out]; simp
      go_wp2_with (first | (at_builtin; refine Lib.wpList_append_run _ rfl _ _ _ _ rfl _ _ rfl rfl _ _ HRR.out ?_) | fail)
      go_ret
      refine ⟨_, rfl, ?_, hbw5⟩
      rw [← HNS.out]
      exact rdI_own HO5.out (by rw [List.length_append, List.length_append, HTL.out, HL4.out, ← HM5.out, ← HM.out]; rfl)

end Go.Proofs.YtfhfedcamcpceaaDoor
