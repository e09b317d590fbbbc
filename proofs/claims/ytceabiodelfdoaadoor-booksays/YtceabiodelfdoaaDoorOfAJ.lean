/- Walk: the reference's OpOf. -- s1 -/
import Derived.Test.YtceabiodelfdoaaDoorM11
import Derived.Test.YtceabiodelfdoaaDoorRefFoJ
import Derived.StillTailTactics
import Derived.Lib.IndexBytes
namespace Go.Proofs.YtceabiodelfdoaaDoor
open Go.RowKit

/-- what the reference reads of a chunk -/
def ROfP (r : Pq × Nat) (w : World) (e : Ending) (w' : World) : Prop := ∃ u, e = .returned (.tuple #[opV r.1 u, .int .i64 (r.2 : Nat)]) ∧ RdP w' u r.1.ps ∧ Below w.heap.size w w'
def ROwP (r : Pq × Nat) (w : World) (e : Ending) (w' : World) : Prop := ∃ u, e = .returned (.tuple #[opV r.1 u, .int .i64 (r.2 : Nat)]) ∧ w'.ownsRow w.heap.size 110 2 u r.1.ps.length (pixCells r.1.ps) ∧ Below w.heap.size w w'
theorem rofP_err {r : Pq × Nat} {c : Nat} {w w' : World} (h : Hid (r = (q00, c))) (hb : Below w.heap.size w w') : ROwP r w (.returned (.tuple #[.agg #[.int .i64 0, .int .i64 0, .int .i64 0, .int .i64 0, .int .i64 0, .int .i64 0, .int .i64 0, .int .i64 0, .slice none 0 0], .int .i64 (c : Int)])) w' := by
  rw [h.out]
  exact ⟨_, rfl, World.ownsRow_nil _ _ _ _, hb⟩
theorem name_eq (k : Nat) (l : List UInt8) (nm : ByteArray) (h : nmsB[k]? = some l) : (l == nm.toList) = decide (kindNm k = nm) := by
  have e : kindNm k = { data := l.toArray } := by
    unfold kindNm
    rw [List.getD_eq_getElem?_getD, h]
    rfl
  have e2 : (kindNm k).toList = l := by rw [e, ByteArray.toList_eq]
  rw [← txt_eq, e2]

theorem nine_nums {W : World} {b : Nat} {x0 x1 x2 x3 x4 x5 x6 x7 x8 : Value} (h : Nine W b x0 x1 x2 x3 x4 x5 x6 x7 x8) (y2 y3 y4 y5 : Value) : Nine ((((W.setCell ⟨b, 2, none⟩ y2).setCell ⟨b, 3, none⟩ y3).setCell ⟨b, 4, none⟩ y4).setCell ⟨b, 5, none⟩ y5) b x0 x1 y2 y3 y4 y5 x6 x7 x8 := by
  refine ⟨?_, ?_, ?_, ?_, ?_, ?_, ?_, ?_, ?_, by simp [h.f0], by simp [h.f1], by simp [h.f2], by simp [h.f3], by simp [h.f4], by simp [h.f5], by simp [h.f6], by simp [h.f7], by simp [h.f8], by simpa using h.lt⟩
  · rw [cell_set_ne _ _ _ _ _ (by decide), cell_set_ne _ _ _ _ _ (by decide), cell_set_ne _ _ _ _ _ (by decide), cell_set_ne _ _ _ _ _ (by decide)]; exact h.c0
  · rw [cell_set_ne _ _ _ _ _ (by decide), cell_set_ne _ _ _ _ _ (by decide), cell_set_ne _ _ _ _ _ (by decide), cell_set_ne _ _ _ _ _ (by decide)]; exact h.c1
  · rw [cell_set_ne _ _ _ _ _ (by decide)]; rw [cell_set_ne _ _ _ _ _ (by decide)]; rw [cell_set_ne _ _ _ _ _ (by decide)]; exact World.cell?_setCell_same _ _ _ (h.c2)
  · rw [cell_set_ne _ _ _ _ _ (by decide)]; rw [cell_set_ne _ _ _ _ _ (by decide)]; exact World.cell?_setCell_same _ _ _ ((cell_set_ne _ _ _ _ _ (by decide)).trans (h.c3))
  · rw [cell_set_ne _ _ _ _ _ (by decide)]; exact World.cell?_setCell_same _ _ _ ((cell_set_ne _ _ _ _ _ (by decide)).trans ((cell_set_ne _ _ _ _ _ (by decide)).trans (h.c4)))
  · exact World.cell?_setCell_same _ _ _ ((cell_set_ne _ _ _ _ _ (by decide)).trans ((cell_set_ne _ _ _ _ _ (by decide)).trans ((cell_set_ne _ _ _ _ _ (by decide)).trans (h.c5))))
  · rw [cell_set_ne _ _ _ _ _ (by decide), cell_set_ne _ _ _ _ _ (by decide), cell_set_ne _ _ _ _ _ (by decide), cell_set_ne _ _ _ _ _ (by decide)]; exact h.c6
  · rw [cell_set_ne _ _ _ _ _ (by decide), cell_set_ne _ _ _ _ _ (by decide), cell_set_ne _ _ _ _ _ (by decide), cell_set_ne _ _ _ _ _ (by decide)]; exact h.c7
  · rw [cell_set_ne _ _ _ _ _ (by decide), cell_set_ne _ _ _ _ _ (by decide), cell_set_ne _ _ _ _ _ (by decide), cell_set_ne _ _ _ _ _ (by decide)]; exact h.c8
theorem rofP_ok {r : Pq × Nat} {q : Pq} {w w' : World} {u : Value} (h : Hid (r = (q, 0))) (hr : w'.ownsRow w.heap.size 110 2 u q.ps.length (pixCells q.ps)) (hb : Below w.heap.size w w') : ROwP r w (.returned (.tuple #[.agg #[.int .i64 q.kind, .int .i64 q.id, .int .i64 q.a, .int .i64 q.b, .int .i64 q.c, .int .i64 q.d, .int .i64 q.pw, .int .i64 q.ph, u], .int .i64 0])) w' := by
  rw [h.out]
  exact ⟨u, rfl, hr, hb⟩
theorem td1 (l : List UInt8) (N i : Nat) (h : 1 + i < N) : ((l.take N).drop 1).getD i 0 = l.getD (1 + i) 0 := by
  rw [List.getD_eq_getElem?_getD, List.getD_eq_getElem?_getD, List.getElem?_drop, List.getElem?_take, if_pos h]
theorem td0 (l : List UInt8) (N i : Nat) (h : i < N) : (l.take N).getD i 0 = l.getD i 0 := by
  rw [List.getD_eq_getElem?_getD, List.getD_eq_getElem?_getD, List.getElem?_take, if_pos h]
set_option maxHeartbeats 16000000 in
set_option maxRecDepth 100000 in
theorem refOpOf_own (nm dt : ByteArray) (w : World) (HM : Hid (RefNames w)) (hd : dt.size ≤ 1000000) :
    Calls Tryd.prog 27 #[.string nm, .string dt] w fun e w' => ROwP (parQ nm dt) w e w' := by
  obtain ⟨r, HRR⟩ : ∃ r, Hid (parQ nm dt = r) := ⟨_, (rfl : _ = _)⟩
  rw [HRR.out]
  obtain ⟨X0, HX0⟩ : ∃ X0, Hid ((w.alloc (.cells #[.int .i64 0, .int .i64 0, .int .i64 0, .int .i64 0, .int .i64 0, .int .i64 0, .int .i64 0, .int .i64 0, .slice none 0 0] 45)) = X0) := ⟨_, (rfl : _ = _)⟩
  have hbz : Below w.heap.size w X0 := by rw [← HX0.out]; exact (Below.refl _ _).alloc (Nat.le_refl _) _
  have R0 := hid_of3 (show Nine X0 w.heap.size (.int .i64 0) (.int .i64 0) (.int .i64 0) (.int .i64 0) (.int .i64 0) (.int .i64 0) (.int .i64 0) (.int .i64 0) (.slice none 0 0) by rw [← HX0.out]; exact nine_start _ _ _ _ _ _ _ _ _ _ 45 w.heap.size rfl)
  have HM0 : Hid (RefNames X0) := HM.out.on hbz
  have hsz0 : X0.heap.size = w.heap.size + 1 := by rw [← HX0.out]; simp
  go_enter Tryd.func27, Tryd.ntmps27
  go_wp2_with fail
  rw [HX0.out]
  clear HX0
  obtain ⟨tb, to_, tc, tg, tlt, tlt2, tcell⟩ := HM0.out
  have HTC : Hid (∀ k l, nmsB[k]? = some l → X0.cell? ⟨tb, to_ + k, none⟩ = some (str l)) := tcell
  clear tcell
  go_loopw [6, 7] (fun kd i wr => ∃ (k : Nat), 1 ≤ k ∧ k ≤ 17 ∧ i = .int .i64 k ∧ kd = .int .i64 (kn nm (k - 1) : Nat) ∧ wr = X0) (fun _ i _ => 17 - (intOf i).toNat)
  case atStart => exact ⟨1, by omega, by omega, rfl, rfl, rfl⟩
  case round =>
    obtain ⟨k, hk1, hk2, rfl, rfl, rfl⟩ := hrel
    by_cases hlt : k < 17
    · have hki : (k : Int) < 17 := by omega
      have hki0 : (0 : Int) ≤ (k : Int) := by omega
      obtain ⟨l, hl⟩ : ∃ l, nmsB[k]? = some l := ⟨_, List.getElem?_eq_getElem (by rw [nmsB_len]; exact hlt)⟩
      have hcell := HTC.out k l hl
      unfold str at hcell
      have HST : Hid (kn nm k = if kindNm k = nm then k else kn nm (k - 1)) := by
        obtain ⟨j, rfl⟩ : ∃ j, k = j + 1 := ⟨k - 1, by omega⟩
        rfl
      have hne := name_eq k l nm hl
      by_cases he : kindNm k = nm
      · have hee : (l == nm.toList) = true := by rw [hne]; simpa using he
        have HS2 : Hid (kn nm k = k) := by unfold Hid; rw [HST.out, if_pos he]
        clear hne hl
        go_wp2_with fail
        exact ⟨⟨k + 1, by omega, by omega, by simp, by rw [Nat.add_sub_cancel, HS2.out], trivial⟩, by simp [intOf]; omega⟩
      · have hee : (l == nm.toList) = false := by rw [hne]; simpa using he
        have HS2 : Hid (kn nm k = kn nm (k - 1)) := by unfold Hid; rw [HST.out, if_neg he]
        clear hne hl
        go_wp2_with fail
        exact ⟨⟨k + 1, by omega, by omega, by simp, by rw [Nat.add_sub_cancel, HS2.out], trivial⟩, by simp [intOf]; omega⟩
    · have hki : ¬ (k : Int) < 17 := by omega
      obtain rfl : k = 17 := by omega
      obtain ⟨K, HK⟩ : ∃ K, Hid (kn nm 16 = K) := ⟨_, (rfl : _ = _)⟩
      rw [show 17 - 1 = 16 from rfl, HK.out]
      clear HTC
      obtain ⟨os, HOS⟩ : ∃ o, Hid (nameAt nm shps = o) := ⟨_, (rfl : _ = _)⟩
      cases os with
      | none =>
        obtain rfl : K = 0 := by rw [← HK.out]; exact kn_none nm HOS.out 16 (by omega)
        have HR5 : Hid (r = (q00, 5)) := by unfold Hid; rw [← HRR.out]; unfold parQ; rw [HOS.out]
        obtain ⟨r0, r1, r2, r3, r4, r5, r6, r7, r8, rf0, rf1, rf2, rf3, rf4, rf5, rf6, rf7, rf8, rlt⟩ := R0.out
        go_wp2_with fail
        refine bodyPost_ret (v := .tuple #[.agg #[.int .i64 0, .int .i64 0, .int .i64 0, .int .i64 0, .int .i64 0, .int .i64 0, .int .i64 0, .int .i64 0, .slice none 0 0], .int .i64 5]) (by simp [results, Tryd.results27, go_sem, r0, r1, r2, r3, r4, r5, r6, r7, r8]) rfl (rofP_err HR5 ?_)
        have hwz2 := hbz.size
        repeat' (first | with_reducible apply Below.setCell | with_reducible apply Below.alloc | with_reducible apply Below.drew)
        all_goals first | exact hbz | (simp; done) | (simp; omega)
      | some s =>
      obtain ⟨hks, hka⟩ := kn_some nm s HOS.out
      obtain rfl : K = s.kind := by rw [← HK.out, hks]
      obtain ⟨hs1, hs2⟩ := shps_ok s (nameAt_mem _ _ _ HOS.out).1
      have hkp : 1 ≤ s.kind := by obtain ⟨k', e1, e2, _⟩ := name_kind _ s hka; omega
      have hkz : ((s.kind : Int) == 0) = false := by simp; omega
      clear hki
      go_wp2_with fail
      refine (parts_at (s.kind : Int) s hka wr).mono ?_
      rintro e wx ⟨rfl, rfl⟩
      obtain ⟨N, HN⟩ : ∃ n, Hid (sizeS s = n) := ⟨_, (rfl : _ = _)⟩
      have hN : N ≤ 9 := by rw [← HN.out]; unfold sizeS; split <;> omega
      obtain ⟨nn, HNN⟩ : ∃ n, Hid (s.nums = n) := ⟨_, (rfl : _ = _)⟩
      obtain ⟨fid, HFID⟩ : ∃ b, Hid (s.id = b) := ⟨_, (rfl : _ = _)⟩
      obtain ⟨fpc, HFPC⟩ : ∃ b, Hid (s.pic = b) := ⟨_, (rfl : _ = _)⟩
      have hn4 : nn ≤ 4 := by rw [← HNN.out]; exact hs1
      rw [HNN.out, HFID.out, HFPC.out]
      have HR4 : dt.size < N ∨ (N < dt.size ∧ fpc = false) → Hid (r = (q00, 4)) := fun hh => by
        unfold Hid; rw [← HRR.out]; unfold parQ; rw [HOS.out]; simp only
        rw [HN.out, HFPC.out, if_pos hh]
      obtain ⟨r0, r1, r2, r3, r4, r5, r6, r7, r8, rf0, rf1, rf2, rf3, rf4, rf5, rf6, rf7, rf8, rlt⟩ := R0.out
      cases fid with
      | true =>
        have HNV : Hid (N = 2 * nn + 1) := by unfold Hid; rw [← HN.out]; unfold sizeS; rw [HNN.out, HFID.out]; rfl
        have h2n : IntKind.i64.wrap (2 * (nn : Int)) = 2 * (nn : Int) := by rw [IntKind.wrap_i64]; omega
        by_cases g1 : dt.size < N
        · have g1i : (dt.size : Int) < 1 + 2 * (nn : Int) := by have := HNV.out; omega
          have HR := HR4 (.inl g1)
          go_wp2_with fail
          obtain ⟨y0, y1, y2, y3, y4, y5, y6, y7, y8, -, -, -, -, -, -, -, -, -, -⟩ := (nine_all R0.out (.int .i64 0) (.int .i64 0) (.int .i64 0) (.int .i64 0) (.int .i64 0) (.int .i64 0) (.int .i64 0) (.int .i64 0) (.slice none 0 0)).alloc (.cells #[.int .i64 (s.kind : Int), .int .i64 0, .int .i64 0, .int .i64 0, .int .i64 0, .int .i64 0, .int .i64 0, .int .i64 0, .slice none 0 0] 45)
          refine bodyPost_ret (v := .tuple #[.agg #[.int .i64 0, .int .i64 0, .int .i64 0, .int .i64 0, .int .i64 0, .int .i64 0, .int .i64 0, .int .i64 0, .slice none 0 0], .int .i64 4]) (by simp [results, Tryd.results27, go_sem, y0, y1, y2, y3, y4, y5, y6, y7, y8]) rfl (rofP_err HR ?_)
          have hwz2 := hbz.size
          repeat' (first | with_reducible apply Below.setCell | with_reducible apply Below.alloc | with_reducible apply Below.drew)
          all_goals first | exact hbz | (simp; done) | (simp; omega)
        have g1i : ¬ (dt.size : Int) < 1 + 2 * (nn : Int) := by have := HNV.out; omega
        obtain ⟨i0, HI0⟩ : ∃ i, Hid (dt.data.toList.getD 0 0 = i) := ⟨_, (rfl : _ = _)⟩
        obtain ⟨id0, HID⟩ : ∃ i, Hid (i0.toNat = i) := ⟨_, (rfl : _ = _)⟩
        have hx := nat_at dt 0 i0 HI0 id0 HID
        have h0s : 0 < dt.size := by have := HNV.out; omega
        have h0i : (0 : Int) < (dt.size : Int) := by omega
        have hid := byte_le _ _ HID
        cases fpc with
        | false =>
          by_cases g2 : N < dt.size
          · have g2i : 1 + 2 * (nn : Int) < (dt.size : Int) := by have := HNV.out; omega
            have HR := HR4 (.inr ⟨g2, rfl⟩)
            go_wp2_with fail
            obtain ⟨y0, y1, y2, y3, y4, y5, y6, y7, y8, -, -, -, -, -, -, -, -, -, -⟩ := (nine_all R0.out (.int .i64 0) (.int .i64 0) (.int .i64 0) (.int .i64 0) (.int .i64 0) (.int .i64 0) (.int .i64 0) (.int .i64 0) (.slice none 0 0)).alloc (.cells #[.int .i64 (s.kind : Int), .int .i64 0, .int .i64 0, .int .i64 0, .int .i64 0, .int .i64 0, .int .i64 0, .int .i64 0, .slice none 0 0] 45)
            refine bodyPost_ret (v := .tuple #[.agg #[.int .i64 0, .int .i64 0, .int .i64 0, .int .i64 0, .int .i64 0, .int .i64 0, .int .i64 0, .int .i64 0, .slice none 0 0], .int .i64 4]) (by simp [results, Tryd.results27, go_sem, y0, y1, y2, y3, y4, y5, y6, y7, y8]) rfl (rofP_err HR ?_)
            have hwz2 := hbz.size
            repeat' (first | with_reducible apply Below.setCell | with_reducible apply Below.alloc | with_reducible apply Below.drew)
            all_goals first | exact hbz | (simp; done) | (simp; omega)
          have g2i : ¬ 1 + 2 * (nn : Int) < (dt.size : Int) := by have := HNV.out; omega
          go_wp2_with fail
          obtain ⟨bs, HBS⟩ : ∃ l, Hid ((dt.data.toList.take N).drop 1 = l) := ⟨_, (rfl : _ = _)⟩
          have HEND : Hid ((1 + 2 * (nn : Int) : Int) = (N : Int)) := by unfold Hid; have := HNV.out; omega
          obtain ⟨W9, HW9⟩ : ∃ W, Hid (((wx.alloc (.cells #[.int .i64 (s.kind : Int), .int .i64 (id0 : Int), .int .i64 0, .int .i64 0, .int .i64 0, .int .i64 0, .int .i64 0, .int .i64 0, .slice none 0 0] 45)).alloc (.cells #[.int .i64 0, .int .i64 0, .int .i64 0, .int .i64 0] 3)) = W) := ⟨_, (rfl : _ = _)⟩
          have hb9 : Below w.heap.size w W9 := by rw [← HW9.out]; exact (hbz.alloc (by omega) _).alloc (by simp; omega) _
          have T9 := hid_of3 (show Nine W9 w.heap.size (.int .i64 0) (.int .i64 0) (.int .i64 0) (.int .i64 0) (.int .i64 0) (.int .i64 0) (.int .i64 0) (.int .i64 0) (.slice none 0 0) by rw [← HW9.out]; exact (R0.out.alloc _).alloc _)
          have NO9 := hid_of3 (show Nine W9 (w.heap.size + 1) (.int .i64 (s.kind : Int)) (.int .i64 (id0 : Int)) (.int .i64 0) (.int .i64 0) (.int .i64 0) (.int .i64 0) (.int .i64 0) (.int .i64 0) (.slice none 0 0) by rw [← HW9.out]; exact (nine_start _ _ _ _ _ _ _ _ _ _ 45 (w.heap.size + 1) (by omega)).alloc _)
          have HS9 : Hid (W9.heap.size = w.heap.size + 1 + 1 + 1) := by unfold Hid; rw [← HW9.out]; simp; omega
          have SL9 : Slots W9 (w.heap.size + 1 + 1) (numK bs 0) := by
            have F : Four W9 (w.heap.size + 1 + 1) (.int .i64 0) (.int .i64 0) (.int .i64 0) (.int .i64 0) := by rw [← HW9.out]; exact four_start _ _ _ _ _ 3 (w.heap.size + 1 + 1) (by simp; omega)
            have e : ∀ j, numK bs 0 j = 0 := fun j => by unfold numK; rw [if_neg (by omega)]
            refine ⟨fun j hj => ?_, fun j hj => ?_⟩
            · rw [e]
              rcases (show j = 0 ∨ j = 1 ∨ j = 2 ∨ j = 3 by omega) with rfl | rfl | rfl | rfl
              · exact F.c0
              · exact F.c1
              · exact F.c2
              · exact F.c3
            · rcases (show j = 0 ∨ j = 1 ∨ j = 2 ∨ j = 3 by omega) with rfl | rfl | rfl | rfl
              · exact F.f0
              · exact F.f1
              · exact F.f2
              · exact F.f3
          have HSL0 := hid_of3 SL9
          rw [HW9.out, HEND.out]
          simp only [show decide ((dt.size : Int) < (N : Int)) = false from by simp; omega, show decide ((N : Int) < (dt.size : Int)) = false from by simp; omega, Bool.or_self]
          clear HW9 SL9 r0 r1 r2 r3 r4 r5 r6 r7 r8 rf0 rf1 rf2 rf3 rf4 rf5 rf6 rf7 rf8 rlt tg tlt tlt2 R0 HM0 hsz0 hbz hx h0s h0i
          go_loopw [15] (fun i wr => ∃ k : Nat, k ≤ nn ∧ i = .int .i64 k ∧ Hid (Slots wr (w.heap.size + 1 + 1) (numK bs k)) ∧ Below (w.heap.size + 1 + 1) W9 wr) (fun i _ => nn - (intOf i).toNat)
          case atStart => exact ⟨0, by omega, rfl, HSL0, Below.refl _ _⟩
          case round =>
            obtain ⟨k, hk, rfl, HSL, hbr⟩ := hrel
            by_cases hlt : k < nn
            · have hki : (k : Int) < (nn : Int) := by omega
              have hki0 : (0 : Int) ≤ (k : Int) := by omega
              have hki4 : (k : Int) < 4 := by omega
              have hk4 : k < 4 := by omega
              obtain ⟨d0, HD0⟩ : ∃ d, Hid (bs.getD (2 * k) 0 = d) := ⟨_, (rfl : _ = _)⟩
              obtain ⟨d1, HD1⟩ : ∃ d, Hid (bs.getD (2 * k + 1) 0 = d) := ⟨_, (rfl : _ = _)⟩
              obtain ⟨m0, HM0⟩ : ∃ d, Hid (d0.toNat = d) := ⟨_, (rfl : _ = _)⟩
              obtain ⟨m1, HM1⟩ : ∃ d, Hid (d1.toNat = d) := ⟨_, (rfl : _ = _)⟩
              obtain ⟨e1, e2, hval⟩ := num_parts bs k hk4 m0 m1 (by rw [HD0.out]; exact HM0.out) (by rw [HD1.out]; exact HM1.out) (byte_le _ _ HM0) (byte_le _ _ HM1)
              have HST := hid_of3 (numK_step bs k ▸ HSL.out.set hk4 (numAt bs k))
              obtain ⟨M, HM⟩ : ∃ M, Hid (2 * k = M) := ⟨_, (rfl : _ = _)⟩
              obtain ⟨P, HP⟩ : ∃ M', Hid (1 + M = M') := ⟨_, (rfl : _ = _)⟩
              obtain ⟨P1, HP1⟩ : ∃ M', Hid (P + 1 = M') := ⟨_, (rfl : _ = _)⟩
              obtain ⟨V, HV⟩ : ∃ M, Hid (numAt bs k = M) := ⟨_, (rfl : _ = _)⟩
              rw [HM.out] at e1
              clear e2
              have hM8 : M ≤ 6 := by have := HM.out; omega
              have eP : IntKind.i64.wrap (1 + (M : Int)) = (P : Int) := by rw [IntKind.wrap_i64]; have := HP.out; omega
              have eQ : IntKind.i64.wrap ((P : Int) + 1) = (P1 : Int) := by rw [IntKind.wrap_i64]; have := HP.out; have := HP1.out; omega
              rw [HV.out] at hval HST
              have HVAL := hid_of3 hval
              clear hval
              have hx0 := nat_at dt P d0 (by unfold Hid; rw [← HD0.out, ← HBS.out, td1 _ _ _ (by have := HM.out; have := HNV.out; omega), ← HP.out, ← HM.out]) m0 HM0
              have hx1 := nat_at dt P1 d1 (by unfold Hid; rw [← HD1.out, ← HBS.out, td1 _ _ _ (by have := HM.out; have := HNV.out; omega), ← HP1.out, ← HP.out, ← HM.out]; rfl) m1 HM1
              have hM : P < dt.size := by have := HP.out; have := HM.out; have := HNV.out; omega
              have hM1 : P1 < dt.size := by have := HP1.out; have := HP.out; have := HM.out; have := HNV.out; omega
              have hMi : (P : Int) < (dt.size : Int) := by omega
              have hMi1 : (P1 : Int) < (dt.size : Int) := by omega
              have c0 := HSL.out.cell k hk4
              have f0 := HSL.out.free k hk4
              clear HD0 HD1 HM0 HM1
              go_wp2_with fail
              go_still_tail 21, (by kernel_rfl)
              go_wp2_with fail
              rw [HVAL.out]
              exact ⟨⟨k + 1, by omega, by simp, HST.out.drew, (hbr.setCell (Nat.le_refl _) _).drew⟩, by simp [intOf]; omega⟩
            · have hki : ¬ (k : Int) < (nn : Int) := by omega
              obtain rfl : nn = k := by omega
              obtain ⟨v0, HV0⟩ : ∃ v, Hid (numK bs nn 0 = v) := ⟨_, (rfl : _ = _)⟩
              obtain ⟨v1, HV1⟩ : ∃ v, Hid (numK bs nn 1 = v) := ⟨_, (rfl : _ = _)⟩
              obtain ⟨v2, HV2⟩ : ∃ v, Hid (numK bs nn 2 = v) := ⟨_, (rfl : _ = _)⟩
              obtain ⟨v3, HV3⟩ : ∃ v, Hid (numK bs nn 3 = v) := ⟨_, (rfl : _ = _)⟩
              have s0 := HSL.out.cell 0 (by omega)
              have s1 := HSL.out.cell 1 (by omega)
              have s2 := HSL.out.cell 2 (by omega)
              have s3 := HSL.out.cell 3 (by omega)
              rw [HV0.out] at s0
              rw [HV1.out] at s1
              rw [HV2.out] at s2
              rw [HV3.out] at s3
              obtain ⟨k0, k1, k2, k3, k4, k5, k6, k7, k8, kf0, kf1, kf2, kf3, kf4, kf5, kf6, kf7, kf8, klt⟩ := NO9.out.onB hbr (by omega)
              have R9 := hid_of3 (T9.out.onB hbr (by omega))
              have hbbr : Below w.heap.size w wr := hb9.trans (hbr.mono (by omega))
              have hwr3 : w.heap.size + 1 + 1 < wr.heap.size := by have := hbr.size; have := HS9.out; omega
              have HQ0 : Hid (readQ (s.kind : Int) s.id s.nums (dt.data.toList.take N) = ⟨s.kind, (id0 : Int), v0, v1, v2, v3, 0, 0, []⟩) := by
                unfold Hid readQ
                rw [HFID.out, HNN.out, if_pos rfl, if_pos rfl, td0 _ _ _ (by have := HNV.out; omega), HI0.out, HID.out, HBS.out, HV0.out, HV1.out, HV2.out, HV3.out]
              clear HSL HSL0 hbr hb9 NO9 T9 HS9
              have HRF : Hid (r = finQ ⟨s.kind, (id0 : Int), v0, v1, v2, v3, 0, 0, []⟩) := by
                unfold Hid; rw [← HRR.out]; unfold parQ; rw [HOS.out]; simp only
                rw [HN.out, HFPC.out, if_neg (by rintro (h | ⟨h, _⟩); exact g1 h; exact g2 h), if_neg (by decide), HQ0.out]
              go_wp2_with fail
              obtain ⟨Wf, HWF⟩ : ∃ W, Hid (((((wr.setCell ⟨w.heap.size + 1, 2, none⟩ (.int .i64 v0)).setCell ⟨w.heap.size + 1, 3, none⟩ (.int .i64 v1)).setCell ⟨w.heap.size + 1, 4, none⟩ (.int .i64 v2)).setCell ⟨w.heap.size + 1, 5, none⟩ (.int .i64 v3)) = W) := ⟨_, (rfl : _ = _)⟩
              have NF := hid_of3 (show Nine Wf (w.heap.size + 1) (.int .i64 (s.kind : Int)) (.int .i64 (id0 : Int)) (.int .i64 v0) (.int .i64 v1) (.int .i64 v2) (.int .i64 v3) (.int .i64 0) (.int .i64 0) (.slice none 0 0) by rw [← HWF.out]; exact nine_nums ⟨k0, k1, k2, k3, k4, k5, k6, k7, k8, kf0, kf1, kf2, kf3, kf4, kf5, kf6, kf7, kf8, klt⟩ _ _ _ _)
              have hbf : Below (w.heap.size + 1) wr Wf := by rw [← HWF.out]; exact ((((Below.refl _ _).setCell (show w.heap.size + 1 ≤ (⟨w.heap.size + 1, 2, none⟩ : Addr).block from Nat.le_refl _) _).setCell (show w.heap.size + 1 ≤ (⟨w.heap.size + 1, 3, none⟩ : Addr).block from Nat.le_refl _) _).setCell (show w.heap.size + 1 ≤ (⟨w.heap.size + 1, 4, none⟩ : Addr).block from Nat.le_refl _) _).setCell (show w.heap.size + 1 ≤ (⟨w.heap.size + 1, 5, none⟩ : Addr).block from Nat.le_refl _) _
              have RF := hid_of3 (R9.out.onB hbf (Nat.lt_succ_self _))
              have hbbf : Below w.heap.size w Wf := hbbr.trans (hbf.mono (Nat.le_succ _))
              have hwf3 : w.heap.size + 1 < Wf.heap.size := by have := hbf.size; omega
              rw [HWF.out]
              clear HWF hbf R9 k0 k1 k2 k3 k4 k5 k6 k7 k8 kf0 kf1 kf2 kf3 kf4 kf5 kf6 kf7 kf8 klt s0 s1 s2 s3
              have NQ := NF
              have RQ := RF
              have hbbq := hbbf
              obtain ⟨cc, HCC⟩ : ∃ c, Hid (opC ⟨s.kind, (id0 : Int), v0, v1, v2, v3, 0, 0, []⟩ = c) := ⟨_, (rfl : _ = _)⟩
              have HRC : Hid (r = finQ ⟨s.kind, (id0 : Int), v0, v1, v2, v3, 0, 0, []⟩) := HRF
              have hof := opf_any ⟨s.kind, (id0 : Int), v0, v1, v2, v3, 0, 0, []⟩ (.slice none 0 0) Wf (by simp) (rdP_nil _)
              unfold OpfP at hof
              rw [rf_eq, HCC.out] at hof
              unfold opV at hof
              refine hof.mono ?_
              clear hof
              rintro e w8 ⟨rfl, hb8⟩
              have N8 := hid_of3 (NQ.out.on hb8)
              have R8 := hid_of3 (RQ.out.on hb8)
              have hbb8 := hbbq.trans (hb8.mono hbbq.size)
              clear hb8
              by_cases hcc : cc = 0
              case neg =>
                have HR : Hid (r = (q00, cc)) := by unfold Hid; rw [HRC.out]; unfold finQ; rw [HCC.out, if_neg hcc]
                have hcp : (0 : Int) < (cc : Int) := by omega
                obtain ⟨r0, r1, r2, r3, r4, r5, r6, r7, r8, rf0, rf1, rf2, rf3, rf4, rf5, rf6, rf7, rf8, rlt⟩ := R8.out
                go_wp2_with fail
                refine bodyPost_ret (v := .tuple #[.agg #[.int .i64 0, .int .i64 0, .int .i64 0, .int .i64 0, .int .i64 0, .int .i64 0, .int .i64 0, .int .i64 0, .slice none 0 0], .int .i64 (cc : Int)]) (by simp [results, Tryd.results27, go_sem, r0, r1, r2, r3, r4, r5, r6, r7, r8]) rfl (rofP_err HR ?_)
                have hwz2 := hbb8.size
                repeat' (first | with_reducible apply Below.setCell | with_reducible apply Below.alloc | with_reducible apply Below.drew)
                all_goals first | exact hbb8 | (simp; done) | (simp; omega)
              subst hcc
              have hcp : ¬ (0 : Int) < ((0 : Nat) : Int) := by omega
              have HR : Hid (r = (⟨s.kind, (id0 : Int), v0, v1, v2, v3, 0, 0, []⟩, 0)) := by unfold Hid; rw [HRC.out]; unfold finQ; rw [HCC.out, if_pos rfl]
              obtain ⟨r0, r1, r2, r3, r4, r5, r6, r7, r8, rf0, rf1, rf2, rf3, rf4, rf5, rf6, rf7, rf8, rlt⟩ := R8.out
              obtain ⟨k0, k1, k2, k3, k4, k5, k6, k7, k8, kf0, kf1, kf2, kf3, kf4, kf5, kf6, kf7, kf8, klt⟩ := N8.out
              go_wp2_with fail
              refine bodyPost_ret (v := .tuple #[.agg #[.int .i64 (s.kind : Int), .int .i64 (id0 : Int), .int .i64 v0, .int .i64 v1, .int .i64 v2, .int .i64 v3, .int .i64 0, .int .i64 0, (.slice none 0 0)], .int .i64 0]) (by simp [results, Tryd.results27, go_sem, r0, r1, r2, r3, r4, r5, r6, r7, r8]) rfl (rofP_ok HR ?_ ?_)
              · exact World.ownsRow_nil _ _ _ _
              · have hwz2 := hbb8.size
                repeat' (first | with_reducible apply Below.setCell | with_reducible apply Below.alloc | with_reducible apply Below.drew)
                all_goals first | exact hbb8 | (simp; done) | (simp; omega)
        | true =>
          go_wp2_with fail
          obtain ⟨bs, HBS⟩ : ∃ l, Hid ((dt.data.toList.take N).drop 1 = l) := ⟨_, (rfl : _ = _)⟩
          have HEND : Hid ((1 + 2 * (nn : Int) : Int) = (N : Int)) := by unfold Hid; have := HNV.out; omega
          obtain ⟨W9, HW9⟩ : ∃ W, Hid (((wx.alloc (.cells #[.int .i64 (s.kind : Int), .int .i64 (id0 : Int), .int .i64 0, .int .i64 0, .int .i64 0, .int .i64 0, .int .i64 0, .int .i64 0, .slice none 0 0] 45)).alloc (.cells #[.int .i64 0, .int .i64 0, .int .i64 0, .int .i64 0] 3)) = W) := ⟨_, (rfl : _ = _)⟩
          have hb9 : Below w.heap.size w W9 := by rw [← HW9.out]; exact (hbz.alloc (by omega) _).alloc (by simp; omega) _
          have T9 := hid_of3 (show Nine W9 w.heap.size (.int .i64 0) (.int .i64 0) (.int .i64 0) (.int .i64 0) (.int .i64 0) (.int .i64 0) (.int .i64 0) (.int .i64 0) (.slice none 0 0) by rw [← HW9.out]; exact (R0.out.alloc _).alloc _)
          have NO9 := hid_of3 (show Nine W9 (w.heap.size + 1) (.int .i64 (s.kind : Int)) (.int .i64 (id0 : Int)) (.int .i64 0) (.int .i64 0) (.int .i64 0) (.int .i64 0) (.int .i64 0) (.int .i64 0) (.slice none 0 0) by rw [← HW9.out]; exact (nine_start _ _ _ _ _ _ _ _ _ _ 45 (w.heap.size + 1) (by omega)).alloc _)
          have HS9 : Hid (W9.heap.size = w.heap.size + 1 + 1 + 1) := by unfold Hid; rw [← HW9.out]; simp; omega
          have SL9 : Slots W9 (w.heap.size + 1 + 1) (numK bs 0) := by
            have F : Four W9 (w.heap.size + 1 + 1) (.int .i64 0) (.int .i64 0) (.int .i64 0) (.int .i64 0) := by rw [← HW9.out]; exact four_start _ _ _ _ _ 3 (w.heap.size + 1 + 1) (by simp; omega)
            have e : ∀ j, numK bs 0 j = 0 := fun j => by unfold numK; rw [if_neg (by omega)]
            refine ⟨fun j hj => ?_, fun j hj => ?_⟩
            · rw [e]
              rcases (show j = 0 ∨ j = 1 ∨ j = 2 ∨ j = 3 by omega) with rfl | rfl | rfl | rfl
              · exact F.c0
              · exact F.c1
              · exact F.c2
              · exact F.c3
            · rcases (show j = 0 ∨ j = 1 ∨ j = 2 ∨ j = 3 by omega) with rfl | rfl | rfl | rfl
              · exact F.f0
              · exact F.f1
              · exact F.f2
              · exact F.f3
          have HSL0 := hid_of3 SL9
          rw [HW9.out, HEND.out]
          simp only [show decide ((dt.size : Int) < (N : Int)) = false from by simp; omega]
          clear HW9 SL9 r0 r1 r2 r3 r4 r5 r6 r7 r8 rf0 rf1 rf2 rf3 rf4 rf5 rf6 rf7 rf8 rlt tg tlt tlt2 R0 HM0 hsz0 hbz hx h0s h0i
          go_loopw [15] (fun i wr => ∃ k : Nat, k ≤ nn ∧ i = .int .i64 k ∧ Hid (Slots wr (w.heap.size + 1 + 1) (numK bs k)) ∧ Below (w.heap.size + 1 + 1) W9 wr) (fun i _ => nn - (intOf i).toNat)
          case atStart => exact ⟨0, by omega, rfl, HSL0, Below.refl _ _⟩
          case round =>
            obtain ⟨k, hk, rfl, HSL, hbr⟩ := hrel
            by_cases hlt : k < nn
            · have hki : (k : Int) < (nn : Int) := by omega
              have hki0 : (0 : Int) ≤ (k : Int) := by omega
              have hki4 : (k : Int) < 4 := by omega
              have hk4 : k < 4 := by omega
              obtain ⟨d0, HD0⟩ : ∃ d, Hid (bs.getD (2 * k) 0 = d) := ⟨_, (rfl : _ = _)⟩
              obtain ⟨d1, HD1⟩ : ∃ d, Hid (bs.getD (2 * k + 1) 0 = d) := ⟨_, (rfl : _ = _)⟩
              obtain ⟨m0, HM0⟩ : ∃ d, Hid (d0.toNat = d) := ⟨_, (rfl : _ = _)⟩
              obtain ⟨m1, HM1⟩ : ∃ d, Hid (d1.toNat = d) := ⟨_, (rfl : _ = _)⟩
              obtain ⟨e1, e2, hval⟩ := num_parts bs k hk4 m0 m1 (by rw [HD0.out]; exact HM0.out) (by rw [HD1.out]; exact HM1.out) (byte_le _ _ HM0) (byte_le _ _ HM1)
              have HST := hid_of3 (numK_step bs k ▸ HSL.out.set hk4 (numAt bs k))
              obtain ⟨M, HM⟩ : ∃ M, Hid (2 * k = M) := ⟨_, (rfl : _ = _)⟩
              obtain ⟨P, HP⟩ : ∃ M', Hid (1 + M = M') := ⟨_, (rfl : _ = _)⟩
              obtain ⟨P1, HP1⟩ : ∃ M', Hid (P + 1 = M') := ⟨_, (rfl : _ = _)⟩
              obtain ⟨V, HV⟩ : ∃ M, Hid (numAt bs k = M) := ⟨_, (rfl : _ = _)⟩
              rw [HM.out] at e1
              clear e2
              have hM8 : M ≤ 6 := by have := HM.out; omega
              have eP : IntKind.i64.wrap (1 + (M : Int)) = (P : Int) := by rw [IntKind.wrap_i64]; have := HP.out; omega
              have eQ : IntKind.i64.wrap ((P : Int) + 1) = (P1 : Int) := by rw [IntKind.wrap_i64]; have := HP.out; have := HP1.out; omega
              rw [HV.out] at hval HST
              have HVAL := hid_of3 hval
              clear hval
              have hx0 := nat_at dt P d0 (by unfold Hid; rw [← HD0.out, ← HBS.out, td1 _ _ _ (by have := HM.out; have := HNV.out; omega), ← HP.out, ← HM.out]) m0 HM0
              have hx1 := nat_at dt P1 d1 (by unfold Hid; rw [← HD1.out, ← HBS.out, td1 _ _ _ (by have := HM.out; have := HNV.out; omega), ← HP1.out, ← HP.out, ← HM.out]; rfl) m1 HM1
              have hM : P < dt.size := by have := HP.out; have := HM.out; have := HNV.out; omega
              have hM1 : P1 < dt.size := by have := HP1.out; have := HP.out; have := HM.out; have := HNV.out; omega
              have hMi : (P : Int) < (dt.size : Int) := by omega
              have hMi1 : (P1 : Int) < (dt.size : Int) := by omega
              have c0 := HSL.out.cell k hk4
              have f0 := HSL.out.free k hk4
              clear HD0 HD1 HM0 HM1
              go_wp2_with fail
              go_still_tail 21, (by kernel_rfl)
              go_wp2_with fail
              rw [HVAL.out]
              exact ⟨⟨k + 1, by omega, by simp, HST.out.drew, (hbr.setCell (Nat.le_refl _) _).drew⟩, by simp [intOf]; omega⟩
            · have hki : ¬ (k : Int) < (nn : Int) := by omega
              obtain rfl : nn = k := by omega
              obtain ⟨v0, HV0⟩ : ∃ v, Hid (numK bs nn 0 = v) := ⟨_, (rfl : _ = _)⟩
              obtain ⟨v1, HV1⟩ : ∃ v, Hid (numK bs nn 1 = v) := ⟨_, (rfl : _ = _)⟩
              obtain ⟨v2, HV2⟩ : ∃ v, Hid (numK bs nn 2 = v) := ⟨_, (rfl : _ = _)⟩
              obtain ⟨v3, HV3⟩ : ∃ v, Hid (numK bs nn 3 = v) := ⟨_, (rfl : _ = _)⟩
              have s0 := HSL.out.cell 0 (by omega)
              have s1 := HSL.out.cell 1 (by omega)
              have s2 := HSL.out.cell 2 (by omega)
              have s3 := HSL.out.cell 3 (by omega)
              rw [HV0.out] at s0
              rw [HV1.out] at s1
              rw [HV2.out] at s2
              rw [HV3.out] at s3
              obtain ⟨k0, k1, k2, k3, k4, k5, k6, k7, k8, kf0, kf1, kf2, kf3, kf4, kf5, kf6, kf7, kf8, klt⟩ := NO9.out.onB hbr (by omega)
              have R9 := hid_of3 (T9.out.onB hbr (by omega))
              have hbbr : Below w.heap.size w wr := hb9.trans (hbr.mono (by omega))
              have hwr3 : w.heap.size + 1 + 1 < wr.heap.size := by have := hbr.size; have := HS9.out; omega
              have HQ0 : Hid (readQ (s.kind : Int) s.id s.nums (dt.data.toList.take N) = ⟨s.kind, (id0 : Int), v0, v1, v2, v3, 0, 0, []⟩) := by
                unfold Hid readQ
                rw [HFID.out, HNN.out, if_pos rfl, if_pos rfl, td0 _ _ _ (by have := HNV.out; omega), HI0.out, HID.out, HBS.out, HV0.out, HV1.out, HV2.out, HV3.out]
              clear HSL HSL0 hbr hb9 NO9 T9 HS9
              obtain ⟨z, HZP⟩ : ∃ z, Hid (parseL (dt.data.toList.drop N) = z) := ⟨_, (rfl : _ = _)⟩
              obtain ⟨PW, PH, ps, pc⟩ := z
              have HDX := hid_of3 (Lib.extract_to_end dt N)
              have HZX : Hid (parseL (dt.extract N dt.size).data.toList = (PW, PH, ps, pc)) := by unfold Hid; rw [HDX.out]; exact HZP.out
              have HRF : Hid (r = if pc = 0 then finQ ⟨s.kind, (id0 : Int), v0, v1, v2, v3, (PW : Int), (PH : Int), ps⟩ else (q00, pc)) := by
                unfold Hid; rw [← HRR.out]; unfold parQ; rw [HOS.out]; simp only
                rw [HN.out, HFPC.out, if_neg (by rintro (h | ⟨_, h⟩); exact g1 h; cases h), if_pos rfl, HQ0.out, HZP.out]
              have hpl : ps.length ≤ 1000000000 := Nat.le_trans (parse_lenP _ _ _ _ _ HZP.out) (by omega)
              go_wp2_with fail
              obtain ⟨Wf, HWF⟩ : ∃ W, Hid (((((wr.setCell ⟨w.heap.size + 1, 2, none⟩ (.int .i64 v0)).setCell ⟨w.heap.size + 1, 3, none⟩ (.int .i64 v1)).setCell ⟨w.heap.size + 1, 4, none⟩ (.int .i64 v2)).setCell ⟨w.heap.size + 1, 5, none⟩ (.int .i64 v3)) = W) := ⟨_, (rfl : _ = _)⟩
              have NF := hid_of3 (show Nine Wf (w.heap.size + 1) (.int .i64 (s.kind : Int)) (.int .i64 (id0 : Int)) (.int .i64 v0) (.int .i64 v1) (.int .i64 v2) (.int .i64 v3) (.int .i64 0) (.int .i64 0) (.slice none 0 0) by rw [← HWF.out]; exact nine_nums ⟨k0, k1, k2, k3, k4, k5, k6, k7, k8, kf0, kf1, kf2, kf3, kf4, kf5, kf6, kf7, kf8, klt⟩ _ _ _ _)
              have hbf : Below (w.heap.size + 1) wr Wf := by rw [← HWF.out]; exact ((((Below.refl _ _).setCell (show w.heap.size + 1 ≤ (⟨w.heap.size + 1, 2, none⟩ : Addr).block from Nat.le_refl _) _).setCell (show w.heap.size + 1 ≤ (⟨w.heap.size + 1, 3, none⟩ : Addr).block from Nat.le_refl _) _).setCell (show w.heap.size + 1 ≤ (⟨w.heap.size + 1, 4, none⟩ : Addr).block from Nat.le_refl _) _).setCell (show w.heap.size + 1 ≤ (⟨w.heap.size + 1, 5, none⟩ : Addr).block from Nat.le_refl _) _
              have RF := hid_of3 (R9.out.onB hbf (Nat.lt_succ_self _))
              have hbbf : Below w.heap.size w Wf := hbbr.trans (hbf.mono (Nat.le_succ _))
              have hwf3 : w.heap.size + 1 < Wf.heap.size := by have := hbf.size; omega
              rw [HWF.out]
              clear HWF hbf R9 k0 k1 k2 k3 k4 k5 k6 k7 k8 kf0 kf1 kf2 kf3 kf4 kf5 kf6 kf7 kf8 klt s0 s1 s2 s3
              refine (refOf_own (dt.extract N dt.size) Wf (by rw [ByteArray.size_extract]; omega) PW PH pc ps HZX).mono ?_
              rintro e w5 ⟨v5, rfl, ho5, hb5⟩
              have HO5 := hid_of3 ho5
              have N5 := hid_of3 (NF.out.on hb5)
              have R5 := hid_of3 (RF.out.on hb5)
              have hbb5 := hbbf.trans (hb5.mono hbbf.size)
              have hw5 : w.heap.size + 1 < w5.heap.size := Nat.lt_of_lt_of_le hwf3 hb5.size
              obtain ⟨a5, c5, hv5⟩ := own_any ho5
              obtain ⟨n5, HL5⟩ : ∃ n, Hid (ps.length = n) := ⟨_, (rfl : _ = _)⟩
              rw [HL5.out] at hv5
              subst hv5
              clear ho5 hb5 NF RF hbbf
              by_cases hpc : pc = 0
              case neg =>
                have HR : Hid (r = (q00, pc)) := by unfold Hid; rw [HRF.out, if_neg hpc]
                have hcp : (0 : Int) < (pc : Int) := by omega
                obtain ⟨r0, r1, r2, r3, r4, r5, r6, r7, r8, rf0, rf1, rf2, rf3, rf4, rf5, rf6, rf7, rf8, rlt⟩ := R5.out
                go_wp2_with fail
                obtain ⟨y0, y1, y2, y3, y4, y5, y6, y7, y8, -, -, -, -, -, -, -, -, -, -⟩ := (nine_all R5.out (.int .i64 0) (.int .i64 0) (.int .i64 0) (.int .i64 0) (.int .i64 0) (.int .i64 0) (.int .i64 0) (.int .i64 0) (.slice none 0 0)).alloc (.cells #[.int .i64 (PW : Int), .int .i64 (PH : Int), .slice a5 n5 c5] 43)
                refine bodyPost_ret (v := .tuple #[.agg #[.int .i64 0, .int .i64 0, .int .i64 0, .int .i64 0, .int .i64 0, .int .i64 0, .int .i64 0, .int .i64 0, .slice none 0 0], .int .i64 (pc : Int)]) (by simp [results, Tryd.results27, go_sem, y0, y1, y2, y3, y4, y5, y6, y7, y8]) rfl (rofP_err HR ?_)
                have hwz2 := hbb5.size
                repeat' (first | with_reducible apply Below.setCell | with_reducible apply Below.alloc | with_reducible apply Below.drew)
                all_goals first | exact hbb5 | (simp; done) | (simp; omega)
              subst hpc
              have hcp0 : ¬ (0 : Int) < ((0 : Nat) : Int) := by omega
              have HRF2 : Hid (r = finQ ⟨s.kind, (id0 : Int), v0, v1, v2, v3, (PW : Int), (PH : Int), ps⟩) := by unfold Hid; rw [HRF.out, if_pos rfl]
              obtain ⟨k0, k1, k2, k3, k4, k5, k6, k7, k8, kf0, kf1, kf2, kf3, kf4, kf5, kf6, kf7, kf8, klt⟩ := N5.out
              go_wp2_with fail
              obtain ⟨Wq, HWQ⟩ : ∃ W, Hid ((((w5.setCell ⟨w.heap.size + 1, 6, none⟩ (.int .i64 (PW : Int))).setCell ⟨w.heap.size + 1, 7, none⟩ (.int .i64 (PH : Int))).setCell ⟨w.heap.size + 1, 8, none⟩ (.slice a5 n5 c5)).alloc (.cells #[.int .i64 (PW : Int), .int .i64 (PH : Int), .slice a5 n5 c5] 43) = W) := ⟨_, (rfl : _ = _)⟩
              have hbq : Below (w.heap.size + 1) w5 Wq := by rw [← HWQ.out]; exact ((((Below.refl _ _).setCell (show w.heap.size + 1 ≤ (⟨w.heap.size + 1, 6, none⟩ : Addr).block from Nat.le_refl _) _).setCell (show w.heap.size + 1 ≤ (⟨w.heap.size + 1, 7, none⟩ : Addr).block from Nat.le_refl _) _).setCell (show w.heap.size + 1 ≤ (⟨w.heap.size + 1, 8, none⟩ : Addr).block from Nat.le_refl _) _).alloc (by simp; omega) _
              have NQ := hid_of3 (show Nine Wq (w.heap.size + 1) (.int .i64 (s.kind : Int)) (.int .i64 (id0 : Int)) (.int .i64 v0) (.int .i64 v1) (.int .i64 v2) (.int .i64 v3) (.int .i64 (PW : Int)) (.int .i64 (PH : Int)) (.slice a5 n5 c5) by rw [← HWQ.out]; exact (nine_pic N5.out _ _ _).alloc _)
              have RQ := hid_of3 (R5.out.onB hbq (Nat.lt_succ_self _))
              have hbbq : Below w.heap.size w Wq := hbb5.trans (hbq.mono (Nat.le_succ _))
              have HOQ := hid_of3 (show Wq.ownsRow Wf.heap.size 110 2 (.slice a5 n5 c5) ps.length (pixCells ps) by rw [← HWQ.out]; exact own_al (ownsRow_setCell_below (ownsRow_setCell_below (ownsRow_setCell_below HO5.out (a := ⟨w.heap.size + 1, 6, none⟩) hwf3 _) (a := ⟨w.heap.size + 1, 7, none⟩) hwf3 _) (a := ⟨w.heap.size + 1, 8, none⟩) hwf3 _) _)
              rw [HWQ.out]
              clear HWQ hbq k0 k1 k2 k3 k4 k5 k6 k7 k8 kf0 kf1 kf2 kf3 kf4 kf5 kf6 kf7 kf8 klt N5 R5 HO5 hbb5 hw5
              obtain ⟨cc, HCC⟩ : ∃ c, Hid (opC ⟨s.kind, (id0 : Int), v0, v1, v2, v3, (PW : Int), (PH : Int), ps⟩ = c) := ⟨_, (rfl : _ = _)⟩
              have HRC : Hid (r = finQ ⟨s.kind, (id0 : Int), v0, v1, v2, v3, (PW : Int), (PH : Int), ps⟩) := HRF2
              have hof := opf_any ⟨s.kind, (id0 : Int), v0, v1, v2, v3, (PW : Int), (PH : Int), ps⟩ (.slice a5 n5 c5) Wq hpl (rdP_own HOQ.out)
              unfold OpfP at hof
              rw [rf_eq, HCC.out] at hof
              unfold opV at hof
              refine hof.mono ?_
              clear hof
              rintro e w8 ⟨rfl, hb8⟩
              have N8 := hid_of3 (NQ.out.on hb8)
              have R8 := hid_of3 (RQ.out.on hb8)
              have hbb8 := hbbq.trans (hb8.mono hbbq.size)
              have HO8 := hid_of3 (own_on2 HOQ.out hb8)
              clear hb8
              by_cases hcc : cc = 0
              case neg =>
                have HR : Hid (r = (q00, cc)) := by unfold Hid; rw [HRC.out]; unfold finQ; rw [HCC.out, if_neg hcc]
                have hcp : (0 : Int) < (cc : Int) := by omega
                obtain ⟨r0, r1, r2, r3, r4, r5, r6, r7, r8, rf0, rf1, rf2, rf3, rf4, rf5, rf6, rf7, rf8, rlt⟩ := R8.out
                go_wp2_with fail
                refine bodyPost_ret (v := .tuple #[.agg #[.int .i64 0, .int .i64 0, .int .i64 0, .int .i64 0, .int .i64 0, .int .i64 0, .int .i64 0, .int .i64 0, .slice none 0 0], .int .i64 (cc : Int)]) (by simp [results, Tryd.results27, go_sem, r0, r1, r2, r3, r4, r5, r6, r7, r8]) rfl (rofP_err HR ?_)
                have hwz2 := hbb8.size
                repeat' (first | with_reducible apply Below.setCell | with_reducible apply Below.alloc | with_reducible apply Below.drew)
                all_goals first | exact hbb8 | (simp; done) | (simp; omega)
              subst hcc
              have hcp : ¬ (0 : Int) < ((0 : Nat) : Int) := by omega
              have HR : Hid (r = (⟨s.kind, (id0 : Int), v0, v1, v2, v3, (PW : Int), (PH : Int), ps⟩, 0)) := by unfold Hid; rw [HRC.out]; unfold finQ; rw [HCC.out, if_pos rfl]
              obtain ⟨r0, r1, r2, r3, r4, r5, r6, r7, r8, rf0, rf1, rf2, rf3, rf4, rf5, rf6, rf7, rf8, rlt⟩ := R8.out
              obtain ⟨k0, k1, k2, k3, k4, k5, k6, k7, k8, kf0, kf1, kf2, kf3, kf4, kf5, kf6, kf7, kf8, klt⟩ := N8.out
              go_wp2_with fail
              refine bodyPost_ret (v := .tuple #[.agg #[.int .i64 (s.kind : Int), .int .i64 (id0 : Int), .int .i64 v0, .int .i64 v1, .int .i64 v2, .int .i64 v3, .int .i64 (PW : Int), .int .i64 (PH : Int), (.slice a5 n5 c5)], .int .i64 0]) (by simp [results, Tryd.results27, go_sem, r0, r1, r2, r3, r4, r5, r6, r7, r8]) rfl (rofP_ok HR ?_ ?_)
              · exact own_mono (ownsRow_setCell_below (ownsRow_setCell_below (ownsRow_setCell_below (ownsRow_setCell_below (ownsRow_setCell_below (ownsRow_setCell_below (ownsRow_setCell_below (ownsRow_setCell_below (ownsRow_setCell_below (HO8.out) (a := ⟨w.heap.size, 0, none⟩) (show w.heap.size < Wf.heap.size by omega) _) (a := ⟨w.heap.size, 1, none⟩) (show w.heap.size < Wf.heap.size by omega) _) (a := ⟨w.heap.size, 2, none⟩) (show w.heap.size < Wf.heap.size by omega) _) (a := ⟨w.heap.size, 3, none⟩) (show w.heap.size < Wf.heap.size by omega) _) (a := ⟨w.heap.size, 4, none⟩) (show w.heap.size < Wf.heap.size by omega) _) (a := ⟨w.heap.size, 5, none⟩) (show w.heap.size < Wf.heap.size by omega) _) (a := ⟨w.heap.size, 6, none⟩) (show w.heap.size < Wf.heap.size by omega) _) (a := ⟨w.heap.size, 7, none⟩) (show w.heap.size < Wf.heap.size by omega) _) (a := ⟨w.heap.size, 8, none⟩) (show w.heap.size < Wf.heap.size by omega) _) (by omega)
              · have hwz2 := hbb8.size
                repeat' (first | with_reducible apply Below.setCell | with_reducible apply Below.alloc | with_reducible apply Below.drew)
                all_goals first | exact hbb8 | (simp; done) | (simp; omega)
      | false =>
        have HNV : Hid (N = 2 * nn) := by unfold Hid; rw [← HN.out]; unfold sizeS; rw [HNN.out, HFID.out]; rfl
        have h2n : IntKind.i64.wrap (2 * (nn : Int)) = 2 * (nn : Int) := by rw [IntKind.wrap_i64]; omega
        by_cases g1 : dt.size < N
        · have g1i : (dt.size : Int) < 2 * (nn : Int) := by have := HNV.out; omega
          have HR := HR4 (.inl g1)
          go_wp2_with fail
          obtain ⟨y0, y1, y2, y3, y4, y5, y6, y7, y8, -, -, -, -, -, -, -, -, -, -⟩ := (nine_all R0.out (.int .i64 0) (.int .i64 0) (.int .i64 0) (.int .i64 0) (.int .i64 0) (.int .i64 0) (.int .i64 0) (.int .i64 0) (.slice none 0 0)).alloc (.cells #[.int .i64 (s.kind : Int), .int .i64 0, .int .i64 0, .int .i64 0, .int .i64 0, .int .i64 0, .int .i64 0, .int .i64 0, .slice none 0 0] 45)
          refine bodyPost_ret (v := .tuple #[.agg #[.int .i64 0, .int .i64 0, .int .i64 0, .int .i64 0, .int .i64 0, .int .i64 0, .int .i64 0, .int .i64 0, .slice none 0 0], .int .i64 4]) (by simp [results, Tryd.results27, go_sem, y0, y1, y2, y3, y4, y5, y6, y7, y8]) rfl (rofP_err HR ?_)
          have hwz2 := hbz.size
          repeat' (first | with_reducible apply Below.setCell | with_reducible apply Below.alloc | with_reducible apply Below.drew)
          all_goals first | exact hbz | (simp; done) | (simp; omega)
        have g1i : ¬ (dt.size : Int) < 2 * (nn : Int) := by have := HNV.out; omega
        cases fpc with
        | false =>
          by_cases g2 : N < dt.size
          · have g2i : 2 * (nn : Int) < (dt.size : Int) := by have := HNV.out; omega
            have HR := HR4 (.inr ⟨g2, rfl⟩)
            go_wp2_with fail
            obtain ⟨y0, y1, y2, y3, y4, y5, y6, y7, y8, -, -, -, -, -, -, -, -, -, -⟩ := (nine_all R0.out (.int .i64 0) (.int .i64 0) (.int .i64 0) (.int .i64 0) (.int .i64 0) (.int .i64 0) (.int .i64 0) (.int .i64 0) (.slice none 0 0)).alloc (.cells #[.int .i64 (s.kind : Int), .int .i64 0, .int .i64 0, .int .i64 0, .int .i64 0, .int .i64 0, .int .i64 0, .int .i64 0, .slice none 0 0] 45)
            refine bodyPost_ret (v := .tuple #[.agg #[.int .i64 0, .int .i64 0, .int .i64 0, .int .i64 0, .int .i64 0, .int .i64 0, .int .i64 0, .int .i64 0, .slice none 0 0], .int .i64 4]) (by simp [results, Tryd.results27, go_sem, y0, y1, y2, y3, y4, y5, y6, y7, y8]) rfl (rofP_err HR ?_)
            have hwz2 := hbz.size
            repeat' (first | with_reducible apply Below.setCell | with_reducible apply Below.alloc | with_reducible apply Below.drew)
            all_goals first | exact hbz | (simp; done) | (simp; omega)
          have g2i : ¬ 2 * (nn : Int) < (dt.size : Int) := by have := HNV.out; omega
          go_wp2_with fail
          obtain ⟨bs, HBS⟩ : ∃ l, Hid (dt.data.toList.take N = l) := ⟨_, (rfl : _ = _)⟩
          have HEND : Hid ((2 * (nn : Int) : Int) = (N : Int)) := by unfold Hid; have := HNV.out; omega
          obtain ⟨W9, HW9⟩ : ∃ W, Hid (((wx.alloc (.cells #[.int .i64 (s.kind : Int), .int .i64 0, .int .i64 0, .int .i64 0, .int .i64 0, .int .i64 0, .int .i64 0, .int .i64 0, .slice none 0 0] 45)).alloc (.cells #[.int .i64 0, .int .i64 0, .int .i64 0, .int .i64 0] 3)) = W) := ⟨_, (rfl : _ = _)⟩
          have hb9 : Below w.heap.size w W9 := by rw [← HW9.out]; exact (hbz.alloc (by omega) _).alloc (by simp; omega) _
          have T9 := hid_of3 (show Nine W9 w.heap.size (.int .i64 0) (.int .i64 0) (.int .i64 0) (.int .i64 0) (.int .i64 0) (.int .i64 0) (.int .i64 0) (.int .i64 0) (.slice none 0 0) by rw [← HW9.out]; exact (R0.out.alloc _).alloc _)
          have NO9 := hid_of3 (show Nine W9 (w.heap.size + 1) (.int .i64 (s.kind : Int)) (.int .i64 0) (.int .i64 0) (.int .i64 0) (.int .i64 0) (.int .i64 0) (.int .i64 0) (.int .i64 0) (.slice none 0 0) by rw [← HW9.out]; exact (nine_start _ _ _ _ _ _ _ _ _ _ 45 (w.heap.size + 1) (by omega)).alloc _)
          have HS9 : Hid (W9.heap.size = w.heap.size + 1 + 1 + 1) := by unfold Hid; rw [← HW9.out]; simp; omega
          have SL9 : Slots W9 (w.heap.size + 1 + 1) (numK bs 0) := by
            have F : Four W9 (w.heap.size + 1 + 1) (.int .i64 0) (.int .i64 0) (.int .i64 0) (.int .i64 0) := by rw [← HW9.out]; exact four_start _ _ _ _ _ 3 (w.heap.size + 1 + 1) (by simp; omega)
            have e : ∀ j, numK bs 0 j = 0 := fun j => by unfold numK; rw [if_neg (by omega)]
            refine ⟨fun j hj => ?_, fun j hj => ?_⟩
            · rw [e]
              rcases (show j = 0 ∨ j = 1 ∨ j = 2 ∨ j = 3 by omega) with rfl | rfl | rfl | rfl
              · exact F.c0
              · exact F.c1
              · exact F.c2
              · exact F.c3
            · rcases (show j = 0 ∨ j = 1 ∨ j = 2 ∨ j = 3 by omega) with rfl | rfl | rfl | rfl
              · exact F.f0
              · exact F.f1
              · exact F.f2
              · exact F.f3
          have HSL0 := hid_of3 SL9
          rw [HW9.out, HEND.out]
          simp only [show decide ((dt.size : Int) < (N : Int)) = false from by simp; omega, show decide ((N : Int) < (dt.size : Int)) = false from by simp; omega, Bool.or_self]
          clear HW9 SL9 r0 r1 r2 r3 r4 r5 r6 r7 r8 rf0 rf1 rf2 rf3 rf4 rf5 rf6 rf7 rf8 rlt tg tlt tlt2 R0 HM0 hsz0 hbz 
          go_loopw [15] (fun i wr => ∃ k : Nat, k ≤ nn ∧ i = .int .i64 k ∧ Hid (Slots wr (w.heap.size + 1 + 1) (numK bs k)) ∧ Below (w.heap.size + 1 + 1) W9 wr) (fun i _ => nn - (intOf i).toNat)
          case atStart => exact ⟨0, by omega, rfl, HSL0, Below.refl _ _⟩
          case round =>
            obtain ⟨k, hk, rfl, HSL, hbr⟩ := hrel
            by_cases hlt : k < nn
            · have hki : (k : Int) < (nn : Int) := by omega
              have hki0 : (0 : Int) ≤ (k : Int) := by omega
              have hki4 : (k : Int) < 4 := by omega
              have hk4 : k < 4 := by omega
              obtain ⟨d0, HD0⟩ : ∃ d, Hid (bs.getD (2 * k) 0 = d) := ⟨_, (rfl : _ = _)⟩
              obtain ⟨d1, HD1⟩ : ∃ d, Hid (bs.getD (2 * k + 1) 0 = d) := ⟨_, (rfl : _ = _)⟩
              obtain ⟨m0, HM0⟩ : ∃ d, Hid (d0.toNat = d) := ⟨_, (rfl : _ = _)⟩
              obtain ⟨m1, HM1⟩ : ∃ d, Hid (d1.toNat = d) := ⟨_, (rfl : _ = _)⟩
              obtain ⟨e1, e2, hval⟩ := num_parts bs k hk4 m0 m1 (by rw [HD0.out]; exact HM0.out) (by rw [HD1.out]; exact HM1.out) (byte_le _ _ HM0) (byte_le _ _ HM1)
              have HST := hid_of3 (numK_step bs k ▸ HSL.out.set hk4 (numAt bs k))
              obtain ⟨M, HM⟩ : ∃ M, Hid (2 * k = M) := ⟨_, (rfl : _ = _)⟩
              obtain ⟨P, HP⟩ : ∃ M', Hid (M = M') := ⟨_, (rfl : _ = _)⟩
              obtain ⟨P1, HP1⟩ : ∃ M', Hid (P + 1 = M') := ⟨_, (rfl : _ = _)⟩
              obtain ⟨V, HV⟩ : ∃ M, Hid (numAt bs k = M) := ⟨_, (rfl : _ = _)⟩
              rw [HM.out] at e1
              clear e2
              have hM8 : M ≤ 6 := by have := HM.out; omega
              have eP : IntKind.i64.wrap ((M : Int)) = (P : Int) := by rw [IntKind.wrap_i64]; have := HP.out; omega
              have eQ : IntKind.i64.wrap ((P : Int) + 1) = (P1 : Int) := by rw [IntKind.wrap_i64]; have := HP.out; have := HP1.out; omega
              rw [HV.out] at hval HST
              have HVAL := hid_of3 hval
              clear hval
              have hx0 := nat_at dt P d0 (by unfold Hid; rw [← HD0.out, ← HBS.out, td0 _ _ _ (by have := HM.out; have := HNV.out; omega), ← HP.out, ← HM.out]) m0 HM0
              have hx1 := nat_at dt P1 d1 (by unfold Hid; rw [← HD1.out, ← HBS.out, td0 _ _ _ (by have := HM.out; have := HNV.out; omega), ← HP1.out, ← HP.out, ← HM.out]) m1 HM1
              have hM : P < dt.size := by have := HP.out; have := HM.out; have := HNV.out; omega
              have hM1 : P1 < dt.size := by have := HP1.out; have := HP.out; have := HM.out; have := HNV.out; omega
              have hMi : (P : Int) < (dt.size : Int) := by omega
              have hMi1 : (P1 : Int) < (dt.size : Int) := by omega
              have c0 := HSL.out.cell k hk4
              have f0 := HSL.out.free k hk4
              clear HD0 HD1 HM0 HM1
              go_wp2_with fail
              go_still_tail 21, (by kernel_rfl)
              go_wp2_with fail
              rw [HVAL.out]
              exact ⟨⟨k + 1, by omega, by simp, HST.out.drew, (hbr.setCell (Nat.le_refl _) _).drew⟩, by simp [intOf]; omega⟩
            · have hki : ¬ (k : Int) < (nn : Int) := by omega
              obtain rfl : nn = k := by omega
              obtain ⟨v0, HV0⟩ : ∃ v, Hid (numK bs nn 0 = v) := ⟨_, (rfl : _ = _)⟩
              obtain ⟨v1, HV1⟩ : ∃ v, Hid (numK bs nn 1 = v) := ⟨_, (rfl : _ = _)⟩
              obtain ⟨v2, HV2⟩ : ∃ v, Hid (numK bs nn 2 = v) := ⟨_, (rfl : _ = _)⟩
              obtain ⟨v3, HV3⟩ : ∃ v, Hid (numK bs nn 3 = v) := ⟨_, (rfl : _ = _)⟩
              have s0 := HSL.out.cell 0 (by omega)
              have s1 := HSL.out.cell 1 (by omega)
              have s2 := HSL.out.cell 2 (by omega)
              have s3 := HSL.out.cell 3 (by omega)
              rw [HV0.out] at s0
              rw [HV1.out] at s1
              rw [HV2.out] at s2
              rw [HV3.out] at s3
              obtain ⟨k0, k1, k2, k3, k4, k5, k6, k7, k8, kf0, kf1, kf2, kf3, kf4, kf5, kf6, kf7, kf8, klt⟩ := NO9.out.onB hbr (by omega)
              have R9 := hid_of3 (T9.out.onB hbr (by omega))
              have hbbr : Below w.heap.size w wr := hb9.trans (hbr.mono (by omega))
              have hwr3 : w.heap.size + 1 + 1 < wr.heap.size := by have := hbr.size; have := HS9.out; omega
              have HQ0 : Hid (readQ (s.kind : Int) s.id s.nums (dt.data.toList.take N) = ⟨s.kind, 0, v0, v1, v2, v3, 0, 0, []⟩) := by
                unfold Hid readQ
                rw [HFID.out, HNN.out, if_neg (by decide), if_neg (by decide), HBS.out, HV0.out, HV1.out, HV2.out, HV3.out]
              clear HSL HSL0 hbr hb9 NO9 T9 HS9
              have HRF : Hid (r = finQ ⟨s.kind, 0, v0, v1, v2, v3, 0, 0, []⟩) := by
                unfold Hid; rw [← HRR.out]; unfold parQ; rw [HOS.out]; simp only
                rw [HN.out, HFPC.out, if_neg (by rintro (h | ⟨h, _⟩); exact g1 h; exact g2 h), if_neg (by decide), HQ0.out]
              go_wp2_with fail
              obtain ⟨Wf, HWF⟩ : ∃ W, Hid (((((wr.setCell ⟨w.heap.size + 1, 2, none⟩ (.int .i64 v0)).setCell ⟨w.heap.size + 1, 3, none⟩ (.int .i64 v1)).setCell ⟨w.heap.size + 1, 4, none⟩ (.int .i64 v2)).setCell ⟨w.heap.size + 1, 5, none⟩ (.int .i64 v3)) = W) := ⟨_, (rfl : _ = _)⟩
              have NF := hid_of3 (show Nine Wf (w.heap.size + 1) (.int .i64 (s.kind : Int)) (.int .i64 0) (.int .i64 v0) (.int .i64 v1) (.int .i64 v2) (.int .i64 v3) (.int .i64 0) (.int .i64 0) (.slice none 0 0) by rw [← HWF.out]; exact nine_nums ⟨k0, k1, k2, k3, k4, k5, k6, k7, k8, kf0, kf1, kf2, kf3, kf4, kf5, kf6, kf7, kf8, klt⟩ _ _ _ _)
              have hbf : Below (w.heap.size + 1) wr Wf := by rw [← HWF.out]; exact ((((Below.refl _ _).setCell (show w.heap.size + 1 ≤ (⟨w.heap.size + 1, 2, none⟩ : Addr).block from Nat.le_refl _) _).setCell (show w.heap.size + 1 ≤ (⟨w.heap.size + 1, 3, none⟩ : Addr).block from Nat.le_refl _) _).setCell (show w.heap.size + 1 ≤ (⟨w.heap.size + 1, 4, none⟩ : Addr).block from Nat.le_refl _) _).setCell (show w.heap.size + 1 ≤ (⟨w.heap.size + 1, 5, none⟩ : Addr).block from Nat.le_refl _) _
              have RF := hid_of3 (R9.out.onB hbf (Nat.lt_succ_self _))
              have hbbf : Below w.heap.size w Wf := hbbr.trans (hbf.mono (Nat.le_succ _))
              have hwf3 : w.heap.size + 1 < Wf.heap.size := by have := hbf.size; omega
              rw [HWF.out]
              clear HWF hbf R9 k0 k1 k2 k3 k4 k5 k6 k7 k8 kf0 kf1 kf2 kf3 kf4 kf5 kf6 kf7 kf8 klt s0 s1 s2 s3
              have NQ := NF
              have RQ := RF
              have hbbq := hbbf
              obtain ⟨cc, HCC⟩ : ∃ c, Hid (opC ⟨s.kind, 0, v0, v1, v2, v3, 0, 0, []⟩ = c) := ⟨_, (rfl : _ = _)⟩
              have HRC : Hid (r = finQ ⟨s.kind, 0, v0, v1, v2, v3, 0, 0, []⟩) := HRF
              have hof := opf_any ⟨s.kind, 0, v0, v1, v2, v3, 0, 0, []⟩ (.slice none 0 0) Wf (by simp) (rdP_nil _)
              unfold OpfP at hof
              rw [rf_eq, HCC.out] at hof
              unfold opV at hof
              refine hof.mono ?_
              clear hof
              rintro e w8 ⟨rfl, hb8⟩
              have N8 := hid_of3 (NQ.out.on hb8)
              have R8 := hid_of3 (RQ.out.on hb8)
              have hbb8 := hbbq.trans (hb8.mono hbbq.size)
              clear hb8
              by_cases hcc : cc = 0
              case neg =>
                have HR : Hid (r = (q00, cc)) := by unfold Hid; rw [HRC.out]; unfold finQ; rw [HCC.out, if_neg hcc]
                have hcp : (0 : Int) < (cc : Int) := by omega
                obtain ⟨r0, r1, r2, r3, r4, r5, r6, r7, r8, rf0, rf1, rf2, rf3, rf4, rf5, rf6, rf7, rf8, rlt⟩ := R8.out
                go_wp2_with fail
                refine bodyPost_ret (v := .tuple #[.agg #[.int .i64 0, .int .i64 0, .int .i64 0, .int .i64 0, .int .i64 0, .int .i64 0, .int .i64 0, .int .i64 0, .slice none 0 0], .int .i64 (cc : Int)]) (by simp [results, Tryd.results27, go_sem, r0, r1, r2, r3, r4, r5, r6, r7, r8]) rfl (rofP_err HR ?_)
                have hwz2 := hbb8.size
                repeat' (first | with_reducible apply Below.setCell | with_reducible apply Below.alloc | with_reducible apply Below.drew)
                all_goals first | exact hbb8 | (simp; done) | (simp; omega)
              subst hcc
              have hcp : ¬ (0 : Int) < ((0 : Nat) : Int) := by omega
              have HR : Hid (r = (⟨s.kind, 0, v0, v1, v2, v3, 0, 0, []⟩, 0)) := by unfold Hid; rw [HRC.out]; unfold finQ; rw [HCC.out, if_pos rfl]
              obtain ⟨r0, r1, r2, r3, r4, r5, r6, r7, r8, rf0, rf1, rf2, rf3, rf4, rf5, rf6, rf7, rf8, rlt⟩ := R8.out
              obtain ⟨k0, k1, k2, k3, k4, k5, k6, k7, k8, kf0, kf1, kf2, kf3, kf4, kf5, kf6, kf7, kf8, klt⟩ := N8.out
              go_wp2_with fail
              refine bodyPost_ret (v := .tuple #[.agg #[.int .i64 (s.kind : Int), .int .i64 0, .int .i64 v0, .int .i64 v1, .int .i64 v2, .int .i64 v3, .int .i64 0, .int .i64 0, (.slice none 0 0)], .int .i64 0]) (by simp [results, Tryd.results27, go_sem, r0, r1, r2, r3, r4, r5, r6, r7, r8]) rfl (rofP_ok HR ?_ ?_)
              · exact World.ownsRow_nil _ _ _ _
              · have hwz2 := hbb8.size
                repeat' (first | with_reducible apply Below.setCell | with_reducible apply Below.alloc | with_reducible apply Below.drew)
                all_goals first | exact hbb8 | (simp; done) | (simp; omega)
        | true =>
          go_wp2_with fail
          obtain ⟨bs, HBS⟩ : ∃ l, Hid (dt.data.toList.take N = l) := ⟨_, (rfl : _ = _)⟩
          have HEND : Hid ((2 * (nn : Int) : Int) = (N : Int)) := by unfold Hid; have := HNV.out; omega
          obtain ⟨W9, HW9⟩ : ∃ W, Hid (((wx.alloc (.cells #[.int .i64 (s.kind : Int), .int .i64 0, .int .i64 0, .int .i64 0, .int .i64 0, .int .i64 0, .int .i64 0, .int .i64 0, .slice none 0 0] 45)).alloc (.cells #[.int .i64 0, .int .i64 0, .int .i64 0, .int .i64 0] 3)) = W) := ⟨_, (rfl : _ = _)⟩
          have hb9 : Below w.heap.size w W9 := by rw [← HW9.out]; exact (hbz.alloc (by omega) _).alloc (by simp; omega) _
          have T9 := hid_of3 (show Nine W9 w.heap.size (.int .i64 0) (.int .i64 0) (.int .i64 0) (.int .i64 0) (.int .i64 0) (.int .i64 0) (.int .i64 0) (.int .i64 0) (.slice none 0 0) by rw [← HW9.out]; exact (R0.out.alloc _).alloc _)
          have NO9 := hid_of3 (show Nine W9 (w.heap.size + 1) (.int .i64 (s.kind : Int)) (.int .i64 0) (.int .i64 0) (.int .i64 0) (.int .i64 0) (.int .i64 0) (.int .i64 0) (.int .i64 0) (.slice none 0 0) by rw [← HW9.out]; exact (nine_start _ _ _ _ _ _ _ _ _ _ 45 (w.heap.size + 1) (by omega)).alloc _)
          have HS9 : Hid (W9.heap.size = w.heap.size + 1 + 1 + 1) := by unfold Hid; rw [← HW9.out]; simp; omega
          have SL9 : Slots W9 (w.heap.size + 1 + 1) (numK bs 0) := by
            have F : Four W9 (w.heap.size + 1 + 1) (.int .i64 0) (.int .i64 0) (.int .i64 0) (.int .i64 0) := by rw [← HW9.out]; exact four_start _ _ _ _ _ 3 (w.heap.size + 1 + 1) (by simp; omega)
            have e : ∀ j, numK bs 0 j = 0 := fun j => by unfold numK; rw [if_neg (by omega)]
            refine ⟨fun j hj => ?_, fun j hj => ?_⟩
            · rw [e]
              rcases (show j = 0 ∨ j = 1 ∨ j = 2 ∨ j = 3 by omega) with rfl | rfl | rfl | rfl
              · exact F.c0
              · exact F.c1
              · exact F.c2
              · exact F.c3
            · rcases (show j = 0 ∨ j = 1 ∨ j = 2 ∨ j = 3 by omega) with rfl | rfl | rfl | rfl
              · exact F.f0
              · exact F.f1
              · exact F.f2
              · exact F.f3
          have HSL0 := hid_of3 SL9
          rw [HW9.out, HEND.out]
          simp only [show decide ((dt.size : Int) < (N : Int)) = false from by simp; omega]
          clear HW9 SL9 r0 r1 r2 r3 r4 r5 r6 r7 r8 rf0 rf1 rf2 rf3 rf4 rf5 rf6 rf7 rf8 rlt tg tlt tlt2 R0 HM0 hsz0 hbz 
          go_loopw [15] (fun i wr => ∃ k : Nat, k ≤ nn ∧ i = .int .i64 k ∧ Hid (Slots wr (w.heap.size + 1 + 1) (numK bs k)) ∧ Below (w.heap.size + 1 + 1) W9 wr) (fun i _ => nn - (intOf i).toNat)
          case atStart => exact ⟨0, by omega, rfl, HSL0, Below.refl _ _⟩
          case round =>
            obtain ⟨k, hk, rfl, HSL, hbr⟩ := hrel
            by_cases hlt : k < nn
            · have hki : (k : Int) < (nn : Int) := by omega
              have hki0 : (0 : Int) ≤ (k : Int) := by omega
              have hki4 : (k : Int) < 4 := by omega
              have hk4 : k < 4 := by omega
              obtain ⟨d0, HD0⟩ : ∃ d, Hid (bs.getD (2 * k) 0 = d) := ⟨_, (rfl : _ = _)⟩
              obtain ⟨d1, HD1⟩ : ∃ d, Hid (bs.getD (2 * k + 1) 0 = d) := ⟨_, (rfl : _ = _)⟩
              obtain ⟨m0, HM0⟩ : ∃ d, Hid (d0.toNat = d) := ⟨_, (rfl : _ = _)⟩
              obtain ⟨m1, HM1⟩ : ∃ d, Hid (d1.toNat = d) := ⟨_, (rfl : _ = _)⟩
              obtain ⟨e1, e2, hval⟩ := num_parts bs k hk4 m0 m1 (by rw [HD0.out]; exact HM0.out) (by rw [HD1.out]; exact HM1.out) (byte_le _ _ HM0) (byte_le _ _ HM1)
              have HST := hid_of3 (numK_step bs k ▸ HSL.out.set hk4 (numAt bs k))
              obtain ⟨M, HM⟩ : ∃ M, Hid (2 * k = M) := ⟨_, (rfl : _ = _)⟩
              obtain ⟨P, HP⟩ : ∃ M', Hid (M = M') := ⟨_, (rfl : _ = _)⟩
              obtain ⟨P1, HP1⟩ : ∃ M', Hid (P + 1 = M') := ⟨_, (rfl : _ = _)⟩
              obtain ⟨V, HV⟩ : ∃ M, Hid (numAt bs k = M) := ⟨_, (rfl : _ = _)⟩
              rw [HM.out] at e1
              clear e2
              have hM8 : M ≤ 6 := by have := HM.out; omega
              have eP : IntKind.i64.wrap ((M : Int)) = (P : Int) := by rw [IntKind.wrap_i64]; have := HP.out; omega
              have eQ : IntKind.i64.wrap ((P : Int) + 1) = (P1 : Int) := by rw [IntKind.wrap_i64]; have := HP.out; have := HP1.out; omega
              rw [HV.out] at hval HST
              have HVAL := hid_of3 hval
              clear hval
              have hx0 := nat_at dt P d0 (by unfold Hid; rw [← HD0.out, ← HBS.out, td0 _ _ _ (by have := HM.out; have := HNV.out; omega), ← HP.out, ← HM.out]) m0 HM0
              have hx1 := nat_at dt P1 d1 (by unfold Hid; rw [← HD1.out, ← HBS.out, td0 _ _ _ (by have := HM.out; have := HNV.out; omega), ← HP1.out, ← HP.out, ← HM.out]) m1 HM1
              have hM : P < dt.size := by have := HP.out; have := HM.out; have := HNV.out; omega
              have hM1 : P1 < dt.size := by have := HP1.out; have := HP.out; have := HM.out; have := HNV.out; omega
              have hMi : (P : Int) < (dt.size : Int) := by omega
              have hMi1 : (P1 : Int) < (dt.size : Int) := by omega
              have c0 := HSL.out.cell k hk4
              have f0 := HSL.out.free k hk4
              clear HD0 HD1 HM0 HM1
              go_wp2_with fail
              go_still_tail 21, (by kernel_rfl)
              go_wp2_with fail
              rw [HVAL.out]
              exact ⟨⟨k + 1, by omega, by simp, HST.out.drew, (hbr.setCell (Nat.le_refl _) _).drew⟩, by simp [intOf]; omega⟩
            · have hki : ¬ (k : Int) < (nn : Int) := by omega
              obtain rfl : nn = k := by omega
              obtain ⟨v0, HV0⟩ : ∃ v, Hid (numK bs nn 0 = v) := ⟨_, (rfl : _ = _)⟩
              obtain ⟨v1, HV1⟩ : ∃ v, Hid (numK bs nn 1 = v) := ⟨_, (rfl : _ = _)⟩
              obtain ⟨v2, HV2⟩ : ∃ v, Hid (numK bs nn 2 = v) := ⟨_, (rfl : _ = _)⟩
              obtain ⟨v3, HV3⟩ : ∃ v, Hid (numK bs nn 3 = v) := ⟨_, (rfl : _ = _)⟩
              have s0 := HSL.out.cell 0 (by omega)
              have s1 := HSL.out.cell 1 (by omega)
              have s2 := HSL.out.cell 2 (by omega)
              have s3 := HSL.out.cell 3 (by omega)
              rw [HV0.out] at s0
              rw [HV1.out] at s1
              rw [HV2.out] at s2
              rw [HV3.out] at s3
              obtain ⟨k0, k1, k2, k3, k4, k5, k6, k7, k8, kf0, kf1, kf2, kf3, kf4, kf5, kf6, kf7, kf8, klt⟩ := NO9.out.onB hbr (by omega)
              have R9 := hid_of3 (T9.out.onB hbr (by omega))
              have hbbr : Below w.heap.size w wr := hb9.trans (hbr.mono (by omega))
              have hwr3 : w.heap.size + 1 + 1 < wr.heap.size := by have := hbr.size; have := HS9.out; omega
              have HQ0 : Hid (readQ (s.kind : Int) s.id s.nums (dt.data.toList.take N) = ⟨s.kind, 0, v0, v1, v2, v3, 0, 0, []⟩) := by
                unfold Hid readQ
                rw [HFID.out, HNN.out, if_neg (by decide), if_neg (by decide), HBS.out, HV0.out, HV1.out, HV2.out, HV3.out]
              clear HSL HSL0 hbr hb9 NO9 T9 HS9
              obtain ⟨z, HZP⟩ : ∃ z, Hid (parseL (dt.data.toList.drop N) = z) := ⟨_, (rfl : _ = _)⟩
              obtain ⟨PW, PH, ps, pc⟩ := z
              have HDX := hid_of3 (Lib.extract_to_end dt N)
              have HZX : Hid (parseL (dt.extract N dt.size).data.toList = (PW, PH, ps, pc)) := by unfold Hid; rw [HDX.out]; exact HZP.out
              have HRF : Hid (r = if pc = 0 then finQ ⟨s.kind, 0, v0, v1, v2, v3, (PW : Int), (PH : Int), ps⟩ else (q00, pc)) := by
                unfold Hid; rw [← HRR.out]; unfold parQ; rw [HOS.out]; simp only
                rw [HN.out, HFPC.out, if_neg (by rintro (h | ⟨_, h⟩); exact g1 h; cases h), if_pos rfl, HQ0.out, HZP.out]
              have hpl : ps.length ≤ 1000000000 := Nat.le_trans (parse_lenP _ _ _ _ _ HZP.out) (by omega)
              go_wp2_with fail
              obtain ⟨Wf, HWF⟩ : ∃ W, Hid (((((wr.setCell ⟨w.heap.size + 1, 2, none⟩ (.int .i64 v0)).setCell ⟨w.heap.size + 1, 3, none⟩ (.int .i64 v1)).setCell ⟨w.heap.size + 1, 4, none⟩ (.int .i64 v2)).setCell ⟨w.heap.size + 1, 5, none⟩ (.int .i64 v3)) = W) := ⟨_, (rfl : _ = _)⟩
              have NF := hid_of3 (show Nine Wf (w.heap.size + 1) (.int .i64 (s.kind : Int)) (.int .i64 0) (.int .i64 v0) (.int .i64 v1) (.int .i64 v2) (.int .i64 v3) (.int .i64 0) (.int .i64 0) (.slice none 0 0) by rw [← HWF.out]; exact nine_nums ⟨k0, k1, k2, k3, k4, k5, k6, k7, k8, kf0, kf1, kf2, kf3, kf4, kf5, kf6, kf7, kf8, klt⟩ _ _ _ _)
              have hbf : Below (w.heap.size + 1) wr Wf := by rw [← HWF.out]; exact ((((Below.refl _ _).setCell (show w.heap.size + 1 ≤ (⟨w.heap.size + 1, 2, none⟩ : Addr).block from Nat.le_refl _) _).setCell (show w.heap.size + 1 ≤ (⟨w.heap.size + 1, 3, none⟩ : Addr).block from Nat.le_refl _) _).setCell (show w.heap.size + 1 ≤ (⟨w.heap.size + 1, 4, none⟩ : Addr).block from Nat.le_refl _) _).setCell (show w.heap.size + 1 ≤ (⟨w.heap.size + 1, 5, none⟩ : Addr).block from Nat.le_refl _) _
              have RF := hid_of3 (R9.out.onB hbf (Nat.lt_succ_self _))
              have hbbf : Below w.heap.size w Wf := hbbr.trans (hbf.mono (Nat.le_succ _))
              have hwf3 : w.heap.size + 1 < Wf.heap.size := by have := hbf.size; omega
              rw [HWF.out]
              clear HWF hbf R9 k0 k1 k2 k3 k4 k5 k6 k7 k8 kf0 kf1 kf2 kf3 kf4 kf5 kf6 kf7 kf8 klt s0 s1 s2 s3
              refine (refOf_own (dt.extract N dt.size) Wf (by rw [ByteArray.size_extract]; omega) PW PH pc ps HZX).mono ?_
              rintro e w5 ⟨v5, rfl, ho5, hb5⟩
              have HO5 := hid_of3 ho5
              have N5 := hid_of3 (NF.out.on hb5)
              have R5 := hid_of3 (RF.out.on hb5)
              have hbb5 := hbbf.trans (hb5.mono hbbf.size)
              have hw5 : w.heap.size + 1 < w5.heap.size := Nat.lt_of_lt_of_le hwf3 hb5.size
              obtain ⟨a5, c5, hv5⟩ := own_any ho5
              obtain ⟨n5, HL5⟩ : ∃ n, Hid (ps.length = n) := ⟨_, (rfl : _ = _)⟩
              rw [HL5.out] at hv5
              subst hv5
              clear ho5 hb5 NF RF hbbf
              by_cases hpc : pc = 0
              case neg =>
                have HR : Hid (r = (q00, pc)) := by unfold Hid; rw [HRF.out, if_neg hpc]
                have hcp : (0 : Int) < (pc : Int) := by omega
                obtain ⟨r0, r1, r2, r3, r4, r5, r6, r7, r8, rf0, rf1, rf2, rf3, rf4, rf5, rf6, rf7, rf8, rlt⟩ := R5.out
                go_wp2_with fail
                obtain ⟨y0, y1, y2, y3, y4, y5, y6, y7, y8, -, -, -, -, -, -, -, -, -, -⟩ := (nine_all R5.out (.int .i64 0) (.int .i64 0) (.int .i64 0) (.int .i64 0) (.int .i64 0) (.int .i64 0) (.int .i64 0) (.int .i64 0) (.slice none 0 0)).alloc (.cells #[.int .i64 (PW : Int), .int .i64 (PH : Int), .slice a5 n5 c5] 43)
                refine bodyPost_ret (v := .tuple #[.agg #[.int .i64 0, .int .i64 0, .int .i64 0, .int .i64 0, .int .i64 0, .int .i64 0, .int .i64 0, .int .i64 0, .slice none 0 0], .int .i64 (pc : Int)]) (by simp [results, Tryd.results27, go_sem, y0, y1, y2, y3, y4, y5, y6, y7, y8]) rfl (rofP_err HR ?_)
                have hwz2 := hbb5.size
                repeat' (first | with_reducible apply Below.setCell | with_reducible apply Below.alloc | with_reducible apply Below.drew)
                all_goals first | exact hbb5 | (simp; done) | (simp; omega)
              subst hpc
              have hcp0 : ¬ (0 : Int) < ((0 : Nat) : Int) := by omega
              have HRF2 : Hid (r = finQ ⟨s.kind, 0, v0, v1, v2, v3, (PW : Int), (PH : Int), ps⟩) := by unfold Hid; rw [HRF.out, if_pos rfl]
              obtain ⟨k0, k1, k2, k3, k4, k5, k6, k7, k8, kf0, kf1, kf2, kf3, kf4, kf5, kf6, kf7, kf8, klt⟩ := N5.out
              go_wp2_with fail
              obtain ⟨Wq, HWQ⟩ : ∃ W, Hid ((((w5.setCell ⟨w.heap.size + 1, 6, none⟩ (.int .i64 (PW : Int))).setCell ⟨w.heap.size + 1, 7, none⟩ (.int .i64 (PH : Int))).setCell ⟨w.heap.size + 1, 8, none⟩ (.slice a5 n5 c5)).alloc (.cells #[.int .i64 (PW : Int), .int .i64 (PH : Int), .slice a5 n5 c5] 43) = W) := ⟨_, (rfl : _ = _)⟩
              have hbq : Below (w.heap.size + 1) w5 Wq := by rw [← HWQ.out]; exact ((((Below.refl _ _).setCell (show w.heap.size + 1 ≤ (⟨w.heap.size + 1, 6, none⟩ : Addr).block from Nat.le_refl _) _).setCell (show w.heap.size + 1 ≤ (⟨w.heap.size + 1, 7, none⟩ : Addr).block from Nat.le_refl _) _).setCell (show w.heap.size + 1 ≤ (⟨w.heap.size + 1, 8, none⟩ : Addr).block from Nat.le_refl _) _).alloc (by simp; omega) _
              have NQ := hid_of3 (show Nine Wq (w.heap.size + 1) (.int .i64 (s.kind : Int)) (.int .i64 0) (.int .i64 v0) (.int .i64 v1) (.int .i64 v2) (.int .i64 v3) (.int .i64 (PW : Int)) (.int .i64 (PH : Int)) (.slice a5 n5 c5) by rw [← HWQ.out]; exact (nine_pic N5.out _ _ _).alloc _)
              have RQ := hid_of3 (R5.out.onB hbq (Nat.lt_succ_self _))
              have hbbq : Below w.heap.size w Wq := hbb5.trans (hbq.mono (Nat.le_succ _))
              have HOQ := hid_of3 (show Wq.ownsRow Wf.heap.size 110 2 (.slice a5 n5 c5) ps.length (pixCells ps) by rw [← HWQ.out]; exact own_al (ownsRow_setCell_below (ownsRow_setCell_below (ownsRow_setCell_below HO5.out (a := ⟨w.heap.size + 1, 6, none⟩) hwf3 _) (a := ⟨w.heap.size + 1, 7, none⟩) hwf3 _) (a := ⟨w.heap.size + 1, 8, none⟩) hwf3 _) _)
              rw [HWQ.out]
              clear HWQ hbq k0 k1 k2 k3 k4 k5 k6 k7 k8 kf0 kf1 kf2 kf3 kf4 kf5 kf6 kf7 kf8 klt N5 R5 HO5 hbb5 hw5
              obtain ⟨cc, HCC⟩ : ∃ c, Hid (opC ⟨s.kind, 0, v0, v1, v2, v3, (PW : Int), (PH : Int), ps⟩ = c) := ⟨_, (rfl : _ = _)⟩
              have HRC : Hid (r = finQ ⟨s.kind, 0, v0, v1, v2, v3, (PW : Int), (PH : Int), ps⟩) := HRF2
              have hof := opf_any ⟨s.kind, 0, v0, v1, v2, v3, (PW : Int), (PH : Int), ps⟩ (.slice a5 n5 c5) Wq hpl (rdP_own HOQ.out)
              unfold OpfP at hof
              rw [rf_eq, HCC.out] at hof
              unfold opV at hof
              refine hof.mono ?_
              clear hof
              rintro e w8 ⟨rfl, hb8⟩
              have N8 := hid_of3 (NQ.out.on hb8)
              have R8 := hid_of3 (RQ.out.on hb8)
              have hbb8 := hbbq.trans (hb8.mono hbbq.size)
              have HO8 := hid_of3 (own_on2 HOQ.out hb8)
              clear hb8
              by_cases hcc : cc = 0
              case neg =>
                have HR : Hid (r = (q00, cc)) := by unfold Hid; rw [HRC.out]; unfold finQ; rw [HCC.out, if_neg hcc]
                have hcp : (0 : Int) < (cc : Int) := by omega
                obtain ⟨r0, r1, r2, r3, r4, r5, r6, r7, r8, rf0, rf1, rf2, rf3, rf4, rf5, rf6, rf7, rf8, rlt⟩ := R8.out
                go_wp2_with fail
                refine bodyPost_ret (v := .tuple #[.agg #[.int .i64 0, .int .i64 0, .int .i64 0, .int .i64 0, .int .i64 0, .int .i64 0, .int .i64 0, .int .i64 0, .slice none 0 0], .int .i64 (cc : Int)]) (by simp [results, Tryd.results27, go_sem, r0, r1, r2, r3, r4, r5, r6, r7, r8]) rfl (rofP_err HR ?_)
                have hwz2 := hbb8.size
                repeat' (first | with_reducible apply Below.setCell | with_reducible apply Below.alloc | with_reducible apply Below.drew)
                all_goals first | exact hbb8 | (simp; done) | (simp; omega)
              subst hcc
              have hcp : ¬ (0 : Int) < ((0 : Nat) : Int) := by omega
              have HR : Hid (r = (⟨s.kind, 0, v0, v1, v2, v3, (PW : Int), (PH : Int), ps⟩, 0)) := by unfold Hid; rw [HRC.out]; unfold finQ; rw [HCC.out, if_pos rfl]
              obtain ⟨r0, r1, r2, r3, r4, r5, r6, r7, r8, rf0, rf1, rf2, rf3, rf4, rf5, rf6, rf7, rf8, rlt⟩ := R8.out
              obtain ⟨k0, k1, k2, k3, k4, k5, k6, k7, k8, kf0, kf1, kf2, kf3, kf4, kf5, kf6, kf7, kf8, klt⟩ := N8.out
              go_wp2_with fail
              refine bodyPost_ret (v := .tuple #[.agg #[.int .i64 (s.kind : Int), .int .i64 0, .int .i64 v0, .int .i64 v1, .int .i64 v2, .int .i64 v3, .int .i64 (PW : Int), .int .i64 (PH : Int), (.slice a5 n5 c5)], .int .i64 0]) (by simp [results, Tryd.results27, go_sem, r0, r1, r2, r3, r4, r5, r6, r7, r8]) rfl (rofP_ok HR ?_ ?_)
              · exact own_mono (ownsRow_setCell_below (ownsRow_setCell_below (ownsRow_setCell_below (ownsRow_setCell_below (ownsRow_setCell_below (ownsRow_setCell_below (ownsRow_setCell_below (ownsRow_setCell_below (ownsRow_setCell_below (HO8.out) (a := ⟨w.heap.size, 0, none⟩) (show w.heap.size < Wf.heap.size by omega) _) (a := ⟨w.heap.size, 1, none⟩) (show w.heap.size < Wf.heap.size by omega) _) (a := ⟨w.heap.size, 2, none⟩) (show w.heap.size < Wf.heap.size by omega) _) (a := ⟨w.heap.size, 3, none⟩) (show w.heap.size < Wf.heap.size by omega) _) (a := ⟨w.heap.size, 4, none⟩) (show w.heap.size < Wf.heap.size by omega) _) (a := ⟨w.heap.size, 5, none⟩) (show w.heap.size < Wf.heap.size by omega) _) (a := ⟨w.heap.size, 6, none⟩) (show w.heap.size < Wf.heap.size by omega) _) (a := ⟨w.heap.size, 7, none⟩) (show w.heap.size < Wf.heap.size by omega) _) (a := ⟨w.heap.size, 8, none⟩) (show w.heap.size < Wf.heap.size by omega) _) (by omega)
              · have hwz2 := hbb8.size
                repeat' (first | with_reducible apply Below.setCell | with_reducible apply Below.alloc | with_reducible apply Below.drew)
                all_goals first | exact hbb8 | (simp; done) | (simp; omega)
theorem refOpOf_any (nm dt : ByteArray) (w : World) (HM : Hid (RefNames w)) (hd : dt.size ≤ 1000000) :
    Calls Tryd.prog 27 #[.string nm, .string dt] w fun e w' => ROfP (parQ nm dt) w e w' := by
  refine (refOpOf_own nm dt w HM hd).mono ?_
  rintro e w' ⟨u, h1, h2, h3⟩
  exact ⟨u, h1, rdP_own h2, h3⟩
end Go.Proofs.YtceabiodelfdoaaDoor
