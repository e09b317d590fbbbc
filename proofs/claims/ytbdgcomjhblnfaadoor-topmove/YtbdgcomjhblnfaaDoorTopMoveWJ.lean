/- Walk of the law TopMove. -/
import Derived.Test.YtbdgcomjhblnfaaDoorTopStillWJ
namespace Go.Proofs.YtbdgcomjhblnfaaDoor
open Go.RowKit Go.Maps

set_option maxHeartbeats 8000000 in
set_option maxRecDepth 100000 in
theorem topMove_any (v : Value) (hd : List Pq) (id x y : Int) (w : World) (HS : Hid (Shapes w)) (h1 : 0 < w.heap.size) (HR : Hid (RdQ w v hd)) :
    Calls Tryd.prog 9 #[v, .int .i64 id, .int .i64 x, .int .i64 y] w fun e w' => e = .returned (.bool true) ∧ Below w.heap.size w w' := by
  obtain ⟨ha, hc, hv, _, _⟩ := HR.out.shape
  obtain ⟨hn, HN⟩ : ∃ n, Hid (hd.length = n) := ⟨_, (rfl : _ = _)⟩
  rw [HN.out] at hv
  subst hv
  go_enter Tryd.func9, Tryd.ntmps9
  go_wp2_with fail
  refine (works_any _ HS h1).mono ?_
  rintro e w1 ⟨rfl, hb1⟩
  have HS1 : Hid (Shapes w1) := HS.out.on h1 hb1
  have h11 := Nat.lt_of_lt_of_le h1 hb1.size
  have HR1 : Hid (RdQ w1 (.slice ha hn hc) hd) := HR.out.on hb1
  by_cases gq0 : (30 : Int) < (hn : Int)
  · go_wp2_with fail
    go_ret
    exact ⟨rfl, hb1⟩
  go_wp2_with fail
  refine (plain_any _ hd _ HR1 (by rw [HN.out]; omega)).mono ?_
  rintro e w2 ⟨bl, rfl, hpl, hb2⟩
  have hbb2 := hb1.trans (hb2.mono hb1.size)
  clear hb2 HS1 h11 HR1
  cases bl with
  | false =>
    go_wp2_with fail
    go_ret
    exact ⟨rfl, hbb2⟩
  | true =>
    have HPL := hid_of2 (hpl rfl)
    clear hpl
    by_cases gq0 : id < 1
    · go_wp2_with fail
      go_ret
      exact ⟨rfl, hbb2⟩
    by_cases gq1 : 6 < id
    · go_wp2_with fail
      go_ret
      exact ⟨rfl, hbb2⟩
    by_cases gq2 : x < -20
    · go_wp2_with fail
      go_ret
      exact ⟨rfl, hbb2⟩
    by_cases gq3 : 20 < x
    · go_wp2_with fail
      go_ret
      exact ⟨rfl, hbb2⟩
    by_cases gq4 : y < -20
    · go_wp2_with fail
      go_ret
      exact ⟨rfl, hbb2⟩
    by_cases gq5 : 20 < y
    · go_wp2_with fail
      go_ret
      exact ⟨rfl, hbb2⟩
    have hl30 : hd.length ≤ 30 := by rw [HN.out]; omega
    have hbx2 := hbb2.alloc hbb2.size (.cells (qrCells (litQ [hdQ 4 3])).toArray 37)
    obtain ⟨v4, w4, hr4, A4⟩ := sh_app_rd (sh_lit hbb2 [hdQ 4 3] (by simp) (by simp)) hbx2 HR.out (by simp; omega)
    obtain ⟨v5, w5, hr5, A5⟩ := sh_app_lit A4.row A4.bel [mvQ id 0 0, shQ id 1, wtQ 0, mvQ id x y, wtQ 0, shQ id 0, mvQ id 0 0, shQ id 1, wtQ 0, enQ] (by intro q hq; simp at hq; rcases hq with rfl | rfl | rfl | rfl | rfl | rfl | rfl | rfl | rfl | rfl <;> rfl) (by simp; omega)
    have HR4 := hid_of2 hr4
    have HR5 := hid_of2 hr5
    obtain ⟨QS, HQS⟩ : ∃ QS, Hid ([hdQ 4 3] ++ hd ++ [mvQ id 0 0, shQ id 1, wtQ 0, mvQ id x y, wtQ 0, shQ id 0, mvQ id 0 0, shQ id 1, wtQ 0, enQ] = QS) := ⟨_, (rfl : _ = _)⟩
    rw [HQS.out] at A5
    have hbb5 := A5.bel
    have HQ5 : Hid (RdQ w5 v5 QS) := A5.row.rd A5.bel
    have HS5 : Hid (Shapes w5) := HS.out.on h1 hbb5
    have h15 := Nat.lt_of_lt_of_le h1 hbb5.size
    clear A4 A5 hr4 hr5 hbx2 hbb2
    go_wp2_with (at_builtin; first | (refine Lib.wpList_append_run _ rfl _ _ _ _ rfl _ _ rfl rfl _ _ HR4.out ?_) | (refine Lib.wpList_append_run _ rfl _ _ _ _ rfl _ _ rfl rfl _ _ HR5.out ?_))
    refine (may_any _ QS _ HS5 h15 HQ5).mono ?_
    rintro e w6 ⟨bm6, rfl, hm6, hb6⟩
    have hbb6 := hbb5.trans (hb6.mono hbb5.size)
    have HQ6 : Hid (RdQ w6 v5 QS) := HQ5.out.on hb6
    have HS6 : Hid (Shapes w6) := HS.out.on h1 hbb6
    have h16 := Nat.lt_of_lt_of_le h1 hbb6.size
    clear hb6 HQ5 HS5 h15 HR4 HR5 hbb5
    cases bm6 with
    | false =>
      go_wp2_with fail
      go_ret
      exact ⟨rfl, hbb6⟩
    | true =>
      have HMY := hid_of2 (hm6 rfl)
      clear hm6
      go_wp2_with fail
      refine (mplay_any _ QS 400 _ HS6 h16 HQ6 HMY.out.ps HMY.out.len (by omega)).mono ?_
      intro e w7 hp7
      obtain ⟨hb7, fa7, fn7, fk7, c7, fs7, rfl, hr7, ho7⟩ := play_out hp7
      have hbb7 := hbb6.trans (hb7.mono hbb6.size)
      have HPO7 := hid_of2 ho7
      have HF7 := hid_of2 hr7
      clear hp7 ho7 hr7 hb7 HQ6 HS6 h16 hbb6
      cases c7 with
      | succ c =>
        have hfn : fn7 = 0 := by
          rcases HPO7.out with ⟨h, _⟩ | ⟨_, _, h⟩
          · omega
          · obtain ⟨_, _, hv, _⟩ := HF7.out.shape
            simp only [Value.slice.injEq] at hv
            rw [hv.2.1, h]; rfl
        subst hfn
        rw [show errV (c + 1) = .iface 61 (.int .i64 ((c + 1 : Nat) : Int)) from rfl]
        go_wp2_with fail
        go_ret
        exact ⟨rfl, hbb7⟩
      | zero =>
        rcases HPO7.out with ⟨_, hpl⟩ | ⟨h, _⟩
        case inr => omega
        obtain ⟨g1, g2⟩ := HPO7.out.good
        obtain ⟨pre, f, z, k, e1, e4, e5, e6⟩ : ∃ pre f z k, fs7 = pre ++ [f, z, k] ∧ k.W = f.W ∧ k.H = f.H ∧ k.ps = f.ps := by
          have hst := play_straight QS (hdQ 4 3 :: hd ++ moveQs id x y) enQ (by rw [← HQS.out]; simp [moveQs]) rfl (by
            intro q hq
            rcases List.mem_append.1 hq with hq | hq
            · exact plain_all HPL.out 4 3 q hq
            · simp [moveQs] at hq; rcases hq with rfl | rfl | rfl | rfl | rfl | rfl | rfl | rfl | rfl <;> exact ⟨by simp, by simp, by simp⟩) 400 (by simp [moveQs]; omega)
          rw [playR_ok HMY.out.ok, show (min (400 : Int) 400).toNat = 400 from rfl, hst] at hpl
          have hA0 : QS.getD 0 pq0 = hdQ 4 3 := by rw [← HQS.out]; rfl
          rw [hA0] at hpl
          cases hru : runD (hdQ 4 3) (hdQ 4 3 :: hd ++ moveQs id x y) dt0 with
          | inr c => rw [hru] at hpl; cases hpl
          | inl d =>
            rw [hru] at hpl
            obtain ⟨pre, f, z, k, e1, e2⟩ := told_move (hdQ 4 3) (hdQ 4 3 :: hd) id x y (fun q hq => by
              have hbk := book_of HMY.out.ok
              obtain ⟨j, hj, e⟩ := List.mem_iff_getElem.1 hq
              have hjl : j < QS.length := by rw [← HQS.out]; simp at hj ⊢; omega
              have := hbk.ok j hjl
              have e3 : QS.getD j pq0 = q := by
                rw [← HQS.out, List.getD_eq_getElem?_getD, show [hdQ 4 3] ++ hd ++ [mvQ id 0 0, shQ id 1, wtQ 0, mvQ id x y, wtQ 0, shQ id 0, mvQ id 0 0, shQ id 1, wtQ 0, enQ] = (hdQ 4 3 :: hd) ++ [mvQ id 0 0, shQ id 1, wtQ 0, mvQ id x y, wtQ 0, shQ id 0, mvQ id 0 0, shQ id 1, wtQ 0, enQ] from rfl, List.getElem?_append_left hj, List.getElem?_eq_getElem hj]
                exact e
              rw [e3] at this
              exact this) d hru
            exact ⟨pre, f, z, k, by rw [← Sum.inl.inj hpl]; exact e1, e2⟩
        obtain ⟨fW, fH, ps, da⟩ := f
        obtain ⟨kW, kH, kps, db⟩ := k
        simp only at e4 e5 e6
        replace e4 := e4.symm
        replace e5 := e5.symm
        replace e6 := e6.symm
        subst e4 e5 e6
        obtain ⟨_, _, hv, _⟩ := HF7.out.shape
        simp only [Value.slice.injEq] at hv
        have hfl : fn7 = pre.length + 3 := by rw [hv.2.1, e1]; simp
        obtain ⟨j, HJ⟩ : ∃ j, Hid (pre.length = j) := ⟨_, (rfl : _ = _)⟩
        rw [HJ.out] at hfl
        have hj40 : fn7 ≤ 40 := by rw [hv.2.1]; exact g1
        have HX1 : Hid (fs7.getD j pf0 = ⟨fW, fH, ps, da⟩) := by unfold Hid; rw [e1, ← HJ.out]; simp [List.getD_eq_getElem?_getD]
        have HX2 : Hid (fs7.getD (j + 2) pf0 = ⟨fW, fH, ps, db⟩) := by unfold Hid; rw [e1, ← HJ.out]; simp [List.getD_eq_getElem?_getD]
        have hps : ps.length ≤ 1000 := by
          have := frs_px g2 ⟨fW, fH, ps, da⟩ (by rw [e1]; simp)
          exact this
        obtain ⟨g, o, ua, m, uc, rfl, hg, p0_, p1_, p2_, p3_, HU1, HM1⟩ := HF7.out.at (k := j) (by omega) HX1
        obtain ⟨g', o', va, m', vc, hgo, _, q0_, q1_, q2_, q3_, HU2, HM2⟩ := HF7.out.at (k := j + 2) (by omega) HX2
        simp only [Option.some.injEq, Addr.mk.injEq, and_true] at hgo
        obtain ⟨rfl, rfl⟩ := hgo
        have hmm : m = m' := by rw [← HM2.out, ← HM1.out]
        subst hmm
        simp only at p0_ p1_ p2_ p3_ q0_ q1_ q2_ q3_ HU1 HU2
        obtain ⟨j2, HJ2⟩ : ∃ j2, Hid (j + 2 = j2) := ⟨_, (rfl : _ = _)⟩
        rw [HJ2.out] at q0_ q1_ q2_ q3_
        have hw3 : IntKind.i64.wrap ((fn7 : Int) - 3) = (j : Int) := by rw [wrap_s (by omega) (by omega)]; omega
        have hw1 : IntKind.i64.wrap ((fn7 : Int) - 1) = (j2 : Int) := by rw [wrap_s (by omega) (by omega)]; have := HJ2.out; omega
        have hge : (3 : Int) ≤ (fn7 : Int) := by omega
        have hj0 : (0 : Int) ≤ (j : Int) := by omega
        have hj1 : (j : Int) < (fn7 : Int) := by omega
        have hj2 : (0 : Int) ≤ (j2 : Int) := by omega
        have hj3 : (j2 : Int) < (fn7 : Int) := by have := HJ2.out; omega
        clear hpl e1 hfl hv HF7 HPO7 HX1 HX2 HM1 HM2 g1 g2
        rw [show errV 0 = Value.nilIface from rfl]
        go_wp2_with fail
        have KEEP : Hid (∀ w', Below w7.heap.size w7 w' → w'.cell? ⟨g, o + j * 4, none⟩ = some (.int .i64 fW) ∧ w'.cell? ⟨g, o + j * 4 + 1, none⟩ = some (.int .i64 fH) ∧ w'.cell? ⟨g, o + j * 4 + 2, none⟩ = some (.slice ua m uc) ∧ w'.cell? ⟨g, o + j2 * 4, none⟩ = some (.int .i64 fW) ∧ w'.cell? ⟨g, o + j2 * 4 + 1, none⟩ = some (.int .i64 fH) ∧ w'.cell? ⟨g, o + j2 * 4 + 2, none⟩ = some (.slice va m vc)) := by
          intro w' h
          refine ⟨?_, ?_, ?_, ?_, ?_, ?_⟩
          · rw [h.cell (p := ⟨g, o + j * 4, none⟩) hg]; exact p0_
          · rw [h.cell (p := ⟨g, o + j * 4 + 1, none⟩) hg]; exact p1_
          · rw [h.cell (p := ⟨g, o + j * 4 + 2, none⟩) hg]; exact p2_
          · rw [h.cell (p := ⟨g, o + j2 * 4, none⟩) hg]; exact q0_
          · rw [h.cell (p := ⟨g, o + j2 * 4 + 1, none⟩) hg]; exact q1_
          · rw [h.cell (p := ⟨g, o + j2 * 4 + 2, none⟩) hg]; exact q2_
        refine wp_region_held_drew (S := (fun w' => w'.cell? ⟨g, o + j * 4, none⟩ = some (.int .i64 fW) ∧ w'.cell? ⟨g, o + j * 4 + 1, none⟩ = some (.int .i64 fH) ∧ w'.cell? ⟨g, o + j * 4 + 2, none⟩ = some (.slice ua m uc) ∧ w'.cell? ⟨g, o + j2 * 4, none⟩ = some (.int .i64 fW) ∧ w'.cell? ⟨g, o + j2 * 4 + 1, none⟩ = some (.int .i64 fH) ∧ w'.cell? ⟨g, o + j2 * 4 + 2, none⟩ = some (.slice va m vc))) (by kernel_rfl) ?_ (fun hHeld => ?_)
        · exact KEEP.out _ (Below.refl _ _).drew
        refine wpAnyH_take (i := 0) (oi := ({ dst := some 89, op := Op.move (Operand.tmp 13), type := 3, pos := "top.go:265", after := #[], guard := none } : Oper)) (v := ?_) rfl (by kernel_rfl) (by kernel_rfl) (by kernel_rfl) (fun _ _ _ h => h) (Or.inl ⟨by rfl, ?_⟩) (by assumption) ?_
        rotate_left
        · (intro w hSw; (try dsimp only at hSw); go_simp; try with_reducible rfl)
        try simp only [Act.put, List.setIfInBounds_toArray, List.set_cons_zero, List.set_cons_succ]
        refine wpAnyH_take (i := 1) (oi := ({ dst := some 90, op := Op.binOp BinOp.geq 3 (Operand.tmp 89) (Operand.const (Value.int IntKind.i64 3)) 3, type := 4, pos := "top.go:265", after := #[{ on := 0, ground := Ground.data }], guard := none } : Oper)) (v := ?_) rfl (by kernel_rfl) (by kernel_rfl) (by kernel_rfl) (fun _ _ _ h => h) (Or.inl ⟨by rfl, ?_⟩) (by assumption) ?_
        rotate_left
        · (intro w hSw; (try dsimp only at hSw); go_simp; try with_reducible rfl)
        try simp only [Act.put, List.setIfInBounds_toArray, List.set_cons_zero, List.set_cons_succ]
        refine wpAnyH_take (i := 2) (oi := ({ dst := some 91, op := Op.move (Operand.tmp 90), type := 4, pos := "top.go:265", after := #[{ on := 1, ground := Ground.data }], guard := none } : Oper)) (v := ?_) rfl (by kernel_rfl) (by kernel_rfl) (by kernel_rfl) (fun _ _ _ h => h) (Or.inl ⟨by rfl, ?_⟩) (by assumption) ?_
        rotate_left
        · (intro w hSw; (try dsimp only at hSw); go_simp; try with_reducible rfl)
        try simp only [Act.put, List.setIfInBounds_toArray, List.set_cons_zero, List.set_cons_succ]
        refine wpAnyH_take (i := 3) (oi := ({ dst := some 92, op := Op.move (Operand.tmp 11), type := 25, pos := "top.go:265", after := #[{ on := 2, ground := Ground.guard }], guard := some (2, true) } : Oper)) (v := ?_) rfl (by kernel_rfl) (by kernel_rfl) (by kernel_rfl) (fun _ _ _ h => h) (Or.inl ⟨by rfl, ?_⟩) (by assumption) ?_
        rotate_left
        · (intro w hSw; (try dsimp only at hSw); go_simp; try with_reducible rfl)
        try simp only [Act.put, List.setIfInBounds_toArray, List.set_cons_zero, List.set_cons_succ]
        refine wpAnyH_take (i := 4) (oi := ({ dst := some 93, op := Op.move (Operand.tmp 13), type := 3, pos := "top.go:265", after := #[{ on := 2, ground := Ground.guard }], guard := some (2, true) } : Oper)) (v := ?_) rfl (by kernel_rfl) (by kernel_rfl) (by kernel_rfl) (fun _ _ _ h => h) (Or.inl ⟨by rfl, ?_⟩) (by assumption) ?_
        rotate_left
        · (intro w hSw; (try dsimp only at hSw); go_simp; try with_reducible rfl)
        try simp only [Act.put, List.setIfInBounds_toArray, List.set_cons_zero, List.set_cons_succ]
        refine wpAnyH_take (i := 5) (oi := ({ dst := some 94, op := Op.binOp BinOp.sub 3 (Operand.tmp 93) (Operand.const (Value.int IntKind.i64 1)) 3, type := 3, pos := "top.go:265", after := #[{ on := 4, ground := Ground.data }, { on := 2, ground := Ground.guard }], guard := some (2, true) } : Oper)) (v := ?_) rfl (by kernel_rfl) (by kernel_rfl) (by kernel_rfl) (fun _ _ _ h => h) (Or.inl ⟨by rfl, ?_⟩) (by assumption) ?_
        rotate_left
        · (intro w hSw; (try dsimp only at hSw); go_simp; try with_reducible rfl)
        try simp only [Act.put, List.setIfInBounds_toArray, List.set_cons_zero, List.set_cons_succ]
        refine wpAnyH_take (i := 6) (oi := ({ dst := some 95, op := Op.indexAddr 25 (Operand.tmp 92) (Operand.tmp 94), type := 0, pos := "top.go:265", after := #[{ on := 3, ground := Ground.data }, { on := 5, ground := Ground.data }, { on := 2, ground := Ground.guard }], guard := some (2, true) } : Oper)) (v := ?_) rfl (by kernel_rfl) (by kernel_rfl) (by kernel_rfl) (fun _ _ _ h => h) (Or.inl ⟨by rfl, ?_⟩) (by assumption) ?_
        rotate_left
        · (intro w hSw; (try dsimp only at hSw); go_simp; try with_reducible rfl)
        try simp only [Act.put, List.setIfInBounds_toArray, List.set_cons_zero, List.set_cons_succ]
        refine wpAnyH_take (i := 7) (oi := ({ dst := some 96, op := Op.fieldAddr 50 (Operand.tmp 95) 0, type := 0, pos := "top.go:265", after := #[{ on := 6, ground := Ground.data }, { on := 2, ground := Ground.guard }], guard := some (2, true) } : Oper)) (v := ?_) rfl (by kernel_rfl) (by kernel_rfl) (by kernel_rfl) (fun _ _ _ h => h) (Or.inl ⟨by rfl, ?_⟩) (by assumption) ?_
        rotate_left
        · (intro w hSw; (try dsimp only at hSw); go_simp; try with_reducible rfl)
        try simp only [Act.put, List.setIfInBounds_toArray, List.set_cons_zero, List.set_cons_succ]
        refine wpAnyH_take (i := 8) (oi := ({ dst := some 97, op := Op.load 35 (Operand.tmp 96), type := 35, pos := "top.go:265", after := #[{ on := 7, ground := Ground.data }, { on := 2, ground := Ground.guard }], guard := some (2, true) } : Oper)) (v := ?_) rfl (by kernel_rfl) (by kernel_rfl) (by kernel_rfl) (fun _ _ _ h => h) (Or.inl ⟨by rfl, ?_⟩) (by assumption) ?_
        rotate_left
        · (intro w hSw; (try dsimp only at hSw); go_simp; try with_reducible rfl)
        try simp only [Act.put, List.setIfInBounds_toArray, List.set_cons_zero, List.set_cons_succ]
        refine wpAnyH_take (i := 9) (oi := ({ dst := some 98, op := Op.move (Operand.tmp 11), type := 25, pos := "top.go:265", after := #[{ on := 2, ground := Ground.guard }], guard := some (2, true) } : Oper)) (v := ?_) rfl (by kernel_rfl) (by kernel_rfl) (by kernel_rfl) (fun _ _ _ h => h) (Or.inl ⟨by rfl, ?_⟩) (by assumption) ?_
        rotate_left
        · (intro w hSw; (try dsimp only at hSw); go_simp; try with_reducible rfl)
        try simp only [Act.put, List.setIfInBounds_toArray, List.set_cons_zero, List.set_cons_succ]
        refine wpAnyH_take (i := 10) (oi := ({ dst := some 99, op := Op.move (Operand.tmp 13), type := 3, pos := "top.go:265", after := #[{ on := 2, ground := Ground.guard }], guard := some (2, true) } : Oper)) (v := ?_) rfl (by kernel_rfl) (by kernel_rfl) (by kernel_rfl) (fun _ _ _ h => h) (Or.inl ⟨by rfl, ?_⟩) (by assumption) ?_
        rotate_left
        · (intro w hSw; (try dsimp only at hSw); go_simp; try with_reducible rfl)
        try simp only [Act.put, List.setIfInBounds_toArray, List.set_cons_zero, List.set_cons_succ]
        refine wpAnyH_take (i := 11) (oi := ({ dst := some 100, op := Op.binOp BinOp.sub 3 (Operand.tmp 99) (Operand.const (Value.int IntKind.i64 3)) 3, type := 3, pos := "top.go:265", after := #[{ on := 10, ground := Ground.data }, { on := 2, ground := Ground.guard }], guard := some (2, true) } : Oper)) (v := ?_) rfl (by kernel_rfl) (by kernel_rfl) (by kernel_rfl) (fun _ _ _ h => h) (Or.inl ⟨by rfl, ?_⟩) (by assumption) ?_
        rotate_left
        · (intro w hSw; (try dsimp only at hSw); go_simp; try with_reducible rfl)
        try simp only [Act.put, List.setIfInBounds_toArray, List.set_cons_zero, List.set_cons_succ]
        refine wpAnyH_take (i := 12) (oi := ({ dst := some 101, op := Op.indexAddr 25 (Operand.tmp 98) (Operand.tmp 100), type := 0, pos := "top.go:265", after := #[{ on := 9, ground := Ground.data }, { on := 11, ground := Ground.data }, { on := 2, ground := Ground.guard }], guard := some (2, true) } : Oper)) (v := ?_) rfl (by kernel_rfl) (by kernel_rfl) (by kernel_rfl) (fun _ _ _ h => h) (Or.inl ⟨by rfl, ?_⟩) (by assumption) ?_
        rotate_left
        · (intro w hSw; (try dsimp only at hSw); go_simp; try with_reducible rfl)
        try simp only [Act.put, List.setIfInBounds_toArray, List.set_cons_zero, List.set_cons_succ]
        refine wpAnyH_take (i := 13) (oi := ({ dst := some 102, op := Op.fieldAddr 50 (Operand.tmp 101) 0, type := 0, pos := "top.go:265", after := #[{ on := 12, ground := Ground.data }, { on := 2, ground := Ground.guard }], guard := some (2, true) } : Oper)) (v := ?_) rfl (by kernel_rfl) (by kernel_rfl) (by kernel_rfl) (fun _ _ _ h => h) (Or.inl ⟨by rfl, ?_⟩) (by assumption) ?_
        rotate_left
        · (intro w hSw; (try dsimp only at hSw); go_simp; try with_reducible rfl)
        try simp only [Act.put, List.setIfInBounds_toArray, List.set_cons_zero, List.set_cons_succ]
        refine wpAnyH_take (i := 14) (oi := ({ dst := some 103, op := Op.load 35 (Operand.tmp 102), type := 35, pos := "top.go:265", after := #[{ on := 13, ground := Ground.data }, { on := 2, ground := Ground.guard }], guard := some (2, true) } : Oper)) (v := ?_) rfl (by kernel_rfl) (by kernel_rfl) (by kernel_rfl) (fun _ _ _ h => h) (Or.inl ⟨by rfl, ?_⟩) (by assumption) ?_
        rotate_left
        · (intro w hSw; (try dsimp only at hSw); go_simp; try with_reducible rfl)
        try simp only [Act.put, List.setIfInBounds_toArray, List.set_cons_zero, List.set_cons_succ]
        refine wpAnyH_ready (rs := [15]) (by kernel_rfl) (by simp) ?_
        refine AllReadyH.cons (o := ({ dst := some 104, op := Op.call { callee := Callee.value (Operand.func 26), args := #[Operand.tmp 97, Operand.tmp 103], argTypes := #[35, 35] }, type := 4, pos := "top.go:265", after := #[{ on := 8, ground := Ground.data }, { on := 14, ground := Ground.data }, { on := 2, ground := Ground.chain }, { on := 2, ground := Ground.guard }], guard := some (2, true) } : Oper)) rfl (fun K_ hK => ?_) AllReadyH.nil
        go_simp
        refine (samePic_any fW fH _ _ ps _ hps (HU2.out.on (Below.refl _ _).drew) (HU1.out.on (Below.refl _ _).drew)).mono ?_
        rintro e w9 ⟨rfl, hb9⟩
        have HB9 : Hid (Below w7.heap.size w7 w9) := ⟨hb9.os, hb9.tape, hb9.output, hb9.size, hb9.block⟩
        clear hb9
        refine hK.out _ _ ?_ (fun hHeld => ?_)
        · exact KEEP.out _ HB9.out
        clear hK K_
        try simp only [Act.put, List.setIfInBounds_toArray, List.set_cons_zero, List.set_cons_succ]
        refine wpAnyH_take (i := 16) (oi := ({ dst := some 105, op := Op.pick (Operand.tmp 91) (Operand.tmp 104) (Operand.const (Value.bool false)), type := 4, pos := "top.go:265", after := #[{ on := 2, ground := Ground.data }, { on := 15, ground := Ground.data }], guard := none } : Oper)) (v := ?_) rfl (by kernel_rfl) (by kernel_rfl) (by kernel_rfl) (fun _ _ _ h => h) (Or.inl ⟨by rfl, ?_⟩) (by assumption) ?_
        rotate_left
        · (intro w hSw; (try dsimp only at hSw); go_simp; try with_reducible rfl)
        try simp only [Act.put, List.setIfInBounds_toArray, List.set_cons_zero, List.set_cons_succ]
        refine wpAnyH_take (i := 17) (oi := ({ dst := some 8, op := Op.assign (Operand.tmp 105), type := 4, pos := "top.go:265", after := #[{ on := 16, ground := Ground.data }, { on := 15, ground := Ground.chain }, { on := 0, ground := Ground.phase }, { on := 1, ground := Ground.phase }, { on := 2, ground := Ground.phase }, { on := 3, ground := Ground.phase }, { on := 4, ground := Ground.phase }, { on := 5, ground := Ground.phase }, { on := 6, ground := Ground.phase }, { on := 7, ground := Ground.phase }, { on := 8, ground := Ground.phase }, { on := 9, ground := Ground.phase }, { on := 10, ground := Ground.phase }, { on := 11, ground := Ground.phase }, { on := 12, ground := Ground.phase }, { on := 13, ground := Ground.phase }, { on := 14, ground := Ground.phase }, { on := 15, ground := Ground.phase }, { on := 16, ground := Ground.phase }], guard := none } : Oper)) (v := ?_) rfl (by kernel_rfl) (by kernel_rfl) (by kernel_rfl) (fun _ _ _ h => h) (Or.inl ⟨by rfl, ?_⟩) (by assumption) ?_
        rotate_left
        · (intro w hSw; (try dsimp only at hSw); go_simp; try with_reducible rfl)
        try simp only [Act.put, List.setIfInBounds_toArray, List.set_cons_zero, List.set_cons_succ]
        refine wpAnyH_done (by kernel_rfl) ?_ _
        go_wp2_with fail
        go_ret
        exact ⟨rfl, hbb7.trans (HB9.out.mono hbb7.size)⟩
end Go.Proofs.YtbdgcomjhblnfaaDoor
