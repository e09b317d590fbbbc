/- Walk of the law TopStill. -/
import Derived.Test.YtbdgcomjhblnfaaDoorTopNestWJ
namespace Go.Proofs.YtbdgcomjhblnfaaDoor
open Go.RowKit Go.Maps

theorem litB {w : World} {B : Nat} (hb : B ≤ w.heap.size) {w0 : World} (h : Below B w0 w) (l : List Pq) : Below B w0 (w.alloc (.cells (qrCells (litQ l)).toArray 37)) := h.alloc hb _
theorem plain_all {qs : List Pq} (h : ∀ q ∈ qs, PlainQ q ∧ q.kind ≠ 1) (a b : Int) : ∀ q ∈ hdQ a b :: qs, PlainQ q := by
  intro q hq
  rcases List.mem_cons.1 hq with rfl | hq
  · exact ⟨by simp, by simp, by simp⟩
  · exact (h q hq).1
set_option maxHeartbeats 8000000 in
set_option maxRecDepth 100000 in
theorem topStill_any (v : Value) (hd : List Pq) (a b : Int) (w : World) (HS : Hid (Shapes w)) (h1 : 0 < w.heap.size) (HR : Hid (RdQ w v hd)) :
    Calls Tryd.prog 7 #[v, .int .i64 a, .int .i64 b] w fun e w' => e = .returned (.bool true) ∧ Below w.heap.size w w' := by
  obtain ⟨ha, hc, hv, _, _⟩ := HR.out.shape
  obtain ⟨hn, HN⟩ : ∃ n, Hid (hd.length = n) := ⟨_, (rfl : _ = _)⟩
  rw [HN.out] at hv
  subst hv
  go_enter Tryd.func7, Tryd.ntmps7
  go_wp2_with fail
  refine (works_any _ HS h1).mono ?_
  rintro e w1 ⟨rfl, hb1⟩
  have HS1 : Hid (Shapes w1) := HS.out.on h1 hb1
  have h11 := Nat.lt_of_lt_of_le h1 hb1.size
  have HR1 : Hid (RdQ w1 (.slice ha hn hc) hd) := HR.out.on hb1
  by_cases c1 : 30 < hn
  · have c1i : (30 : Int) < (hn : Int) := by omega
    go_wp2_with fail
    go_ret
    exact ⟨rfl, hb1⟩
  have c1i : ¬ (30 : Int) < (hn : Int) := by omega
  go_wp2_with fail
  refine (plain_any _ hd _ HR1 (by rw [HN.out]; omega)).mono ?_
  rintro e w2 ⟨bl, rfl, hpl, hb2⟩
  have hbb2 := hb1.trans (hb2.mono hb1.size)
  clear hb2 HS1 h11 HR1
  cases bl with
  | false =>
    go_wp2_with fail
    go_ret
    exact ⟨rfl, hbb2⟩
  | true =>
    have HPL := hid_of2 (hpl rfl)
    clear hpl
    by_cases q1 : a < 0
    · go_wp2_with fail
      go_ret
      exact ⟨rfl, hbb2⟩
    by_cases q2 : 99 < a
    · go_wp2_with fail
      go_ret
      exact ⟨rfl, hbb2⟩
    by_cases q3 : b < 0
    · go_wp2_with fail
      go_ret
      exact ⟨rfl, hbb2⟩
    by_cases q4 : 99 < b
    · go_wp2_with fail
      go_ret
      exact ⟨rfl, hbb2⟩
    have hbx := litB hbb2.size hbb2 [hdQ 3 2]
    have hl30 : hd.length ≤ 30 := by rw [HN.out]; omega
    obtain ⟨v4, w4, hr4, A4⟩ := sh_app_rd (sh_lit hbb2 [hdQ 3 2] (by simp) (by simp)) hbx HR.out (by simp; omega)
    have HR4 := hid_of2 hr4
    obtain ⟨a4, k4, hv4, _⟩ := A4.row.len
    obtain ⟨n4, HN4⟩ : ∃ n, Hid (([hdQ 3 2] ++ hd).length = n) := ⟨_, (rfl : _ = _)⟩
    rw [HN4.out] at hv4
    subst hv4
    have hn4 : n4 ≤ 31 := by rw [← HN4.out]; simp; omega
    obtain ⟨v5, w5, hr5, A5⟩ := sh_app_lit A4.row A4.bel [wtQ a, wtQ b, enQ] (by intro q hq; simp at hq; rcases hq with rfl | rfl | rfl <;> rfl) (by rw [HN4.out]; simp; omega)
    have HR5 := hid_of2 hr5
    obtain ⟨QS, HQS⟩ : ∃ QS, Hid ([hdQ 3 2] ++ hd ++ [wtQ a, wtQ b, enQ] = QS) := ⟨_, (rfl : _ = _)⟩
    rw [HQS.out] at A5
    obtain ⟨a5, k5, hv5, _⟩ := A5.row.len
    obtain ⟨n5, HN5⟩ : ∃ n, Hid (QS.length = n) := ⟨_, (rfl : _ = _)⟩
    rw [HN5.out] at hv5
    subst hv5
    have hbb5 := A5.bel
    have HQ5 : Hid (RdQ w5 (.slice a5 n5 k5) QS) := A5.row.rd A5.bel
    have HS5 : Hid (Shapes w5) := HS.out.on h1 hbb5
    have h15 := Nat.lt_of_lt_of_le h1 hbb5.size
    clear A4 A5 hr4 hr5 hbx hbb2
    go_wp2_with (at_builtin; first | (refine Lib.wpList_append_run _ rfl _ _ _ _ rfl _ _ rfl rfl _ _ HR4.out ?_) | (refine Lib.wpList_append_run _ rfl _ _ _ _ rfl _ _ rfl rfl _ _ HR5.out ?_))
    refine (may_any _ QS _ HS5 h15 HQ5).mono ?_
    rintro e w6 ⟨bm, rfl, hm, hb6⟩
    have hbb6 := hbb5.trans (hb6.mono hbb5.size)
    have HQ6 : Hid (RdQ w6 (.slice a5 n5 k5) QS) := HQ5.out.on hb6
    have HS6 : Hid (Shapes w6) := HS.out.on h1 hbb6
    have h16 := Nat.lt_of_lt_of_le h1 hbb6.size
    clear hb6 HQ5 HS5 h15 HR4 HR5 hbb5
    cases bm with
    | false =>
      go_wp2_with fail
      go_ret
      exact ⟨rfl, hbb6⟩
    | true =>
      have HMY := hid_of2 (hm rfl)
      clear hm
      go_wp2_with fail
      refine (mplay_any _ QS 400 _ HS6 h16 HQ6 HMY.out.ps HMY.out.len (by omega)).mono ?_
      intro e w7 hp7
      obtain ⟨hb7, fa, fn, fk, c7, fs, rfl, hr7, ho7⟩ := play_out hp7
      have hbb7 := hbb6.trans (hb7.mono hbb6.size)
      have HPO := hid_of2 ho7
      have HF7 := hid_of2 hr7
      clear hp7 ho7 hr7 hb7 HQ6 HS6 h16 hbb6
      cases c7 with
      | succ c =>
        have hfn : fn = 0 := by
          rcases HPO.out with ⟨h, _⟩ | ⟨_, _, h⟩
          · omega
          · obtain ⟨_, _, hv, _⟩ := HF7.out.shape
            simp only [Value.slice.injEq] at hv
            rw [hv.2.1, h]; rfl
        subst hfn
        rw [show errV (c + 1) = .iface 61 (.int .i64 ((c + 1 : Nat) : Int)) from rfl]
        go_wp2_with fail
        go_ret
        exact ⟨rfl, hbb7⟩
      | zero =>
        rcases HPO.out with ⟨_, hpl⟩ | ⟨h, _⟩
        case inr => omega
        obtain ⟨g1, g2⟩ := HPO.out.good
        obtain ⟨pre, f, k, e1, e2, e3, e4, e5, e6⟩ : ∃ pre f k, fs = pre ++ [f, k] ∧ f.d = a ∧ k.d = b ∧ k.W = f.W ∧ k.H = f.H ∧ k.ps = f.ps := by
          have hst := play_straight QS (hdQ 3 2 :: hd ++ [wtQ a, wtQ b]) enQ (by rw [← HQS.out]; simp) rfl (by
            intro q hq
            rcases List.mem_append.1 hq with hq | hq
            · exact plain_all HPL.out 3 2 q hq
            · simp at hq; rcases hq with rfl | rfl <;> exact ⟨by simp, by simp, by simp⟩) 400 (by simp; omega)
          rw [playR_ok HMY.out.ok] at hpl
          rw [show (min (400 : Int) 400).toNat = 400 from rfl, hst] at hpl
          cases hru : runD (QS.getD 0 pq0) (hdQ 3 2 :: hd ++ [wtQ a, wtQ b]) dt0 with
          | inr c => rw [hru] at hpl; cases hpl
          | inl d =>
            rw [hru] at hpl
            obtain ⟨pre, f, k, e1, e2⟩ := told_still _ _ a b _ d hru
            exact ⟨pre, f, k, by rw [← Sum.inl.inj hpl]; exact e1, e2⟩
        obtain ⟨fW, fH, ps, da⟩ := f
        obtain ⟨kW, kH, kps, db⟩ := k
        simp only at e2 e3 e4 e5 e6
        replace e2 := e2.symm
        replace e3 := e3.symm
        replace e4 := e4.symm
        replace e5 := e5.symm
        replace e6 := e6.symm
        subst e2 e3 e4 e5 e6
        obtain ⟨_, _, hv, _⟩ := HF7.out.shape
        simp only [Value.slice.injEq] at hv
        have hfl : fn = pre.length + 2 := by rw [hv.2.1, e1]; simp
        obtain ⟨j, HJ⟩ : ∃ j, Hid (pre.length = j) := ⟨_, (rfl : _ = _)⟩
        rw [HJ.out] at hfl
        have hj40 : fn ≤ 40 := by rw [hv.2.1]; exact g1
        have HX1 : Hid (fs.getD j pf0 = ⟨fW, fH, ps, a⟩) := by unfold Hid; rw [e1, ← HJ.out]; simp [List.getD_eq_getElem?_getD]
        have HX2 : Hid (fs.getD (j + 1) pf0 = ⟨fW, fH, ps, b⟩) := by unfold Hid; rw [e1, ← HJ.out]; simp [List.getD_eq_getElem?_getD]
        have hps : ps.length ≤ 1000 := by
          have := frs_px g2 ⟨fW, fH, ps, a⟩ (by rw [e1]; simp)
          exact this
        obtain ⟨g, o, ua, m, uc, rfl, hg, p0, p1, p2, p3, HU1, HM1⟩ := HF7.out.at (k := j) (by omega) HX1
        obtain ⟨g', o', va, m', vc, hgo, _, q0, q1_, q2_, q3_, HU2, HM2⟩ := HF7.out.at (k := j + 1) (by omega) HX2
        simp only [Option.some.injEq, Addr.mk.injEq, and_true] at hgo
        obtain ⟨rfl, rfl⟩ := hgo
        have hmm : m = m' := by rw [← HM2.out, ← HM1.out]
        subst hmm
        simp only at p0 p1 p2 p3 q0 q1_ q2_ q3_ HU1 HU2
        obtain ⟨j1, HJ1⟩ : ∃ j1, Hid (j + 1 = j1) := ⟨_, (rfl : _ = _)⟩
        rw [HJ1.out] at q0 q1_ q2_ q3_
        have hw2 : IntKind.i64.wrap ((fn : Int) - 2) = (j : Int) := by rw [wrap_s (by omega) (by omega)]; omega
        have hw1 : IntKind.i64.wrap ((fn : Int) - 1) = (j1 : Int) := by rw [wrap_s (by omega) (by omega)]; have := HJ1.out; omega
        have hge : (2 : Int) ≤ (fn : Int) := by omega
        have hj0 : (0 : Int) ≤ (j : Int) := by omega
        have hj1 : (j : Int) < (fn : Int) := by omega
        have hj2 : (0 : Int) ≤ (j1 : Int) := by omega
        have hj3 : (j1 : Int) < (fn : Int) := by have := HJ1.out; omega
        have hea : (a == a) = true := by simp
        have heb : (b == b) = true := by simp
        clear hpl e1 hfl hv HF7 HPO HX1 HX2 HM1 HM2 g1 g2
        rw [show errV 0 = Value.nilIface from rfl]
        go_wp2_with fail
        have KEEP : Hid (∀ w', Below w7.heap.size w7 w' → w'.cell? ⟨g, o + j * 4, none⟩ = some (.int .i64 fW) ∧ w'.cell? ⟨g, o + j * 4 + 1, none⟩ = some (.int .i64 fH) ∧ w'.cell? ⟨g, o + j * 4 + 2, none⟩ = some (.slice ua m uc) ∧ w'.cell? ⟨g, o + j * 4 + 3, none⟩ = some (.int .i64 a) ∧ w'.cell? ⟨g, o + j1 * 4, none⟩ = some (.int .i64 fW) ∧ w'.cell? ⟨g, o + j1 * 4 + 1, none⟩ = some (.int .i64 fH) ∧ w'.cell? ⟨g, o + j1 * 4 + 2, none⟩ = some (.slice va m vc) ∧ w'.cell? ⟨g, o + j1 * 4 + 3, none⟩ = some (.int .i64 b)) := by
          intro w' h
          refine ⟨?_, ?_, ?_, ?_, ?_, ?_, ?_, ?_⟩
          · rw [h.cell (p := ⟨g, o + j * 4, none⟩) hg]; exact p0
          · rw [h.cell (p := ⟨g, o + j * 4 + 1, none⟩) hg]; exact p1
          · rw [h.cell (p := ⟨g, o + j * 4 + 2, none⟩) hg]; exact p2
          · rw [h.cell (p := ⟨g, o + j * 4 + 3, none⟩) hg]; exact p3
          · rw [h.cell (p := ⟨g, o + j1 * 4, none⟩) hg]; exact q0
          · rw [h.cell (p := ⟨g, o + j1 * 4 + 1, none⟩) hg]; exact q1_
          · rw [h.cell (p := ⟨g, o + j1 * 4 + 2, none⟩) hg]; exact q2_
          · rw [h.cell (p := ⟨g, o + j1 * 4 + 3, none⟩) hg]; exact q3_
        have HU1d : Hid (RdP w7.drew _ ps) := HU1.out.on (Below.refl _ _).drew
        refine wp_region_held_drew (S := (fun w' => w'.cell? ⟨g, o + j * 4, none⟩ = some (.int .i64 fW) ∧ w'.cell? ⟨g, o + j * 4 + 1, none⟩ = some (.int .i64 fH) ∧ w'.cell? ⟨g, o + j * 4 + 2, none⟩ = some (.slice ua m uc) ∧ w'.cell? ⟨g, o + j * 4 + 3, none⟩ = some (.int .i64 a) ∧ w'.cell? ⟨g, o + j1 * 4, none⟩ = some (.int .i64 fW) ∧ w'.cell? ⟨g, o + j1 * 4 + 1, none⟩ = some (.int .i64 fH) ∧ w'.cell? ⟨g, o + j1 * 4 + 2, none⟩ = some (.slice va m vc) ∧ w'.cell? ⟨g, o + j1 * 4 + 3, none⟩ = some (.int .i64 b))) (by kernel_rfl) ?_ (fun hHeld => ?_)
        · exact KEEP.out _ (Below.refl _ _).drew
        refine wpAnyH_take (i := 0) (oi := ({ dst := some 66, op := Op.move (Operand.tmp 11), type := 3, pos := "top.go:223", after := #[], guard := none } : Oper)) (v := ?_) rfl (by kernel_rfl) (by kernel_rfl) (by kernel_rfl) (fun _ _ _ h => h) (Or.inl ⟨by rfl, ?_⟩) (by assumption) ?_
        rotate_left
        · (intro w hSw; (try dsimp only at hSw); go_simp; try with_reducible rfl)
        try simp only [Act.put, List.setIfInBounds_toArray, List.set_cons_zero, List.set_cons_succ]
        refine wpAnyH_take (i := 1) (oi := ({ dst := some 67, op := Op.binOp BinOp.geq 3 (Operand.tmp 66) (Operand.const (Value.int IntKind.i64 2)) 3, type := 4, pos := "top.go:223", after := #[{ on := 0, ground := Ground.data }], guard := none } : Oper)) (v := ?_) rfl (by kernel_rfl) (by kernel_rfl) (by kernel_rfl) (fun _ _ _ h => h) (Or.inl ⟨by rfl, ?_⟩) (by assumption) ?_
        rotate_left
        · (intro w hSw; (try dsimp only at hSw); go_simp; try with_reducible rfl)
        try simp only [Act.put, List.setIfInBounds_toArray, List.set_cons_zero, List.set_cons_succ]
        refine wpAnyH_take (i := 2) (oi := ({ dst := some 68, op := Op.move (Operand.tmp 67), type := 4, pos := "top.go:223", after := #[{ on := 1, ground := Ground.data }], guard := none } : Oper)) (v := ?_) rfl (by kernel_rfl) (by kernel_rfl) (by kernel_rfl) (fun _ _ _ h => h) (Or.inl ⟨by rfl, ?_⟩) (by assumption) ?_
        rotate_left
        · (intro w hSw; (try dsimp only at hSw); go_simp; try with_reducible rfl)
        try simp only [Act.put, List.setIfInBounds_toArray, List.set_cons_zero, List.set_cons_succ]
        refine wpAnyH_take (i := 3) (oi := ({ dst := some 69, op := Op.move (Operand.tmp 9), type := 25, pos := "top.go:223", after := #[{ on := 2, ground := Ground.guard }], guard := some (2, true) } : Oper)) (v := ?_) rfl (by kernel_rfl) (by kernel_rfl) (by kernel_rfl) (fun _ _ _ h => h) (Or.inl ⟨by rfl, ?_⟩) (by assumption) ?_
        rotate_left
        · (intro w hSw; (try dsimp only at hSw); go_simp; try with_reducible rfl)
        try simp only [Act.put, List.setIfInBounds_toArray, List.set_cons_zero, List.set_cons_succ]
        refine wpAnyH_take (i := 4) (oi := ({ dst := some 70, op := Op.move (Operand.tmp 11), type := 3, pos := "top.go:223", after := #[{ on := 2, ground := Ground.guard }], guard := some (2, true) } : Oper)) (v := ?_) rfl (by kernel_rfl) (by kernel_rfl) (by kernel_rfl) (fun _ _ _ h => h) (Or.inl ⟨by rfl, ?_⟩) (by assumption) ?_
        rotate_left
        · (intro w hSw; (try dsimp only at hSw); go_simp; try with_reducible rfl)
        try simp only [Act.put, List.setIfInBounds_toArray, List.set_cons_zero, List.set_cons_succ]
        refine wpAnyH_take (i := 5) (oi := ({ dst := some 71, op := Op.binOp BinOp.sub 3 (Operand.tmp 70) (Operand.const (Value.int IntKind.i64 2)) 3, type := 3, pos := "top.go:223", after := #[{ on := 4, ground := Ground.data }, { on := 2, ground := Ground.guard }], guard := some (2, true) } : Oper)) (v := ?_) rfl (by kernel_rfl) (by kernel_rfl) (by kernel_rfl) (fun _ _ _ h => h) (Or.inl ⟨by rfl, ?_⟩) (by assumption) ?_
        rotate_left
        · (intro w hSw; (try dsimp only at hSw); go_simp; try with_reducible rfl)
        try simp only [Act.put, List.setIfInBounds_toArray, List.set_cons_zero, List.set_cons_succ]
        refine wpAnyH_take (i := 6) (oi := ({ dst := some 72, op := Op.indexAddr 25 (Operand.tmp 69) (Operand.tmp 71), type := 0, pos := "top.go:223", after := #[{ on := 3, ground := Ground.data }, { on := 5, ground := Ground.data }, { on := 2, ground := Ground.guard }], guard := some (2, true) } : Oper)) (v := ?_) rfl (by kernel_rfl) (by kernel_rfl) (by kernel_rfl) (fun _ _ _ h => h) (Or.inl ⟨by rfl, ?_⟩) (by assumption) ?_
        rotate_left
        · (intro w hSw; (try dsimp only at hSw); go_simp; try with_reducible rfl)
        try simp only [Act.put, List.setIfInBounds_toArray, List.set_cons_zero, List.set_cons_succ]
        refine wpAnyH_take (i := 7) (oi := ({ dst := some 73, op := Op.fieldAddr 50 (Operand.tmp 72) 1, type := 0, pos := "top.go:223", after := #[{ on := 6, ground := Ground.data }, { on := 2, ground := Ground.guard }], guard := some (2, true) } : Oper)) (v := ?_) rfl (by kernel_rfl) (by kernel_rfl) (by kernel_rfl) (fun _ _ _ h => h) (Or.inl ⟨by rfl, ?_⟩) (by assumption) ?_
        rotate_left
        · (intro w hSw; (try dsimp only at hSw); go_simp; try with_reducible rfl)
        try simp only [Act.put, List.setIfInBounds_toArray, List.set_cons_zero, List.set_cons_succ]
        refine wpAnyH_take (i := 8) (oi := ({ dst := some 74, op := Op.load 3 (Operand.tmp 73), type := 3, pos := "top.go:223", after := #[{ on := 7, ground := Ground.data }, { on := 2, ground := Ground.guard }], guard := some (2, true) } : Oper)) (v := ?_) rfl (by kernel_rfl) (by kernel_rfl) (by kernel_rfl) (fun _ _ _ h => h) (Or.inl ⟨by rfl, ?_⟩) (by assumption) ?_
        rotate_left
        · (intro w hSw; (try dsimp only at hSw); go_simp; try with_reducible rfl)
        try simp only [Act.put, List.setIfInBounds_toArray, List.set_cons_zero, List.set_cons_succ]
        refine wpAnyH_take (i := 9) (oi := ({ dst := some 75, op := Op.move (Operand.tmp 1), type := 3, pos := "top.go:223", after := #[{ on := 2, ground := Ground.guard }], guard := some (2, true) } : Oper)) (v := ?_) rfl (by kernel_rfl) (by kernel_rfl) (by kernel_rfl) (fun _ _ _ h => h) (Or.inl ⟨by rfl, ?_⟩) (by assumption) ?_
        rotate_left
        · (intro w hSw; (try dsimp only at hSw); go_simp; try with_reducible rfl)
        try simp only [Act.put, List.setIfInBounds_toArray, List.set_cons_zero, List.set_cons_succ]
        refine wpAnyH_take (i := 10) (oi := ({ dst := some 76, op := Op.binOp BinOp.eql 3 (Operand.tmp 74) (Operand.tmp 75) 3, type := 4, pos := "top.go:223", after := #[{ on := 8, ground := Ground.data }, { on := 9, ground := Ground.data }, { on := 2, ground := Ground.guard }], guard := some (2, true) } : Oper)) (v := ?_) rfl (by kernel_rfl) (by kernel_rfl) (by kernel_rfl) (fun _ _ _ h => h) (Or.inl ⟨by rfl, ?_⟩) (by assumption) ?_
        rotate_left
        · (intro w hSw; (try dsimp only at hSw); go_simp; try with_reducible rfl)
        try simp only [Act.put, List.setIfInBounds_toArray, List.set_cons_zero, List.set_cons_succ]
        refine wpAnyH_take (i := 11) (oi := ({ dst := some 77, op := Op.pick (Operand.tmp 68) (Operand.tmp 76) (Operand.const (Value.bool false)), type := 4, pos := "top.go:223", after := #[{ on := 2, ground := Ground.data }, { on := 10, ground := Ground.data }], guard := none } : Oper)) (v := ?_) rfl (by kernel_rfl) (by kernel_rfl) (by kernel_rfl) (fun _ _ _ h => h) (Or.inl ⟨by rfl, ?_⟩) (by assumption) ?_
        rotate_left
        · (intro w hSw; (try dsimp only at hSw); go_simp; try with_reducible rfl)
        try simp only [Act.put, List.setIfInBounds_toArray, List.set_cons_zero, List.set_cons_succ]
        refine wpAnyH_take (i := 12) (oi := ({ dst := some 78, op := Op.move (Operand.tmp 77), type := 4, pos := "top.go:223", after := #[{ on := 11, ground := Ground.data }, { on := 2, ground := Ground.chain }], guard := none } : Oper)) (v := ?_) rfl (by kernel_rfl) (by kernel_rfl) (by kernel_rfl) (fun _ _ _ h => h) (Or.inl ⟨by rfl, ?_⟩) (by assumption) ?_
        rotate_left
        · (intro w hSw; (try dsimp only at hSw); go_simp; try with_reducible rfl)
        try simp only [Act.put, List.setIfInBounds_toArray, List.set_cons_zero, List.set_cons_succ]
        refine wpAnyH_take (i := 13) (oi := ({ dst := some 79, op := Op.move (Operand.tmp 9), type := 25, pos := "top.go:223", after := #[{ on := 12, ground := Ground.guard }], guard := some (12, true) } : Oper)) (v := ?_) rfl (by kernel_rfl) (by kernel_rfl) (by kernel_rfl) (fun _ _ _ h => h) (Or.inl ⟨by rfl, ?_⟩) (by assumption) ?_
        rotate_left
        · (intro w hSw; (try dsimp only at hSw); go_simp; try with_reducible rfl)
        try simp only [Act.put, List.setIfInBounds_toArray, List.set_cons_zero, List.set_cons_succ]
        refine wpAnyH_take (i := 14) (oi := ({ dst := some 80, op := Op.move (Operand.tmp 11), type := 3, pos := "top.go:223", after := #[{ on := 12, ground := Ground.guard }], guard := some (12, true) } : Oper)) (v := ?_) rfl (by kernel_rfl) (by kernel_rfl) (by kernel_rfl) (fun _ _ _ h => h) (Or.inl ⟨by rfl, ?_⟩) (by assumption) ?_
        rotate_left
        · (intro w hSw; (try dsimp only at hSw); go_simp; try with_reducible rfl)
        try simp only [Act.put, List.setIfInBounds_toArray, List.set_cons_zero, List.set_cons_succ]
        refine wpAnyH_take (i := 15) (oi := ({ dst := some 81, op := Op.binOp BinOp.sub 3 (Operand.tmp 80) (Operand.const (Value.int IntKind.i64 1)) 3, type := 3, pos := "top.go:223", after := #[{ on := 14, ground := Ground.data }, { on := 12, ground := Ground.guard }], guard := some (12, true) } : Oper)) (v := ?_) rfl (by kernel_rfl) (by kernel_rfl) (by kernel_rfl) (fun _ _ _ h => h) (Or.inl ⟨by rfl, ?_⟩) (by assumption) ?_
        rotate_left
        · (intro w hSw; (try dsimp only at hSw); go_simp; try with_reducible rfl)
        try simp only [Act.put, List.setIfInBounds_toArray, List.set_cons_zero, List.set_cons_succ]
        refine wpAnyH_take (i := 16) (oi := ({ dst := some 82, op := Op.indexAddr 25 (Operand.tmp 79) (Operand.tmp 81), type := 0, pos := "top.go:223", after := #[{ on := 13, ground := Ground.data }, { on := 15, ground := Ground.data }, { on := 12, ground := Ground.guard }], guard := some (12, true) } : Oper)) (v := ?_) rfl (by kernel_rfl) (by kernel_rfl) (by kernel_rfl) (fun _ _ _ h => h) (Or.inl ⟨by rfl, ?_⟩) (by assumption) ?_
        rotate_left
        · (intro w hSw; (try dsimp only at hSw); go_simp; try with_reducible rfl)
        try simp only [Act.put, List.setIfInBounds_toArray, List.set_cons_zero, List.set_cons_succ]
        refine wpAnyH_take (i := 17) (oi := ({ dst := some 83, op := Op.fieldAddr 50 (Operand.tmp 82) 1, type := 0, pos := "top.go:223", after := #[{ on := 16, ground := Ground.data }, { on := 12, ground := Ground.guard }], guard := some (12, true) } : Oper)) (v := ?_) rfl (by kernel_rfl) (by kernel_rfl) (by kernel_rfl) (fun _ _ _ h => h) (Or.inl ⟨by rfl, ?_⟩) (by assumption) ?_
        rotate_left
        · (intro w hSw; (try dsimp only at hSw); go_simp; try with_reducible rfl)
        try simp only [Act.put, List.setIfInBounds_toArray, List.set_cons_zero, List.set_cons_succ]
        refine wpAnyH_take (i := 18) (oi := ({ dst := some 84, op := Op.load 3 (Operand.tmp 83), type := 3, pos := "top.go:223", after := #[{ on := 17, ground := Ground.data }, { on := 12, ground := Ground.guard }], guard := some (12, true) } : Oper)) (v := ?_) rfl (by kernel_rfl) (by kernel_rfl) (by kernel_rfl) (fun _ _ _ h => h) (Or.inl ⟨by rfl, ?_⟩) (by assumption) ?_
        rotate_left
        · (intro w hSw; (try dsimp only at hSw); go_simp; try with_reducible rfl)
        try simp only [Act.put, List.setIfInBounds_toArray, List.set_cons_zero, List.set_cons_succ]
        refine wpAnyH_take (i := 19) (oi := ({ dst := some 85, op := Op.move (Operand.tmp 2), type := 3, pos := "top.go:223", after := #[{ on := 12, ground := Ground.guard }], guard := some (12, true) } : Oper)) (v := ?_) rfl (by kernel_rfl) (by kernel_rfl) (by kernel_rfl) (fun _ _ _ h => h) (Or.inl ⟨by rfl, ?_⟩) (by assumption) ?_
        rotate_left
        · (intro w hSw; (try dsimp only at hSw); go_simp; try with_reducible rfl)
        try simp only [Act.put, List.setIfInBounds_toArray, List.set_cons_zero, List.set_cons_succ]
        refine wpAnyH_take (i := 20) (oi := ({ dst := some 86, op := Op.binOp BinOp.eql 3 (Operand.tmp 84) (Operand.tmp 85) 3, type := 4, pos := "top.go:223", after := #[{ on := 18, ground := Ground.data }, { on := 19, ground := Ground.data }, { on := 12, ground := Ground.guard }], guard := some (12, true) } : Oper)) (v := ?_) rfl (by kernel_rfl) (by kernel_rfl) (by kernel_rfl) (fun _ _ _ h => h) (Or.inl ⟨by rfl, ?_⟩) (by assumption) ?_
        rotate_left
        · (intro w hSw; (try dsimp only at hSw); go_simp; try with_reducible rfl)
        try simp only [Act.put, List.setIfInBounds_toArray, List.set_cons_zero, List.set_cons_succ]
        refine wpAnyH_take (i := 21) (oi := ({ dst := some 87, op := Op.pick (Operand.tmp 78) (Operand.tmp 86) (Operand.const (Value.bool false)), type := 4, pos := "top.go:223", after := #[{ on := 12, ground := Ground.data }, { on := 20, ground := Ground.data }], guard := none } : Oper)) (v := ?_) rfl (by kernel_rfl) (by kernel_rfl) (by kernel_rfl) (fun _ _ _ h => h) (Or.inl ⟨by rfl, ?_⟩) (by assumption) ?_
        rotate_left
        · (intro w hSw; (try dsimp only at hSw); go_simp; try with_reducible rfl)
        try simp only [Act.put, List.setIfInBounds_toArray, List.set_cons_zero, List.set_cons_succ]
        refine wpAnyH_take (i := 22) (oi := ({ dst := some 88, op := Op.move (Operand.tmp 87), type := 4, pos := "top.go:223", after := #[{ on := 21, ground := Ground.data }, { on := 12, ground := Ground.chain }], guard := none } : Oper)) (v := ?_) rfl (by kernel_rfl) (by kernel_rfl) (by kernel_rfl) (fun _ _ _ h => h) (Or.inl ⟨by rfl, ?_⟩) (by assumption) ?_
        rotate_left
        · (intro w hSw; (try dsimp only at hSw); go_simp; try with_reducible rfl)
        try simp only [Act.put, List.setIfInBounds_toArray, List.set_cons_zero, List.set_cons_succ]
        refine wpAnyH_take (i := 23) (oi := ({ dst := some 89, op := Op.move (Operand.tmp 9), type := 25, pos := "top.go:223", after := #[{ on := 22, ground := Ground.guard }], guard := some (22, true) } : Oper)) (v := ?_) rfl (by kernel_rfl) (by kernel_rfl) (by kernel_rfl) (fun _ _ _ h => h) (Or.inl ⟨by rfl, ?_⟩) (by assumption) ?_
        rotate_left
        · (intro w hSw; (try dsimp only at hSw); go_simp; try with_reducible rfl)
        try simp only [Act.put, List.setIfInBounds_toArray, List.set_cons_zero, List.set_cons_succ]
        refine wpAnyH_take (i := 24) (oi := ({ dst := some 90, op := Op.move (Operand.tmp 11), type := 3, pos := "top.go:223", after := #[{ on := 22, ground := Ground.guard }], guard := some (22, true) } : Oper)) (v := ?_) rfl (by kernel_rfl) (by kernel_rfl) (by kernel_rfl) (fun _ _ _ h => h) (Or.inl ⟨by rfl, ?_⟩) (by assumption) ?_
        rotate_left
        · (intro w hSw; (try dsimp only at hSw); go_simp; try with_reducible rfl)
        try simp only [Act.put, List.setIfInBounds_toArray, List.set_cons_zero, List.set_cons_succ]
        refine wpAnyH_take (i := 25) (oi := ({ dst := some 91, op := Op.binOp BinOp.sub 3 (Operand.tmp 90) (Operand.const (Value.int IntKind.i64 1)) 3, type := 3, pos := "top.go:223", after := #[{ on := 24, ground := Ground.data }, { on := 22, ground := Ground.guard }], guard := some (22, true) } : Oper)) (v := ?_) rfl (by kernel_rfl) (by kernel_rfl) (by kernel_rfl) (fun _ _ _ h => h) (Or.inl ⟨by rfl, ?_⟩) (by assumption) ?_
        rotate_left
        · (intro w hSw; (try dsimp only at hSw); go_simp; try with_reducible rfl)
        try simp only [Act.put, List.setIfInBounds_toArray, List.set_cons_zero, List.set_cons_succ]
        refine wpAnyH_take (i := 26) (oi := ({ dst := some 92, op := Op.indexAddr 25 (Operand.tmp 89) (Operand.tmp 91), type := 0, pos := "top.go:223", after := #[{ on := 23, ground := Ground.data }, { on := 25, ground := Ground.data }, { on := 22, ground := Ground.guard }], guard := some (22, true) } : Oper)) (v := ?_) rfl (by kernel_rfl) (by kernel_rfl) (by kernel_rfl) (fun _ _ _ h => h) (Or.inl ⟨by rfl, ?_⟩) (by assumption) ?_
        rotate_left
        · (intro w hSw; (try dsimp only at hSw); go_simp; try with_reducible rfl)
        try simp only [Act.put, List.setIfInBounds_toArray, List.set_cons_zero, List.set_cons_succ]
        refine wpAnyH_take (i := 27) (oi := ({ dst := some 93, op := Op.fieldAddr 50 (Operand.tmp 92) 0, type := 0, pos := "top.go:223", after := #[{ on := 26, ground := Ground.data }, { on := 22, ground := Ground.guard }], guard := some (22, true) } : Oper)) (v := ?_) rfl (by kernel_rfl) (by kernel_rfl) (by kernel_rfl) (fun _ _ _ h => h) (Or.inl ⟨by rfl, ?_⟩) (by assumption) ?_
        rotate_left
        · (intro w hSw; (try dsimp only at hSw); go_simp; try with_reducible rfl)
        try simp only [Act.put, List.setIfInBounds_toArray, List.set_cons_zero, List.set_cons_succ]
        refine wpAnyH_take (i := 28) (oi := ({ dst := some 94, op := Op.load 35 (Operand.tmp 93), type := 35, pos := "top.go:223", after := #[{ on := 27, ground := Ground.data }, { on := 22, ground := Ground.guard }], guard := some (22, true) } : Oper)) (v := ?_) rfl (by kernel_rfl) (by kernel_rfl) (by kernel_rfl) (fun _ _ _ h => h) (Or.inl ⟨by rfl, ?_⟩) (by assumption) ?_
        rotate_left
        · (intro w hSw; (try dsimp only at hSw); go_simp; try with_reducible rfl)
        try simp only [Act.put, List.setIfInBounds_toArray, List.set_cons_zero, List.set_cons_succ]
        refine wpAnyH_take (i := 29) (oi := ({ dst := some 95, op := Op.move (Operand.tmp 9), type := 25, pos := "top.go:223", after := #[{ on := 22, ground := Ground.guard }], guard := some (22, true) } : Oper)) (v := ?_) rfl (by kernel_rfl) (by kernel_rfl) (by kernel_rfl) (fun _ _ _ h => h) (Or.inl ⟨by rfl, ?_⟩) (by assumption) ?_
        rotate_left
        · (intro w hSw; (try dsimp only at hSw); go_simp; try with_reducible rfl)
        try simp only [Act.put, List.setIfInBounds_toArray, List.set_cons_zero, List.set_cons_succ]
        refine wpAnyH_take (i := 30) (oi := ({ dst := some 96, op := Op.move (Operand.tmp 11), type := 3, pos := "top.go:223", after := #[{ on := 22, ground := Ground.guard }], guard := some (22, true) } : Oper)) (v := ?_) rfl (by kernel_rfl) (by kernel_rfl) (by kernel_rfl) (fun _ _ _ h => h) (Or.inl ⟨by rfl, ?_⟩) (by assumption) ?_
        rotate_left
        · (intro w hSw; (try dsimp only at hSw); go_simp; try with_reducible rfl)
        try simp only [Act.put, List.setIfInBounds_toArray, List.set_cons_zero, List.set_cons_succ]
        refine wpAnyH_take (i := 31) (oi := ({ dst := some 97, op := Op.binOp BinOp.sub 3 (Operand.tmp 96) (Operand.const (Value.int IntKind.i64 2)) 3, type := 3, pos := "top.go:223", after := #[{ on := 30, ground := Ground.data }, { on := 22, ground := Ground.guard }], guard := some (22, true) } : Oper)) (v := ?_) rfl (by kernel_rfl) (by kernel_rfl) (by kernel_rfl) (fun _ _ _ h => h) (Or.inl ⟨by rfl, ?_⟩) (by assumption) ?_
        rotate_left
        · (intro w hSw; (try dsimp only at hSw); go_simp; try with_reducible rfl)
        try simp only [Act.put, List.setIfInBounds_toArray, List.set_cons_zero, List.set_cons_succ]
        refine wpAnyH_take (i := 32) (oi := ({ dst := some 98, op := Op.indexAddr 25 (Operand.tmp 95) (Operand.tmp 97), type := 0, pos := "top.go:223", after := #[{ on := 29, ground := Ground.data }, { on := 31, ground := Ground.data }, { on := 22, ground := Ground.guard }], guard := some (22, true) } : Oper)) (v := ?_) rfl (by kernel_rfl) (by kernel_rfl) (by kernel_rfl) (fun _ _ _ h => h) (Or.inl ⟨by rfl, ?_⟩) (by assumption) ?_
        rotate_left
        · (intro w hSw; (try dsimp only at hSw); go_simp; try with_reducible rfl)
        try simp only [Act.put, List.setIfInBounds_toArray, List.set_cons_zero, List.set_cons_succ]
        refine wpAnyH_take (i := 33) (oi := ({ dst := some 99, op := Op.fieldAddr 50 (Operand.tmp 98) 0, type := 0, pos := "top.go:223", after := #[{ on := 32, ground := Ground.data }, { on := 22, ground := Ground.guard }], guard := some (22, true) } : Oper)) (v := ?_) rfl (by kernel_rfl) (by kernel_rfl) (by kernel_rfl) (fun _ _ _ h => h) (Or.inl ⟨by rfl, ?_⟩) (by assumption) ?_
        rotate_left
        · (intro w hSw; (try dsimp only at hSw); go_simp; try with_reducible rfl)
        try simp only [Act.put, List.setIfInBounds_toArray, List.set_cons_zero, List.set_cons_succ]
        refine wpAnyH_take (i := 34) (oi := ({ dst := some 100, op := Op.load 35 (Operand.tmp 99), type := 35, pos := "top.go:223", after := #[{ on := 33, ground := Ground.data }, { on := 22, ground := Ground.guard }], guard := some (22, true) } : Oper)) (v := ?_) rfl (by kernel_rfl) (by kernel_rfl) (by kernel_rfl) (fun _ _ _ h => h) (Or.inl ⟨by rfl, ?_⟩) (by assumption) ?_
        rotate_left
        · (intro w hSw; (try dsimp only at hSw); go_simp; try with_reducible rfl)
        try simp only [Act.put, List.setIfInBounds_toArray, List.set_cons_zero, List.set_cons_succ]
        refine wpAnyH_ready (rs := [35]) (by kernel_rfl) (by simp) ?_
        refine AllReadyH.cons (o := ({ dst := some 101, op := Op.call { callee := Callee.value (Operand.func 26), args := #[Operand.tmp 94, Operand.tmp 100], argTypes := #[35, 35] }, type := 4, pos := "top.go:223", after := #[{ on := 28, ground := Ground.data }, { on := 34, ground := Ground.data }, { on := 22, ground := Ground.chain }, { on := 22, ground := Ground.guard }], guard := some (22, true) } : Oper)) rfl (fun K_ hK => ?_) AllReadyH.nil
        go_simp
        refine (samePic_any fW fH _ _ ps _ hps (HU2.out.on (Below.refl _ _).drew) (HU1.out.on (Below.refl _ _).drew)).mono ?_
        rintro e w9 ⟨rfl, hb9⟩
        have HB9 : Hid (Below w7.heap.size w7 w9) := ⟨hb9.os, hb9.tape, hb9.output, hb9.size, hb9.block⟩
        clear hb9
        refine hK.out _ _ ?_ (fun hHeld => ?_)
        · exact KEEP.out _ HB9.out
        clear hK K_
        try simp only [Act.put, List.setIfInBounds_toArray, List.set_cons_zero, List.set_cons_succ]
        refine wpAnyH_take (i := 36) (oi := ({ dst := some 102, op := Op.pick (Operand.tmp 88) (Operand.tmp 101) (Operand.const (Value.bool false)), type := 4, pos := "top.go:223", after := #[{ on := 22, ground := Ground.data }, { on := 35, ground := Ground.data }], guard := none } : Oper)) (v := ?_) rfl (by kernel_rfl) (by kernel_rfl) (by kernel_rfl) (fun _ _ _ h => h) (Or.inl ⟨by rfl, ?_⟩) (by assumption) ?_
        rotate_left
        · (intro w hSw; (try dsimp only at hSw); go_simp; try with_reducible rfl)
        try simp only [Act.put, List.setIfInBounds_toArray, List.set_cons_zero, List.set_cons_succ]
        refine wpAnyH_take (i := 37) (oi := ({ dst := some 6, op := Op.assign (Operand.tmp 102), type := 4, pos := "top.go:223", after := #[{ on := 36, ground := Ground.data }, { on := 35, ground := Ground.chain }, { on := 0, ground := Ground.phase }, { on := 1, ground := Ground.phase }, { on := 2, ground := Ground.phase }, { on := 3, ground := Ground.phase }, { on := 4, ground := Ground.phase }, { on := 5, ground := Ground.phase }, { on := 6, ground := Ground.phase }, { on := 7, ground := Ground.phase }, { on := 8, ground := Ground.phase }, { on := 9, ground := Ground.phase }, { on := 10, ground := Ground.phase }, { on := 11, ground := Ground.phase }, { on := 12, ground := Ground.phase }, { on := 13, ground := Ground.phase }, { on := 14, ground := Ground.phase }, { on := 15, ground := Ground.phase }, { on := 16, ground := Ground.phase }, { on := 17, ground := Ground.phase }, { on := 18, ground := Ground.phase }, { on := 19, ground := Ground.phase }, { on := 20, ground := Ground.phase }, { on := 21, ground := Ground.phase }, { on := 22, ground := Ground.phase }, { on := 23, ground := Ground.phase }, { on := 24, ground := Ground.phase }, { on := 25, ground := Ground.phase }, { on := 26, ground := Ground.phase }, { on := 27, ground := Ground.phase }, { on := 28, ground := Ground.phase }, { on := 29, ground := Ground.phase }, { on := 30, ground := Ground.phase }, { on := 31, ground := Ground.phase }, { on := 32, ground := Ground.phase }, { on := 33, ground := Ground.phase }, { on := 34, ground := Ground.phase }, { on := 35, ground := Ground.phase }, { on := 36, ground := Ground.phase }], guard := none } : Oper)) (v := ?_) rfl (by kernel_rfl) (by kernel_rfl) (by kernel_rfl) (fun _ _ _ h => h) (Or.inl ⟨by rfl, ?_⟩) (by assumption) ?_
        rotate_left
        · (intro w hSw; (try dsimp only at hSw); go_simp; try with_reducible rfl)
        try simp only [Act.put, List.setIfInBounds_toArray, List.set_cons_zero, List.set_cons_succ]
        refine wpAnyH_done (by kernel_rfl) ?_ _
        go_wp2_with fail
        go_ret
        exact ⟨rfl, hbb7.trans (HB9.out.mono hbb7.size)⟩
end Go.Proofs.YtbdgcomjhblnfaaDoor
