/- Walk of the law TopBack. -/
import Derived.Test.YtbdgcomjhblnfaaDoorM10
import Derived.Test.YtbdgcomjhblnfaaDoorTopFuelWJ
namespace Go.Proofs.YtbdgcomjhblnfaaDoor
open Go.RowKit Go.Maps

theorem lastB_snoc (l : List (Int × Int)) (p d : Int × Int) : lastB (l ++ [p]) d = p := by simp [lastB]
def bksQ (l : List (Int × Int)) : List Pq := l.map fun p => bkQ p.1 p.2
theorem bksQ_len (l : List (Int × Int)) : (bksQ l).length = l.length := by simp [bksQ]
theorem bksQ_plain (l : List (Int × Int)) : ∀ q ∈ bksQ l, PlainQ q := by
  intro q hq
  obtain ⟨p, _, rfl⟩ := List.mem_map.1 hq
  exact ⟨by simp, by simp, by simp⟩
theorem bksQ_ps (l : List (Int × Int)) : ∀ q ∈ bksQ l, q.ps = [] := by
  intro q hq
  obtain ⟨p, _, rfl⟩ := List.mem_map.1 hq
  rfl
set_option maxHeartbeats 8000000 in
set_option maxRecDepth 100000 in
theorem topBack_any (vb : Value) (bl : List (Int × Int)) (W H : Int) (w : World) (HS : Hid (Shapes w)) (h1 : 0 < w.heap.size) (HR : Hid (RdP w vb bl)) (hbl : bl.length ≤ 9223372036854775807) :
    Calls Tryd.prog 11 #[.int .i64 W, .int .i64 H, vb] w fun e w' => e = .returned (.bool true) ∧ Below w.heap.size w w' := by
  obtain ⟨ba, bc, hv, _, _, hcell⟩ := HR.out
  obtain ⟨n, HN⟩ : ∃ n, Hid (bl.length = n) := ⟨_, (rfl : _ = _)⟩
  rw [HN.out] at hv hbl
  subst hv
  have HCELL := hid_of2 hcell
  clear hcell
  go_enter Tryd.func11, Tryd.ntmps11
  go_wp2_with fail
  refine (works_any _ HS h1).mono ?_
  rintro e w1 ⟨rfl, hb1⟩
  have HS1 : Hid (Shapes w1) := HS.out.on h1 hb1
  have h11 := Nat.lt_of_lt_of_le h1 hb1.size
  by_cases gq0 : (20 : Int) < (n : Int)
  · go_wp2_with fail
    go_ret
    exact ⟨rfl, hb1⟩
  have hbx2 := hb1.alloc hb1.size (.cells (qrCells (litQ [hdQ W H])).toArray 37)
  have HL2 : Hid (ShQ w (w1.alloc (.cells (qrCells (litQ [hdQ W H])).toArray 37)) (.slice (some ⟨w1.heap.size, 0, none⟩) 1 1) [hdQ W H]) := sh_lit hb1 [hdQ W H] (by simp) (by simp)
  have hbx3 := hbx2.alloc hbx2.size (.cells #[.int .i64 0, .int .i64 0] 57)
  have HL3 : Hid (ShQ w ((w1.alloc (.cells (qrCells (litQ [hdQ W H])).toArray 37)).alloc (.cells #[.int .i64 0, .int .i64 0] 57)) (.slice (some ⟨w1.heap.size, 0, none⟩) 1 1) [hdQ W H]) := HL2.out.on (alloc_bel _ _)
  have HP3 : Hid (World.ownsRow ((w1.alloc (.cells (qrCells (litQ [hdQ W H])).toArray 37)).alloc (.cells #[.int .i64 0, .int .i64 0] 57)) w.heap.size 57 2 (.slice (some ⟨w1.heap.size + 1, 0, none⟩) 1 1) 1 [.int .i64 0, .int .i64 0]) := by
    have := own_box (w := w1.alloc (.cells (qrCells (litQ [hdQ W H])).toArray 37)) (T := 57) [.int .i64 0, .int .i64 0] 2 hbx2.size rfl
    have e : (w1.alloc (.cells (qrCells (litQ [hdQ W H])).toArray 37)).heap.size = w1.heap.size + 1 := by simp
    rw [e] at this
    exact this
  clear HL2 HS1 h11
  obtain ⟨pb, HPB⟩ : ∃ pb, Hid (w1.heap.size + 1 = pb) := ⟨_, (rfl : _ = _)⟩
  rw [HPB.out] at HP3
  go_wp2_with fail
  rw [HPB.out]
  go_loopw [8, 10] (fun o i wr => ∃ (k : Nat) (vl : Value), k ≤ n ∧ i = .int .i64 k ∧ vl = o ∧ Hid (ShQ w wr vl ([hdQ W H] ++ bksQ (bl.take k))) ∧ Hid (wr.ownsRow w.heap.size 57 2 (.slice (some ⟨pb, 0, none⟩) 1 1) 1 [.int .i64 (lastB (bl.take k) (0, 0)).1, .int .i64 (lastB (bl.take k) (0, 0)).2]) ∧ Below w.heap.size w wr) (fun _ i _ => n - (intOf i).toNat)
  case atStart => exact ⟨0, _, by omega, rfl, rfl, HL3, HP3, hbx3⟩
  case round =>
    clear HL3 HP3 hbx3 hbx2
    obtain ⟨k, vl, hk, rfl, rfl, HL, HP, hbr⟩ := hrel
    by_cases hlt : k < n
    · have hki : (k : Int) < (n : Int) := by omega
      have hki0 : (0 : Int) ≤ (k : Int) := by omega
      have hkl : k < bl.length := by rw [HN.out]; exact hlt
      obtain ⟨pg, po, rfl, hpg, hpc⟩ := HCELL.out (by intro e; rw [e] at hkl; simp at hkl)
      obtain ⟨p0, p1⟩ := hpc k hkl
      obtain ⟨pv, pa, HPX⟩ : ∃ pv pa, Hid (bl.getD k (0, 0) = (pv, pa)) := ⟨_, _, (rfl : _ = _)⟩
      rw [HPX.out] at p0 p1
      simp only at p0 p1
      have htk : bl.take (k + 1) = bl.take k ++ [(pv, pa)] := by
        rw [List.take_succ_eq_append_getElem hkl, ← HPX.out, List.getD_eq_getElem?_getD, List.getElem?_eq_getElem hkl]; rfl
      have HLB : Hid (lastB (bl.take (k + 1)) (0, 0) = (pv, pa)) := by unfold Hid; rw [htk, lastB_snoc]
      have HBQ : Hid ([hdQ W H] ++ bksQ (bl.take k) ++ [bkQ pv pa] = [hdQ W H] ++ bksQ (bl.take (k + 1))) := by unfold Hid; rw [htk, List.append_assoc]; simp [bksQ]
      have hbrd : Below w.heap.size w wr.drew := hbr.drew
      have hblit := hbrd.alloc hbrd.size (.cells (qrCells (litQ [bkQ pv pa])).toArray 37)
      have hlim : ([hdQ W H] ++ bksQ (bl.take k)).length ≤ 21 := by simp [bksQ_len]; omega
      obtain ⟨v5, w5, hr5, A5⟩ := sh_app_lit (HL.out.on (Below.refl _ _).drew) hbrd [bkQ pv pa] (by simp) (by simp at hlim ⊢; omega)
      have HR5 := hid_of2 hr5
      have hbb5 := A5.bel
      have hpx : Below wr.heap.size wr (wr.drew.alloc (.cells (qrCells (litQ [bkQ pv pa])).toArray 37)) := (Below.refl _ _).drew.alloc (by simp) _
      obtain ⟨qv, hrow, _, _⟩ := HL.out
      have hne : some pb ≠ vl.ownBlock := row_ne HP.out hrow (by decide)
      have hp5 : w5.ownsRow w.heap.size 57 2 (.slice (some ⟨pb, 0, none⟩) 1 1) 1 [.int .i64 (lastB (bl.take k) (0, 0)).1, .int .i64 (lastB (bl.take k) (0, 0)).2] := (own_on2 HP.out hpx).kept A5.grown (.inr hne)
      have y0 := hp5.cellAt 0 (by omega)
      have y1 := hp5.cellAt 1 (by omega)
      simp only [List.getElem?_cons_zero, List.getElem?_cons_succ] at y0 y1
      have yf0 := hp5.frozenAt 0
      have yf1 := hp5.frozenAt 1
      obtain ⟨s1, g1⟩ := hp5.stored 0 (.int .i64 pv)
      obtain ⟨s2, g2⟩ := s1.stored 1 (.int .i64 pa)
      have hne5 : Sep v5 (.slice (some ⟨pb, 0, none⟩) 1 1) := by
        refine Sep.symm ?_
        obtain ⟨qv5, hrow5, _, _⟩ := A5.row
        exact .inr (row_ne hp5 hrow5 (by decide))
      have hl6 := (A5.row.kept g1 hne5).kept g2 hne5
      rw [HBQ.out] at hl6
      have hb6 : Below w.heap.size w ((w5.setCell ⟨pb, 0, none⟩ (.int .i64 pv)).setCell ⟨pb, 1, none⟩ (.int .i64 pa)) := (hbb5.grown g1 hbb5.size (fun z hz => by simp at hz; subst hz; exact (hp5.lt pb rfl).1)).grown g2 (by have := hbb5.size; simpa using this) (fun z hz => by simp at hz; subst hz; exact (hp5.lt pb rfl).1)
      have HL6 := hid_of2 hl6
      have HP6 : Hid (World.ownsRow ((w5.setCell ⟨pb, 0, none⟩ (.int .i64 pv)).setCell ⟨pb, 1, none⟩ (.int .i64 pa)) w.heap.size 57 2 (.slice (some ⟨pb, 0, none⟩) 1 1) 1 [.int .i64 (lastB (bl.take (k + 1)) (0, 0)).1, .int .i64 (lastB (bl.take (k + 1)) (0, 0)).2]) := by unfold Hid; rw [HLB.out]; exact s2
      have q0 : w5.cell? ⟨pg, po + k * 2, none⟩ = some (.int .i64 pv) := by rw [hbb5.cell (p := ⟨pg, po + k * 2, none⟩) hpg]; exact p0
      have q1 : w5.cell? ⟨pg, po + k * 2 + 1, none⟩ = some (.int .i64 pa) := by rw [hbb5.cell (p := ⟨pg, po + k * 2 + 1, none⟩) hpg]; exact p1
      clear A5 hr5 hpx hrow hne hp5 s1 g1 s2 g2 hne5 hl6 htk hpc HPX HLB HBQ HL HP
      have KEEP : Hid (∀ w', Below w.heap.size w w' → w'.cell? ⟨pg, po + k * 2, none⟩ = some (.int .i64 pv) ∧ w'.cell? ⟨pg, po + k * 2 + 1, none⟩ = some (.int .i64 pa)) := by
        intro w' h
        refine ⟨?_, ?_⟩
        · rw [h.cell (p := ⟨pg, po + k * 2, none⟩) hpg]; exact p0
        · rw [h.cell (p := ⟨pg, po + k * 2 + 1, none⟩) hpg]; exact p1
      go_wp2_with fail
      refine wp_region_held_drew (S := (fun w' => w'.cell? ⟨pg, po + k * 2, none⟩ = some (.int .i64 pv) ∧ w'.cell? ⟨pg, po + k * 2 + 1, none⟩ = some (.int .i64 pa))) (by kernel_rfl) ?_ (fun hHeld => ?_)
      · exact KEEP.out _ hbrd
      refine wpAnyH_take (i := 0) (oi := ({ dst := some 31, op := Op.move (Operand.tmp 8), type := 22, pos := "top.go:315", after := #[], guard := none } : Oper)) (v := ?_) rfl (by kernel_rfl) (by kernel_rfl) (by kernel_rfl) (fun _ _ _ h => h) (Or.inl ⟨by rfl, ?_⟩) (by assumption) ?_
      rotate_left
      · (intro w hSw; (try dsimp only at hSw); go_simp; try with_reducible rfl)
      try simp only [Act.put, List.setIfInBounds_toArray, List.set_cons_zero, List.set_cons_succ]
      refine wpAnyH_take (i := 1) (oi := ({ dst := some 32, op := Op.move (Operand.tmp 2), type := 33, pos := "top.go:315", after := #[], guard := none } : Oper)) (v := ?_) rfl (by kernel_rfl) (by kernel_rfl) (by kernel_rfl) (fun _ _ _ h => h) (Or.inl ⟨by rfl, ?_⟩) (by assumption) ?_
      rotate_left
      · (intro w hSw; (try dsimp only at hSw); go_simp; try with_reducible rfl)
      try simp only [Act.put, List.setIfInBounds_toArray, List.set_cons_zero, List.set_cons_succ]
      refine wpAnyH_take (i := 2) (oi := ({ dst := some 33, op := Op.move (Operand.tmp 10), type := 3, pos := "top.go:315", after := #[], guard := none } : Oper)) (v := ?_) rfl (by kernel_rfl) (by kernel_rfl) (by kernel_rfl) (fun _ _ _ h => h) (Or.inl ⟨by rfl, ?_⟩) (by assumption) ?_
      rotate_left
      · (intro w hSw; (try dsimp only at hSw); go_simp; try with_reducible rfl)
      try simp only [Act.put, List.setIfInBounds_toArray, List.set_cons_zero, List.set_cons_succ]
      refine wpAnyH_take (i := 3) (oi := ({ dst := some 34, op := Op.indexAddr 33 (Operand.tmp 32) (Operand.tmp 33), type := 0, pos := "top.go:315", after := #[{ on := 1, ground := Ground.data }, { on := 2, ground := Ground.data }], guard := none } : Oper)) (v := ?_) rfl (by kernel_rfl) (by kernel_rfl) (by kernel_rfl) (fun _ _ _ h => h) (Or.inl ⟨by rfl, ?_⟩) (by assumption) ?_
      rotate_left
      · (intro w hSw; (try dsimp only at hSw); go_simp; try with_reducible rfl)
      try simp only [Act.put, List.setIfInBounds_toArray, List.set_cons_zero, List.set_cons_succ]
      refine wpAnyH_take (i := 4) (oi := ({ dst := some 35, op := Op.fieldAddr 57 (Operand.tmp 34) 0, type := 0, pos := "top.go:315", after := #[{ on := 3, ground := Ground.data }], guard := none } : Oper)) (v := ?_) rfl (by kernel_rfl) (by kernel_rfl) (by kernel_rfl) (fun _ _ _ h => h) (Or.inl ⟨by rfl, ?_⟩) (by assumption) ?_
      rotate_left
      · (intro w hSw; (try dsimp only at hSw); go_simp; try with_reducible rfl)
      try simp only [Act.put, List.setIfInBounds_toArray, List.set_cons_zero, List.set_cons_succ]
      refine wpAnyH_take (i := 5) (oi := ({ dst := some 36, op := Op.load 3 (Operand.tmp 35), type := 3, pos := "top.go:315", after := #[{ on := 4, ground := Ground.data }], guard := none } : Oper)) (v := ?_) rfl (by kernel_rfl) (by kernel_rfl) (by kernel_rfl) (fun _ _ _ h => h) (Or.inl ⟨by rfl, ?_⟩) (by assumption) ?_
      rotate_left
      · (intro w hSw; (try dsimp only at hSw); go_simp; try with_reducible rfl)
      try simp only [Act.put, List.setIfInBounds_toArray, List.set_cons_zero, List.set_cons_succ]
      refine wpAnyH_take (i := 6) (oi := ({ dst := some 37, op := Op.move (Operand.tmp 2), type := 33, pos := "top.go:315", after := #[], guard := none } : Oper)) (v := ?_) rfl (by kernel_rfl) (by kernel_rfl) (by kernel_rfl) (fun _ _ _ h => h) (Or.inl ⟨by rfl, ?_⟩) (by assumption) ?_
      rotate_left
      · (intro w hSw; (try dsimp only at hSw); go_simp; try with_reducible rfl)
      try simp only [Act.put, List.setIfInBounds_toArray, List.set_cons_zero, List.set_cons_succ]
      refine wpAnyH_take (i := 7) (oi := ({ dst := some 38, op := Op.move (Operand.tmp 10), type := 3, pos := "top.go:315", after := #[], guard := none } : Oper)) (v := ?_) rfl (by kernel_rfl) (by kernel_rfl) (by kernel_rfl) (fun _ _ _ h => h) (Or.inl ⟨by rfl, ?_⟩) (by assumption) ?_
      rotate_left
      · (intro w hSw; (try dsimp only at hSw); go_simp; try with_reducible rfl)
      try simp only [Act.put, List.setIfInBounds_toArray, List.set_cons_zero, List.set_cons_succ]
      refine wpAnyH_take (i := 8) (oi := ({ dst := some 39, op := Op.indexAddr 33 (Operand.tmp 37) (Operand.tmp 38), type := 0, pos := "top.go:315", after := #[{ on := 6, ground := Ground.data }, { on := 7, ground := Ground.data }], guard := none } : Oper)) (v := ?_) rfl (by kernel_rfl) (by kernel_rfl) (by kernel_rfl) (fun _ _ _ h => h) (Or.inl ⟨by rfl, ?_⟩) (by assumption) ?_
      rotate_left
      · (intro w hSw; (try dsimp only at hSw); go_simp; try with_reducible rfl)
      try simp only [Act.put, List.setIfInBounds_toArray, List.set_cons_zero, List.set_cons_succ]
      refine wpAnyH_take (i := 9) (oi := ({ dst := some 40, op := Op.fieldAddr 57 (Operand.tmp 39) 1, type := 0, pos := "top.go:315", after := #[{ on := 8, ground := Ground.data }], guard := none } : Oper)) (v := ?_) rfl (by kernel_rfl) (by kernel_rfl) (by kernel_rfl) (fun _ _ _ h => h) (Or.inl ⟨by rfl, ?_⟩) (by assumption) ?_
      rotate_left
      · (intro w hSw; (try dsimp only at hSw); go_simp; try with_reducible rfl)
      try simp only [Act.put, List.setIfInBounds_toArray, List.set_cons_zero, List.set_cons_succ]
      refine wpAnyH_take (i := 10) (oi := ({ dst := some 41, op := Op.load 3 (Operand.tmp 40), type := 3, pos := "top.go:315", after := #[{ on := 9, ground := Ground.data }], guard := none } : Oper)) (v := ?_) rfl (by kernel_rfl) (by kernel_rfl) (by kernel_rfl) (fun _ _ _ h => h) (Or.inl ⟨by rfl, ?_⟩) (by assumption) ?_
      rotate_left
      · (intro w hSw; (try dsimp only at hSw); go_simp; try with_reducible rfl)
      try simp only [Act.put, List.setIfInBounds_toArray, List.set_cons_zero, List.set_cons_succ]
      refine wpAnyH_take (i := 11) (oi := ({ dst := some 42, op := Op.build 37 #[(0, Operand.const (Value.int IntKind.i64 10)), (2, Operand.tmp 36), (3, Operand.tmp 41)], type := 37, pos := "top.go:315", after := #[{ on := 5, ground := Ground.data }, { on := 10, ground := Ground.data }], guard := none } : Oper)) (v := ?_) rfl (by kernel_rfl) (by kernel_rfl) (by kernel_rfl) (fun _ _ _ h => h) (Or.inl ⟨by rfl, ?_⟩) (by assumption) ?_
      rotate_left
      · (intro w hSw; (try dsimp only at hSw); go_simp; try with_reducible rfl)
      try simp only [Act.put, List.setIfInBounds_toArray, List.set_cons_zero, List.set_cons_succ]
      refine wpAnyH_ready (rs := [12]) (by kernel_rfl) (by simp) ?_
      refine AllReadyH.cons (o := ({ dst := some 43, op := Op.buildSlice 22 1 #[(0, Operand.tmp 42)], type := 22, pos := "top.go:315", after := #[{ on := 11, ground := Ground.data }], guard := none } : Oper)) rfl (fun K_ hK => ?_) AllReadyH.nil
      go_simp
      refine hK.out _ _ ?_ (fun hHeld => ?_)
      · exact KEEP.out _ hblit
      clear hK K_
      try simp only [Act.put, List.setIfInBounds_toArray, List.set_cons_zero, List.set_cons_succ]
      refine wpAnyH_ready (rs := [13]) (by kernel_rfl) (by simp) ?_
      refine AllReadyH.cons (o := ({ dst := some 44, op := Op.call { callee := Callee.builtin Builtin.append, args := #[Operand.tmp 31, Operand.tmp 43], argTypes := #[22, 22] }, type := 22, pos := "top.go:315", after := #[{ on := 0, ground := Ground.data }, { on := 12, ground := Ground.data }], guard := none } : Oper)) rfl (fun K_ hK => ?_) AllReadyH.nil
      refine ready_app rfl (.tmp 31) (.tmp 43) 22 rfl _ _ _ ?d1 ?d2 HR5.out ?_
      case d1 => rfl
      case d2 => rfl
      refine hK.out _ _ ?_ (fun hHeld => ?_)
      · exact KEEP.out _ hbb5
      clear hK K_
      try simp only [Act.put, List.setIfInBounds_toArray, List.set_cons_zero, List.set_cons_succ]
      refine wpAnyH_take (i := 14) (oi := ({ dst := some 8, op := Op.assign (Operand.tmp 44), type := 22, pos := "top.go:315", after := #[{ on := 13, ground := Ground.data }, { on := 13, ground := Ground.chain }, { on := 0, ground := Ground.phase }, { on := 1, ground := Ground.phase }, { on := 2, ground := Ground.phase }, { on := 3, ground := Ground.phase }, { on := 4, ground := Ground.phase }, { on := 5, ground := Ground.phase }, { on := 6, ground := Ground.phase }, { on := 7, ground := Ground.phase }, { on := 8, ground := Ground.phase }, { on := 9, ground := Ground.phase }, { on := 10, ground := Ground.phase }, { on := 11, ground := Ground.phase }, { on := 12, ground := Ground.phase }, { on := 13, ground := Ground.phase }], guard := none } : Oper)) (v := ?_) rfl (by kernel_rfl) (by kernel_rfl) (by kernel_rfl) (fun _ _ _ h => h) (Or.inl ⟨by rfl, ?_⟩) (by assumption) ?_
      rotate_left
      · (intro w hSw; (try dsimp only at hSw); go_simp; try with_reducible rfl)
      try simp only [Act.put, List.setIfInBounds_toArray, List.set_cons_zero, List.set_cons_succ]
      refine wpAnyH_done (by kernel_rfl) ?_ _

      go_wp2_with fail
      go_roundw
      case rel => exact ⟨k + 1, _, by omega, by go_num, rfl, HL6, HP6, hb6⟩
      case measure => simp [intOf]; omega
    · obtain rfl : n = k := by omega
      have hki : ¬ (n : Int) < (n : Int) := by omega
      have htk : bl.take n = bl := List.take_of_length_le (by rw [HN.out]; omega)
      obtain ⟨qv, hrow, _, _⟩ := id HL.out
      have hne : some pb ≠ vl.ownBlock := row_ne HP.out hrow (by decide)
      have hl := HL.out
      have hp := HP.out
      rw [htk] at hl hp
      obtain ⟨⟨lv, la⟩, HLA⟩ : ∃ p, Hid (lastB bl (0, 0) = p) := ⟨_, (rfl : _ = _)⟩
      rw [HLA.out] at hp
      have hlim : ([hdQ W H] ++ bksQ bl).length ≤ 21 := by simp [bksQ_len, HN.out]; omega
      obtain ⟨v5, w5, hr5, A5⟩ := sh_app_lit hl hbr [wtQ 1, enQ] (by intro q hq; simp at hq; rcases hq with rfl | rfl <;> rfl) (by simp at hlim ⊢; omega)
      have HR5 := hid_of2 hr5
      have hbb5 := A5.bel
      have HP5 := hid_of2 ((own_on2 hp (alloc_bel (wr) (.cells (qrCells (litQ [wtQ 1, enQ])).toArray 37))).kept A5.grown (.inr hne))
      obtain ⟨QS, HQS⟩ : ∃ QS, Hid ([hdQ W H] ++ bksQ bl ++ [wtQ 1, enQ] = QS) := ⟨_, (rfl : _ = _)⟩
      have a5 := A5.row
      rw [HQS.out] at a5
      have HQ5 : Hid (RdQ w5 v5 QS) := a5.rd hbb5
      have HS5 : Hid (Shapes w5) := HS.out.on h1 hbb5
      have h15 := Nat.lt_of_lt_of_le h1 hbb5.size
      clear A5 a5 hr5 hrow hne hl hp HL HP hbr htk
      go_wp2_with (at_builtin; first | (refine Lib.wpList_append_run _ rfl _ _ _ _ rfl _ _ rfl rfl _ _ HR5.out ?_))
      refine (may_any _ QS _ HS5 h15 HQ5).mono ?_
      rintro e w6 ⟨bm6, rfl, hm6, hb6⟩
      have hbb6 := hbb5.trans (hb6.mono hbb5.size)
      have HQ6 : Hid (RdQ w6 v5 QS) := HQ5.out.on hb6
      have HS6 : Hid (Shapes w6) := HS.out.on h1 hbb6
      have h16 := Nat.lt_of_lt_of_le h1 hbb6.size
      have HP6 : Hid (World.ownsRow w6 w.heap.size 57 2 (.slice (some ⟨pb, 0, none⟩) 1 1) 1 [.int .i64 lv, .int .i64 la]) := own_on2 HP5.out hb6
      clear hb6 HQ5 HS5 h15 HR5 hbb5 HP5
      cases bm6 with
      | false =>
        go_wp2_with fail
        go_ret
        exact ⟨rfl, hbb6⟩
      | true =>
        have HMY := hid_of2 (hm6 rfl)
        clear hm6
        have HBK : Hid (Book QS) := book_of HMY.out.ok
        have h0 : 0 < QS.length := by have := HBK.out.two; omega
        have hq0 : QS.getD 0 pq0 = hdQ W H := by rw [← HQS.out]; rfl
        have hopk := op_head _ (HBK.out.ok 0 h0) ((HBK.out.head 0 h0).2 rfl)
        rw [hq0] at hopk
        obtain ⟨⟨hw1, hw2⟩, hh1, hh2⟩ : (1 ≤ W ∧ W ≤ 8) ∧ 1 ≤ H ∧ H ≤ 8 := hopk
        obtain ⟨X, rfl⟩ : ∃ t : Nat, W = (t : Int) := ⟨_, (Int.toNat_of_nonneg (by omega)).symm⟩
        obtain ⟨Y, rfl⟩ : ∃ t : Nat, H = (t : Int) := ⟨_, (Int.toNat_of_nonneg (by omega)).symm⟩
        obtain ⟨p, hp⟩ : ∃ p, X * Y = p := ⟨_, rfl⟩
        have hp64 : p ≤ 64 := by
          have := Nat.mul_le_mul (show X ≤ 8 by omega) (show Y ≤ 8 by omega)
          omega
        have hxy : (X : Int) * (Y : Int) = (p : Int) := by rw [← hp]; simp
        have hpl : playR QS 400 = .inl [⟨X, Y, List.replicate p (lv, la), 1⟩] := by
          rw [playR_ok HMY.out.ok, show (min (400 : Int) 400).toNat = 400 from rfl,
            play_straight QS (hdQ X Y :: (bl.map (fun p => bkQ p.1 p.2) ++ [wtQ 1])) enQ (by rw [← HQS.out]; simp [bksQ]) rfl (by
              intro q hq
              rcases List.mem_cons.1 hq with rfl | hq
              · exact ⟨by simp, by simp, by simp⟩
              · rcases List.mem_append.1 hq with hq | hq
                · exact bksQ_plain bl q hq
                · simp at hq; subst hq; exact ⟨by simp, by simp, by simp⟩) 400 (by simp; have := HN.out; omega), hq0, told_back]
          simp only [HLA.out, Int.toNat_natCast, hp]
        go_wp2_with fail
        refine (mplay_any _ QS 400 _ HS6 h16 HQ6 HMY.out.ps HMY.out.len (by omega)).mono ?_
        intro e w7 hp7
        obtain ⟨hb7, fa7, fn7, fk7, c7, fs7, rfl, hr7, ho7⟩ := play_out hp7
        have hbb7 := hbb6.trans (hb7.mono hbb6.size)
        have HPO7 := hid_of2 ho7
        have HF7 := hid_of2 hr7
        have HP7 : Hid (World.ownsRow w7 w.heap.size 57 2 (.slice (some ⟨pb, 0, none⟩) 1 1) 1 [.int .i64 lv, .int .i64 la]) := own_on2 HP6.out hb7
        rw [hpl] at ho7
        clear hp7 hb7 HQ6 HS6 h16 hbb6 HPO7
        rcases ho7 with ⟨rfl, he⟩ | ⟨_, he, _⟩
        case inr => cases he
        obtain rfl := (Sum.inl.inj he)
        obtain ⟨_, _, hv, _⟩ := HF7.out.shape
        simp only [Value.slice.injEq, List.length_singleton] at hv
        obtain ⟨rfl, rfl, rfl⟩ := hv
        obtain ⟨g, o, ua, m, uc, rfl, hg, f0, f1, f2, f3, HU, HM⟩ := HF7.out.at (k := 0) (by omega) (rfl : Hid (_ = _))
        simp only [List.getD_cons_zero, List.length_replicate] at f0 f1 f2 f3 HU HM
        rw [Nat.zero_mul, Nat.add_zero] at f0 f1 f2 f3
        obtain rfl := HM.out
        obtain ⟨va, vc, hvu, _, _, hpc⟩ := HU.out
        simp only [Value.slice.injEq, List.length_replicate] at hvu
        obtain ⟨rfl, -, rfl⟩ := hvu
        have HPC := hid_of2 hpc
        clear hpc HF7 he HU hpl HM
        rw [show errV 0 = Value.nilIface from rfl]
        go_wp2_with fail
        clear f0 f1 f3
        go_loopw [13] (fun vv wr => ∃ k : Nat, k ≤ p ∧ vv = .int .i64 (k : Int) ∧ Hid (Below w7.heap.size w7 wr)) (fun vv _ => p - (intOf vv).toNat)
        case atStart => exact ⟨0, by omega, rfl, Below.refl _ _⟩
        case round =>
          obtain ⟨k, hk, rfl, HBk⟩ := hrel
          by_cases hk2 : k < p
          · have hki : (k : Int) < (p : Int) := by omega
            have hki0 : (0 : Int) ≤ (k : Int) := by omega
            obtain ⟨pg, po, rfl, hpg, hpx⟩ := HPC.out (by intro e; have := congrArg List.length e; simp at this; omega)
            obtain ⟨q0, q1⟩ := hpx k (by simpa using hk2)
            have hgd : (List.replicate p (lv, la)).getD k (0, 0) = (lv, la) := by
              rw [List.getD_eq_getElem?_getD, List.getElem?_replicate, if_pos hk2]; rfl
            rw [hgd] at q0 q1
            simp only at q0 q1
            have r0 : wr.cell? ⟨pg, po + k * 2, none⟩ = some (.int .i64 lv) := by rw [HBk.out.cell (p := ⟨pg, po + k * 2, none⟩) hpg]; exact q0
            have r1 : wr.cell? ⟨pg, po + k * 2 + 1, none⟩ = some (.int .i64 la) := by rw [HBk.out.cell (p := ⟨pg, po + k * 2 + 1, none⟩) hpg]; exact q1
            have r2 : wr.cell? ⟨g, o + 2, none⟩ = some (.slice (some ⟨pg, po, none⟩) p uc) := by rw [HBk.out.cell (p := ⟨g, o + 2, none⟩) hg]; exact f2
            have hpr := own_on2 HP7.out HBk.out
            have y0 := hpr.cellAt 0 (by omega)
            have y1 := hpr.cellAt 1 (by omega)
            simp only [List.getElem?_cons_zero, List.getElem?_cons_succ] at y0 y1
            have heq := fun X => eq_pix X lv la
            clear q0 q1 hgd hpx hpr f2
            go_wp2_with fail
            go_quiet (fail)
            go_wp2_with fail
            go_roundw
            case rel => exact ⟨k + 1, by omega, by go_num, below_drewN HBk.out _⟩
            case measure => simp [intOf]; omega
          · have hki : ¬ (k : Int) < (p : Int) := by omega
            go_wp2_with fail
            go_ret
            exact ⟨rfl, hbb7.trans (HBk.out.mono hbb7.size)⟩
end Go.Proofs.YtbdgcomjhblnfaaDoor
