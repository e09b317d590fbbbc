/- reel.Trim walked. -/
import Derived.Test.YtnjnelfmfijgjadTrimA
import Derived.StillTailTactics
namespace Go.Proofs.Ytnjnelfmfijgjad
open Go.RowKit

theorem hide_rd {w : World} {v : Value} {ps : List (Int × Int)} (h : RdP w v ps) : Hid (RdP w v ps) := h

theorem hide_ofr {w : World} {B : Nat} {v : Value} {qs : List (Pf × Value)} (h : OwnFr w B v qs) : Hid (OwnFr w B v qs) := h
theorem mem_le_len : ∀ a : List Pf, (∀ f ∈ a, 0 ≤ f.d) → ∀ f ∈ a, f.d ≤ lenF a
  | [], _, f, hf => by simp at hf
  | g :: r, h, f, hf => by
    have h1 := h g (by simp)
    have h2 := lenF_nonneg r (fun x hx => h x (by simp [hx]))
    simp only [lenF]
    rcases List.mem_cons.1 hf with rfl | hf
    · omega
    · have := mem_le_len r (fun x hx => h x (by simp [hx])) f hf
      omega

set_option maxHeartbeats 2000000 in
set_option maxRecDepth 100000 in
theorem trimG_any (v : Value) (fs : List Pf) (w : World) (HR : Hid (RdF w v fs)) (HG : Hid (GoodF fs)) :
    Calls Try.prog 12 #[v] w fun e w' => ∃ v' qs, e = .returned v' ∧ OwnFr w' w.heap.size v' qs ∧ qs.map Prod.fst = trimC fs ∧ Below w.heap.size w w' := by
  obtain ⟨i0, hi, hz0, hz1, hz2⟩ := info_parts Try.infoFr
  obtain ⟨a, cap, hv, hl, hm⟩ := HR.out.shape
  obtain ⟨n, HN⟩ : ∃ n, Hid (fs.length = n) := ⟨_, (rfl : _ = _)⟩
  rw [HN.out] at hv hl
  have hn : n ≤ 1000 := by rw [← HN.out]; exact HG.out.many
  subst hv
  have hbz : Below w.heap.size w w := Below.refl _ _
  go_enter Try.func12, Try.ntmps12
  go_wp2_with fail
  go_loopw [3, 9] (fun o i wr => ∃ (k : Nat) (qs : List (Pf × Value)), k ≤ n ∧ i = .int .i64 k ∧ Hid (OwnFr wr w.heap.size o qs) ∧ Hid (qs.map Prod.fst = trimC (fs.take k)) ∧ Below w.heap.size w wr) (fun _ i _ => n - (intOf i).toNat)
  case atStart => exact ⟨0, [], by omega, rfl, ⟨World.ownsRow_nil _ _ _ _, by simp⟩, (rfl : _ = _), hbz⟩
  case round =>
    obtain ⟨k, qs, hk, rfl, HO, HQ, hbr⟩ := hrel
    rename_i o _
    obtain ⟨oa, oc, ho⟩ := own_any HO.out.1
    by_cases hlt : k < n
    · have hlt' : k < fs.length := by rw [HN.out]; exact hlt
      obtain ⟨f, HF⟩ : ∃ f, Hid (fs.getD k pf0 = f) := ⟨_, (rfl : _ = _)⟩
      have hfd : 0 ≤ f.d := by rw [← HF.out]; exact HG.out.low _ (getD_mem hlt')
      have hfp : f.ps.length ≤ 80 := by rw [← HF.out]; exact HG.out.pix _ (getD_mem hlt')
      obtain ⟨g, p, ua, q, uc, rfl, hg, c0, c1, c2, c3, HU, HM⟩ := (HR.out.on hbr).at hlt HF
      have HT : Hid (trimC (fs.take (k + 1)) = trimStep (qs.map Prod.fst) f) := by unfold Hid; rw [trimC_next hlt', HF.out, HQ.out]
      obtain ⟨m, HLQ⟩ : ∃ m, Hid (qs.length = m) := ⟨_, (rfl : _ = _)⟩
      have hm1 : m ≤ 1000 := by
        have h1 := (trim_small fs (fun _ => True) (fun _ _ => trivial) k (by omega)).1
        rw [← HQ.out, List.length_map, HLQ.out] at h1
        omega
      rw [HLQ.out] at ho
      subst ho
      obtain ⟨fW, fH, fp, fd⟩ := f
      simp only at c0 c1 c2 c3 hfd hfp HU HM
      clear hlt'
      by_cases hd : fd = 0
      · subst hd
        have HQ2 : Hid (qs.map Prod.fst = trimC (fs.take (k + 1))) := by unfold Hid; rw [HT.out]; simp [trimStep]
        go_wp2_with fail
        go_roundw
        case rel => exact ⟨k + 1, qs, by omega, by go_num, HO.out.on ((Below.refl _ _).alloc (Nat.le_refl _) _), HQ2, hbr.alloc hbr.size _⟩
        case measure => simp [intOf]; omega
      · obtain ⟨ob, HOB⟩ : ∃ ob, Hid (Obj.cells #[.int .i64 fW, .int .i64 fH, .slice ua q uc, .int .i64 fd] 28 = ob) := ⟨_, (rfl : _ = _)⟩
        have b0 : (wr.alloc (Obj.cells #[.int .i64 fW, .int .i64 fH, .slice ua q uc, .int .i64 fd] 28)).cell? ⟨wr.heap.size, 0, none⟩ = some (.int .i64 fW) := by simp
        have b1 : (wr.alloc (Obj.cells #[.int .i64 fW, .int .i64 fH, .slice ua q uc, .int .i64 fd] 28)).cell? ⟨wr.heap.size, 1, none⟩ = some (.int .i64 fH) := by simp
        have b2 : (wr.alloc (Obj.cells #[.int .i64 fW, .int .i64 fH, .slice ua q uc, .int .i64 fd] 28)).cell? ⟨wr.heap.size, 2, none⟩ = some (.slice ua q uc) := by simp
        have b3 : (wr.alloc (Obj.cells #[.int .i64 fW, .int .i64 fH, .slice ua q uc, .int .i64 fd] 28)).cell? ⟨wr.heap.size, 3, none⟩ = some (.int .i64 fd) := by simp
        have hsz : wr.heap.size < (wr.alloc (Obj.cells #[.int .i64 fW, .int .i64 fH, .slice ua q uc, .int .i64 fd] 28)).heap.size := by simp
        have hbX : Below w.heap.size w (wr.alloc (Obj.cells #[.int .i64 fW, .int .i64 fH, .slice ua q uc, .int .i64 fd] 28)) := hbr.alloc hbr.size _
        have hbx0 : Below wr.heap.size wr (wr.alloc (Obj.cells #[.int .i64 fW, .int .i64 fH, .slice ua q uc, .int .i64 fd] 28)) := (Below.refl _ _).alloc (Nat.le_refl _) _
        have HOX : Hid (OwnFr (wr.alloc (Obj.cells #[.int .i64 fW, .int .i64 fH, .slice ua q uc, .int .i64 fd] 28)) w.heap.size (.slice oa m oc) qs) := HO.out.on hbx0
        have HUX : Hid (RdP (wr.alloc (Obj.cells #[.int .i64 fW, .int .i64 fH, .slice ua q uc, .int .i64 fd] 28)) (.slice ua q uc) fp) := HU.out.on hbx0
        have HBF : Hid (∀ x, (Value.slice oa m oc).ownBlock = some x → x < wr.heap.size) := fun x hx => (HO.out.1.lt x hx).2
        clear hbx0 HU HO
        cases m with
        | zero =>
          go_wp2_with fail
          generalize wr.alloc (Obj.cells #[.int .i64 fW, .int .i64 fH, .slice ua q uc, .int .i64 fd] 28) = X at *
          go_quiet (fail)
          go_wp2_with fail
          have hY := below_drewN hbX nq
          have HOY : Hid (OwnFr (X.drewN nq) w.heap.size (.slice oa 0 oc) qs) := HOX.out
          have HUY : Hid (RdP (X.drewN nq) (.slice ua q uc) fp) := HUX.out
          have y0 : (X.drewN nq).cell? ⟨wr.heap.size, 0, none⟩ = some (.int .i64 fW) := b0
          have y1 : (X.drewN nq).cell? ⟨wr.heap.size, 1, none⟩ = some (.int .i64 fH) := b1
          have y2 : (X.drewN nq).cell? ⟨wr.heap.size, 2, none⟩ = some (.slice ua q uc) := b2
          have y3 : (X.drewN nq).cell? ⟨wr.heap.size, 3, none⟩ = some (.int .i64 fd) := b3
          have hyz : wr.heap.size < (X.drewN nq).heap.size := hsz
          have HQ2 : Hid (∀ u, (qs ++ [((⟨fW, fH, fp, fd⟩ : Pf), u)]).map Prod.fst = trimC (fs.take (k + 1))) := by
            intro u
            have hq : qs = [] := List.length_eq_zero_iff.1 HLQ.out
            rw [HT.out, hq]
            simp [trimStep, hd]
          have hbY : Below w.heap.size w (X.drewN nq) := hY
          clear hY HOX HUX b0 b1 b2 b3 hsz hbX c0 c1 c2 c3 HT
          generalize X.drewN nq = Y at *
          generalize wr.heap.size = bf at *
          have KEEP : Hid (∀ w', Below Y.drew.heap.size Y.drew w' → (fun w' => w'.cell? ⟨bf, 0, none⟩ = some (.int .i64 fW) ∧ w'.cell? ⟨bf, 1, none⟩ = some (.int .i64 fH) ∧ w'.cell? ⟨bf, 2, none⟩ = some (.slice ua q uc) ∧ w'.cell? ⟨bf, 3, none⟩ = some (.int .i64 fd)) w') := by
            intro w' h
            refine ⟨?_, ?_, ?_, ?_⟩
            · rw [h.cell (p := ⟨bf, 0, none⟩) hyz]; exact y0
            · rw [h.cell (p := ⟨bf, 1, none⟩) hyz]; exact y1
            · rw [h.cell (p := ⟨bf, 2, none⟩) hyz]; exact y2
            · rw [h.cell (p := ⟨bf, 3, none⟩) hyz]; exact y3
          have HUD : Hid (RdP Y.drew (.slice ua q uc) fp) := HUY.out
          have HOD : Hid (OwnFr Y.drew w.heap.size (.slice oa 0 oc) qs) := HOY.out
          have hbD : Below w.heap.size w Y.drew := hbY.drew
          have hfp2 : fp.length ≤ 100 := by omega
          clear HUY HOY hbY
          refine wp_region_held_drew (S := (fun w' => w'.cell? ⟨bf, 0, none⟩ = some (.int .i64 fW) ∧ w'.cell? ⟨bf, 1, none⟩ = some (.int .i64 fH) ∧ w'.cell? ⟨bf, 2, none⟩ = some (.slice ua q uc) ∧ w'.cell? ⟨bf, 3, none⟩ = some (.int .i64 fd))) (by kernel_rfl) ?_ (fun hHeld => ?_)
          · exact KEEP.out _ (Below.refl _ _)
          refine wpAnyH_take (i := 0) (oi := ({ dst := some 16, op := Op.move (Operand.tmp 3), type := 22, pos := "reel.go:52", after := #[], guard := none } : Oper)) (v := ?_) rfl (by kernel_rfl) (by kernel_rfl) (by kernel_rfl) (fun _ _ _ h => h) (Or.inl ⟨by rfl, ?_⟩) (by assumption) ?_
          rotate_left
          · (intro w hSw; (try dsimp only at hSw); go_simp; try with_reducible rfl)
          simp only [Act.put, List.setIfInBounds_toArray, List.set_cons_zero, List.set_cons_succ]
          refine wpAnyH_take (i := 1) (oi := ({ dst := some 17, op := Op.fieldAddr 28 (Operand.tmp 5) 0, type := 0, pos := "reel.go:52", after := #[], guard := none } : Oper)) (v := ?_) rfl (by kernel_rfl) (by kernel_rfl) (by kernel_rfl) (fun _ _ _ h => h) (Or.inl ⟨by rfl, ?_⟩) (by assumption) ?_
          rotate_left
          · (intro w hSw; (try dsimp only at hSw); go_simp; try with_reducible rfl)
          simp only [Act.put, List.setIfInBounds_toArray, List.set_cons_zero, List.set_cons_succ]
          refine wpAnyH_take (i := 2) (oi := ({ dst := some 18, op := Op.load 26 (Operand.tmp 17), type := 26, pos := "reel.go:52", after := #[{ on := 1, ground := Ground.data }], guard := none } : Oper)) (v := ?_) rfl (by kernel_rfl) (by kernel_rfl) (by kernel_rfl) (fun _ _ _ h => h) (Or.inl ⟨by rfl, ?_⟩) (by assumption) ?_
          rotate_left
          · (intro w hSw; (try dsimp only at hSw); go_simp; try with_reducible rfl)
          simp only [Act.put, List.setIfInBounds_toArray, List.set_cons_zero, List.set_cons_succ]
          refine wpAnyH_take (i := 4) (oi := ({ dst := some 20, op := Op.fieldAddr 28 (Operand.tmp 5) 1, type := 0, pos := "reel.go:52", after := #[], guard := none } : Oper)) (v := ?_) rfl (by kernel_rfl) (by kernel_rfl) (by kernel_rfl) (fun _ _ _ h => h) (Or.inl ⟨by rfl, ?_⟩) (by assumption) ?_
          rotate_left
          · (intro w hSw; (try dsimp only at hSw); go_simp; try with_reducible rfl)
          simp only [Act.put, List.setIfInBounds_toArray, List.set_cons_zero, List.set_cons_succ]
          refine wpAnyH_take (i := 5) (oi := ({ dst := some 21, op := Op.load 3 (Operand.tmp 20), type := 3, pos := "reel.go:52", after := #[{ on := 4, ground := Ground.data }], guard := none } : Oper)) (v := ?_) rfl (by kernel_rfl) (by kernel_rfl) (by kernel_rfl) (fun _ _ _ h => h) (Or.inl ⟨by rfl, ?_⟩) (by assumption) ?_
          rotate_left
          · (intro w hSw; (try dsimp only at hSw); go_simp; try with_reducible rfl)
          simp only [Act.put, List.setIfInBounds_toArray, List.set_cons_zero, List.set_cons_succ]
          refine wpAnyH_ready (rs := [3]) (by kernel_rfl) (by simp) ?_
          refine AllReadyH.cons (o := ({ dst := some 19, op := Op.call { callee := Callee.value (Operand.func 16), args := #[Operand.tmp 18], argTypes := #[26] }, type := 26, pos := "reel.go:52", after := #[{ on := 2, ground := Ground.data }], guard := none } : Oper)) rfl (fun K_ hK => ?_) AllReadyH.nil
          go_simp
          refine (pown_any fW fH (.slice ua q uc) fp Y.drew hfp2 HUD).mono ?_
          rintro e w1 ⟨u', rfl, hu, hb1⟩
          have HU1 : Hid (w1.ownsRow w.heap.size 38 2 u' fp.length (pixCells fp)) := own_mono hu (by have := hbD.size; omega)
          obtain ⟨va, vc, hu'⟩ := own_any HU1.out
          rw [HM.out] at hu'
          subst hu'
          have HO1 : Hid (OwnFr w1 w.heap.size (.slice oa 0 oc) qs) := HOD.out.on hb1
          have hbw1 : Below w.heap.size w w1 := hbD.trans (hb1.mono hbD.size)
          have HB1 : Hid (Below Y.drew.heap.size Y.drew w1) := hb1
          clear hu hb1 HOD HUD
          refine hK.out _ _ ?_ (fun hHeld => ?_)
          · exact KEEP.out _ HB1.out
          clear hK K_
          try simp only [Act.put, List.setIfInBounds_toArray, List.set_cons_zero, List.set_cons_succ]
          refine wpAnyH_take (i := 6) (oi := ({ dst := some 22, op := Op.build 28 #[(0, Operand.tmp 19), (1, Operand.tmp 21)], type := 28, pos := "reel.go:52", after := #[{ on := 3, ground := Ground.data }, { on := 5, ground := Ground.data }], guard := none } : Oper)) (v := ?_) rfl (by kernel_rfl) (by kernel_rfl) (by kernel_rfl) (fun _ _ _ h => h) (Or.inl ⟨by rfl, ?_⟩) (by assumption) ?_
          rotate_left
          · (intro w hSw; (try dsimp only at hSw); go_simp; try with_reducible rfl)
          simp only [Act.put, List.setIfInBounds_toArray, List.set_cons_zero, List.set_cons_succ]
          refine wpAnyH_ready (rs := [7]) (by kernel_rfl) (by simp) ?_
          refine AllReadyH.cons (o := ({ dst := some 23, op := Op.buildSlice 22 1 #[(0, Operand.tmp 22)], type := 22, pos := "reel.go:52", after := #[{ on := 6, ground := Ground.data }], guard := none } : Oper)) rfl (fun K_ hK => ?_) AllReadyH.nil
          go_simp
          have HB2 : Hid (Below Y.drew.heap.size Y.drew (w1.alloc (.cells #[.int .i64 fW, .int .i64 fH, .slice va q vc, .int .i64 fd] 28))) := HB1.out.alloc HB1.out.size _
          have hbx2 : Below w1.heap.size w1 (w1.alloc (.cells #[.int .i64 fW, .int .i64 fH, .slice va q vc, .int .i64 fd] 28)) := (Below.refl _ _).alloc (Nat.le_refl _) _
          have HO2 : Hid (OwnFr (w1.alloc (.cells #[.int .i64 fW, .int .i64 fH, .slice va q vc, .int .i64 fd] 28)) w.heap.size (.slice oa 0 oc) qs) := HO1.out.on hbx2
          have HU2 : Hid ((w1.alloc (.cells #[.int .i64 fW, .int .i64 fH, .slice va q vc, .int .i64 fd] 28)).ownsRow w.heap.size 38 2 (.slice va q vc) fp.length (pixCells fp)) := own_on2 HU1.out hbx2
          have hbw2 : Below w.heap.size w (w1.alloc (.cells #[.int .i64 fW, .int .i64 fH, .slice va q vc, .int .i64 fd] 28)) := hbw1.alloc hbw1.size _
          have g0 : ∀ j u, [Value.int .i64 fW, .int .i64 fH, .slice va q vc, .int .i64 fd][j]? = some u → (w1.alloc (.cells #[.int .i64 fW, .int .i64 fH, .slice va q vc, .int .i64 fd] 28)).cell? ((⟨w1.heap.size, 0, none⟩ : Addr).add j) = some u := by
            intro j u hj
            match j, hj with
            | 0, hj => simp at hj; subst hj; simp [Addr.add]
            | 1, hj => simp at hj; subst hj; simp [Addr.add]
            | 2, hj => simp at hj; subst hj; simp [Addr.add]
            | 3, hj => simp at hj; subst hj; simp [Addr.add]
            | j + 4, hj => simp at hj
          clear hbx2 HO1 HU1
          refine hK.out _ _ ?_ (fun hHeld => ?_)
          · exact KEEP.out _ HB2.out
          clear hK K_
          try simp only [Act.put, List.setIfInBounds_toArray, List.set_cons_zero, List.set_cons_succ]
          refine wpAnyH_ready (rs := [8]) (by kernel_rfl) (by simp) ?_
          refine AllReadyH.cons (o := ({ dst := some 24, op := Op.call { callee := Callee.builtin Builtin.append, args := #[Operand.tmp 16, Operand.tmp 23], argTypes := #[22, 22] }, type := 22, pos := "reel.go:52", after := #[{ on := 0, ground := Ground.data }, { on := 7, ground := Ground.data }, { on := 3, ground := Ground.chain }], guard := none } : Oper)) rfl (fun K_ hK => ?_) AllReadyH.nil
          obtain ⟨v', w3, hr, h1, h2, h3⟩ := run_append_own (P := Try.prog) (w1.alloc (.cells #[.int .i64 fW, .int .i64 fH, .slice va q vc, .int .i64 fd] 28)) w.heap.size 22 22 28 i0 (.agg #[.int .i64 0, .int .i64 0, .slice none 0 0, .int .i64 0]) 4 48 Try.underlying22 hi hz0 hz1 hz2 rfl (by decide) _ _ _ HO2.out.1 ⟨w1.heap.size, 0, none⟩ 1 1 [.int .i64 fW, .int .i64 fH, .slice va q vc, .int .i64 fd] rfl g0 (by intro u hu; simp at hu; rcases hu with rfl | rfl | rfl | rfl <;> rfl) (by unfold maxLen; rw [HLQ.out]; omega) (by rw [HLQ.out]; omega) hbw2.size
          refine ready_app2 rfl _ _ _ rfl _ _ _ rfl rfl hr ?_
          have HO3 : Hid (OwnFr w3 w.heap.size v' (qs ++ [(⟨fW, fH, fp, fd⟩, .slice va q vc)])) := HO2.out.app (f := ⟨fW, fH, fp, fd⟩) HU2.out h1 h2
          have hb3 : Below w.heap.size w w3 := hbw2.grown h2 hbw2.size (fun x hx => (HO2.out.1.lt x hx).1)
          have hk := KEEP.out _ HB2.out
          have hne : some bf ≠ (Value.slice oa 0 oc).ownBlock := fun e => by have := HBF.out bf e.symm; omega
          have K3 := And.intro (h2.cell hk.1 hne) (And.intro (h2.cell hk.2.1 hne) (And.intro (h2.cell hk.2.2.1 hne) (h2.cell hk.2.2.2 hne)))
          clear h1 h2 h3 hr g0
          refine hK.out _ _ ?_ (fun hHeld => ?_)
          · exact K3
          clear hK K_ K3 hk hne
          try simp only [Act.put, List.setIfInBounds_toArray, List.set_cons_zero, List.set_cons_succ]
          refine wpAnyH_take (i := 9) (oi := ({ dst := some 3, op := Op.assign (Operand.tmp 24), type := 22, pos := "reel.go:52", after := #[{ on := 8, ground := Ground.data }, { on := 8, ground := Ground.chain }, { on := 0, ground := Ground.phase }, { on := 1, ground := Ground.phase }, { on := 2, ground := Ground.phase }, { on := 3, ground := Ground.phase }, { on := 4, ground := Ground.phase }, { on := 5, ground := Ground.phase }, { on := 6, ground := Ground.phase }, { on := 7, ground := Ground.phase }, { on := 8, ground := Ground.phase }], guard := none } : Oper)) (v := ?_) rfl (by kernel_rfl) (by kernel_rfl) (by kernel_rfl) (fun _ _ _ h => h) (Or.inl ⟨by rfl, ?_⟩) (by assumption) ?_
          rotate_left
          · (intro w hSw; (try dsimp only at hSw); go_simp; try with_reducible rfl)
          simp only [Act.put, List.setIfInBounds_toArray, List.set_cons_zero, List.set_cons_succ]
          refine wpAnyH_done (by kernel_rfl) ?_ _
          go_wp2_with fail
          go_roundw
          case rel => exact ⟨k + 1, _, by omega, by go_num, HO3, HQ2.out _, hb3⟩
          case measure => simp [intOf]; omega
        | succ m =>
          obtain ⟨og, oc', ho1, ho2, _, _⟩ := own_shape HOX.out.1 (by rw [HLQ.out]; omega)
          simp only [Value.slice.injEq] at ho1
          obtain ⟨rfl, -, rfl⟩ := ho1
          have hmq : m < qs.length := by rw [HLQ.out]; omega
          obtain ⟨lq, HL⟩ : ∃ lq, Hid (qs.getD m q0 = lq) := ⟨_, (rfl : _ = _)⟩
          have hlmem : lq ∈ qs := by
            rw [← HL.out, List.getD_eq_getElem?_getD, List.getElem?_eq_getElem hmq]
            simp
          have hlp : lq.1.ps.length ≤ 80 := by
            have h1 := (trim_small fs (fun ps => ps.length ≤ 80) HG.out.pix k (by rw [HN.out]; exact hk)).2
            rw [← HQ.out] at h1
            exact h1 lq.1 (List.mem_map_of_mem hlmem)
          have HLF : Hid (lastF (qs.map Prod.fst) = lq.1) := by
            unfold Hid lastF
            rw [List.length_map, HLQ.out, ← HL.out]
            simp [List.getD_eq_getElem?_getD, List.getElem?_eq_getElem hmq]
          have HC := frCells_at qs m hmq
          rw [HL.out] at HC
          have HCA := fun x (hx : x < 4) => (HLQ.out ▸ HOX.out.1).cellAt (m * 4 + x) (by omega)
          have HFZ := (HLQ.out ▸ HOX.out.1 : World.ownsRow _ _ _ _ _ (m + 1) _).frozenAt (m * 4 + 3)
          have HRW := HOX.out.2 lq hlmem
          obtain ⟨⟨lW, lH, lp, ld⟩, lu⟩ := lq
          simp only at HC HRW hlp
          obtain ⟨la, lc, hlu⟩ := own_any HRW
          obtain ⟨ll, HLL⟩ : ∃ ll, Hid (lp.length = ll) := ⟨_, (rfl : _ = _)⟩
          rw [HLL.out] at hlu
          subst hlu
          have HRL := hide_rd (rdP_own HRW)
          have d0 := (HCA 0 (by omega)).trans HC.1
          have d1 := (HCA 1 (by omega)).trans HC.2.1
          have d2 := (HCA 2 (by omega)).trans HC.2.2.1
          have d3 := (HCA 3 (by omega)).trans HC.2.2.2
          rw [Nat.add_zero] at d0
          clear HCA HC HRW hlmem
          obtain ⟨b, HB⟩ : ∃ b, Hid (sameC lW lH lp fW fH fp = b) := ⟨_, (rfl : _ = _)⟩
          have hlp2 : lp.length ≤ 1000 := by omega
          have hfp3 : fp.length ≤ 1000 := by omega
          have hogl : og < wr.heap.size := HBF.out og rfl
          go_wp2_with fail
          generalize wr.alloc (Obj.cells #[.int .i64 fW, .int .i64 fH, .slice ua q uc, .int .i64 fd] 28) = X at *
          generalize wr.heap.size = bf at *
          have hogx : og < X.heap.size := by omega
          have HUD : Hid (RdP X.drew (.slice ua q uc) fp) := HUX.out
          have HRD : Hid (RdP X.drew (.slice la ll lc) lp) := HRL.out
          have KEEP0 : Hid (∀ w', Below X.drew.heap.size X.drew w' → (w'.cell? ⟨og, m * 4, none⟩ = some (.int .i64 lW) ∧ w'.cell? ⟨og, m * 4 + 1, none⟩ = some (.int .i64 lH) ∧ w'.cell? ⟨og, m * 4 + 2, none⟩ = some (.slice la ll lc) ∧ w'.cell? ⟨bf, 0, none⟩ = some (.int .i64 fW) ∧ w'.cell? ⟨bf, 1, none⟩ = some (.int .i64 fH) ∧ w'.cell? ⟨bf, 2, none⟩ = some (.slice ua q uc))) := by
            intro w' h
            refine ⟨?_, ?_, ?_, ?_, ?_, ?_⟩
            · rw [h.cell (p := ⟨og, m * 4, none⟩) hogx]; exact d0
            · rw [h.cell (p := ⟨og, m * 4 + 1, none⟩) hogx]; exact d1
            · rw [h.cell (p := ⟨og, m * 4 + 2, none⟩) hogx]; exact d2
            · rw [h.cell (p := ⟨bf, 0, none⟩) hsz]; exact b0
            · rw [h.cell (p := ⟨bf, 1, none⟩) hsz]; exact b1
            · rw [h.cell (p := ⟨bf, 2, none⟩) hsz]; exact b2
          have hgeq : decide ((m : Int) ≥ 0) = true := by simp
          have hmi0 : (0 : Int) ≤ (m : Int) := by omega
          have hmi1 : (m : Int) < (m : Int) + 1 := by omega
          have hmi2 : (m : Int) < ((m + 1 : Nat) : Int) := by omega
          have hmi3 : m < m + 1 := by omega
          go_region_held3 (fun w' => w'.cell? ⟨og, m * 4, none⟩ = some (.int .i64 lW) ∧ w'.cell? ⟨og, m * 4 + 1, none⟩ = some (.int .i64 lH) ∧ w'.cell? ⟨og, m * 4 + 2, none⟩ = some (.slice la ll lc) ∧ w'.cell? ⟨bf, 0, none⟩ = some (.int .i64 fW) ∧ w'.cell? ⟨bf, 1, none⟩ = some (.int .i64 fH) ∧ w'.cell? ⟨bf, 2, none⟩ = some (.slice ua q uc))
            (first | exact KEEP0.out _ hbx | exact KEEP0.out _ (Below.refl _ _) | fail)
            (first | (go_at_call 7; refine (same_any lW lH fW fH _ _ lp fp _ hlp2 hfp3 HRD HUD b HB).mono ?_; rintro e wx ⟨rfl, hbx⟩) | fail)
          have y0 : wx.cell? ⟨bf, 0, none⟩ = some (.int .i64 fW) := by rw [hbx.cell (p := ⟨bf, 0, none⟩) hsz]; exact b0
          have y1 : wx.cell? ⟨bf, 1, none⟩ = some (.int .i64 fH) := by rw [hbx.cell (p := ⟨bf, 1, none⟩) hsz]; exact b1
          have y2 : wx.cell? ⟨bf, 2, none⟩ = some (.slice ua q uc) := by rw [hbx.cell (p := ⟨bf, 2, none⟩) hsz]; exact b2
          have y3 : wx.cell? ⟨bf, 3, none⟩ = some (.int .i64 fd) := by rw [hbx.cell (p := ⟨bf, 3, none⟩) hsz]; exact b3
          have x3 : wx.cell? ⟨og, m * 4 + 3, none⟩ = some (.int .i64 ld) := by rw [hbx.cell (p := ⟨og, m * 4 + 3, none⟩) hogx]; exact d3
          have hyz : bf < wx.heap.size := Nat.lt_of_lt_of_le hsz hbx.size
          have HOY : Hid (OwnFr wx w.heap.size (.slice (some ⟨og, 0, none⟩) (m + 1) oc) qs) := (show OwnFr X.drew _ _ _ from HOX.out).on hbx
          have HUY : Hid (RdP wx (.slice ua q uc) fp) := (show RdP X.drew _ _ from HUX.out).on hbx
          have hbY : Below w.heap.size w wx := hbX.drew.trans (hbx.mono hbX.size)
          clear HOX HUX HUD HRD HRL KEEP0 d0 d1 d2 d3 b0 b1 b2 b3 c0 c1 c2 c3 hsz hogx hbX hbx
          cases b with
          | true =>
            have hlike : lW = fW ∧ lH = fH ∧ lp = fp := by
              apply Classical.byContradiction
              intro h
              have := same_no HB h
              cases this
            have HQ2 : Hid ((qs.set m (⟨lW, lH, lp, ld + fd⟩, .slice la ll lc)).map Prod.fst = trimC (fs.take (k + 1))) := by
              unfold Hid
              rw [HT.out]
              unfold trimStep
              rw [if_neg hd, if_pos ⟨by intro e; rw [List.map_eq_nil_iff] at e; rw [e] at hmq; simp at hmq, by rw [HLF.out]; exact hlike⟩, HLF.out, List.length_map, HLQ.out, List.map_set]
              rfl
            have hld : 0 ≤ ld ∧ ld ≤ 1000000 ∧ fd ≤ 1000000 := by
              have hI := trim_inv fs HG.out.low k (by rw [HN.out]; exact hk)
              have h1 : (⟨lW, lH, lp, ld⟩ : Pf) ∈ trimC (fs.take k) := by
                rw [← HQ.out]
                have : ((⟨lW, lH, lp, ld⟩ : Pf), Value.slice la ll lc) ∈ qs := by
                  rw [← HL.out, List.getD_eq_getElem?_getD, List.getElem?_eq_getElem hmq]
                  simp
                exact List.mem_map_of_mem (f := Prod.fst) this
              have h2 := hI.1.low _ h1
              have h3 := mem_le_len (trimC (fs.take k)) (fun g hg => by have := hI.1.low g hg; omega) _ h1
              have h4 : lenF (trimC (fs.take k)) = lenF (fs.take k) := trim_len _ (fun f hf => HG.out.low f (List.mem_of_mem_take hf))
              have h5 := lenF_take HG.out k
              have h6 := mem_le_len fs HG.out.low _ (getD_mem (fs := fs) (k := k) (by rw [HN.out]; exact hlt))
              rw [HF.out] at h6
              have h7 := HG.out.up
              simp only at h2 h3 h6
              omega
            obtain ⟨hld0, hld1, hfd1⟩ := hld
            have HOS := (HOY.out.set (j := m) hmq fd)
            rw [HL.out] at HOS
            simp only [Pf.more] at HOS
            have HOS2 := hide_ofr HOS
            have hfz := (HLQ.out ▸ HOY.out.1 : World.ownsRow _ _ _ _ _ (m + 1) _).frozenAt (m * 4 + 3)
            have hogw : w.heap.size ≤ og := (HOY.out.1.lt og rfl).1
            have hb9 : Below w.heap.size w (wx.setCell ⟨og, m * 4 + 3, none⟩ (.int .i64 (ld + fd))) := hbY.setCell hogw _
            clear hlike HT HOS HOY HUY
            go_wp2_with fail
            clear HQ HG HF HR HM HL HB HLF HLL HN HLQ hi hz0 hz1 hz2
            go_still_tail 10, (by kernel_rfl)
            go_wp2_with fail
            go_roundw
            case rel => exact ⟨k + 1, _, by omega, by go_num, HOS2, HQ2, hb9.drew⟩
            case measure => simp [intOf]; omega
          | false =>
            have HQ2 : Hid (∀ u, (qs ++ [((⟨fW, fH, fp, fd⟩ : Pf), u)]).map Prod.fst = trimC (fs.take (k + 1))) := by
              intro u
              rw [HT.out]
              unfold trimStep
              rw [if_neg hd, if_neg]
              · simp
              · rintro ⟨_, h⟩
                rw [HLF.out] at h
                have := same_yes HB h.1 h.2.1 h.2.2
                cases this
            clear HT
            go_wp2_with fail
            generalize wx = Y at *
            have KEEP : Hid (∀ w', Below Y.drew.heap.size Y.drew w' → (fun w' => w'.cell? ⟨bf, 0, none⟩ = some (.int .i64 fW) ∧ w'.cell? ⟨bf, 1, none⟩ = some (.int .i64 fH) ∧ w'.cell? ⟨bf, 2, none⟩ = some (.slice ua q uc) ∧ w'.cell? ⟨bf, 3, none⟩ = some (.int .i64 fd)) w') := by
              intro w' h
              refine ⟨?_, ?_, ?_, ?_⟩
              · rw [h.cell (p := ⟨bf, 0, none⟩) hyz]; exact y0
              · rw [h.cell (p := ⟨bf, 1, none⟩) hyz]; exact y1
              · rw [h.cell (p := ⟨bf, 2, none⟩) hyz]; exact y2
              · rw [h.cell (p := ⟨bf, 3, none⟩) hyz]; exact y3
            have HUD : Hid (RdP Y.drew (.slice ua q uc) fp) := HUY.out
            have HOD : Hid (OwnFr Y.drew w.heap.size (.slice (some ⟨og, 0, none⟩) (m + 1) oc) qs) := HOY.out
            have hbD : Below w.heap.size w Y.drew := hbY.drew
            have hfp2 : fp.length ≤ 100 := by omega
            clear HUY HOY hbY
            refine wp_region_held_drew (S := (fun w' => w'.cell? ⟨bf, 0, none⟩ = some (.int .i64 fW) ∧ w'.cell? ⟨bf, 1, none⟩ = some (.int .i64 fH) ∧ w'.cell? ⟨bf, 2, none⟩ = some (.slice ua q uc) ∧ w'.cell? ⟨bf, 3, none⟩ = some (.int .i64 fd))) (by kernel_rfl) ?_ (fun hHeld => ?_)
            · exact KEEP.out _ (Below.refl _ _)
            refine wpAnyH_take (i := 0) (oi := ({ dst := some 16, op := Op.move (Operand.tmp 3), type := 22, pos := "reel.go:52", after := #[], guard := none } : Oper)) (v := ?_) rfl (by kernel_rfl) (by kernel_rfl) (by kernel_rfl) (fun _ _ _ h => h) (Or.inl ⟨by rfl, ?_⟩) (by assumption) ?_
            rotate_left
            · (intro w hSw; (try dsimp only at hSw); go_simp; try with_reducible rfl)
            simp only [Act.put, List.setIfInBounds_toArray, List.set_cons_zero, List.set_cons_succ]
            refine wpAnyH_take (i := 1) (oi := ({ dst := some 17, op := Op.fieldAddr 28 (Operand.tmp 5) 0, type := 0, pos := "reel.go:52", after := #[], guard := none } : Oper)) (v := ?_) rfl (by kernel_rfl) (by kernel_rfl) (by kernel_rfl) (fun _ _ _ h => h) (Or.inl ⟨by rfl, ?_⟩) (by assumption) ?_
            rotate_left
            · (intro w hSw; (try dsimp only at hSw); go_simp; try with_reducible rfl)
            simp only [Act.put, List.setIfInBounds_toArray, List.set_cons_zero, List.set_cons_succ]
            refine wpAnyH_take (i := 2) (oi := ({ dst := some 18, op := Op.load 26 (Operand.tmp 17), type := 26, pos := "reel.go:52", after := #[{ on := 1, ground := Ground.data }], guard := none } : Oper)) (v := ?_) rfl (by kernel_rfl) (by kernel_rfl) (by kernel_rfl) (fun _ _ _ h => h) (Or.inl ⟨by rfl, ?_⟩) (by assumption) ?_
            rotate_left
            · (intro w hSw; (try dsimp only at hSw); go_simp; try with_reducible rfl)
            simp only [Act.put, List.setIfInBounds_toArray, List.set_cons_zero, List.set_cons_succ]
            refine wpAnyH_take (i := 4) (oi := ({ dst := some 20, op := Op.fieldAddr 28 (Operand.tmp 5) 1, type := 0, pos := "reel.go:52", after := #[], guard := none } : Oper)) (v := ?_) rfl (by kernel_rfl) (by kernel_rfl) (by kernel_rfl) (fun _ _ _ h => h) (Or.inl ⟨by rfl, ?_⟩) (by assumption) ?_
            rotate_left
            · (intro w hSw; (try dsimp only at hSw); go_simp; try with_reducible rfl)
            simp only [Act.put, List.setIfInBounds_toArray, List.set_cons_zero, List.set_cons_succ]
            refine wpAnyH_take (i := 5) (oi := ({ dst := some 21, op := Op.load 3 (Operand.tmp 20), type := 3, pos := "reel.go:52", after := #[{ on := 4, ground := Ground.data }], guard := none } : Oper)) (v := ?_) rfl (by kernel_rfl) (by kernel_rfl) (by kernel_rfl) (fun _ _ _ h => h) (Or.inl ⟨by rfl, ?_⟩) (by assumption) ?_
            rotate_left
            · (intro w hSw; (try dsimp only at hSw); go_simp; try with_reducible rfl)
            simp only [Act.put, List.setIfInBounds_toArray, List.set_cons_zero, List.set_cons_succ]
            refine wpAnyH_ready (rs := [3]) (by kernel_rfl) (by simp) ?_
            refine AllReadyH.cons (o := ({ dst := some 19, op := Op.call { callee := Callee.value (Operand.func 16), args := #[Operand.tmp 18], argTypes := #[26] }, type := 26, pos := "reel.go:52", after := #[{ on := 2, ground := Ground.data }], guard := none } : Oper)) rfl (fun K_ hK => ?_) AllReadyH.nil
            go_simp
            refine (pown_any fW fH (.slice ua q uc) fp Y.drew hfp2 HUD).mono ?_
            rintro e w1 ⟨u', rfl, hu, hb1⟩
            have HU1 : Hid (w1.ownsRow w.heap.size 38 2 u' fp.length (pixCells fp)) := own_mono hu (by have := hbD.size; omega)
            obtain ⟨va, vc, hu'⟩ := own_any HU1.out
            rw [HM.out] at hu'
            subst hu'
            have HO1 : Hid (OwnFr w1 w.heap.size (.slice (some ⟨og, 0, none⟩) (m + 1) oc) qs) := HOD.out.on hb1
            have hbw1 : Below w.heap.size w w1 := hbD.trans (hb1.mono hbD.size)
            have HB1 : Hid (Below Y.drew.heap.size Y.drew w1) := hb1
            clear hu hb1 HOD HUD
            refine hK.out _ _ ?_ (fun hHeld => ?_)
            · exact KEEP.out _ HB1.out
            clear hK K_
            try simp only [Act.put, List.setIfInBounds_toArray, List.set_cons_zero, List.set_cons_succ]
            refine wpAnyH_take (i := 6) (oi := ({ dst := some 22, op := Op.build 28 #[(0, Operand.tmp 19), (1, Operand.tmp 21)], type := 28, pos := "reel.go:52", after := #[{ on := 3, ground := Ground.data }, { on := 5, ground := Ground.data }], guard := none } : Oper)) (v := ?_) rfl (by kernel_rfl) (by kernel_rfl) (by kernel_rfl) (fun _ _ _ h => h) (Or.inl ⟨by rfl, ?_⟩) (by assumption) ?_
            rotate_left
            · (intro w hSw; (try dsimp only at hSw); go_simp; try with_reducible rfl)
            simp only [Act.put, List.setIfInBounds_toArray, List.set_cons_zero, List.set_cons_succ]
            refine wpAnyH_ready (rs := [7]) (by kernel_rfl) (by simp) ?_
            refine AllReadyH.cons (o := ({ dst := some 23, op := Op.buildSlice 22 1 #[(0, Operand.tmp 22)], type := 22, pos := "reel.go:52", after := #[{ on := 6, ground := Ground.data }], guard := none } : Oper)) rfl (fun K_ hK => ?_) AllReadyH.nil
            go_simp
            have HB2 : Hid (Below Y.drew.heap.size Y.drew (w1.alloc (.cells #[.int .i64 fW, .int .i64 fH, .slice va q vc, .int .i64 fd] 28))) := HB1.out.alloc HB1.out.size _
            have hbx2 : Below w1.heap.size w1 (w1.alloc (.cells #[.int .i64 fW, .int .i64 fH, .slice va q vc, .int .i64 fd] 28)) := (Below.refl _ _).alloc (Nat.le_refl _) _
            have HO2 : Hid (OwnFr (w1.alloc (.cells #[.int .i64 fW, .int .i64 fH, .slice va q vc, .int .i64 fd] 28)) w.heap.size (.slice (some ⟨og, 0, none⟩) (m + 1) oc) qs) := HO1.out.on hbx2
            have HU2 : Hid ((w1.alloc (.cells #[.int .i64 fW, .int .i64 fH, .slice va q vc, .int .i64 fd] 28)).ownsRow w.heap.size 38 2 (.slice va q vc) fp.length (pixCells fp)) := own_on2 HU1.out hbx2
            have hbw2 : Below w.heap.size w (w1.alloc (.cells #[.int .i64 fW, .int .i64 fH, .slice va q vc, .int .i64 fd] 28)) := hbw1.alloc hbw1.size _
            have g0 : ∀ j u, [Value.int .i64 fW, .int .i64 fH, .slice va q vc, .int .i64 fd][j]? = some u → (w1.alloc (.cells #[.int .i64 fW, .int .i64 fH, .slice va q vc, .int .i64 fd] 28)).cell? ((⟨w1.heap.size, 0, none⟩ : Addr).add j) = some u := by
              intro j u hj
              match j, hj with
              | 0, hj => simp at hj; subst hj; simp [Addr.add]
              | 1, hj => simp at hj; subst hj; simp [Addr.add]
              | 2, hj => simp at hj; subst hj; simp [Addr.add]
              | 3, hj => simp at hj; subst hj; simp [Addr.add]
              | j + 4, hj => simp at hj
            clear hbx2 HO1 HU1
            refine hK.out _ _ ?_ (fun hHeld => ?_)
            · exact KEEP.out _ HB2.out
            clear hK K_
            try simp only [Act.put, List.setIfInBounds_toArray, List.set_cons_zero, List.set_cons_succ]
            refine wpAnyH_ready (rs := [8]) (by kernel_rfl) (by simp) ?_
            refine AllReadyH.cons (o := ({ dst := some 24, op := Op.call { callee := Callee.builtin Builtin.append, args := #[Operand.tmp 16, Operand.tmp 23], argTypes := #[22, 22] }, type := 22, pos := "reel.go:52", after := #[{ on := 0, ground := Ground.data }, { on := 7, ground := Ground.data }, { on := 3, ground := Ground.chain }], guard := none } : Oper)) rfl (fun K_ hK => ?_) AllReadyH.nil
            obtain ⟨v', w3, hr, h1, h2, h3⟩ := run_append_own (P := Try.prog) (w1.alloc (.cells #[.int .i64 fW, .int .i64 fH, .slice va q vc, .int .i64 fd] 28)) w.heap.size 22 22 28 i0 (.agg #[.int .i64 0, .int .i64 0, .slice none 0 0, .int .i64 0]) 4 48 Try.underlying22 hi hz0 hz1 hz2 rfl (by decide) _ _ _ HO2.out.1 ⟨w1.heap.size, 0, none⟩ 1 1 [.int .i64 fW, .int .i64 fH, .slice va q vc, .int .i64 fd] rfl g0 (by intro u hu; simp at hu; rcases hu with rfl | rfl | rfl | rfl <;> rfl) (by unfold maxLen; rw [HLQ.out]; omega) (by rw [HLQ.out]; omega) hbw2.size
            refine ready_app2 rfl _ _ _ rfl _ _ _ rfl rfl hr ?_
            have HO3 : Hid (OwnFr w3 w.heap.size v' (qs ++ [(⟨fW, fH, fp, fd⟩, .slice va q vc)])) := HO2.out.app (f := ⟨fW, fH, fp, fd⟩) HU2.out h1 h2
            have hb3 : Below w.heap.size w w3 := hbw2.grown h2 hbw2.size (fun x hx => (HO2.out.1.lt x hx).1)
            have hk := KEEP.out _ HB2.out
            have hne : some bf ≠ (Value.slice (some ⟨og, 0, none⟩) (m + 1) oc).ownBlock := fun e => by have := HBF.out bf e.symm; omega
            have K3 := And.intro (h2.cell hk.1 hne) (And.intro (h2.cell hk.2.1 hne) (And.intro (h2.cell hk.2.2.1 hne) (h2.cell hk.2.2.2 hne)))
            clear h1 h2 h3 hr g0
            refine hK.out _ _ ?_ (fun hHeld => ?_)
            · exact K3
            clear hK K_ K3 hk hne
            try simp only [Act.put, List.setIfInBounds_toArray, List.set_cons_zero, List.set_cons_succ]
            refine wpAnyH_take (i := 9) (oi := ({ dst := some 3, op := Op.assign (Operand.tmp 24), type := 22, pos := "reel.go:52", after := #[{ on := 8, ground := Ground.data }, { on := 8, ground := Ground.chain }, { on := 0, ground := Ground.phase }, { on := 1, ground := Ground.phase }, { on := 2, ground := Ground.phase }, { on := 3, ground := Ground.phase }, { on := 4, ground := Ground.phase }, { on := 5, ground := Ground.phase }, { on := 6, ground := Ground.phase }, { on := 7, ground := Ground.phase }, { on := 8, ground := Ground.phase }], guard := none } : Oper)) (v := ?_) rfl (by kernel_rfl) (by kernel_rfl) (by kernel_rfl) (fun _ _ _ h => h) (Or.inl ⟨by rfl, ?_⟩) (by assumption) ?_
            rotate_left
            · (intro w hSw; (try dsimp only at hSw); go_simp; try with_reducible rfl)
            simp only [Act.put, List.setIfInBounds_toArray, List.set_cons_zero, List.set_cons_succ]
            refine wpAnyH_done (by kernel_rfl) ?_ _
            go_wp2_with fail
            go_roundw
            case rel => exact ⟨k + 1, _, by omega, by go_num, HO3, HQ2.out _, hb3⟩
            case measure => simp [intOf]; omega
    · go_wp2_with fail
      go_ret
      refine ⟨_, qs, rfl, HO.out, ?_, hbr⟩
      rw [HQ.out, List.take_of_length_le (by rw [HN.out]; omega)]
end Go.Proofs.Ytnjnelfmfijgjad
