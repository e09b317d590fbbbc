/- Walk of slices.Repeat of one pixel. -/
import Derived.Test.YtadcmmkifcmknaaM6
import Derived.Test.YtadcmmkifcmknaaPlainBJ
import Derived.Test.YtadcmmkifcmknaaPlainMJ
namespace Go.Proofs.Ytadcmmkifcmknaa
open Go.RowKit

theorem hid_p {p : Prop} (h : p) : Hid p := h
/-- the whole row, as its block has it -/
theorem own_full {W : World} {B g n : Nat} {e : TypeId} {size : Nat} {xs : List Value} (h : W.ownsRow B e size (.slice (some ⟨g, 0, none⟩) n n) n xs) : W.heap[g]? = some (.cells xs.toArray e (0, 0)) := by
  rcases h.2 with ⟨h0, _⟩ | ⟨g', cap, cur, hv, _, hg, _, _, hsz, htk⟩
  · simp at h0
  · simp only [Value.slice.injEq, Option.some.injEq, Addr.mk.injEq, and_true, true_and] at hv
    obtain ⟨rfl, rfl⟩ := hv
    rw [List.take_of_length_le (by simp [hsz])] at htk
    rw [hg, ← htk]
set_option maxHeartbeats 2000000 in
set_option maxRecDepth 100000 in
theorem repeat_any (v a : Int) (b n : Nat) (hn1 : 1 ≤ n) (hn : n ≤ 64) (w : World) (hc0 : w.cell? ⟨b, 0, none⟩ = some (.int .i64 v)) (hc1 : w.cell? ⟨b, 1, none⟩ = some (.int .i64 a)) (hb : b < w.heap.size) :
    Calls Try.prog 44 #[.slice (some ⟨b, 0, none⟩) 1 1, .int .i64 (n : Int)] w fun e w' => ∃ v', e = .returned v' ∧ w'.ownsRow w.heap.size 33 2 v' n (pixCells (List.replicate n (v, a))) ∧ Below w.heap.size w w' := by
  obtain ⟨i0, hi, hz0, hz1, hz2⟩ := info_parts Try.infoPix
  have hw : IntKind.u64.wrap (n : Int) = (n : Int) := by rw [IntKind.wrap_u64]; omega
  have hw2 : IntKind.i64.wrap (n : Int) = (n : Int) := by rw [IntKind.wrap_i64]; omega
  go_enter Try.func44, Try.ntmps44
  go_wp2_with fail
  refine (mul_one' n hn _).mono ?_
  rintro e w1 ⟨rfl, rfl⟩
  go_wp2_with (at_make; refine wpList_make_full _ rfl _ _ 23 rfl w.heap.size 33 i0 (.agg #[.int .i64 0, .int .i64 0]) 2 Try.underlying23 hi hz0 hz1 _ _ _ _ n rfl rfl ?a1 ?a2 ?b1 ?b2 ?b3 ?_)
  case a1 => first | rfl | omega
  case a2 => first | rfl | omega
  case b1 => rw [hz2]; omega
  case b2 => unfold maxLen; omega
  case b3 => exact Nat.le_refl _
  intro W0 hown0 hgrow0
  have hb0 : Below w.heap.size w W0 := (Below.refl _ _).grown hgrow0 (Nat.le_refl _) (by intro k hk; cases hk)
  rw [made_pix, ← fill_none n (v, a)] at hown0
  have hg0 := own_full hown0
  have hsize2 : (Try.prog.info? 33).map (·.size) = some 2 := by rw [hi]; simp [hz1]
  have d0 : W0.cell? ⟨b, 0, none⟩ = some (.int .i64 v) := (hb0.cell (p := ⟨b, 0, none⟩) hb).trans hc0
  have d1 : W0.cell? ⟨b, 1, none⟩ = some (.int .i64 a) := (hb0.cell (p := ⟨b, 1, none⟩) hb).trans hc1
  have hgr : w.heap.size < W0.heap.size := (Array.getElem?_eq_some_iff.1 hg0).1
  have HG0 := hid_p hg0
  clear hown0 hgrow0 hg0
  have HF1 : Hid ((pixCells (fillL 0 n (v, a))).take 0 ++ pixCells [(v, a)] ++ (pixCells (fillL 0 n (v, a))).drop (0 + (pixCells [(v, a)]).length) = pixCells (fillL 1 n (v, a))) := by
    unfold Hid
    have h := fill_more 0 1 n (v, a) (by omega)
    simpa [pixCells] using h
  go_wp2_with (refine wpList_copy_fill rfl (.tmp 31) (.tmp 32) 23 23 rfl 33 Try.underlying23 hsize2 w.heap.size 0 n n ⟨b, 0, none⟩ 1 1 rfl rfl _ 33 HG0.out (pixCells [(v, a)]) 1 (Nat.min_eq_left hn1) rfl ?e2 ?e3 (pixCells_one _) _ HF1.out w.heap.size w hb0 (Nat.le_refl _) ?_)
  case e2 =>
    intro j u hj
    rw [add_pl]
    match j, hj with
    | 0, hj => simp [pixCells] at hj; subst hj; exact d0
    | 1, hj => simp [pixCells] at hj; subst hj; exact d1
    | j + 2, hj => simp [pixCells] at hj
  case e3 => rw [pixCells_length, pixCells_length, fill_len _ _ _ (by omega)]; simp; omega
  intro w2 HG2 hb2
  go_wp2_with fail
  go_loopw [8] (fun kv wr => ∃ k : Nat, 1 ≤ k ∧ k ≤ n ∧ kv = .int .i64 (k : Int) ∧ Hid (wr.heap[w.heap.size]? = some (.cells (pixCells (fillL k n (v, a))).toArray 33 (0, 0))) ∧ Below w.heap.size w wr) (fun kv _ => n - (intOf kv).toNat)
  case atStart => exact ⟨1, by omega, hn1, rfl, HG2, hb2⟩
  case round =>
    obtain ⟨k, k1, k2, rfl, HGk, hbk⟩ := hrel
    by_cases hk : k < n
    · go_wp2_with fail
      obtain ⟨m, HM⟩ : ∃ m, Hid (Nat.min k (n - k) = m) := ⟨_, (rfl : _ = _)⟩
      have hm1 : m ≤ k := by rw [← HM.out]; exact Nat.min_le_left _ _
      have hm2 : m ≤ n - k := by rw [← HM.out]; exact Nat.min_le_right _ _
      have hm3 : 1 ≤ m := by rw [← HM.out]; exact Nat.le_min.2 ⟨k1, by omega⟩
      have hi1 : (k : Int) ≤ (n : Int) := by omega
      have hi0 : (0 : Int) ≤ (k : Int) := by omega
      have hi2 : (n : Int) - (k : Int) = ((n - k : Nat) : Int) := by omega
      have hw3 : IntKind.i64.wrap ((k : Int) + (m : Int)) = (k : Int) + (m : Int) := by rw [IntKind.wrap_i64]; omega
      have hnk : ¬ n = k := by omega
      have HF2 : Hid ((pixCells (fillL k n (v, a))).take (k * 2) ++ pixCells (List.replicate m (v, a)) ++ (pixCells (fillL k n (v, a))).drop (k * 2 + (pixCells (List.replicate m (v, a))).length) = pixCells (fillL (k + m) n (v, a))) := by
        unfold Hid
        rw [pixCells_length, List.length_replicate]
        exact fill_more k m n (v, a) (by omega)
      have HS2 : Hid (∀ j u, (pixCells (List.replicate m (v, a)))[j]? = some u → wr.drew.cell? ((⟨w.heap.size, 0, none⟩ : Addr).add j) = some u) := by
        intro j u hj
        have hlt : j < m * 2 := by
          have := (List.getElem?_eq_some_iff.1 hj).1
          rw [pixCells_length, List.length_replicate] at this
          exact this
        have ho : wr.drew.ownsRow w.heap.size 33 2 (.slice (some ⟨w.heap.size, 0, none⟩) n n) n (pixCells (fillL k n (v, a))) := full_own HGk.out (Nat.le_refl _) (by unfold maxLen; omega) (by rw [pixCells_length, fill_len _ _ _ k2])
        rw [add_pl, Nat.zero_add, ho.cellAt j (by omega)]
        unfold fillL
        rw [show k = m + (k - m) by omega, ← List.replicate_append_replicate, List.append_assoc, pixCells_app, List.getElem?_append_left (by rw [pixCells_length, List.length_replicate]; exact hlt)]
        exact hj
      refine wp_region_held_drew (S := (fun _ => True)) (by kernel_rfl) trivial (fun hHeld => ?_)
      refine wpAnyH_take (i := 0) (oi := ({ dst := some 38, op := Op.move (Operand.tmp 8), type := 3, pos := "slices.go:528", after := #[], guard := none } : Oper)) (v := ?_) rfl (by kernel_rfl) (by kernel_rfl) (by kernel_rfl) (fun _ _ _ h => h) (Or.inl ⟨by rfl, ?_⟩) (by assumption) ?_
      rotate_left
      · (intro w hSw; (try dsimp only at hSw); go_simp; try with_reducible rfl)
      simp only [Act.put, List.setIfInBounds_toArray, List.set_cons_zero, List.set_cons_succ]
      refine wpAnyH_take (i := 1) (oi := ({ dst := some 39, op := Op.move (Operand.tmp 7), type := 23, pos := "slices.go:528", after := #[], guard := none } : Oper)) (v := ?_) rfl (by kernel_rfl) (by kernel_rfl) (by kernel_rfl) (fun _ _ _ h => h) (Or.inl ⟨by rfl, ?_⟩) (by assumption) ?_
      rotate_left
      · (intro w hSw; (try dsimp only at hSw); go_simp; try with_reducible rfl)
      simp only [Act.put, List.setIfInBounds_toArray, List.set_cons_zero, List.set_cons_succ]
      refine wpAnyH_take (i := 2) (oi := ({ dst := some 40, op := Op.move (Operand.tmp 8), type := 3, pos := "slices.go:528", after := #[], guard := none } : Oper)) (v := ?_) rfl (by kernel_rfl) (by kernel_rfl) (by kernel_rfl) (fun _ _ _ h => h) (Or.inl ⟨by rfl, ?_⟩) (by assumption) ?_
      rotate_left
      · (intro w hSw; (try dsimp only at hSw); go_simp; try with_reducible rfl)
      simp only [Act.put, List.setIfInBounds_toArray, List.set_cons_zero, List.set_cons_succ]
      refine wpAnyH_take (i := 3) (oi := ({ dst := some 41, op := Op.slice 23 (Operand.tmp 39) (some (Operand.tmp 40)) none none, type := 23, pos := "slices.go:528", after := #[{ on := 1, ground := Ground.data }, { on := 2, ground := Ground.data }], guard := none } : Oper)) (v := ?_) rfl (by kernel_rfl) (by kernel_rfl) (by kernel_rfl) (fun _ _ _ h => h) (Or.inl ⟨by rfl, ?_⟩) (by assumption) ?_
      rotate_left
      · (intro w hSw; (try dsimp only at hSw); go_simp; try with_reducible rfl)
      simp only [Act.put, List.setIfInBounds_toArray, List.set_cons_zero, List.set_cons_succ]
      refine wpAnyH_take (i := 4) (oi := ({ dst := some 42, op := Op.move (Operand.tmp 7), type := 23, pos := "slices.go:528", after := #[], guard := none } : Oper)) (v := ?_) rfl (by kernel_rfl) (by kernel_rfl) (by kernel_rfl) (fun _ _ _ h => h) (Or.inl ⟨by rfl, ?_⟩) (by assumption) ?_
      rotate_left
      · (intro w hSw; (try dsimp only at hSw); go_simp; try with_reducible rfl)
      simp only [Act.put, List.setIfInBounds_toArray, List.set_cons_zero, List.set_cons_succ]
      refine wpAnyH_take (i := 5) (oi := ({ dst := some 43, op := Op.move (Operand.tmp 8), type := 3, pos := "slices.go:528", after := #[], guard := none } : Oper)) (v := ?_) rfl (by kernel_rfl) (by kernel_rfl) (by kernel_rfl) (fun _ _ _ h => h) (Or.inl ⟨by rfl, ?_⟩) (by assumption) ?_
      rotate_left
      · (intro w hSw; (try dsimp only at hSw); go_simp; try with_reducible rfl)
      simp only [Act.put, List.setIfInBounds_toArray, List.set_cons_zero, List.set_cons_succ]
      refine wpAnyH_take (i := 6) (oi := ({ dst := some 44, op := Op.slice 23 (Operand.tmp 42) none (some (Operand.tmp 43)) none, type := 23, pos := "slices.go:528", after := #[{ on := 4, ground := Ground.data }, { on := 5, ground := Ground.data }], guard := none } : Oper)) (v := ?_) rfl (by kernel_rfl) (by kernel_rfl) (by kernel_rfl) (fun _ _ _ h => h) (Or.inl ⟨by rfl, ?_⟩) (by assumption) ?_
      rotate_left
      · (intro w hSw; (try dsimp only at hSw); go_simp; try with_reducible rfl)
      simp only [Act.put, List.setIfInBounds_toArray, List.set_cons_zero, List.set_cons_succ]
      refine wpAnyH_ready (rs := [7]) (by kernel_rfl) (by simp) ?_
      refine AllReadyH.cons (o := ({ dst := some 45, op := Op.call { callee := Callee.builtin Builtin.copy, args := #[Operand.tmp 41, Operand.tmp 44], argTypes := #[23, 23] }, type := 3, pos := "slices.go:528", after := #[{ on := 3, ground := Ground.data }, { on := 6, ground := Ground.data }], guard := none } : Oper)) rfl (fun K_ hK => ?_) AllReadyH.nil
      refine step_copy_fill rfl (.tmp 41) (.tmp 44) 23 23 rfl 33 Try.underlying23 hsize2 w.heap.size (k * 2) (n - k) (n - k) ⟨w.heap.size, 0, none⟩ k n rfl rfl _ 33 HGk.out (pixCells (List.replicate m (v, a))) m HM.out (by rw [pixCells_length]; simp) ?e5 ?e6 (pixCells_one _) _ HF2.out w.heap.size w hbk.drew (Nat.le_refl _) ?_
      case e5 => exact HS2.out
      case e6 => rw [pixCells_length, pixCells_length, fill_len _ _ _ (by omega)]; simp; omega
      intro w4 HG4 hb4
      refine hK.out _ _ trivial (fun hHeld => ?_)
      clear hK K_
      try simp only [Act.put, List.setIfInBounds_toArray, List.set_cons_zero, List.set_cons_succ]
      refine wpAnyH_take (i := 8) (oi := ({ dst := some 46, op := Op.binOp BinOp.add 3 (Operand.tmp 38) (Operand.tmp 45) 3, type := 3, pos := "slices.go:528", after := #[{ on := 0, ground := Ground.data }, { on := 7, ground := Ground.data }], guard := none } : Oper)) (v := ?_) rfl (by kernel_rfl) (by kernel_rfl) (by kernel_rfl) (fun _ _ _ h => h) (Or.inl ⟨by rfl, ?_⟩) (by assumption) ?_
      rotate_left
      · (intro w hSw; (try dsimp only at hSw); go_simp; try with_reducible rfl)
      simp only [Act.put, List.setIfInBounds_toArray, List.set_cons_zero, List.set_cons_succ]
      refine wpAnyH_take (i := 9) (oi := ({ dst := some 8, op := Op.assign (Operand.tmp 46), type := 3, pos := "slices.go:528", after := #[{ on := 8, ground := Ground.data }, { on := 7, ground := Ground.chain }, { on := 0, ground := Ground.phase }, { on := 1, ground := Ground.phase }, { on := 2, ground := Ground.phase }, { on := 3, ground := Ground.phase }, { on := 4, ground := Ground.phase }, { on := 5, ground := Ground.phase }, { on := 6, ground := Ground.phase }, { on := 7, ground := Ground.phase }, { on := 8, ground := Ground.phase }], guard := none } : Oper)) (v := ?_) rfl (by kernel_rfl) (by kernel_rfl) (by kernel_rfl) (fun _ _ _ h => h) (Or.inl ⟨by rfl, ?_⟩) (by assumption) ?_
      rotate_left
      · (intro w hSw; (try dsimp only at hSw); go_simp; try with_reducible rfl)
      simp only [Act.put, List.setIfInBounds_toArray, List.set_cons_zero, List.set_cons_succ]
      refine wpAnyH_done (by kernel_rfl) ?_ _
      go_wp2_with fail
      go_roundw
      case rel => exact ⟨k + m, by omega, by omega, by go_num, HG4, hb4⟩
      case measure => simp [intOf]; omega
    · obtain rfl : k = n := by omega
      go_wp2_with fail
      go_ret
      refine ⟨_, rfl, ?_, hbk⟩
      rw [← fill_all]
      exact full_own HGk.out (Nat.le_refl _) (by unfold maxLen; omega) (by rw [pixCells_length, fill_len _ _ _ (Nat.le_refl _)])
end Go.Proofs.Ytadcmmkifcmknaa
