/- Walk: the reference's SameOps of two rows that hold the same ops. -- s1 -/
import Derived.Test.YtceabiodelfdoaaDoorM11
import Derived.Test.YtceabiodelfdoaaDoorBuCJ
namespace Go.Proofs.YtceabiodelfdoaaDoor
open Go.RowKit

set_option maxHeartbeats 8000000 in
set_option maxRecDepth 100000 in
theorem sameOps_any (v0 v1 : Value) (qs : List Pq) (w : World) (H0 : Hid (RdQ w v0 qs)) (H1 : Hid (RdQ w v1 qs)) (hps : ∀ j, j < qs.length → (qs.getD j pq0).ps.length ≤ 1000) :
    Calls Tryd.prog 13 #[v0, v1] w fun e w' => e = .returned (.bool true) ∧ Below w.heap.size w w' := by
  obtain ⟨a0, cap0, hv0, hl0, hcap0⟩ := H0.out.shape
  obtain ⟨a1, cap1, hv1, hl1, hcap1⟩ := H1.out.shape
  have HPS := hid_of3 hps
  obtain ⟨n, HN⟩ : ∃ n, Hid (qs.length = n) := ⟨_, (rfl : _ = _)⟩
  rw [HN.out] at hv0 hv1 hl0 hl1
  subst hv0 hv1
  clear hps
  have hbz : Below w.heap.size w w := Below.refl _ _
  go_enter Tryd.func13, Tryd.ntmps13
  go_wp2_with fail
  go_loopw [5] (fun i wr => ∃ k : Nat, k ≤ n ∧ i = .int .i64 k ∧ Below w.heap.size w wr) (fun i _ => n - (intOf i).toNat)
  case atStart => exact ⟨0, by omega, rfl, hbz⟩
  case round =>
    obtain ⟨k, hk, rfl, hbr⟩ := hrel
    by_cases hlt : k < n
    · obtain ⟨q, HX⟩ : ∃ q, Hid (qs.getD k pq0 = q) := ⟨_, (rfl : _ = _)⟩
      obtain ⟨g, o, ua, mu, uc, rfl, hg, OC, HU, HMU⟩ := (H0.out.on hbr).at hlt HX
      obtain ⟨c0, c1, c2, c3, c4, c5, c6, c7, c8⟩ := OC
      obtain ⟨g', o', ua', mu', uc', rfl, hg', OC', HU', HMU'⟩ := (H1.out.on hbr).at hlt HX
      obtain ⟨d0, d1, d2, d3, d4, d5, d6, d7, d8⟩ := OC'
      have hki0 : (0 : Int) ≤ (k : Int) := by omega
      have hki1 : (k : Int) < (n : Int) := by omega
      have hqp : q.ps.length ≤ 1000 := by rw [← HX.out]; exact HPS.out k (by rw [HN.out]; exact hlt)
      have hso := sameOp_any q (.slice ua mu uc) (.slice ua' mu' uc') wr.drew hqp (HU.out.on (Below.refl _ _).drew) (HU'.out.on (Below.refl _ _).drew)
      unfold opV at hso
      have HSO := hid_of3 hso
      clear hso
      go_wp2_with fail
      refine wp_region_held_drew (S := (fun w' => w'.cell? ⟨g, o + k * 9, none⟩ = some (.int .i64 q.kind) ∧ w'.cell? ⟨g, o + k * 9 + 1, none⟩ = some (.int .i64 q.id) ∧ w'.cell? ⟨g, o + k * 9 + 2, none⟩ = some (.int .i64 q.a) ∧ w'.cell? ⟨g, o + k * 9 + 3, none⟩ = some (.int .i64 q.b) ∧ w'.cell? ⟨g, o + k * 9 + 4, none⟩ = some (.int .i64 q.c) ∧ w'.cell? ⟨g, o + k * 9 + 5, none⟩ = some (.int .i64 q.d) ∧ w'.cell? ⟨g, o + k * 9 + 6, none⟩ = some (.int .i64 q.pw) ∧ w'.cell? ⟨g, o + k * 9 + 7, none⟩ = some (.int .i64 q.ph) ∧ w'.cell? ⟨g, o + k * 9 + 8, none⟩ = some (.slice ua mu uc) ∧ w'.cell? ⟨g', o' + k * 9, none⟩ = some (.int .i64 q.kind) ∧ w'.cell? ⟨g', o' + k * 9 + 1, none⟩ = some (.int .i64 q.id) ∧ w'.cell? ⟨g', o' + k * 9 + 2, none⟩ = some (.int .i64 q.a) ∧ w'.cell? ⟨g', o' + k * 9 + 3, none⟩ = some (.int .i64 q.b) ∧ w'.cell? ⟨g', o' + k * 9 + 4, none⟩ = some (.int .i64 q.c) ∧ w'.cell? ⟨g', o' + k * 9 + 5, none⟩ = some (.int .i64 q.d) ∧ w'.cell? ⟨g', o' + k * 9 + 6, none⟩ = some (.int .i64 q.pw) ∧ w'.cell? ⟨g', o' + k * 9 + 7, none⟩ = some (.int .i64 q.ph) ∧ w'.cell? ⟨g', o' + k * 9 + 8, none⟩ = some (.slice ua' mu' uc'))) (by kernel_rfl) ?_ (fun hHeld => ?_)
      · exact ⟨c0, c1, c2, c3, c4, c5, c6, c7, c8, d0, d1, d2, d3, d4, d5, d6, d7, d8⟩
      refine wpAnyH_take (i := 0) (oi := ({ dst := some 18, op := Op.move (Operand.tmp 0), type := 22, pos := "parts.go:103", after := #[], guard := none } : Oper)) (v := ?_) rfl (by kernel_rfl) (by kernel_rfl) (by kernel_rfl) (fun _ _ _ h => h) (Or.inl ⟨by rfl, ?_⟩) (by assumption) ?_
      rotate_left
      · (intro w hSw; (try dsimp only at hSw); go_simp; try with_reducible rfl)
      try simp only [Act.put, List.setIfInBounds_toArray, List.set_cons_zero, List.set_cons_succ]
      refine wpAnyH_take (i := 1) (oi := ({ dst := some 19, op := Op.move (Operand.tmp 5), type := 3, pos := "parts.go:103", after := #[], guard := none } : Oper)) (v := ?_) rfl (by kernel_rfl) (by kernel_rfl) (by kernel_rfl) (fun _ _ _ h => h) (Or.inl ⟨by rfl, ?_⟩) (by assumption) ?_
      rotate_left
      · (intro w hSw; (try dsimp only at hSw); go_simp; try with_reducible rfl)
      try simp only [Act.put, List.setIfInBounds_toArray, List.set_cons_zero, List.set_cons_succ]
      refine wpAnyH_take (i := 2) (oi := ({ dst := some 20, op := Op.indexAddr 22 (Operand.tmp 18) (Operand.tmp 19), type := 0, pos := "parts.go:103", after := #[{ on := 0, ground := Ground.data }, { on := 1, ground := Ground.data }], guard := none } : Oper)) (v := ?_) rfl (by kernel_rfl) (by kernel_rfl) (by kernel_rfl) (fun _ _ _ h => h) (Or.inl ⟨by rfl, ?_⟩) (by assumption) ?_
      rotate_left
      · (intro w hSw; (try dsimp only at hSw); go_simp; try with_reducible rfl)
      try simp only [Act.put, List.setIfInBounds_toArray, List.set_cons_zero, List.set_cons_succ]
      refine wpAnyH_take (i := 3) (oi := ({ dst := some 21, op := Op.load 45 (Operand.tmp 20), type := 45, pos := "parts.go:103", after := #[{ on := 2, ground := Ground.data }], guard := none } : Oper)) (v := ?_) rfl (by kernel_rfl) (by kernel_rfl) (by kernel_rfl) (fun _ _ _ h => h) (Or.inl ⟨by rfl, ?_⟩) (by assumption) ?_
      rotate_left
      · (intro w hSw; (try dsimp only at hSw); go_simp; try with_reducible rfl)
      try simp only [Act.put, List.setIfInBounds_toArray, List.set_cons_zero, List.set_cons_succ]
      refine wpAnyH_take (i := 4) (oi := ({ dst := some 22, op := Op.move (Operand.tmp 1), type := 22, pos := "parts.go:103", after := #[], guard := none } : Oper)) (v := ?_) rfl (by kernel_rfl) (by kernel_rfl) (by kernel_rfl) (fun _ _ _ h => h) (Or.inl ⟨by rfl, ?_⟩) (by assumption) ?_
      rotate_left
      · (intro w hSw; (try dsimp only at hSw); go_simp; try with_reducible rfl)
      try simp only [Act.put, List.setIfInBounds_toArray, List.set_cons_zero, List.set_cons_succ]
      refine wpAnyH_take (i := 5) (oi := ({ dst := some 23, op := Op.move (Operand.tmp 5), type := 3, pos := "parts.go:103", after := #[], guard := none } : Oper)) (v := ?_) rfl (by kernel_rfl) (by kernel_rfl) (by kernel_rfl) (fun _ _ _ h => h) (Or.inl ⟨by rfl, ?_⟩) (by assumption) ?_
      rotate_left
      · (intro w hSw; (try dsimp only at hSw); go_simp; try with_reducible rfl)
      try simp only [Act.put, List.setIfInBounds_toArray, List.set_cons_zero, List.set_cons_succ]
      refine wpAnyH_take (i := 6) (oi := ({ dst := some 24, op := Op.indexAddr 22 (Operand.tmp 22) (Operand.tmp 23), type := 0, pos := "parts.go:103", after := #[{ on := 4, ground := Ground.data }, { on := 5, ground := Ground.data }], guard := none } : Oper)) (v := ?_) rfl (by kernel_rfl) (by kernel_rfl) (by kernel_rfl) (fun _ _ _ h => h) (Or.inl ⟨by rfl, ?_⟩) (by assumption) ?_
      rotate_left
      · (intro w hSw; (try dsimp only at hSw); go_simp; try with_reducible rfl)
      try simp only [Act.put, List.setIfInBounds_toArray, List.set_cons_zero, List.set_cons_succ]
      refine wpAnyH_take (i := 7) (oi := ({ dst := some 25, op := Op.load 45 (Operand.tmp 24), type := 45, pos := "parts.go:103", after := #[{ on := 6, ground := Ground.data }], guard := none } : Oper)) (v := ?_) rfl (by kernel_rfl) (by kernel_rfl) (by kernel_rfl) (fun _ _ _ h => h) (Or.inl ⟨by rfl, ?_⟩) (by assumption) ?_
      rotate_left
      · (intro w hSw; (try dsimp only at hSw); go_simp; try with_reducible rfl)
      try simp only [Act.put, List.setIfInBounds_toArray, List.set_cons_zero, List.set_cons_succ]
      refine wpAnyH_ready (rs := [8]) (by kernel_rfl) (by simp) ?_
      refine AllReadyH.cons (o := ({ dst := some 26, op := Op.call { callee := Callee.value (Operand.func 30), args := #[Operand.tmp 21, Operand.tmp 25], argTypes := #[45, 45] }, type := 4, pos := "parts.go:103", after := #[{ on := 3, ground := Ground.data }, { on := 7, ground := Ground.data }], guard := none } : Oper)) rfl (fun K_ hK => ?_) AllReadyH.nil
      go_simp
      refine HSO.out.mono ?_
      rintro e w2 ⟨rfl, hb2⟩
      refine hK.out _ _ ?_ (fun hHeld => ?_)
      · exact ⟨(hb2.cell (p := ⟨g, _, none⟩) hg).trans c0, (hb2.cell (p := ⟨g, _, none⟩) hg).trans c1, (hb2.cell (p := ⟨g, _, none⟩) hg).trans c2, (hb2.cell (p := ⟨g, _, none⟩) hg).trans c3, (hb2.cell (p := ⟨g, _, none⟩) hg).trans c4, (hb2.cell (p := ⟨g, _, none⟩) hg).trans c5, (hb2.cell (p := ⟨g, _, none⟩) hg).trans c6, (hb2.cell (p := ⟨g, _, none⟩) hg).trans c7, (hb2.cell (p := ⟨g, _, none⟩) hg).trans c8, (hb2.cell (p := ⟨g', _, none⟩) hg').trans d0, (hb2.cell (p := ⟨g', _, none⟩) hg').trans d1, (hb2.cell (p := ⟨g', _, none⟩) hg').trans d2, (hb2.cell (p := ⟨g', _, none⟩) hg').trans d3, (hb2.cell (p := ⟨g', _, none⟩) hg').trans d4, (hb2.cell (p := ⟨g', _, none⟩) hg').trans d5, (hb2.cell (p := ⟨g', _, none⟩) hg').trans d6, (hb2.cell (p := ⟨g', _, none⟩) hg').trans d7, (hb2.cell (p := ⟨g', _, none⟩) hg').trans d8⟩
      clear hK K_
      try simp only [Act.put, List.setIfInBounds_toArray, List.set_cons_zero, List.set_cons_succ]
      refine wpAnyH_take (i := 9) (oi := ({ dst := some 6, op := Op.assign (Operand.tmp 26), type := 4, pos := "parts.go:103", after := #[{ on := 8, ground := Ground.data }, { on := 8, ground := Ground.chain }, { on := 0, ground := Ground.phase }, { on := 1, ground := Ground.phase }, { on := 2, ground := Ground.phase }, { on := 3, ground := Ground.phase }, { on := 4, ground := Ground.phase }, { on := 5, ground := Ground.phase }, { on := 6, ground := Ground.phase }, { on := 7, ground := Ground.phase }, { on := 8, ground := Ground.phase }], guard := none } : Oper)) (v := ?_) rfl (by kernel_rfl) (by kernel_rfl) (by kernel_rfl) (fun _ _ _ h => h) (Or.inl ⟨by rfl, ?_⟩) (by assumption) ?_
      rotate_left
      · (intro w hSw; (try dsimp only at hSw); go_simp; try with_reducible rfl)
      try simp only [Act.put, List.setIfInBounds_toArray, List.set_cons_zero, List.set_cons_succ]
      refine wpAnyH_done (by kernel_rfl) ?_ _
      have hbb2 := hbr.drew.trans (hb2.mono hbr.size)
      clear hb2
      go_wp2_with fail
      go_roundw
      case rel => exact ⟨k + 1, by omega, by go_num, hbb2⟩
      case measure => simp [intOf]; omega
    · obtain rfl : k = n := by omega
      have hki : ¬ (k : Int) < (k : Int) := by omega
      go_wp2_with fail
      go_ret
      exact ⟨rfl, hbr⟩
end Go.Proofs.YtceabiodelfdoaaDoor
