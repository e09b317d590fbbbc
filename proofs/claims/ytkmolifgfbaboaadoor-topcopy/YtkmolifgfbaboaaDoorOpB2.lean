/- Walk: op.foreign. -/
import Derived.Test.YtkmolifgfbaboaaDoorOpB
namespace Go.Proofs.YtkmolifgfbaboaaDoor
open Go.RowKit

set_option maxHeartbeats 8000000 in
set_option maxRecDepth 100000 in
theorem foreign4_any (q : Pq) (s : Shp) (ap : Option Addr) (np cp : Nat) (w : World) (HN4 : Hid (s.nums = 4)) (hip : s.id = false → s.pic = false) (HNP : Hid (q.ps.length = np)) (_ : np ≤ 9223372036854775807) :
    Calls Tryd.prog 21 #[opV q (.slice ap np cp), .agg #[.int .i64 (s.kind : Int), .string s.bytes, .bool s.id, .int .i64 4, .int .i64 s.low, .int .i64 s.high, .bool s.pic]] w fun e w' => ∃ v', e = .returned v' ∧ RdI w' v' (forL q s) ∧ Below w.heap.size w w' := by
  obtain ⟨X0, HX0⟩ : ∃ X0, Hid (((w.alloc (.cells #[.int .i64 q.kind, .int .i64 q.id, .int .i64 q.a, .int .i64 q.b, .int .i64 q.c, .int .i64 q.d, .int .i64 q.pw, .int .i64 q.ph, .slice ap np cp] 27)).alloc (.cells #[.int .i64 (s.kind : Int), .string s.bytes, .bool s.id, .int .i64 4, .int .i64 s.low, .int .i64 s.high, .bool s.pic] 55)) = X0) := ⟨_, (rfl : _ = _)⟩
  have hbz : Below w.heap.size w X0 := by rw [← HX0.out]; exact ((Below.refl _ _).alloc (Nat.le_refl _) _).alloc (by simp) _
  have N0 : Hid (Nine X0 w.heap.size (.int .i64 q.kind) (.int .i64 q.id) (.int .i64 q.a) (.int .i64 q.b) (.int .i64 q.c) (.int .i64 q.d) (.int .i64 q.pw) (.int .i64 q.ph) (.slice ap np cp)) := by rw [← HX0.out]; exact (nine_start w _ _ _ _ _ _ _ _ _ 27 w.heap.size rfl).alloc _
  have S0 : Hid (Seven X0 (w.heap.size + 1) (.int .i64 (s.kind : Int)) (.string s.bytes) (.bool s.id) (.int .i64 4) (.int .i64 s.low) (.int .i64 s.high) (.bool s.pic)) := by rw [← HX0.out]; exact seven_start _ _ _ _ _ _ _ _ 55 (w.heap.size + 1) (by simp)
  have KEEP : Hid (∀ w', Below X0.heap.size X0 w' → (w'.cell? ⟨w.heap.size + 1, 3, none⟩ = some (.int .i64 4) ∧ w'.cell? ⟨w.heap.size, 0, none⟩ = some (.int .i64 q.kind) ∧ w'.cell? ⟨w.heap.size, 1, none⟩ = some (.int .i64 q.id) ∧ w'.cell? ⟨w.heap.size, 2, none⟩ = some (.int .i64 q.a) ∧ w'.cell? ⟨w.heap.size, 3, none⟩ = some (.int .i64 q.b) ∧ w'.cell? ⟨w.heap.size, 4, none⟩ = some (.int .i64 q.c) ∧ w'.cell? ⟨w.heap.size, 5, none⟩ = some (.int .i64 q.d) ∧ w'.cell? ⟨w.heap.size, 6, none⟩ = some (.int .i64 q.pw) ∧ w'.cell? ⟨w.heap.size, 7, none⟩ = some (.int .i64 q.ph) ∧ w'.cell? ⟨w.heap.size, 8, none⟩ = some (.slice ap np cp))) := by
    intro w' h
    obtain ⟨m0, m1, m2, m3, m4, m5, m6, m7, m8, mf0, mf1, mf2, mf3, mf4, mf5, mf6, mf7, mf8, mlt⟩ := N0.out.on h
    exact ⟨(S0.out.on h).c3, m0, m1, m2, m3, m4, m5, m6, m7, m8⟩
  go_enter Tryd.func21, Tryd.ntmps21
  go_wp2_with fail
  rw [HX0.out]
  clear HX0
  refine wp_region_held_drew (S := (fun w' => w'.cell? ⟨w.heap.size + 1, 3, none⟩ = some (.int .i64 4) ∧ w'.cell? ⟨w.heap.size, 0, none⟩ = some (.int .i64 q.kind) ∧ w'.cell? ⟨w.heap.size, 1, none⟩ = some (.int .i64 q.id) ∧ w'.cell? ⟨w.heap.size, 2, none⟩ = some (.int .i64 q.a) ∧ w'.cell? ⟨w.heap.size, 3, none⟩ = some (.int .i64 q.b) ∧ w'.cell? ⟨w.heap.size, 4, none⟩ = some (.int .i64 q.c) ∧ w'.cell? ⟨w.heap.size, 5, none⟩ = some (.int .i64 q.d) ∧ w'.cell? ⟨w.heap.size, 6, none⟩ = some (.int .i64 q.pw) ∧ w'.cell? ⟨w.heap.size, 7, none⟩ = some (.int .i64 q.ph) ∧ w'.cell? ⟨w.heap.size, 8, none⟩ = some (.slice ap np cp))) (by kernel_rfl) ?_ (fun hHeld => ?_)
  · exact KEEP.out _ (Below.refl _ _).drew
  refine wpAnyH_take (i := 0) (oi := ({ dst := some 6, op := Op.load 27 (Operand.tmp 2), type := 27, pos := "op.go:136", after := #[], guard := none } : Oper)) (v := ?_) rfl (by kernel_rfl) (by kernel_rfl) (by kernel_rfl) (fun _ _ _ h => h) (Or.inl ⟨by rfl, ?_⟩) (by assumption) ?_
  rotate_left
  · (intro w hSw; (try dsimp only at hSw); go_simp; try with_reducible rfl)
  try simp only [Act.put, List.setIfInBounds_toArray, List.set_cons_zero, List.set_cons_succ]
  refine wpAnyH_take (i := 2) (oi := ({ dst := some 8, op := Op.fieldAddr 55 (Operand.tmp 3) 3, type := 0, pos := "op.go:136", after := #[], guard := none } : Oper)) (v := ?_) rfl (by kernel_rfl) (by kernel_rfl) (by kernel_rfl) (fun _ _ _ h => h) (Or.inl ⟨by rfl, ?_⟩) (by assumption) ?_
  rotate_left
  · (intro w hSw; (try dsimp only at hSw); go_simp; try with_reducible rfl)
  try simp only [Act.put, List.setIfInBounds_toArray, List.set_cons_zero, List.set_cons_succ]
  refine wpAnyH_take (i := 3) (oi := ({ dst := some 9, op := Op.load 3 (Operand.tmp 8), type := 3, pos := "op.go:136", after := #[{ on := 2, ground := Ground.data }], guard := none } : Oper)) (v := ?_) rfl (by kernel_rfl) (by kernel_rfl) (by kernel_rfl) (fun _ _ _ h => h) (Or.inl ⟨by rfl, ?_⟩) (by assumption) ?_
  rotate_left
  · (intro w hSw; (try dsimp only at hSw); go_simp; try with_reducible rfl)
  try simp only [Act.put, List.setIfInBounds_toArray, List.set_cons_zero, List.set_cons_succ]
  refine wpAnyH_ready (rs := [1]) (by kernel_rfl) (by simp) ?_
  refine AllReadyH.cons (o := ({ dst := some 7, op := Op.call { callee := Callee.value (Operand.func 41), args := #[Operand.tmp 6], argTypes := #[27] }, type := 59, pos := "op.go:136", after := #[{ on := 0, ground := Ground.data }], guard := none } : Oper)) rfl (fun K_ hK => ?_) AllReadyH.nil
  go_simp
  refine (numbers_any q (.slice ap np cp) X0.drew).mono ?_
  rintro e w1 ⟨g1, rfl, hg1, hh1, hb1⟩
  have HB1 : Hid (Below X0.heap.size X0 w1) := ⟨hb1.os, hb1.tape, hb1.output, hb1.size, hb1.block⟩
  have HCE : Hid (∀ j v, (intCells ((nums4 q).drop 4))[j]? = some v → w1.cell? ((⟨g1, 0, none⟩ : Addr).add j) = some v) := (by intro j v hj; simp [nums4, intCells] at hj)
  have hg1l : g1 < w1.heap.size := (Array.getElem?_eq_some_iff.1 hh1).1
  clear hh1 hb1
  refine hK.out _ _ ?_ (fun hHeld => ?_)
  · exact KEEP.out _ HB1.out
  clear hK K_
  try simp only [Act.put, List.setIfInBounds_toArray, List.set_cons_zero, List.set_cons_succ]
  refine wpAnyH_take (i := 4) (oi := ({ dst := some 10, op := Op.slice 59 (Operand.tmp 7) (some (Operand.tmp 9)) none none, type := 59, pos := "op.go:136", after := #[{ on := 1, ground := Ground.data }, { on := 3, ground := Ground.data }], guard := none } : Oper)) (v := ?_) rfl (by kernel_rfl) (by kernel_rfl) (by kernel_rfl) (fun _ _ _ h => h) (Or.inl ⟨by rfl, ?_⟩) (by assumption) ?_
  rotate_left
  · (intro w hSw; (try dsimp only at hSw); go_simp; try with_reducible rfl)
  try simp only [Act.put, List.setIfInBounds_toArray, List.set_cons_zero, List.set_cons_succ]
  refine wpAnyH_take (i := 5) (oi := ({ dst := some 5, op := Op.assign (Operand.tmp 10), type := 59, pos := "op.go:136", after := #[{ on := 4, ground := Ground.data }, { on := 1, ground := Ground.chain }, { on := 0, ground := Ground.phase }, { on := 1, ground := Ground.phase }, { on := 2, ground := Ground.phase }, { on := 3, ground := Ground.phase }, { on := 4, ground := Ground.phase }], guard := none } : Oper)) (v := ?_) rfl (by kernel_rfl) (by kernel_rfl) (by kernel_rfl) (fun _ _ _ h => h) (Or.inl ⟨by rfl, ?_⟩) (by assumption) ?_
  rotate_left
  · (intro w hSw; (try dsimp only at hSw); go_simp; try with_reducible rfl)
  try simp only [Act.put, List.setIfInBounds_toArray, List.set_cons_zero, List.set_cons_succ]
  refine wpAnyH_done (by kernel_rfl) ?_ _
  have hln : ((nums4 q).drop 4).length = 0 := by simp [nums4]
  have N1 := N0.out.on HB1.out
  have S1 := S0.out.on HB1.out
  obtain ⟨m0, m1, m2, m3, m4, m5, m6, m7, m8, mf0, mf1, mf2, mf3, mf4, mf5, mf6, mf7, mf8, mlt⟩ := N1
  obtain ⟨s0, s1, s2, s3, s4, s5, s6, sf0, sf1, sf2, sf3, sf4, sf5, sf6, slt⟩ := S1
  have hbb1 := hbz.trans (HB1.out.mono hbz.size)
  clear KEEP
  cases hsp : s.pic with
  | true =>
    have hid : s.id = true := by
      cases h : s.id with
      | true => rfl
      | false => have := hip h; rw [hsp] at this; cases this
    rw [hsp] at s6
    rw [hid] at s2
    have HF : Hid (forL q s = (nums4 q).drop 4) := by unfold Hid forL; rw [HN4.out, hid, hsp]; simp
    clear hsp hid
    go_wp2_with fail
    go_ret
    refine ⟨.slice (some ⟨g1, 0, none⟩) 0 0, rfl, ?_, hbb1⟩
    rw [HF.out]
    exact ⟨some ⟨g1, 0, none⟩, 0, by rw [hln], by rw [hln]; exact Nat.le_refl _, by omega, fun hne => ⟨g1, 0, rfl, hg1l, fun j hj => by have := HCE.out j _ (intCells_at _ j hj); rw [show (⟨g1, 0, none⟩ : Addr).add j = ⟨g1, 0 + j, none⟩ by unfold Addr.add; split <;> simp_all] at this; exact this⟩⟩
  | false =>
    rw [hsp] at s6
    cases hid : s.id with
    | true =>
      rw [hid] at s2
      have HF : Hid (forL q s = (nums4 q).drop 4 ++ [q.pw, q.ph, (np : Int)]) := by unfold Hid forL; rw [HN4.out, hid, hsp, HNP.out]; simp
      clear hsp hid
      have hbx : Below w1.heap.size w1 (w1.alloc (.cells #[.int .i64 q.pw, .int .i64 q.ph, .int .i64 (np : Int)] 3)) := (Below.refl _ _).alloc (Nat.le_refl _) _
      obtain ⟨v', w3, hr, ho, hb3⟩ := run_append_full (w1.alloc (.cells #[.int .i64 q.pw, .int .i64 q.ph, .int .i64 (np : Int)] 3)) ((nums4 q).drop 4) [q.pw, q.ph, (np : Int)] ⟨g1, 0, none⟩ 0 hln (fun j v hj => by have := HCE.out j v hj; rw [show (⟨g1, 0, none⟩ : Addr).add j = ⟨g1, 0 + j, none⟩ by unfold Addr.add; split <;> simp_all] at this ⊢; exact (hbx.cell (p := ⟨g1, 0 + j, none⟩) hg1l).trans this) ⟨w1.heap.size, 0, none⟩ 3 3 rfl (by omega) (new_cells w1 _ 3) (by omega) 59
      have hbb3 := (hbb1.trans (hbx.mono hbb1.size)).trans (hb3.mono (hbb1.trans (hbx.mono hbb1.size)).size)
      have HRI := hid_of3 (rdI_own ho (by rw [List.length_append, hln]; rfl))
      obtain ⟨a', c', hv'⟩ := own_any ho
      subst hv'
      clear ho hb3 hbx
      go_wp2_with (at_builtin; refine Lib.wpList_append_run _ rfl _ _ _ _ rfl _ _ rfl rfl _ _ hr ?_)
      go_ret
      exact ⟨_, rfl, by rw [HF.out]; exact HRI.out, hbb3⟩
    | false =>
      rw [hid] at s2
      have HSP := hid_of3 hsp
      have HF : Hid (forL q s = ((nums4 q).drop 4 ++ [q.id]) ++ [q.pw, q.ph, (np : Int)]) := by unfold Hid forL; rw [HN4.out, hid, hsp, HNP.out]; simp
      clear hsp hid
      have hbx : Below w1.heap.size w1 (w1.alloc (.cells #[.int .i64 q.id] 3)) := (Below.refl _ _).alloc (Nat.le_refl _) _
      obtain ⟨v', w3, hr, ho, hb3⟩ := run_append_full (w1.alloc (.cells #[.int .i64 q.id] 3)) ((nums4 q).drop 4) [q.id] ⟨g1, 0, none⟩ 0 hln (fun j v hj => by have := HCE.out j v hj; rw [show (⟨g1, 0, none⟩ : Addr).add j = ⟨g1, 0 + j, none⟩ by unfold Addr.add; split <;> simp_all] at this ⊢; exact (hbx.cell (p := ⟨g1, 0 + j, none⟩) hg1l).trans this) ⟨w1.heap.size, 0, none⟩ 1 1 rfl (by omega) (new_cells w1 _ 3) (by omega) 59
      have hbb2 := hbb1.trans (hbx.mono hbb1.size)
      have hbb3 := hbb2.trans (hb3.mono hbb2.size)
      have HO3 := hide_own (own_mono ho hbb2.size)
      obtain ⟨a', c', hv'⟩ := own_any ho
      subst hv'
      have S3 := ((S0.out.on HB1.out).on hbx).on hb3
      have N3 := ((N0.out.on HB1.out).on hbx).on hb3
      obtain ⟨x0, x1, x2, x3, x4, x5, x6, xf0, xf1, xf2, xf3, xf4, xf5, xf6, xlt⟩ := S3
      obtain ⟨y0, y1, y2, y3, y4, y5, y6, y7, y8, yf0, yf1, yf2, yf3, yf4, yf5, yf6, yf7, yf8, ylt⟩ := N3
      rw [HSP.out] at x6
      obtain ⟨i0, hi, hz0, hz1, hz2⟩ := info_parts Tryd.infoInt
      have hbx3 : Below w3.heap.size w3 (w3.alloc (.cells #[.int .i64 q.pw, .int .i64 q.ph, .int .i64 (np : Int)] 3)) := (Below.refl _ _).alloc (Nat.le_refl _) _
      have HO4 := own_on2 HO3.out hbx3
      have hbb4 := hbb3.trans (hbx3.mono hbb3.size)
      obtain ⟨v5, w5, hr5, ho5, hg5, _⟩ := run_append_own (P := Tryd.prog) _ w.heap.size 59 59 3 i0 (.int .i64 0) 1 8 Tryd.underlying59 hi hz0 hz1 hz2 rfl (by decide) _ _ _ HO4 ⟨w3.heap.size, 0, none⟩ 3 3 (intCells [q.pw, q.ph, (np : Int)]) rfl (new_cells w3 _ 3) (intCells_one _) (by unfold maxLen; omega) (by omega) hbb4.size
      have hbb5 : Below w.heap.size w w5 := hbb4.grown hg5 hbb4.size (fun z hz => (HO4.lt z hz).1)
      have e5 : intCells ((nums4 q).drop 4 ++ [q.id]) ++ intCells [q.pw, q.ph, (np : Int)] = intCells (((nums4 q).drop 4 ++ [q.id]) ++ [q.pw, q.ph, (np : Int)]) := by simp [intCells]
      rw [e5] at ho5
      have HRI := hid_of3 (rdI_own ho5 (by rw [List.length_append, List.length_append, hln]; rfl))
      obtain ⟨a5, c5, hv5⟩ := own_any ho5
      subst hv5
      clear ho hb3 hbx ho5 hg5 e5 hbx3 HO4 HO3
      go_wp2_with (at_builtin; first | refine Lib.wpList_append_run _ rfl _ _ _ _ rfl _ _ rfl rfl _ _ hr ?_ | refine Lib.wpList_append_run _ rfl _ _ _ _ rfl _ _ rfl rfl _ _ hr5 ?_)
      go_ret
      exact ⟨_, rfl, by rw [HF.out]; exact HRI.out, hbb5⟩

set_option maxHeartbeats 8000000 in
set_option maxRecDepth 100000 in
theorem foreign_any (q : Pq) (s : Shp) (ap : Option Addr) (np cp : Nat) (w : World) (hnums : s.nums ≤ 4) (hip : s.id = false → s.pic = false) (HNP : Hid (q.ps.length = np)) (hnp : np ≤ 9223372036854775807) :
    Calls Tryd.prog 21 #[opV q (.slice ap np cp), s.val] w fun e w' => ∃ v', e = .returned v' ∧ RdI w' v' (forL q s) ∧ Below w.heap.size w w' := by
  by_cases hnn : s.nums = 4
  · have h := foreign4_any q s ap np cp w hnn hip HNP hnp
    have e : s.val = .agg #[.int .i64 (s.kind : Int), .string s.bytes, .bool s.id, .int .i64 4, .int .i64 s.low, .int .i64 s.high, .bool s.pic] := by unfold Shp.val; rw [hnn]; rfl
    rw [e]
    exact h
  obtain ⟨X0, HX0⟩ : ∃ X0, Hid (((w.alloc (.cells #[.int .i64 q.kind, .int .i64 q.id, .int .i64 q.a, .int .i64 q.b, .int .i64 q.c, .int .i64 q.d, .int .i64 q.pw, .int .i64 q.ph, .slice ap np cp] 27)).alloc (.cells #[.int .i64 (s.kind : Int), .string s.bytes, .bool s.id, .int .i64 (s.nums : Int), .int .i64 s.low, .int .i64 s.high, .bool s.pic] 55)) = X0) := ⟨_, (rfl : _ = _)⟩
  have hbz : Below w.heap.size w X0 := by rw [← HX0.out]; exact ((Below.refl _ _).alloc (Nat.le_refl _) _).alloc (by simp) _
  have N0 : Hid (Nine X0 w.heap.size (.int .i64 q.kind) (.int .i64 q.id) (.int .i64 q.a) (.int .i64 q.b) (.int .i64 q.c) (.int .i64 q.d) (.int .i64 q.pw) (.int .i64 q.ph) (.slice ap np cp)) := by rw [← HX0.out]; exact (nine_start w _ _ _ _ _ _ _ _ _ 27 w.heap.size rfl).alloc _
  have S0 : Hid (Seven X0 (w.heap.size + 1) (.int .i64 (s.kind : Int)) (.string s.bytes) (.bool s.id) (.int .i64 (s.nums : Int)) (.int .i64 s.low) (.int .i64 s.high) (.bool s.pic)) := by rw [← HX0.out]; exact seven_start _ _ _ _ _ _ _ _ 55 (w.heap.size + 1) (by simp)
  have KEEP : Hid (∀ w', Below X0.heap.size X0 w' → (w'.cell? ⟨w.heap.size + 1, 3, none⟩ = some (.int .i64 (s.nums : Int)) ∧ w'.cell? ⟨w.heap.size, 0, none⟩ = some (.int .i64 q.kind) ∧ w'.cell? ⟨w.heap.size, 1, none⟩ = some (.int .i64 q.id) ∧ w'.cell? ⟨w.heap.size, 2, none⟩ = some (.int .i64 q.a) ∧ w'.cell? ⟨w.heap.size, 3, none⟩ = some (.int .i64 q.b) ∧ w'.cell? ⟨w.heap.size, 4, none⟩ = some (.int .i64 q.c) ∧ w'.cell? ⟨w.heap.size, 5, none⟩ = some (.int .i64 q.d) ∧ w'.cell? ⟨w.heap.size, 6, none⟩ = some (.int .i64 q.pw) ∧ w'.cell? ⟨w.heap.size, 7, none⟩ = some (.int .i64 q.ph) ∧ w'.cell? ⟨w.heap.size, 8, none⟩ = some (.slice ap np cp))) := by
    intro w' h
    obtain ⟨m0, m1, m2, m3, m4, m5, m6, m7, m8, mf0, mf1, mf2, mf3, mf4, mf5, mf6, mf7, mf8, mlt⟩ := N0.out.on h
    exact ⟨(S0.out.on h).c3, m0, m1, m2, m3, m4, m5, m6, m7, m8⟩
  unfold Shp.val
  have hi1 : (0 : Int) ≤ (s.nums : Int) := by omega
  have hi2 : (s.nums : Int) ≤ 4 := by omega
  have hi3 : IntKind.i64.wrap (s.nums : Int) = (s.nums : Int) := by rw [IntKind.wrap_i64]; omega
  have hi4 : ¬ 4 = s.nums := fun h => hnn h.symm
  go_enter Tryd.func21, Tryd.ntmps21
  go_wp2_with fail
  rw [HX0.out]
  clear HX0
  refine wp_region_held_drew (S := (fun w' => w'.cell? ⟨w.heap.size + 1, 3, none⟩ = some (.int .i64 (s.nums : Int)) ∧ w'.cell? ⟨w.heap.size, 0, none⟩ = some (.int .i64 q.kind) ∧ w'.cell? ⟨w.heap.size, 1, none⟩ = some (.int .i64 q.id) ∧ w'.cell? ⟨w.heap.size, 2, none⟩ = some (.int .i64 q.a) ∧ w'.cell? ⟨w.heap.size, 3, none⟩ = some (.int .i64 q.b) ∧ w'.cell? ⟨w.heap.size, 4, none⟩ = some (.int .i64 q.c) ∧ w'.cell? ⟨w.heap.size, 5, none⟩ = some (.int .i64 q.d) ∧ w'.cell? ⟨w.heap.size, 6, none⟩ = some (.int .i64 q.pw) ∧ w'.cell? ⟨w.heap.size, 7, none⟩ = some (.int .i64 q.ph) ∧ w'.cell? ⟨w.heap.size, 8, none⟩ = some (.slice ap np cp))) (by kernel_rfl) ?_ (fun hHeld => ?_)
  · exact KEEP.out _ (Below.refl _ _).drew
  refine wpAnyH_take (i := 0) (oi := ({ dst := some 6, op := Op.load 27 (Operand.tmp 2), type := 27, pos := "op.go:136", after := #[], guard := none } : Oper)) (v := ?_) rfl (by kernel_rfl) (by kernel_rfl) (by kernel_rfl) (fun _ _ _ h => h) (Or.inl ⟨by rfl, ?_⟩) (by assumption) ?_
  rotate_left
  · (intro w hSw; (try dsimp only at hSw); go_simp; try with_reducible rfl)
  try simp only [Act.put, List.setIfInBounds_toArray, List.set_cons_zero, List.set_cons_succ]
  refine wpAnyH_take (i := 2) (oi := ({ dst := some 8, op := Op.fieldAddr 55 (Operand.tmp 3) 3, type := 0, pos := "op.go:136", after := #[], guard := none } : Oper)) (v := ?_) rfl (by kernel_rfl) (by kernel_rfl) (by kernel_rfl) (fun _ _ _ h => h) (Or.inl ⟨by rfl, ?_⟩) (by assumption) ?_
  rotate_left
  · (intro w hSw; (try dsimp only at hSw); go_simp; try with_reducible rfl)
  try simp only [Act.put, List.setIfInBounds_toArray, List.set_cons_zero, List.set_cons_succ]
  refine wpAnyH_take (i := 3) (oi := ({ dst := some 9, op := Op.load 3 (Operand.tmp 8), type := 3, pos := "op.go:136", after := #[{ on := 2, ground := Ground.data }], guard := none } : Oper)) (v := ?_) rfl (by kernel_rfl) (by kernel_rfl) (by kernel_rfl) (fun _ _ _ h => h) (Or.inl ⟨by rfl, ?_⟩) (by assumption) ?_
  rotate_left
  · (intro w hSw; (try dsimp only at hSw); go_simp; try with_reducible rfl)
  try simp only [Act.put, List.setIfInBounds_toArray, List.set_cons_zero, List.set_cons_succ]
  refine wpAnyH_ready (rs := [1]) (by kernel_rfl) (by simp) ?_
  refine AllReadyH.cons (o := ({ dst := some 7, op := Op.call { callee := Callee.value (Operand.func 41), args := #[Operand.tmp 6], argTypes := #[27] }, type := 59, pos := "op.go:136", after := #[{ on := 0, ground := Ground.data }], guard := none } : Oper)) rfl (fun K_ hK => ?_) AllReadyH.nil
  go_simp
  refine (numbers_any q (.slice ap np cp) X0.drew).mono ?_
  rintro e w1 ⟨g1, rfl, hg1, hh1, hb1⟩
  have HB1 : Hid (Below X0.heap.size X0 w1) := ⟨hb1.os, hb1.tape, hb1.output, hb1.size, hb1.block⟩
  have HCE : Hid (∀ j v, (intCells ((nums4 q).drop s.nums))[j]? = some v → w1.cell? ((⟨g1, s.nums, none⟩ : Addr).add j) = some v) := four_cells q hh1 s.nums
  have hg1l : g1 < w1.heap.size := (Array.getElem?_eq_some_iff.1 hh1).1
  clear hh1 hb1
  refine hK.out _ _ ?_ (fun hHeld => ?_)
  · exact KEEP.out _ HB1.out
  clear hK K_
  try simp only [Act.put, List.setIfInBounds_toArray, List.set_cons_zero, List.set_cons_succ]
  refine wpAnyH_take (i := 4) (oi := ({ dst := some 10, op := Op.slice 59 (Operand.tmp 7) (some (Operand.tmp 9)) none none, type := 59, pos := "op.go:136", after := #[{ on := 1, ground := Ground.data }, { on := 3, ground := Ground.data }], guard := none } : Oper)) (v := ?_) rfl (by kernel_rfl) (by kernel_rfl) (by kernel_rfl) (fun _ _ _ h => h) (Or.inl ⟨by rfl, ?_⟩) (by assumption) ?_
  rotate_left
  · (intro w hSw; (try dsimp only at hSw); go_simp; try with_reducible rfl)
  try simp only [Act.put, List.setIfInBounds_toArray, List.set_cons_zero, List.set_cons_succ]
  refine wpAnyH_take (i := 5) (oi := ({ dst := some 5, op := Op.assign (Operand.tmp 10), type := 59, pos := "op.go:136", after := #[{ on := 4, ground := Ground.data }, { on := 1, ground := Ground.chain }, { on := 0, ground := Ground.phase }, { on := 1, ground := Ground.phase }, { on := 2, ground := Ground.phase }, { on := 3, ground := Ground.phase }, { on := 4, ground := Ground.phase }], guard := none } : Oper)) (v := ?_) rfl (by kernel_rfl) (by kernel_rfl) (by kernel_rfl) (fun _ _ _ h => h) (Or.inl ⟨by rfl, ?_⟩) (by assumption) ?_
  rotate_left
  · (intro w hSw; (try dsimp only at hSw); go_simp; try with_reducible rfl)
  try simp only [Act.put, List.setIfInBounds_toArray, List.set_cons_zero, List.set_cons_succ]
  refine wpAnyH_done (by kernel_rfl) ?_ _
  have hln : ((nums4 q).drop s.nums).length = (4 - s.nums) := by simp [nums4]
  have N1 := N0.out.on HB1.out
  have S1 := S0.out.on HB1.out
  obtain ⟨m0, m1, m2, m3, m4, m5, m6, m7, m8, mf0, mf1, mf2, mf3, mf4, mf5, mf6, mf7, mf8, mlt⟩ := N1
  obtain ⟨s0, s1, s2, s3, s4, s5, s6, sf0, sf1, sf2, sf3, sf4, sf5, sf6, slt⟩ := S1
  have hbb1 := hbz.trans (HB1.out.mono hbz.size)
  clear KEEP
  cases hsp : s.pic with
  | true =>
    have hid : s.id = true := by
      cases h : s.id with
      | true => rfl
      | false => have := hip h; rw [hsp] at this; cases this
    rw [hsp] at s6
    rw [hid] at s2
    have HF : Hid (forL q s = (nums4 q).drop s.nums) := by unfold Hid forL; rw [hid, hsp]; simp
    clear hsp hid
    go_wp2_with fail
    go_ret
    refine ⟨.slice (some ⟨g1, s.nums, none⟩) (4 - s.nums) (4 - s.nums), rfl, ?_, hbb1⟩
    rw [HF.out]
    exact ⟨some ⟨g1, s.nums, none⟩, (4 - s.nums), by rw [hln], by rw [hln]; exact Nat.le_refl _, by omega, fun hne => ⟨g1, s.nums, rfl, hg1l, fun j hj => by have := HCE.out j _ (intCells_at _ j hj); rw [show (⟨g1, s.nums, none⟩ : Addr).add j = ⟨g1, s.nums + j, none⟩ by unfold Addr.add; split <;> simp_all] at this; exact this⟩⟩
  | false =>
    rw [hsp] at s6
    cases hid : s.id with
    | true =>
      rw [hid] at s2
      have HF : Hid (forL q s = (nums4 q).drop s.nums ++ [q.pw, q.ph, (np : Int)]) := by unfold Hid forL; rw [hid, hsp, HNP.out]; simp
      clear hsp hid
      have hbx : Below w1.heap.size w1 (w1.alloc (.cells #[.int .i64 q.pw, .int .i64 q.ph, .int .i64 (np : Int)] 3)) := (Below.refl _ _).alloc (Nat.le_refl _) _
      obtain ⟨v', w3, hr, ho, hb3⟩ := run_append_full (w1.alloc (.cells #[.int .i64 q.pw, .int .i64 q.ph, .int .i64 (np : Int)] 3)) ((nums4 q).drop s.nums) [q.pw, q.ph, (np : Int)] ⟨g1, s.nums, none⟩ (4 - s.nums) hln (fun j v hj => by have := HCE.out j v hj; rw [show (⟨g1, s.nums, none⟩ : Addr).add j = ⟨g1, s.nums + j, none⟩ by unfold Addr.add; split <;> simp_all] at this ⊢; exact (hbx.cell (p := ⟨g1, s.nums + j, none⟩) hg1l).trans this) ⟨w1.heap.size, 0, none⟩ 3 3 rfl (by omega) (new_cells w1 _ 3) (by omega) 59
      have hbb3 := (hbb1.trans (hbx.mono hbb1.size)).trans (hb3.mono (hbb1.trans (hbx.mono hbb1.size)).size)
      have HRI := hid_of3 (rdI_own ho (by rw [List.length_append, hln]; rfl))
      obtain ⟨a', c', hv'⟩ := own_any ho
      subst hv'
      clear ho hb3 hbx
      go_wp2_with (at_builtin; refine Lib.wpList_append_run _ rfl _ _ _ _ rfl _ _ rfl rfl _ _ hr ?_)
      go_ret
      exact ⟨_, rfl, by rw [HF.out]; exact HRI.out, hbb3⟩
    | false =>
      rw [hid] at s2
      have HSP := hid_of3 hsp
      have HF : Hid (forL q s = ((nums4 q).drop s.nums ++ [q.id]) ++ [q.pw, q.ph, (np : Int)]) := by unfold Hid forL; rw [hid, hsp, HNP.out]; simp
      clear hsp hid
      have hbx : Below w1.heap.size w1 (w1.alloc (.cells #[.int .i64 q.id] 3)) := (Below.refl _ _).alloc (Nat.le_refl _) _
      obtain ⟨v', w3, hr, ho, hb3⟩ := run_append_full (w1.alloc (.cells #[.int .i64 q.id] 3)) ((nums4 q).drop s.nums) [q.id] ⟨g1, s.nums, none⟩ (4 - s.nums) hln (fun j v hj => by have := HCE.out j v hj; rw [show (⟨g1, s.nums, none⟩ : Addr).add j = ⟨g1, s.nums + j, none⟩ by unfold Addr.add; split <;> simp_all] at this ⊢; exact (hbx.cell (p := ⟨g1, s.nums + j, none⟩) hg1l).trans this) ⟨w1.heap.size, 0, none⟩ 1 1 rfl (by omega) (new_cells w1 _ 3) (by omega) 59
      have hbb2 := hbb1.trans (hbx.mono hbb1.size)
      have hbb3 := hbb2.trans (hb3.mono hbb2.size)
      have HO3 := hide_own (own_mono ho hbb2.size)
      obtain ⟨a', c', hv'⟩ := own_any ho
      subst hv'
      have S3 := ((S0.out.on HB1.out).on hbx).on hb3
      have N3 := ((N0.out.on HB1.out).on hbx).on hb3
      obtain ⟨x0, x1, x2, x3, x4, x5, x6, xf0, xf1, xf2, xf3, xf4, xf5, xf6, xlt⟩ := S3
      obtain ⟨y0, y1, y2, y3, y4, y5, y6, y7, y8, yf0, yf1, yf2, yf3, yf4, yf5, yf6, yf7, yf8, ylt⟩ := N3
      rw [HSP.out] at x6
      obtain ⟨i0, hi, hz0, hz1, hz2⟩ := info_parts Tryd.infoInt
      have hbx3 : Below w3.heap.size w3 (w3.alloc (.cells #[.int .i64 q.pw, .int .i64 q.ph, .int .i64 (np : Int)] 3)) := (Below.refl _ _).alloc (Nat.le_refl _) _
      have HO4 := own_on2 HO3.out hbx3
      have hbb4 := hbb3.trans (hbx3.mono hbb3.size)
      obtain ⟨v5, w5, hr5, ho5, hg5, _⟩ := run_append_own (P := Tryd.prog) _ w.heap.size 59 59 3 i0 (.int .i64 0) 1 8 Tryd.underlying59 hi hz0 hz1 hz2 rfl (by decide) _ _ _ HO4 ⟨w3.heap.size, 0, none⟩ 3 3 (intCells [q.pw, q.ph, (np : Int)]) rfl (new_cells w3 _ 3) (intCells_one _) (by unfold maxLen; omega) (by omega) hbb4.size
      have hbb5 : Below w.heap.size w w5 := hbb4.grown hg5 hbb4.size (fun z hz => (HO4.lt z hz).1)
      have e5 : intCells ((nums4 q).drop s.nums ++ [q.id]) ++ intCells [q.pw, q.ph, (np : Int)] = intCells (((nums4 q).drop s.nums ++ [q.id]) ++ [q.pw, q.ph, (np : Int)]) := by simp [intCells]
      rw [e5] at ho5
      have HRI := hid_of3 (rdI_own ho5 (by rw [List.length_append, List.length_append, hln]; rfl))
      obtain ⟨a5, c5, hv5⟩ := own_any ho5
      subst hv5
      clear ho hb3 hbx ho5 hg5 e5 hbx3 HO4 HO3
      go_wp2_with (at_builtin; first | refine Lib.wpList_append_run _ rfl _ _ _ _ rfl _ _ rfl rfl _ _ hr ?_ | refine Lib.wpList_append_run _ rfl _ _ _ _ rfl _ _ rfl rfl _ _ hr5 ?_)
      go_ret
      exact ⟨_, rfl, by rw [HF.out]; exact HRI.out, hbb5⟩
end Go.Proofs.YtkmolifgfbaboaaDoor
