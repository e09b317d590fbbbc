/- Walks: op.Parts, script.buildPicture. -- s1 -/
import Derived.Test.YtfhfedcamcpceaaDoorM4
import Derived.Test.YtfhfedcamcpceaaDoorScBJ
import Derived.StillTailTactics
namespace Go.Proofs.YtfhfedcamcpceaaDoor
open Go.RowKit
open Go.Lib hiding intOf

set_option maxHeartbeats 4000000 in
set_option maxRecDepth 100000 in
theorem opParts_any (kd : Int) (s : Shp) (w : World) (HS : Hid (Shapes w)) (h1 : 3 < w.heap.size) (HK : Hid (kindAt kd shps = some s)) :
    Calls Tryd.prog 67 #[.int .i64 kd] w fun e w' => e = .returned (.tuple #[.bool s.id, .int .i64 (s.nums : Int), .bool s.pic]) ∧ Below w.heap.size w w' := by
  have hk := ofKind_any kd w HS h1
  rw [HK.out] at hk
  have HO := hid_of3 hk
  clear hk
  go_enter Tryd.func67, Tryd.ntmps67
  go_wp2_with fail
  refine HO.out.mono ?_
  rintro e w1 ⟨hb1, he⟩
  simp only at he
  subst he
  unfold Shp.val
  go_wp2_with fail
  go_quiet (fail)
  go_wp2_with fail
  refine bodyPost_ret (v := .tuple #[.bool s.id, .int .i64 (s.nums : Int), .bool s.pic]) (by simp [results, Tryd.results67, go_sem]) rfl ⟨rfl, ?_⟩
  exact below_drewN (hb1.alloc hb1.size _) _

theorem pixCells_app (a b : List (Int × Int)) : pixCells (a ++ b) = pixCells a ++ pixCells b := by
  induction a with
  | nil => rfl
  | cons p r ih => obtain ⟨x, y⟩ := p; simp [pixCells, ih]
/-- one pixel appended to a row of one's own -/
theorem pix_app1 (w : World) (B : Nat) (v : Value) (ps : List (Int × Int)) (n : Nat) (h : w.ownsRow B 88 2 v n (pixCells ps)) (hn : n ≤ 1000000000) (hB : B ≤ w.heap.size) (g : Nat) (x y : Int) (c0 : w.cell? ⟨g, 0, none⟩ = some (.int .i64 x)) (c1 : w.cell? ⟨g, 1, none⟩ = some (.int .i64 y)) :
    ∃ v' w', (Builtin.append_ #[22, 22] 22 #[v, .slice (some ⟨g, 0, none⟩) 1 1]).run Tryd.prog w = .ok v' w' ∧ w'.ownsRow B 88 2 v' (n + 1) (pixCells (ps ++ [(x, y)])) ∧ Below B w w' := by
  obtain ⟨i0, hi, hz0, hz1, hz2⟩ := info_parts Tryd.infoPix
  obtain ⟨v', w', hr, r1, r2, _, _⟩ := run_append_own_at (P := Tryd.prog) w B 22 22 88 i0 _ 2 16 Tryd.underlying22 hi hz0 hz1 hz2 rfl (by decide) v n _ h ⟨g, 0, none⟩ 1 1 [.int .i64 x, .int .i64 y] rfl
    (fun j u hj => by
      rw [addr_add]
      match j, hj with
      | 0, hj => simp at hj; subst hj; exact c0
      | 1, hj => simp at hj; subst hj; exact c1) (by intro u hu; simp at hu; rcases hu with rfl | rfl <;> rfl) (by unfold maxLen; omega) (by omega) hB
  refine ⟨v', w', hr, ?_, (Below.refl _ _).grown r2 hB (fun z hz => (h.lt z hz).1)⟩
  rw [pixCells_app]
  exact r1
/-- what is told of a picture: its sides, its pixels -/
def picN (us : List Int) : Int × Int × List (Int × Int) × Bool := if 2 ≤ us.length ∧ us.length % 2 = 0 then (us.getD 0 0, us.getD 1 0, Sc.pairN (us.drop 2), true) else (0, 0, [], false)
theorem pairN_snoc : ∀ (m : Nat) (l : List Int) (x y : Int), l.length = 2 * m → Sc.pairN (l ++ [x, y]) = Sc.pairN l ++ [(x, y)] := by
  intro m
  induction m with
  | zero => intro l x y h; have : l = [] := List.eq_nil_of_length_eq_zero (by omega); subst this; rfl
  | succ m ih =>
    intro l x y h
    match l, h with
    | v :: a :: r, h => simp only [List.cons_append, Sc.pairN]; rw [ih r x y (by simp only [List.length_cons] at h; omega)]
    | [_], h => simp at h; omega
    | [], h => simp at h
theorem pair_step (us : List Int) (m : Nat) (h : 2 + 2 * m + 2 ≤ us.length) {x y : Int} (hx : us.getD (2 + 2 * m) 0 = x) (hy : us.getD (2 + 2 * m + 1) 0 = y) : Sc.pairN ((us.drop 2).take (2 * (m + 1))) = Sc.pairN ((us.drop 2).take (2 * m)) ++ [(x, y)] := by
  have e : (us.drop 2).take (2 * (m + 1)) = (us.drop 2).take (2 * m) ++ [x, y] := by
    rw [show 2 * (m + 1) = 2 * m + 1 + 1 by omega, List.take_add_one, List.take_add_one, List.append_assoc]
    congr 1
    rw [List.getElem?_drop, List.getElem?_drop, List.getElem?_eq_getElem (show 2 + 2 * m < us.length by omega), List.getElem?_eq_getElem (show 2 + (2 * m + 1) < us.length by omega)]
    rw [List.getD_eq_getElem?_getD, List.getElem?_eq_getElem (show 2 + 2 * m < us.length by omega)] at hx
    rw [List.getD_eq_getElem?_getD, List.getElem?_eq_getElem (show 2 + 2 * m + 1 < us.length by omega)] at hy
    simp only [Option.getD_some] at hx hy
    simp only [Option.toList_some, List.singleton_append, hx, show 2 + (2 * m + 1) = 2 + 2 * m + 1 by omega, hy]
  rw [e]
  exact pairN_snoc m _ x y (by rw [List.length_take, List.length_drop]; omega)
set_option maxHeartbeats 8000000 in
set_option maxRecDepth 100000 in
theorem buildPic_any (v : Value) (us : List Int) (w : World) (HU : Hid (RdI w v us)) (hn : us.length ≤ 1000000) (W H : Int) (ps : List (Int × Int)) (b : Bool) (HP : Hid (picN us = (W, H, ps, b))) :
    Calls Tryd.prog 71 #[v] w fun e w' => ∃ u, e = .returned (.tuple #[.agg #[.int .i64 W, .int .i64 H, u], .bool b]) ∧ w'.ownsRow w.heap.size 88 2 u ps.length (pixCells ps) ∧ Below w.heap.size w w' := by
  obtain ⟨a, cap, hv, hl, hcap, -⟩ := HU.out
  obtain ⟨n, HN⟩ : ∃ n, Hid (us.length = n) := ⟨_, (rfl : _ = _)⟩
  rw [HN.out] at hv hl hn
  subst hv
  have HP0 := HP.out
  unfold picN at HP0
  rw [HN.out] at HP0
  have HP1 := hid_of3 HP0
  clear HP0
  by_cases h2 : n < 2
  · have h2i : (n : Int) < 2 := by omega
    rw [if_neg (by omega)] at HP1
    have e := HP1.out
    simp only [Prod.mk.injEq] at e
    obtain ⟨rfl, rfl, rfl, rfl⟩ := e
    clear HP HP1
    go_enter Tryd.func71, Tryd.ntmps71
    go_wp2_with fail
    refine bodyPost_ret (v := .tuple #[.agg #[.int .i64 0, .int .i64 0, .slice none 0 0], .bool false]) (by simp [results, Tryd.results71, go_sem]) rfl ⟨_, rfl, World.ownsRow_nil _ _ _ _, ?_⟩
    exact (Below.refl _ _).alloc (Nat.le_refl _) _
  have h2i : ¬ (n : Int) < 2 := by omega
  by_cases hm : (n - 2) % 2 = 0
  case neg =>
    rw [if_neg (by omega)] at HP1
    have e := HP1.out
    simp only [Prod.mk.injEq] at e
    obtain ⟨rfl, rfl, rfl, rfl⟩ := e
    have hmo : ((n : Int) - 2).tmod 2 = 1 := by rw [Int.tmod_eq_emod_of_nonneg (by omega)]; omega
    clear HP HP1
    go_enter Tryd.func71, Tryd.ntmps71
    go_wp2_with fail
    refine bodyPost_ret (v := .tuple #[.agg #[.int .i64 0, .int .i64 0, .slice none 0 0], .bool false]) (by simp [results, Tryd.results71, go_sem]) rfl ⟨_, rfl, World.ownsRow_nil _ _ _ _, ?_⟩
    exact (Below.refl _ _).alloc (Nat.le_refl _) _
  rw [if_pos (by omega)] at HP1
  obtain ⟨m, HM⟩ : ∃ m, Hid (n = 2 + 2 * m) := ⟨(n - 2) / 2, by unfold Hid; omega⟩
  have hmo : ((n : Int) - 2).tmod 2 = 0 := by rw [Int.tmod_eq_emod_of_nonneg (by omega)]; omega
  obtain ⟨x0, HX0⟩ : ∃ x, Hid (us.getD 0 0 = x) := ⟨_, (rfl : _ = _)⟩
  obtain ⟨x1, HX1⟩ : ∃ x, Hid (us.getD 1 0 = x) := ⟨_, (rfl : _ = _)⟩
  obtain ⟨X0, HXX⟩ : ∃ X, Hid (w.alloc (.cells #[.int .i64 0, .int .i64 0, .slice none 0 0] 24) = X) := ⟨_, (rfl : _ = _)⟩
  have hbx : Below w.heap.size w X0 := by rw [← HXX.out]; exact (Below.refl _ _).alloc (Nat.le_refl _) _
  have HU0 : Hid (RdI X0 (.slice a n cap) us) := HU.out.on hbx
  obtain ⟨g, o, rfl, hg, c0⟩ := HU0.out.at (k := 0) (by omega) HN HX0
  rw [Nat.add_zero] at c0
  obtain ⟨g', o', hgo, hg', c1⟩ := HU0.out.at (k := 1) (by omega) HN HX1
  simp only [Option.some.injEq, Addr.mk.injEq, and_true] at hgo
  obtain ⟨rfl, rfl⟩ := hgo
  have hn2 : (0 : Int) < (n : Int) := by omega
  have hn3 : (1 : Int) < (n : Int) := by omega
  have hn4 : 1 < n := by omega
  have hn5 : 0 < n := by omega
  clear hm
  go_enter Tryd.func71, Tryd.ntmps71
  go_wp2_with fail
  rw [HXX.out]
  refine wp_region_held_drew (S := (fun w' => w'.cell? ⟨g, o, none⟩ = some (.int .i64 x0) ∧ w'.cell? ⟨g, o + 1, none⟩ = some (.int .i64 x1))) (by kernel_rfl) ?_ (fun hHeld => ?_)
  · exact ⟨c0, c1⟩
  refine wpAnyH_take (i := 0) (oi := ({ dst := some 17, op := Op.move (Operand.tmp 0), type := 60, pos := "script.go:164", after := #[], guard := none } : Oper)) (v := ?_) rfl (by kernel_rfl) (by kernel_rfl) (by kernel_rfl) (fun _ _ _ h => h) (Or.inl ⟨by rfl, ?_⟩) (by assumption) ?_
  rotate_left
  · (intro w hSw; (try dsimp only at hSw); go_simp; try with_reducible rfl)
  try simp only [Act.put, List.setIfInBounds_toArray, List.set_cons_zero, List.set_cons_succ]
  refine wpAnyH_take (i := 1) (oi := ({ dst := some 18, op := Op.indexAddr 60 (Operand.tmp 17) (Operand.const (Value.int IntKind.i64 0)), type := 0, pos := "script.go:164", after := #[{ on := 0, ground := Ground.data }], guard := none } : Oper)) (v := ?_) rfl (by kernel_rfl) (by kernel_rfl) (by kernel_rfl) (fun _ _ _ h => h) (Or.inl ⟨by rfl, ?_⟩) (by assumption) ?_
  rotate_left
  · (intro w hSw; (try dsimp only at hSw); go_simp; try with_reducible rfl)
  try simp only [Act.put, List.setIfInBounds_toArray, List.set_cons_zero, List.set_cons_succ]
  refine wpAnyH_take (i := 2) (oi := ({ dst := some 19, op := Op.load 3 (Operand.tmp 18), type := 3, pos := "script.go:164", after := #[{ on := 1, ground := Ground.data }], guard := none } : Oper)) (v := ?_) rfl (by kernel_rfl) (by kernel_rfl) (by kernel_rfl) (fun _ _ _ h => h) (Or.inl ⟨by rfl, ?_⟩) (by assumption) ?_
  rotate_left
  · (intro w hSw; (try dsimp only at hSw); go_simp; try with_reducible rfl)
  try simp only [Act.put, List.setIfInBounds_toArray, List.set_cons_zero, List.set_cons_succ]
  refine wpAnyH_take (i := 3) (oi := ({ dst := some 20, op := Op.move (Operand.tmp 0), type := 60, pos := "script.go:164", after := #[], guard := none } : Oper)) (v := ?_) rfl (by kernel_rfl) (by kernel_rfl) (by kernel_rfl) (fun _ _ _ h => h) (Or.inl ⟨by rfl, ?_⟩) (by assumption) ?_
  rotate_left
  · (intro w hSw; (try dsimp only at hSw); go_simp; try with_reducible rfl)
  try simp only [Act.put, List.setIfInBounds_toArray, List.set_cons_zero, List.set_cons_succ]
  refine wpAnyH_take (i := 4) (oi := ({ dst := some 21, op := Op.indexAddr 60 (Operand.tmp 20) (Operand.const (Value.int IntKind.i64 1)), type := 0, pos := "script.go:164", after := #[{ on := 3, ground := Ground.data }], guard := none } : Oper)) (v := ?_) rfl (by kernel_rfl) (by kernel_rfl) (by kernel_rfl) (fun _ _ _ h => h) (Or.inl ⟨by rfl, ?_⟩) (by assumption) ?_
  rotate_left
  · (intro w hSw; (try dsimp only at hSw); go_simp; try with_reducible rfl)
  try simp only [Act.put, List.setIfInBounds_toArray, List.set_cons_zero, List.set_cons_succ]
  refine wpAnyH_take (i := 5) (oi := ({ dst := some 22, op := Op.load 3 (Operand.tmp 21), type := 3, pos := "script.go:164", after := #[{ on := 4, ground := Ground.data }], guard := none } : Oper)) (v := ?_) rfl (by kernel_rfl) (by kernel_rfl) (by kernel_rfl) (fun _ _ _ h => h) (Or.inl ⟨by rfl, ?_⟩) (by assumption) ?_
  rotate_left
  · (intro w hSw; (try dsimp only at hSw); go_simp; try with_reducible rfl)
  try simp only [Act.put, List.setIfInBounds_toArray, List.set_cons_zero, List.set_cons_succ]
  refine wpAnyH_take (i := 6) (oi := ({ dst := some 23, op := Op.build 24 #[(0, Operand.tmp 19), (1, Operand.tmp 22)], type := 24, pos := "script.go:164", after := #[{ on := 2, ground := Ground.data }, { on := 5, ground := Ground.data }], guard := none } : Oper)) (v := ?_) rfl (by kernel_rfl) (by kernel_rfl) (by kernel_rfl) (fun _ _ _ h => h) (Or.inl ⟨by rfl, ?_⟩) (by assumption) ?_
  rotate_left
  · (intro w hSw; (try dsimp only at hSw); go_simp; try with_reducible rfl)
  try simp only [Act.put, List.setIfInBounds_toArray, List.set_cons_zero, List.set_cons_succ]
  refine wpAnyH_ready (rs := [7]) (by kernel_rfl) (by simp) ?_
  refine AllReadyH.cons (o := ({ dst := some 4, op := Op.alloc 24, type := 0, pos := "script.go:164", after := #[], guard := none } : Oper)) rfl (fun K_ hK => ?_) AllReadyH.nil
  go_simp
  refine hK.out _ _ ?_ (fun hHeld => ?_)
  · exact ⟨(cell_old X0 _ g o hg).trans c0, (cell_old X0 _ g (o + 1) hg).trans c1⟩
  clear hK K_
  try simp only [Act.put, List.setIfInBounds_toArray, List.set_cons_zero, List.set_cons_succ]
  refine wpAnyH_ready (rs := [8]) (by kernel_rfl) (by simp) ?_
  refine AllReadyH.cons (o := ({ dst := none, op := Op.store 24 (Operand.tmp 4) (Operand.tmp 23), type := 0, pos := "script.go:164", after := #[{ on := 7, ground := Ground.data }, { on := 6, ground := Ground.data }, { on := 0, ground := Ground.phase }, { on := 1, ground := Ground.phase }, { on := 2, ground := Ground.phase }, { on := 3, ground := Ground.phase }, { on := 4, ground := Ground.phase }, { on := 5, ground := Ground.phase }, { on := 6, ground := Ground.phase }, { on := 7, ground := Ground.phase }], guard := none } : Oper)) rfl (fun K_ hK => ?_) AllReadyH.nil
  go_simp
  refine hK.out _ _ ?_ (fun hHeld => ?_)
  · exact ⟨(cell_old X0 _ g o hg).trans c0, (cell_old X0 _ g (o + 1) hg).trans c1⟩
  clear hK K_
  try simp only [Act.put, List.setIfInBounds_toArray, List.set_cons_zero, List.set_cons_succ]
  refine wpAnyH_done (by kernel_rfl) ?_ _
  go_wp2_with fail
  obtain ⟨Y0, HY0⟩ : ∃ Y, Hid ((X0.alloc (.cells #[.int .i64 x0, .int .i64 x1, .slice none 0 0] 24)).drew = Y) := ⟨_, (rfl : _ = _)⟩
  have hby : Below X0.heap.size X0 Y0 := by rw [← HY0.out]; exact ((Below.refl _ _).alloc (Nat.le_refl _) _).drew
  have TY := hid_of3 (show Three Y0 X0.heap.size (.int .i64 x0) (.int .i64 x1) (.slice none 0 0) by rw [← HY0.out]; exact (three_start X0 (.int .i64 x0) (.int .i64 x1) (.slice none 0 0) 24).drew)
  have TX := hid_of3 (show Three Y0 w.heap.size (.int .i64 0) (.int .i64 0) (.slice none 0 0) by
    refine Three.on ?_ hby
    rw [← HXX.out]
    exact three_start w _ _ _ 24)
  have hsX : X0.heap.size = w.heap.size + 1 := by rw [← HXX.out]; simp
  have hsY : Y0.heap.size = w.heap.size + 2 := by rw [← HY0.out]; simp [hsX]
  have hbw : Below w.heap.size w Y0 := hbx.trans (hby.mono hbx.size)
  have hXB : X0.heap.size < Y0.heap.size := by omega
  have hwB : w.heap.size < Y0.heap.size := by omega
  have hwX : w.heap.size ≠ X0.heap.size := by omega
  have hwX2 : w.heap.size ≤ X0.heap.size := by omega
  clear hsX hsY
  rw [HY0.out]
  clear HY0 HXX c0 c1
  go_loopw [5] (fun iv wr => ∃ k I : Nat, k ≤ m ∧ Hid (I = 2 + 2 * k) ∧ iv = .int .i64 (I : Int) ∧ (∃ ua uc, Hid (Three wr X0.heap.size (.int .i64 x0) (.int .i64 x1) (.slice ua k uc)) ∧ Hid (wr.ownsRow Y0.heap.size 88 2 (.slice ua k uc) k (pixCells (Sc.pairN ((us.drop 2).take (2 * k)))))) ∧ Hid (Three wr w.heap.size (.int .i64 0) (.int .i64 0) (.slice none 0 0)) ∧ Below w.heap.size w wr ∧ Y0.heap.size ≤ wr.heap.size) (fun i _ => 2 + 2 * m - (intOf i).toNat)
  case atStart => exact ⟨0, 2, by omega, rfl, rfl, ⟨none, 0, TY, World.ownsRow_nil _ _ _ _⟩, TX, hbw, Nat.le_refl _⟩
  case round =>
    obtain ⟨k, I, hk, HI, rfl, ⟨ua, uc, HT, HO⟩, HTX, hbr, hsr⟩ := hrel
    by_cases hlt : k < m
    · have HUr : Hid (RdI wr (.slice (some ⟨g, o, none⟩) n cap) us) := HU.out.on hbr
      obtain ⟨J, HJ⟩ : ∃ J, Hid (I + 1 = J) := ⟨_, (rfl : _ = _)⟩
      obtain ⟨x, HX⟩ : ∃ x, Hid (us.getD I 0 = x) := ⟨_, (rfl : _ = _)⟩
      obtain ⟨y, HY⟩ : ∃ x, Hid (us.getD J 0 = x) := ⟨_, (rfl : _ = _)⟩
      have hIn : I < n := by have := HI.out; have := HM.out; omega
      have hJn : J < n := by have := HI.out; have := HM.out; have := HJ.out; omega
      obtain ⟨g1, o1, he1, hg1, cx⟩ := HUr.out.at (k := I) hIn HN HX
      simp only [Option.some.injEq, Addr.mk.injEq, and_true] at he1
      obtain ⟨rfl, rfl⟩ := he1
      obtain ⟨g1, o1, he1, hg1', cy⟩ := HUr.out.at (k := J) hJn HN HY
      simp only [Option.some.injEq, Addr.mk.injEq, and_true] at he1
      obtain ⟨rfl, rfl⟩ := he1
      have hIi : (I : Int) < (n : Int) := by omega
      have hI0 : (0 : Int) ≤ (I : Int) := by omega
      have hJi : (J : Int) < (n : Int) := by omega
      have hJ0 : (0 : Int) ≤ (J : Int) := by omega
      have hwJ : IntKind.i64.wrap ((I : Int) + 1) = (J : Int) := by rw [IntKind.wrap_i64]; have := HJ.out; omega
      have HPR : Hid (Sc.pairN ((us.drop 2).take (2 * (k + 1))) = Sc.pairN ((us.drop 2).take (2 * k)) ++ [(x, y)]) :=
        pair_step us k (by rw [HN.out, HM.out]; omega) (by rw [← HI.out]; exact HX.out) (by rw [← HI.out, HJ.out]; exact HY.out)
      have HI2 : Hid (I + 2 = 2 + 2 * (k + 1)) := by have := HI.out; unfold Hid; omega
      have hIb : I + 2 ≤ n := by have := HI.out; have := HM.out; omega
      have hgB : g < Y0.heap.size := by omega
      have hk9 : k ≤ 1000000000 := by have := HM.out; omega
      have KEEP : Hid (∀ w', Below X0.heap.size wr w' → w'.cell? ⟨g, o + I, none⟩ = some (.int .i64 x) ∧ w'.cell? ⟨g, o + J, none⟩ = some (.int .i64 y)) := fun w' h => ⟨(h.cell (p := ⟨g, o + I, none⟩) hg).trans cx, (h.cell (p := ⟨g, o + J, none⟩) hg).trans cy⟩
      have hba : Below Y0.heap.size wr (wr.alloc (.cells #[.int .i64 x, .int .i64 y] 88)).drew := ((Below.refl _ wr).alloc hsr _).drew
      obtain ⟨v', w3, hr, ho3, hb3⟩ := pix_app1 (wr.alloc (.cells #[.int .i64 x, .int .i64 y] 88)).drew Y0.heap.size _ _ k (own_on2 HO.out (((Below.refl _ wr).alloc (Nat.le_refl _) _).drew)) hk9 (by show Y0.heap.size ≤ (wr.alloc _).heap.size; simp; omega) wr.heap.size x y (by simp) (by simp)
      have HR3 := hid_of3 hr
      obtain ⟨na, nc, hv'⟩ := own_any ho3
      subst hv'
      have HO3 := hid_of3 ho3
      have hb13 : Below Y0.heap.size wr w3 := hba.trans hb3
      have hla : Below X0.heap.size wr (wr.alloc (.cells #[.int .i64 x, .int .i64 y] 88)).drew := hba.mono (by omega)
      have hl3 : Below X0.heap.size wr w3 := hb13.mono (by omega)
      have T3 := hid_of3 (HT.out.onB hb13 hXB)
      have TX3 := hid_of3 (HTX.out.onB hb13 hwB)
      have hbw3 : Below w.heap.size w w3 := hbr.trans (hb13.mono (by omega))
      have hs3 : Y0.heap.size ≤ w3.heap.size := Nat.le_trans hsr hb13.size
      have FIN : Hid ((w3.setCell ⟨X0.heap.size, 2, none⟩ (.slice na (k + 1) nc)).ownsRow Y0.heap.size 88 2 (.slice na (k + 1) nc) (k + 1) (pixCells (Sc.pairN ((us.drop 2).take (2 * (k + 1)))))) := by
        unfold Hid
        rw [HPR.out]
        exact ownsRow_setCell_below HO3.out hXB _
      obtain ⟨t0, t1, t2, tf0, tf1, tf2, tlt⟩ := HT.out
      obtain ⟨s0, s1, s2, sf0, sf1, sf2, slt⟩ := T3.out
      clear hr ho3 hb3 HUr HX HY HJ HPR
      go_wp2_with fail
      refine wp_region_held_drew (S := (fun w' => w'.cell? ⟨g, o + I, none⟩ = some (.int .i64 x) ∧ w'.cell? ⟨g, o + J, none⟩ = some (.int .i64 y))) (by kernel_rfl) ?_ (fun hHeld => ?_)
      · exact KEEP.out _ (Below.refl _ _).drew
      refine wpAnyH_take (i := 0) (oi := ({ dst := some 30, op := Op.fieldAddr 24 (Operand.tmp 4) 2, type := 0, pos := "script.go:166", after := #[], guard := none } : Oper)) (v := ?_) rfl (by kernel_rfl) (by kernel_rfl) (by kernel_rfl) (fun _ _ _ h => h) (Or.inl ⟨by rfl, ?_⟩) (by assumption) ?_
      rotate_left
      · (intro w hSw; (try dsimp only at hSw); go_simp; try with_reducible rfl)
      try simp only [Act.put, List.setIfInBounds_toArray, List.set_cons_zero, List.set_cons_succ]
      refine wpAnyH_take (i := 2) (oi := ({ dst := some 32, op := Op.move (Operand.tmp 0), type := 60, pos := "script.go:166", after := #[], guard := none } : Oper)) (v := ?_) rfl (by kernel_rfl) (by kernel_rfl) (by kernel_rfl) (fun _ _ _ h => h) (Or.inl ⟨by rfl, ?_⟩) (by assumption) ?_
      rotate_left
      · (intro w hSw; (try dsimp only at hSw); go_simp; try with_reducible rfl)
      try simp only [Act.put, List.setIfInBounds_toArray, List.set_cons_zero, List.set_cons_succ]
      refine wpAnyH_take (i := 3) (oi := ({ dst := some 33, op := Op.move (Operand.tmp 5), type := 3, pos := "script.go:166", after := #[], guard := none } : Oper)) (v := ?_) rfl (by kernel_rfl) (by kernel_rfl) (by kernel_rfl) (fun _ _ _ h => h) (Or.inl ⟨by rfl, ?_⟩) (by assumption) ?_
      rotate_left
      · (intro w hSw; (try dsimp only at hSw); go_simp; try with_reducible rfl)
      try simp only [Act.put, List.setIfInBounds_toArray, List.set_cons_zero, List.set_cons_succ]
      refine wpAnyH_take (i := 4) (oi := ({ dst := some 34, op := Op.indexAddr 60 (Operand.tmp 32) (Operand.tmp 33), type := 0, pos := "script.go:166", after := #[{ on := 2, ground := Ground.data }, { on := 3, ground := Ground.data }], guard := none } : Oper)) (v := ?_) rfl (by kernel_rfl) (by kernel_rfl) (by kernel_rfl) (fun _ _ _ h => h) (Or.inl ⟨by rfl, ?_⟩) (by assumption) ?_
      rotate_left
      · (intro w hSw; (try dsimp only at hSw); go_simp; try with_reducible rfl)
      try simp only [Act.put, List.setIfInBounds_toArray, List.set_cons_zero, List.set_cons_succ]
      refine wpAnyH_take (i := 5) (oi := ({ dst := some 35, op := Op.load 3 (Operand.tmp 34), type := 3, pos := "script.go:166", after := #[{ on := 4, ground := Ground.data }], guard := none } : Oper)) (v := ?_) rfl (by kernel_rfl) (by kernel_rfl) (by kernel_rfl) (fun _ _ _ h => h) (Or.inl ⟨by rfl, ?_⟩) (by assumption) ?_
      rotate_left
      · (intro w hSw; (try dsimp only at hSw); go_simp; try with_reducible rfl)
      try simp only [Act.put, List.setIfInBounds_toArray, List.set_cons_zero, List.set_cons_succ]
      refine wpAnyH_take (i := 6) (oi := ({ dst := some 36, op := Op.move (Operand.tmp 0), type := 60, pos := "script.go:166", after := #[], guard := none } : Oper)) (v := ?_) rfl (by kernel_rfl) (by kernel_rfl) (by kernel_rfl) (fun _ _ _ h => h) (Or.inl ⟨by rfl, ?_⟩) (by assumption) ?_
      rotate_left
      · (intro w hSw; (try dsimp only at hSw); go_simp; try with_reducible rfl)
      try simp only [Act.put, List.setIfInBounds_toArray, List.set_cons_zero, List.set_cons_succ]
      refine wpAnyH_take (i := 7) (oi := ({ dst := some 37, op := Op.move (Operand.tmp 5), type := 3, pos := "script.go:166", after := #[], guard := none } : Oper)) (v := ?_) rfl (by kernel_rfl) (by kernel_rfl) (by kernel_rfl) (fun _ _ _ h => h) (Or.inl ⟨by rfl, ?_⟩) (by assumption) ?_
      rotate_left
      · (intro w hSw; (try dsimp only at hSw); go_simp; try with_reducible rfl)
      try simp only [Act.put, List.setIfInBounds_toArray, List.set_cons_zero, List.set_cons_succ]
      refine wpAnyH_take (i := 8) (oi := ({ dst := some 38, op := Op.binOp BinOp.add 3 (Operand.tmp 37) (Operand.const (Value.int IntKind.i64 1)) 3, type := 3, pos := "script.go:166", after := #[{ on := 7, ground := Ground.data }], guard := none } : Oper)) (v := ?_) rfl (by kernel_rfl) (by kernel_rfl) (by kernel_rfl) (fun _ _ _ h => h) (Or.inl ⟨by rfl, ?_⟩) (by assumption) ?_
      rotate_left
      · (intro w hSw; (try dsimp only at hSw); go_simp; try with_reducible rfl)
      try simp only [Act.put, List.setIfInBounds_toArray, List.set_cons_zero, List.set_cons_succ]
      refine wpAnyH_take (i := 9) (oi := ({ dst := some 39, op := Op.indexAddr 60 (Operand.tmp 36) (Operand.tmp 38), type := 0, pos := "script.go:166", after := #[{ on := 6, ground := Ground.data }, { on := 8, ground := Ground.data }], guard := none } : Oper)) (v := ?_) rfl (by kernel_rfl) (by kernel_rfl) (by kernel_rfl) (fun _ _ _ h => h) (Or.inl ⟨by rfl, ?_⟩) (by assumption) ?_
      rotate_left
      · (intro w hSw; (try dsimp only at hSw); go_simp; try with_reducible rfl)
      try simp only [Act.put, List.setIfInBounds_toArray, List.set_cons_zero, List.set_cons_succ]
      refine wpAnyH_take (i := 10) (oi := ({ dst := some 40, op := Op.load 3 (Operand.tmp 39), type := 3, pos := "script.go:166", after := #[{ on := 9, ground := Ground.data }], guard := none } : Oper)) (v := ?_) rfl (by kernel_rfl) (by kernel_rfl) (by kernel_rfl) (fun _ _ _ h => h) (Or.inl ⟨by rfl, ?_⟩) (by assumption) ?_
      rotate_left
      · (intro w hSw; (try dsimp only at hSw); go_simp; try with_reducible rfl)
      try simp only [Act.put, List.setIfInBounds_toArray, List.set_cons_zero, List.set_cons_succ]
      refine wpAnyH_take (i := 11) (oi := ({ dst := some 41, op := Op.build 88 #[(0, Operand.tmp 35), (1, Operand.tmp 40)], type := 88, pos := "script.go:166", after := #[{ on := 5, ground := Ground.data }, { on := 10, ground := Ground.data }], guard := none } : Oper)) (v := ?_) rfl (by kernel_rfl) (by kernel_rfl) (by kernel_rfl) (fun _ _ _ h => h) (Or.inl ⟨by rfl, ?_⟩) (by assumption) ?_
      rotate_left
      · (intro w hSw; (try dsimp only at hSw); go_simp; try with_reducible rfl)
      try simp only [Act.put, List.setIfInBounds_toArray, List.set_cons_zero, List.set_cons_succ]
      refine wpAnyH_ready (rs := [1, 12]) (by kernel_rfl) (by simp) ?_
      refine AllReadyH.cons (o := ({ dst := some 31, op := Op.load 22 (Operand.tmp 30), type := 22, pos := "script.go:166", after := #[{ on := 0, ground := Ground.data }], guard := none } : Oper)) rfl (fun K_ hK => ?_) (AllReadyH.cons (o := ({ dst := some 42, op := Op.buildSlice 22 1 #[(0, Operand.tmp 41)], type := 22, pos := "script.go:166", after := #[{ on := 11, ground := Ground.data }], guard := none } : Oper)) rfl (fun K_ hK => ?_) AllReadyH.nil)
      · go_simp
        refine hK.out _ _ ?_ (fun hHeld => ?_)
        · exact KEEP.out _ (Below.refl _ _).drew
        clear hK K_
        try simp only [Act.put, List.setIfInBounds_toArray, List.set_cons_zero, List.set_cons_succ]
        refine wpAnyH_ready (rs := [12]) (by kernel_rfl) (by simp) ?_
        refine AllReadyH.cons (o := ({ dst := some 42, op := Op.buildSlice 22 1 #[(0, Operand.tmp 41)], type := 22, pos := "script.go:166", after := #[{ on := 11, ground := Ground.data }], guard := none } : Oper)) rfl (fun K_ hK => ?_) AllReadyH.nil
        go_simp
        refine hK.out _ _ ?_ (fun hHeld => ?_)
        · exact KEEP.out _ hla
        clear hK K_
        try simp only [Act.put, List.setIfInBounds_toArray, List.set_cons_zero, List.set_cons_succ]
        refine wpAnyH_ready (rs := [13]) (by kernel_rfl) (by simp) ?_
        refine AllReadyH.cons (o := ({ dst := some 43, op := Op.call { callee := Callee.builtin Builtin.append, args := #[Operand.tmp 31, Operand.tmp 42], argTypes := #[22, 22] }, type := 22, pos := "script.go:166", after := #[{ on := 1, ground := Ground.data }, { on := 12, ground := Ground.data }], guard := none } : Oper)) rfl (fun K_ hK => ?_) AllReadyH.nil
        refine ready_app rfl _ _ _ rfl _ _ _ rfl rfl HR3.out ?_
        refine hK.out _ _ ?_ (fun hHeld => ?_)
        · exact KEEP.out _ hl3
        clear hK K_
        try simp only [Act.put, List.setIfInBounds_toArray, List.set_cons_zero, List.set_cons_succ]
        refine wpAnyH_take (i := 14) (oi := ({ dst := some 44, op := Op.fieldAddr 24 (Operand.tmp 4) 2, type := 0, pos := "script.go:166", after := #[{ on := 0, ground := Ground.phase }, { on := 1, ground := Ground.phase }, { on := 2, ground := Ground.phase }, { on := 3, ground := Ground.phase }, { on := 4, ground := Ground.phase }, { on := 5, ground := Ground.phase }, { on := 6, ground := Ground.phase }, { on := 7, ground := Ground.phase }, { on := 8, ground := Ground.phase }, { on := 9, ground := Ground.phase }, { on := 10, ground := Ground.phase }, { on := 11, ground := Ground.phase }, { on := 12, ground := Ground.phase }, { on := 13, ground := Ground.phase }], guard := none } : Oper)) (v := ?_) rfl (by kernel_rfl) (by kernel_rfl) (by kernel_rfl) (fun _ _ _ h => h) (Or.inl ⟨by rfl, ?_⟩) (by assumption) ?_
        rotate_left
        · (intro w hSw; (try dsimp only at hSw); go_simp; try with_reducible rfl)
        try simp only [Act.put, List.setIfInBounds_toArray, List.set_cons_zero, List.set_cons_succ]
        refine wpAnyH_ready (rs := [15]) (by kernel_rfl) (by simp) ?_
        refine AllReadyH.cons (o := ({ dst := none, op := Op.store 22 (Operand.tmp 44) (Operand.tmp 43), type := 0, pos := "script.go:166", after := #[{ on := 14, ground := Ground.data }, { on := 13, ground := Ground.data }, { on := 13, ground := Ground.chain }, { on := 0, ground := Ground.phase }, { on := 1, ground := Ground.phase }, { on := 2, ground := Ground.phase }, { on := 3, ground := Ground.phase }, { on := 4, ground := Ground.phase }, { on := 5, ground := Ground.phase }, { on := 6, ground := Ground.phase }, { on := 7, ground := Ground.phase }, { on := 8, ground := Ground.phase }, { on := 9, ground := Ground.phase }, { on := 10, ground := Ground.phase }, { on := 11, ground := Ground.phase }, { on := 12, ground := Ground.phase }, { on := 13, ground := Ground.phase }], guard := none } : Oper)) rfl (fun K_ hK => ?_) AllReadyH.nil
        go_simp
        refine hK.out _ _ ?_ (fun hHeld => ?_)
        · exact KEEP.out _ (hl3.setCell (Nat.le_refl _) _)
        clear hK K_
        try simp only [Act.put, List.setIfInBounds_toArray, List.set_cons_zero, List.set_cons_succ]
        refine wpAnyH_done (by kernel_rfl) ?_ _
        go_wp2_with fail
        go_roundw
        case rel => exact ⟨k + 1, I + 2, by omega, HI2, by go_num, ⟨na, nc, T3.out.set2, FIN.out⟩, TX3.out.other hwX, hbw3.setCell hwX2 _, by simpa using hs3⟩
        case measure => have := HI.out; simp [intOf]; omega
      · go_simp
        refine hK.out _ _ ?_ (fun hHeld => ?_)
        · exact KEEP.out _ hla
        clear hK K_
        try simp only [Act.put, List.setIfInBounds_toArray, List.set_cons_zero, List.set_cons_succ]
        refine wpAnyH_ready (rs := [1]) (by kernel_rfl) (by simp) ?_
        refine AllReadyH.cons (o := ({ dst := some 31, op := Op.load 22 (Operand.tmp 30), type := 22, pos := "script.go:166", after := #[{ on := 0, ground := Ground.data }], guard := none } : Oper)) rfl (fun K_ hK => ?_) AllReadyH.nil
        go_simp
        refine hK.out _ _ ?_ (fun hHeld => ?_)
        · exact KEEP.out _ hla
        clear hK K_
        try simp only [Act.put, List.setIfInBounds_toArray, List.set_cons_zero, List.set_cons_succ]
        refine wpAnyH_ready (rs := [13]) (by kernel_rfl) (by simp) ?_
        refine AllReadyH.cons (o := ({ dst := some 43, op := Op.call { callee := Callee.builtin Builtin.append, args := #[Operand.tmp 31, Operand.tmp 42], argTypes := #[22, 22] }, type := 22, pos := "script.go:166", after := #[{ on := 1, ground := Ground.data }, { on := 12, ground := Ground.data }], guard := none } : Oper)) rfl (fun K_ hK => ?_) AllReadyH.nil
        refine ready_app rfl _ _ _ rfl _ _ _ rfl rfl HR3.out ?_
        refine hK.out _ _ ?_ (fun hHeld => ?_)
        · exact KEEP.out _ hl3
        clear hK K_
        try simp only [Act.put, List.setIfInBounds_toArray, List.set_cons_zero, List.set_cons_succ]
        refine wpAnyH_take (i := 14) (oi := ({ dst := some 44, op := Op.fieldAddr 24 (Operand.tmp 4) 2, type := 0, pos := "script.go:166", after := #[{ on := 0, ground := Ground.phase }, { on := 1, ground := Ground.phase }, { on := 2, ground := Ground.phase }, { on := 3, ground := Ground.phase }, { on := 4, ground := Ground.phase }, { on := 5, ground := Ground.phase }, { on := 6, ground := Ground.phase }, { on := 7, ground := Ground.phase }, { on := 8, ground := Ground.phase }, { on := 9, ground := Ground.phase }, { on := 10, ground := Ground.phase }, { on := 11, ground := Ground.phase }, { on := 12, ground := Ground.phase }, { on := 13, ground := Ground.phase }], guard := none } : Oper)) (v := ?_) rfl (by kernel_rfl) (by kernel_rfl) (by kernel_rfl) (fun _ _ _ h => h) (Or.inl ⟨by rfl, ?_⟩) (by assumption) ?_
        rotate_left
        · (intro w hSw; (try dsimp only at hSw); go_simp; try with_reducible rfl)
        try simp only [Act.put, List.setIfInBounds_toArray, List.set_cons_zero, List.set_cons_succ]
        refine wpAnyH_ready (rs := [15]) (by kernel_rfl) (by simp) ?_
        refine AllReadyH.cons (o := ({ dst := none, op := Op.store 22 (Operand.tmp 44) (Operand.tmp 43), type := 0, pos := "script.go:166", after := #[{ on := 14, ground := Ground.data }, { on := 13, ground := Ground.data }, { on := 13, ground := Ground.chain }, { on := 0, ground := Ground.phase }, { on := 1, ground := Ground.phase }, { on := 2, ground := Ground.phase }, { on := 3, ground := Ground.phase }, { on := 4, ground := Ground.phase }, { on := 5, ground := Ground.phase }, { on := 6, ground := Ground.phase }, { on := 7, ground := Ground.phase }, { on := 8, ground := Ground.phase }, { on := 9, ground := Ground.phase }, { on := 10, ground := Ground.phase }, { on := 11, ground := Ground.phase }, { on := 12, ground := Ground.phase }, { on := 13, ground := Ground.phase }], guard := none } : Oper)) rfl (fun K_ hK => ?_) AllReadyH.nil
        go_simp
        refine hK.out _ _ ?_ (fun hHeld => ?_)
        · exact KEEP.out _ (hl3.setCell (Nat.le_refl _) _)
        clear hK K_
        try simp only [Act.put, List.setIfInBounds_toArray, List.set_cons_zero, List.set_cons_succ]
        refine wpAnyH_done (by kernel_rfl) ?_ _
        go_wp2_with fail
        go_roundw
        case rel => exact ⟨k + 1, I + 2, by omega, HI2, by go_num, ⟨na, nc, T3.out.set2, FIN.out⟩, TX3.out.other hwX, hbw3.setCell hwX2 _, by simpa using hs3⟩
        case measure => have := HI.out; simp [intOf]; omega
    · obtain rfl : k = m := by omega
      have hki : ¬ (I : Int) < (n : Int) := by have := HI.out; have := HM.out; omega
      have HE : Hid ((us.drop 2).take (2 * k) = us.drop 2) := by unfold Hid; exact List.take_of_length_le (by rw [List.length_drop, HN.out]; have := HM.out; omega)
      have e := HP1.out
      rw [HX0.out, HX1.out] at e
      simp only [Prod.mk.injEq] at e
      obtain ⟨rfl, rfl, rfl, rfl⟩ := e
      rw [HE.out] at HO
      obtain ⟨t0, t1, t2, tf0, tf1, tf2, tlt⟩ := HT.out
      obtain ⟨s0, s1, s2, sf0, sf1, sf2, slt⟩ := HTX.out
      have hlp : (Sc.pairN (us.drop 2)).length = k := Sc.pairN_len k _ (by rw [List.length_drop, HN.out]; have := HM.out; omega)
      have HLP := hid_of3 hlp
      clear hlp
      go_wp2_with fail
      refine bodyPost_ret (v := .tuple #[.agg #[.int .i64 x0, .int .i64 x1, .slice ua k uc], .bool true]) (by simp [results, Tryd.results71, go_sem, s0, s1, s2]) rfl ⟨_, rfl, ?_, ?_⟩
      · rw [HLP.out]
        exact own_mono (ownsRow_setCell_below (ownsRow_setCell_below (ownsRow_setCell_below HO.out hwB _) hwB _) hwB _) (Nat.le_of_lt hwB)
      · exact ((hbr.setCell (Nat.le_refl _) _).setCell (Nat.le_refl _) _).setCell (Nat.le_refl _) _
end Go.Proofs.YtfhfedcamcpceaaDoor
