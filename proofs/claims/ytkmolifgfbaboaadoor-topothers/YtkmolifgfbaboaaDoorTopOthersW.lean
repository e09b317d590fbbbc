/- Walk of the law TopOthers. -/
import Derived.Test.YtkmolifgfbaboaaDoorDoL
import Derived.Test.YtkmolifgfbaboaaDoorSoA
import Derived.Test.YtkmolifgfbaboaaDoorOlB
namespace Go.Proofs.YtkmolifgfbaboaaDoor
open Go.RowKit

@[reducible] def q0 : Pq := ⟨2, 2, 0, 0, 0, 0, 1, 1, [(0, 0)]⟩
theorem do_q0 : doO [] q0 = .inl [freshO q0] := rfl
theorem pre_q0 : DoPre [] q0 := ⟨by simp, by simp, fun i j _ h => by simp at h, by simp, by simp, by simp⟩

set_option maxHeartbeats 40000000 in
set_option maxRecDepth 100000 in
theorem topOthers_any (v : Value) (os : List Po) (q : Pq) (uq : Value) (id : Int) (w : World) (HS : Hid (Shapes w)) (h1 : 0 < w.heap.size) (HR : Hid (RdO w v os)) (HU : Hid (RdP w uq q.ps)) (hlq : q.ps.length ≤ 9223372036854775807) :
    Calls Tryd.prog 3 #[v, opV q uq, .int .i64 id] w fun e w' => e = .returned (.bool true) ∧ Below w.heap.size w w' := by
  obtain ⟨a, cap, hv, hl, hcap⟩ := HR.out.shape
  obtain ⟨n, HN⟩ : ∃ n, Hid (os.length = n) := ⟨_, (rfl : _ = _)⟩
  rw [HN.out] at hv hl
  subst hv
  obtain ⟨ap, cp, hvp, _, _, _⟩ := HU.out
  obtain ⟨np, HNP⟩ : ∃ n, Hid (q.ps.length = n) := ⟨_, (rfl : _ = _)⟩
  rw [HNP.out] at hvp hlq
  subst hvp
  obtain ⟨X0, HX0⟩ : ∃ X0, Hid (((w.alloc (.cells #[.int .i64 q.kind, .int .i64 q.id, .int .i64 q.a, .int .i64 q.b, .int .i64 q.c, .int .i64 q.d, .int .i64 q.pw, .int .i64 q.ph, .slice ap np cp] 27))).alloc (.cells #[.int .i64 0, .int .i64 0] 33) = X0) := ⟨_, (rfl : _ = _)⟩
  have hbz : Below w.heap.size w X0 := by rw [← HX0.out]; exact ((Below.refl _ _).alloc (Nat.le_refl _) _).alloc (by simp) _
  have N0 : Nine X0 w.heap.size (.int .i64 q.kind) (.int .i64 q.id) (.int .i64 q.a) (.int .i64 q.b) (.int .i64 q.c) (.int .i64 q.d) (.int .i64 q.pw) (.int .i64 q.ph) (.slice ap np cp) := by rw [← HX0.out]; exact (nine_start w _ _ _ _ _ _ _ _ _ 27 w.heap.size rfl).alloc _
  have T0 : Two X0 (w.heap.size + 1) (.int .i64 0) (.int .i64 0) := by rw [← HX0.out]; exact two_start _ _ _ 33 (w.heap.size + 1) (by simp)
  have HP0 : Hid (RdP X0 (.slice (some ⟨w.heap.size + 1, 0, none⟩) 1 1) q0.ps) := ⟨some ⟨w.heap.size + 1, 0, none⟩, 1, rfl, by simp, by omega, fun _ => ⟨w.heap.size + 1, 0, rfl, T0.lt, fun j hj => by
    have : j = 0 := by simpa using hj
    subst this
    exact ⟨T0.c0, T0.c1⟩⟩⟩
  go_enter Tryd.func3, Tryd.ntmps3
  go_wp2_with fail
  rw [HX0.out]
  refine (do_any (.slice none 0 0) [] q0 _ X0 pre_q0 (rdO_nil _) HP0).mono ?_
  rintro e w1 ⟨hb1, hd⟩
  have N1 := hid_of2 (N0.on hb1)
  have hbb1 := hbz.trans (hb1.mono hbz.size)
  clear hb1 HX0 hbz N0 T0 HP0
  rcases hd.symm with ⟨c1, he1, _⟩ | ⟨v1, qs1, he1, rfl, ho1⟩
  · rw [do_q0] at he1; cases he1
  rw [do_q0] at he1
  have hl1 : qs1.length = 1 := by have := congrArg List.length (Sum.inl.inj he1); simpa using this.symm
  obtain ⟨a1, c1, hv1⟩ := own_any ho1.1
  rw [hl1] at hv1
  subst hv1
  clear ho1 he1 hl1
  have HR1 : Hid (RdO w1 (.slice a n cap) os) := HR.out.on hbb1
  go_wp2_with fail
  refine (lightO_any _ os _ HR1).mono ?_
  rintro e w2 ⟨bl, rfl, hgood, hb2⟩
  have N2 := hid_of2 (N1.out.on hb2)
  have hbb2 := hbb1.trans (hb2.mono hbb1.size)
  clear hb2 N1 HR1 hbb1
  cases bl with
  | false =>
    go_wp2_with fail
    go_ret
    exact ⟨rfl, hbb2⟩
  | true =>
    have HGO := hid_of2 (hgood rfl)
    clear hgood
    obtain ⟨m0, m1, m2, m3, m4, m5, m6, m7, m8, mf0, mf1, mf2, mf3, mf4, mf5, mf6, mf7, mf8, mlt⟩ := N2.out
    go_wp2_with fail
    by_cases hl80 : np ≤ 80
    case neg =>
      refine (light_any q.pw q.ph ap np cp _ hlq false (by unfold Hid; simp [hl80])).mono ?_
      rintro e w3 ⟨rfl, hb3⟩
      have hbb3 := hbb2.trans (hb3.mono hbb2.size)
      go_wp2_with fail
      go_ret
      exact ⟨rfl, hbb3⟩
    refine (light_any q.pw q.ph ap np cp _ hlq true (by unfold Hid; simp [hl80])).mono ?_
    rintro e w3 ⟨rfl, hb3⟩
    have hbb3 := hbb2.trans (hb3.mono hbb2.size)
    have N3 := hid_of2 (N2.out.on hb3)
    have HS3 : Hid (Shapes w3) := HS.out.on h1 hbb3
    have h13 := Nat.lt_of_lt_of_le h1 hbb3.size
    have HU3 : Hid (RdP w3 (.slice ap np cp) q.ps) := HU.out.on hbb3
    clear m0 m1 m2 m3 m4 m5 m6 m7 m8 mf0 mf1 mf2 mf3 mf4 mf5 mf6 mf7 mf8 mlt hb3 N2 hbb2
    obtain ⟨m0, m1, m2, m3, m4, m5, m6, m7, m8, mf0, mf1, mf2, mf3, mf4, mf5, mf6, mf7, mf8, mlt⟩ := N3.out
    obtain ⟨c, HC⟩ : ∃ c, Hid (opC q = c) := ⟨_, (rfl : _ = _)⟩
    have hq80 : q.ps.length ≤ 80 := by rw [HNP.out]; exact hl80
    go_wp2_with fail
    refine (opCheck_any q _ w3 HS3 h13 HU3 (by omega) c HC).mono ?_
    rintro e w4 ⟨rfl, hb4⟩
    have hbb4 := hbb3.trans (hb4.mono hbb3.size)
    have N4 := hid_of2 (N3.out.on hb4)
    clear m0 m1 m2 m3 m4 m5 m6 m7 m8 mf0 mf1 mf2 mf3 mf4 mf5 mf6 mf7 mf8 mlt hb4 N3 hbb3 HS3 HU3
    cases c with
    | succ c =>
      rw [show errV (c + 1) = .iface 50 (.int .i64 ((c + 1 : Nat) : Int)) from rfl]
      go_wp2_with fail
      go_ret
      exact ⟨rfl, hbb4⟩
    | zero =>
      rw [show errV 0 = Value.nilIface from rfl]
      obtain ⟨m0, m1, m2, m3, m4, m5, m6, m7, m8, mf0, mf1, mf2, mf3, mf4, mf5, mf6, mf7, mf8, mlt⟩ := N4.out
      have HR4 : Hid (RdO w4 (.slice a n cap) os) := HR.out.on hbb4
      have HU4 : Hid (RdP w4 (.slice ap np cp) q.ps) := HU.out.on hbb4
      have HPR : Hid (DoPre os q) := do_pre os q HGO.out HC.out hq80
      go_wp2_with fail
      refine (do_any _ os q _ w4 HPR HR4 HU4).mono ?_
      rintro e w5 ⟨hb5, hd⟩
      have hbb5 := hbb4.trans (hb5.mono hbb4.size)
      have N5 := hid_of2 (N4.out.on hb5)
      clear m0 m1 m2 m3 m4 m5 m6 m7 m8 mf0 mf1 mf2 mf3 mf4 mf5 mf6 mf7 mf8 mlt hb5 N4 hbb4 HR4 HU4 HPR
      rcases hd.symm with ⟨c5, he5, hc5, rfl⟩ | ⟨v5, qs, he5, rfl, ho5⟩
      · rcases hc5 with rfl | rfl
        · rw [show errV 5 = Value.iface 50 (.int .i64 5) from rfl]
          go_wp2_with fail
          go_ret
          exact ⟨rfl, hbb5⟩
        · rw [show errV 3 = Value.iface 50 (.int .i64 3) from rfl]
          go_wp2_with fail
          go_ret
          exact ⟨rfl, hbb5⟩
      obtain ⟨rs, HRS⟩ : ∃ rs, Hid (qs.map Prod.fst = rs) := ⟨_, (rfl : _ = _)⟩
      rw [HRS.out] at he5
      obtain ⟨hg1, hg2, hg3⟩ := do_good os q HGO.out HC.out rs he5
      have HG1 := hid_of2 hg1
      have HG2 := hid_of2 hg2
      have HE5 := hid_of2 he5
      have HM5 := hid_of2 ho5.rd
      rw [HRS.out] at HM5
      obtain ⟨a5, cc5, hv5, hl5, hcc5⟩ := HM5.out.shape
      obtain ⟨m, HLM⟩ : ∃ m, Hid (rs.length = m) := ⟨_, (rfl : _ = _)⟩
      rw [HLM.out] at hv5 hl5 hg3
      subst hv5
      clear ho5 he5 hg1 hg2 HRS
      go_wp2_with fail
      go_loopw [9] (fun i wr => ∃ k : Nat, k ≤ m ∧ i = .int .i64 k ∧ Below w5.heap.size w5 wr) (fun i _ => m - (intOf i).toNat)
      case atStart => exact ⟨0, by omega, rfl, Below.refl _ _⟩
      case round =>
        obtain ⟨k, hk, rfl, hbr⟩ := hrel
        have hbbr := hbb5.trans (hbr.mono hbb5.size)
        by_cases hlt : k < m
        · have hlt' : k < rs.length := by rw [HLM.out]; exact hlt
          obtain ⟨ob, HX⟩ : ∃ o, Hid (rs.getD k po0 = o) := ⟨_, (rfl : _ = _)⟩
          have hgo := HG1.out ob (by rw [← HX.out]; exact getD_mem_po hlt')
          obtain ⟨g, p, ua, q_, uc, ha, hg, OC, HUo, HMo⟩ := (HM5.out.on hbr).at hlt HX
          obtain ⟨hgf, hgp⟩ := hgo
          have HF := hid_of2 hgf
          obtain ⟨c0, c1, c2, c3, c4, c5, c6, c7, c8, c9, c10⟩ := OC
          have hki0 : (0 : Int) ≤ (k : Int) := by omega
          have hki1 : (k : Int) < (m : Int) := by omega
          by_cases hk0 : k = 0
          · have hkz : ¬ (0 : Int) < (k : Int) := by omega
            have hkz2 : ¬ 0 < k := by omega
            have hki2 : IntKind.i64.wrap (k : Int) = (k : Int) := wrap_s (by omega) (by omega)
            subst ha
            obtain ⟨id_, x, y, pw, ph, ps, cx, cy, cw, ch, sh⟩ := ob
            simp only at c0 c1 c2 c3 c4 c5 c6 c7 c8 c9 c10 HUo HMo hgp
            have HF2 : Hid (objC id_ x y pw ph ps cx cy cw ch = 0) := HF.out
            clear hlt' HX hgf HF hk0
            have KEEP : Hid (∀ w', Below wr.heap.size wr w' → (w'.cell? ⟨g, p + k * 11, none⟩ = some (.int .i64 id_) ∧ w'.cell? ⟨g, p + k * 11 + 1, none⟩ = some (.int .i64 x) ∧ w'.cell? ⟨g, p + k * 11 + 2, none⟩ = some (.int .i64 y) ∧ w'.cell? ⟨g, p + k * 11 + 3, none⟩ = some (.int .i64 pw) ∧ w'.cell? ⟨g, p + k * 11 + 4, none⟩ = some (.int .i64 ph) ∧ w'.cell? ⟨g, p + k * 11 + 5, none⟩ = some (.slice ua q_ uc) ∧ w'.cell? ⟨g, p + k * 11 + 6, none⟩ = some (.int .i64 cx) ∧ w'.cell? ⟨g, p + k * 11 + 7, none⟩ = some (.int .i64 cy) ∧ w'.cell? ⟨g, p + k * 11 + 8, none⟩ = some (.int .i64 cw) ∧ w'.cell? ⟨g, p + k * 11 + 9, none⟩ = some (.int .i64 ch) ∧ w'.cell? ⟨g, p + k * 11 + 10, none⟩ = some (.bool sh))) := by
              intro w' h
              refine ⟨?_, ?_, ?_, ?_, ?_, ?_, ?_, ?_, ?_, ?_, ?_⟩
              · rw [h.cell (p := ⟨g, p + k * 11, none⟩) hg]; exact c0
              · rw [h.cell (p := ⟨g, p + k * 11 + 1, none⟩) hg]; exact c1
              · rw [h.cell (p := ⟨g, p + k * 11 + 2, none⟩) hg]; exact c2
              · rw [h.cell (p := ⟨g, p + k * 11 + 3, none⟩) hg]; exact c3
              · rw [h.cell (p := ⟨g, p + k * 11 + 4, none⟩) hg]; exact c4
              · rw [h.cell (p := ⟨g, p + k * 11 + 5, none⟩) hg]; exact c5
              · rw [h.cell (p := ⟨g, p + k * 11 + 6, none⟩) hg]; exact c6
              · rw [h.cell (p := ⟨g, p + k * 11 + 7, none⟩) hg]; exact c7
              · rw [h.cell (p := ⟨g, p + k * 11 + 8, none⟩) hg]; exact c8
              · rw [h.cell (p := ⟨g, p + k * 11 + 9, none⟩) hg]; exact c9
              · rw [h.cell (p := ⟨g, p + k * 11 + 10, none⟩) hg]; exact c10
            have HUd : Hid (RdP wr.drew (.slice ua q_ uc) ps) := HUo.out
            clear c0 c1 c2 c3 c4 c5 c6 c7 c8 c9 c10
            go_wp2_with fail
            refine wp_region_held_drew (S := (fun w' => w'.cell? ⟨g, p + k * 11, none⟩ = some (.int .i64 id_) ∧ w'.cell? ⟨g, p + k * 11 + 1, none⟩ = some (.int .i64 x) ∧ w'.cell? ⟨g, p + k * 11 + 2, none⟩ = some (.int .i64 y) ∧ w'.cell? ⟨g, p + k * 11 + 3, none⟩ = some (.int .i64 pw) ∧ w'.cell? ⟨g, p + k * 11 + 4, none⟩ = some (.int .i64 ph) ∧ w'.cell? ⟨g, p + k * 11 + 5, none⟩ = some (.slice ua q_ uc) ∧ w'.cell? ⟨g, p + k * 11 + 6, none⟩ = some (.int .i64 cx) ∧ w'.cell? ⟨g, p + k * 11 + 7, none⟩ = some (.int .i64 cy) ∧ w'.cell? ⟨g, p + k * 11 + 8, none⟩ = some (.int .i64 cw) ∧ w'.cell? ⟨g, p + k * 11 + 9, none⟩ = some (.int .i64 ch) ∧ w'.cell? ⟨g, p + k * 11 + 10, none⟩ = some (.bool sh))) (by kernel_rfl) ?_ (fun hHeld => ?_)
            · exact KEEP.out _ (Below.refl _ _).drew
            refine wpAnyH_take (i := 0) (oi := ({ dst := some 60, op := Op.move (Operand.tmp 7), type := 22, pos := "parts.go:227", after := #[], guard := none } : Oper)) (v := ?_) rfl (by kernel_rfl) (by kernel_rfl) (by kernel_rfl) (fun _ _ _ h => h) (Or.inl ⟨by rfl, ?_⟩) (by assumption) ?_
            rotate_left
            · (intro w hSw; (try dsimp only at hSw); go_simp; try with_reducible rfl)
            try simp only [Act.put, List.setIfInBounds_toArray, List.set_cons_zero, List.set_cons_succ]
            refine wpAnyH_take (i := 1) (oi := ({ dst := some 61, op := Op.move (Operand.tmp 9), type := 3, pos := "parts.go:227", after := #[], guard := none } : Oper)) (v := ?_) rfl (by kernel_rfl) (by kernel_rfl) (by kernel_rfl) (fun _ _ _ h => h) (Or.inl ⟨by rfl, ?_⟩) (by assumption) ?_
            rotate_left
            · (intro w hSw; (try dsimp only at hSw); go_simp; try with_reducible rfl)
            try simp only [Act.put, List.setIfInBounds_toArray, List.set_cons_zero, List.set_cons_succ]
            refine wpAnyH_take (i := 2) (oi := ({ dst := some 62, op := Op.indexAddr 22 (Operand.tmp 60) (Operand.tmp 61), type := 0, pos := "parts.go:227", after := #[{ on := 0, ground := Ground.data }, { on := 1, ground := Ground.data }], guard := none } : Oper)) (v := ?_) rfl (by kernel_rfl) (by kernel_rfl) (by kernel_rfl) (fun _ _ _ h => h) (Or.inl ⟨by rfl, ?_⟩) (by assumption) ?_
            rotate_left
            · (intro w hSw; (try dsimp only at hSw); go_simp; try with_reducible rfl)
            try simp only [Act.put, List.setIfInBounds_toArray, List.set_cons_zero, List.set_cons_succ]
            refine wpAnyH_take (i := 3) (oi := ({ dst := some 63, op := Op.load 41 (Operand.tmp 62), type := 41, pos := "parts.go:227", after := #[{ on := 2, ground := Ground.data }], guard := none } : Oper)) (v := ?_) rfl (by kernel_rfl) (by kernel_rfl) (by kernel_rfl) (fun _ _ _ h => h) (Or.inl ⟨by rfl, ?_⟩) (by assumption) ?_
            rotate_left
            · (intro w hSw; (try dsimp only at hSw); go_simp; try with_reducible rfl)
            try simp only [Act.put, List.setIfInBounds_toArray, List.set_cons_zero, List.set_cons_succ]
            refine wpAnyH_ready (rs := [4]) (by kernel_rfl) (by simp) ?_
            refine AllReadyH.cons (o := ({ dst := some 64, op := Op.call { callee := Callee.value (Operand.func 9), args := #[Operand.tmp 63], argTypes := #[41] }, type := 29, pos := "parts.go:227", after := #[{ on := 3, ground := Ground.data }], guard := none } : Oper)) rfl (fun K_ hK => ?_) AllReadyH.nil
            go_simp
            refine (ocheck_any id_ x y pw ph _ ps cx cy cw ch sh wr.drew (by omega) HUd 0 HF2).mono ?_
            rw [show errV 0 = Value.nilIface from rfl]
            rintro e w7 ⟨rfl, hb7⟩
            have HB7 : Hid (Below wr.heap.size wr w7) := ⟨hb7.os, hb7.tape, hb7.output, hb7.size, hb7.block⟩
            clear hb7
            refine hK.out _ _ ?_ (fun hHeld => ?_)
            · exact KEEP.out _ HB7.out
            clear hK K_
            try simp only [Act.put, List.setIfInBounds_toArray, List.set_cons_zero, List.set_cons_succ]
            refine wpAnyH_take (i := 5) (oi := ({ dst := some 65, op := Op.binOp BinOp.neq 29 (Operand.tmp 64) (Operand.const Value.nilIface) 29, type := 4, pos := "parts.go:227", after := #[{ on := 4, ground := Ground.data }], guard := none } : Oper)) (v := ?_) rfl (by kernel_rfl) (by kernel_rfl) (by kernel_rfl) (fun _ _ _ h => h) (Or.inl ⟨by rfl, ?_⟩) (by assumption) ?_
            rotate_left
            · (intro w hSw; (try dsimp only at hSw); go_simp; try with_reducible rfl)
            try simp only [Act.put, List.setIfInBounds_toArray, List.set_cons_zero, List.set_cons_succ]
            refine wpAnyH_take (i := 6) (oi := ({ dst := some 66, op := Op.move (Operand.tmp 65), type := 4, pos := "parts.go:227", after := #[{ on := 5, ground := Ground.data }, { on := 4, ground := Ground.chain }], guard := none } : Oper)) (v := ?_) rfl (by kernel_rfl) (by kernel_rfl) (by kernel_rfl) (fun _ _ _ h => h) (Or.inl ⟨by rfl, ?_⟩) (by assumption) ?_
            rotate_left
            · (intro w hSw; (try dsimp only at hSw); go_simp; try with_reducible rfl)
            try simp only [Act.put, List.setIfInBounds_toArray, List.set_cons_zero, List.set_cons_succ]
            refine wpAnyH_take (i := 7) (oi := ({ dst := some 67, op := Op.move (Operand.tmp 9), type := 3, pos := "parts.go:227", after := #[{ on := 6, ground := Ground.guard }], guard := some (6, false) } : Oper)) (v := ?_) rfl (by kernel_rfl) (by kernel_rfl) (by kernel_rfl) (fun _ _ _ h => h) (Or.inl ⟨by rfl, ?_⟩) (by assumption) ?_
            rotate_left
            · (intro w hSw; (try dsimp only at hSw); go_simp; try with_reducible rfl)
            try simp only [Act.put, List.setIfInBounds_toArray, List.set_cons_zero, List.set_cons_succ]
            refine wpAnyH_take (i := 8) (oi := ({ dst := some 68, op := Op.binOp BinOp.gtr 3 (Operand.tmp 67) (Operand.const (Value.int IntKind.i64 0)) 3, type := 4, pos := "parts.go:227", after := #[{ on := 7, ground := Ground.data }, { on := 6, ground := Ground.guard }], guard := some (6, false) } : Oper)) (v := ?_) rfl (by kernel_rfl) (by kernel_rfl) (by kernel_rfl) (fun _ _ _ h => h) (Or.inl ⟨by rfl, ?_⟩) (by assumption) ?_
            rotate_left
            · (intro w hSw; (try dsimp only at hSw); go_simp; try with_reducible rfl)
            try simp only [Act.put, List.setIfInBounds_toArray, List.set_cons_zero, List.set_cons_succ]
            refine wpAnyH_take (i := 9) (oi := ({ dst := some 69, op := Op.move (Operand.tmp 68), type := 4, pos := "parts.go:227", after := #[{ on := 8, ground := Ground.data }, { on := 6, ground := Ground.chain }, { on := 6, ground := Ground.guard }], guard := some (6, false) } : Oper)) (v := ?_) rfl (by kernel_rfl) (by kernel_rfl) (by kernel_rfl) (fun _ _ _ h => h) (Or.inl ⟨by rfl, ?_⟩) (by assumption) ?_
            rotate_left
            · (intro w hSw; (try dsimp only at hSw); go_simp; try with_reducible rfl)
            try simp only [Act.put, List.setIfInBounds_toArray, List.set_cons_zero, List.set_cons_succ]
            refine wpAnyH_take (i := 10) (oi := ({ dst := some 70, op := Op.move (Operand.tmp 7), type := 22, pos := "parts.go:227", after := #[{ on := 9, ground := Ground.guard }], guard := some (9, true) } : Oper)) (v := undef) rfl (by kernel_rfl) (by kernel_rfl) (by kernel_rfl) (fun _ _ _ h => h) (Or.inr ⟨by rfl, rfl⟩) (by assumption) ?_
            try simp only [Act.put, List.setIfInBounds_toArray, List.set_cons_zero, List.set_cons_succ]
            refine wpAnyH_take (i := 11) (oi := ({ dst := some 71, op := Op.move (Operand.tmp 9), type := 3, pos := "parts.go:227", after := #[{ on := 9, ground := Ground.guard }], guard := some (9, true) } : Oper)) (v := undef) rfl (by kernel_rfl) (by kernel_rfl) (by kernel_rfl) (fun _ _ _ h => h) (Or.inr ⟨by rfl, rfl⟩) (by assumption) ?_
            try simp only [Act.put, List.setIfInBounds_toArray, List.set_cons_zero, List.set_cons_succ]
            refine wpAnyH_take (i := 12) (oi := ({ dst := some 72, op := Op.indexAddr 22 (Operand.tmp 70) (Operand.tmp 71), type := 0, pos := "parts.go:227", after := #[{ on := 10, ground := Ground.data }, { on := 11, ground := Ground.data }, { on := 9, ground := Ground.guard }], guard := some (9, true) } : Oper)) (v := undef) rfl (by kernel_rfl) (by kernel_rfl) (by kernel_rfl) (fun _ _ _ h => h) (Or.inr ⟨by rfl, rfl⟩) (by assumption) ?_
            try simp only [Act.put, List.setIfInBounds_toArray, List.set_cons_zero, List.set_cons_succ]
            refine wpAnyH_take (i := 13) (oi := ({ dst := some 73, op := Op.fieldAddr 41 (Operand.tmp 72) 0, type := 0, pos := "parts.go:227", after := #[{ on := 12, ground := Ground.data }, { on := 9, ground := Ground.guard }], guard := some (9, true) } : Oper)) (v := undef) rfl (by kernel_rfl) (by kernel_rfl) (by kernel_rfl) (fun _ _ _ h => h) (Or.inr ⟨by rfl, rfl⟩) (by assumption) ?_
            try simp only [Act.put, List.setIfInBounds_toArray, List.set_cons_zero, List.set_cons_succ]
            refine wpAnyH_take (i := 14) (oi := ({ dst := some 74, op := Op.load 3 (Operand.tmp 73), type := 3, pos := "parts.go:227", after := #[{ on := 13, ground := Ground.data }, { on := 9, ground := Ground.guard }], guard := some (9, true) } : Oper)) (v := undef) rfl (by kernel_rfl) (by kernel_rfl) (by kernel_rfl) (fun _ _ _ h => h) (Or.inr ⟨by rfl, rfl⟩) (by assumption) ?_
            try simp only [Act.put, List.setIfInBounds_toArray, List.set_cons_zero, List.set_cons_succ]
            refine wpAnyH_take (i := 15) (oi := ({ dst := some 75, op := Op.move (Operand.tmp 7), type := 22, pos := "parts.go:227", after := #[{ on := 9, ground := Ground.guard }], guard := some (9, true) } : Oper)) (v := undef) rfl (by kernel_rfl) (by kernel_rfl) (by kernel_rfl) (fun _ _ _ h => h) (Or.inr ⟨by rfl, rfl⟩) (by assumption) ?_
            try simp only [Act.put, List.setIfInBounds_toArray, List.set_cons_zero, List.set_cons_succ]
            refine wpAnyH_take (i := 16) (oi := ({ dst := some 76, op := Op.move (Operand.tmp 9), type := 3, pos := "parts.go:227", after := #[{ on := 9, ground := Ground.guard }], guard := some (9, true) } : Oper)) (v := undef) rfl (by kernel_rfl) (by kernel_rfl) (by kernel_rfl) (fun _ _ _ h => h) (Or.inr ⟨by rfl, rfl⟩) (by assumption) ?_
            try simp only [Act.put, List.setIfInBounds_toArray, List.set_cons_zero, List.set_cons_succ]
            refine wpAnyH_take (i := 17) (oi := ({ dst := some 77, op := Op.binOp BinOp.sub 3 (Operand.tmp 76) (Operand.const (Value.int IntKind.i64 1)) 3, type := 3, pos := "parts.go:227", after := #[{ on := 16, ground := Ground.data }, { on := 9, ground := Ground.guard }], guard := some (9, true) } : Oper)) (v := undef) rfl (by kernel_rfl) (by kernel_rfl) (by kernel_rfl) (fun _ _ _ h => h) (Or.inr ⟨by rfl, rfl⟩) (by assumption) ?_
            try simp only [Act.put, List.setIfInBounds_toArray, List.set_cons_zero, List.set_cons_succ]
            refine wpAnyH_take (i := 18) (oi := ({ dst := some 78, op := Op.indexAddr 22 (Operand.tmp 75) (Operand.tmp 77), type := 0, pos := "parts.go:227", after := #[{ on := 15, ground := Ground.data }, { on := 17, ground := Ground.data }, { on := 9, ground := Ground.guard }], guard := some (9, true) } : Oper)) (v := undef) rfl (by kernel_rfl) (by kernel_rfl) (by kernel_rfl) (fun _ _ _ h => h) (Or.inr ⟨by rfl, rfl⟩) (by assumption) ?_
            try simp only [Act.put, List.setIfInBounds_toArray, List.set_cons_zero, List.set_cons_succ]
            refine wpAnyH_take (i := 19) (oi := ({ dst := some 79, op := Op.fieldAddr 41 (Operand.tmp 78) 0, type := 0, pos := "parts.go:227", after := #[{ on := 18, ground := Ground.data }, { on := 9, ground := Ground.guard }], guard := some (9, true) } : Oper)) (v := undef) rfl (by kernel_rfl) (by kernel_rfl) (by kernel_rfl) (fun _ _ _ h => h) (Or.inr ⟨by rfl, rfl⟩) (by assumption) ?_
            try simp only [Act.put, List.setIfInBounds_toArray, List.set_cons_zero, List.set_cons_succ]
            refine wpAnyH_take (i := 20) (oi := ({ dst := some 80, op := Op.load 3 (Operand.tmp 79), type := 3, pos := "parts.go:227", after := #[{ on := 19, ground := Ground.data }, { on := 9, ground := Ground.guard }], guard := some (9, true) } : Oper)) (v := undef) rfl (by kernel_rfl) (by kernel_rfl) (by kernel_rfl) (fun _ _ _ h => h) (Or.inr ⟨by rfl, rfl⟩) (by assumption) ?_
            try simp only [Act.put, List.setIfInBounds_toArray, List.set_cons_zero, List.set_cons_succ]
            refine wpAnyH_take (i := 21) (oi := ({ dst := some 81, op := Op.binOp BinOp.leq 3 (Operand.tmp 74) (Operand.tmp 80) 3, type := 4, pos := "parts.go:227", after := #[{ on := 14, ground := Ground.data }, { on := 20, ground := Ground.data }, { on := 9, ground := Ground.guard }], guard := some (9, true) } : Oper)) (v := undef) rfl (by kernel_rfl) (by kernel_rfl) (by kernel_rfl) (fun _ _ _ h => h) (Or.inr ⟨by rfl, rfl⟩) (by assumption) ?_
            try simp only [Act.put, List.setIfInBounds_toArray, List.set_cons_zero, List.set_cons_succ]
            refine wpAnyH_take (i := 22) (oi := ({ dst := some 82, op := Op.pick (Operand.tmp 69) (Operand.tmp 81) (Operand.const (Value.bool false)), type := 4, pos := "parts.go:227", after := #[{ on := 9, ground := Ground.data }, { on := 21, ground := Ground.data }, { on := 6, ground := Ground.guard }], guard := some (6, false) } : Oper)) (v := ?_) rfl (by kernel_rfl) (by kernel_rfl) (by kernel_rfl) (fun _ _ _ h => h) (Or.inl ⟨by rfl, ?_⟩) (by assumption) ?_
            rotate_left
            · (intro w hSw; (try dsimp only at hSw); go_simp; try with_reducible rfl)
            try simp only [Act.put, List.setIfInBounds_toArray, List.set_cons_zero, List.set_cons_succ]
            refine wpAnyH_take (i := 23) (oi := ({ dst := some 83, op := Op.pick (Operand.tmp 66) (Operand.const (Value.bool true)) (Operand.tmp 82), type := 4, pos := "parts.go:227", after := #[{ on := 6, ground := Ground.data }, { on := 22, ground := Ground.data }], guard := none } : Oper)) (v := ?_) rfl (by kernel_rfl) (by kernel_rfl) (by kernel_rfl) (fun _ _ _ h => h) (Or.inl ⟨by rfl, ?_⟩) (by assumption) ?_
            rotate_left
            · (intro w hSw; (try dsimp only at hSw); go_simp; try with_reducible rfl)
            try simp only [Act.put, List.setIfInBounds_toArray, List.set_cons_zero, List.set_cons_succ]
            refine wpAnyH_done (by kernel_rfl) ?_ _
            go_wp2_with fail
            go_roundw
            case rel => exact ⟨k + 1, by omega, by go_num, hbr.trans (HB7.out.mono hbr.size)⟩
            case measure => simp [intOf]; omega
          · obtain ⟨j, rfl⟩ : ∃ j, k = j + 1 := ⟨k - 1, by omega⟩
            obtain ⟨obp, HXP⟩ : ∃ o, Hid (rs.getD j po0 = o) := ⟨_, (rfl : _ = _)⟩
            obtain ⟨g', p', ua', q', uc', ha', _, OCP, _, _⟩ := (HM5.out.on hbr).at (k := j) (by omega) HXP
            have hids := HG2.out j (j + 1) (by omega) hlt'
            rw [HX.out, HXP.out] at hids
            rw [ha] at ha'
            simp only [Option.some.injEq, Addr.mk.injEq, and_true] at ha'
            obtain ⟨rfl, rfl⟩ := ha'
            subst ha
            have cp0 := OCP.c0
            obtain ⟨idp, HIDP⟩ : ∃ idp, Hid (obp.id = idp) := ⟨_, (rfl : _ = _)⟩
            rw [HIDP.out] at cp0 hids
            obtain ⟨id_, x, y, pw, ph, ps, cx, cy, cw, ch, sh⟩ := ob
            simp only at c0 c1 c2 c3 c4 c5 c6 c7 c8 c9 c10 HUo HMo hgp hids
            have HF2 : Hid (objC id_ x y pw ph ps cx cy cw ch = 0) := HF.out
            have hidn : ¬ id_ ≤ idp := by omega
            have hk1 : (0 : Int) ≤ (j : Int) + 1 := by omega
            have hk2 : (0 : Int) < (j : Int) + 1 := by omega
            have hk3 : (j : Int) + 1 < (m : Int) := by omega
            have hk4 : (j : Int) + 1 - 1 = (j : Int) := by omega
            have hk5 : (j : Int) < (m : Int) := by omega
            have hk8 : ((j : Int) + 1).toNat = j + 1 := by omega
            have hk10 : (0 : Int) ≤ (j : Int) := by omega
            have hk6 : IntKind.i64.wrap (j : Int) = (j : Int) := wrap_s (by omega) (by omega)
            have hk7 : IntKind.i64.wrap ((j : Int) + 1 - 1) = (j : Int) := by rw [hk4]; exact hk6
            have hjm : j < m := by omega
            clear hlt' HX hgf HF HXP HIDP OCP hids hk0 hki0 hki1
            have KEEP : Hid (∀ w', Below wr.heap.size wr w' → (w'.cell? ⟨g, p + (j + 1) * 11, none⟩ = some (.int .i64 id_) ∧ w'.cell? ⟨g, p + (j + 1) * 11 + 1, none⟩ = some (.int .i64 x) ∧ w'.cell? ⟨g, p + (j + 1) * 11 + 2, none⟩ = some (.int .i64 y) ∧ w'.cell? ⟨g, p + (j + 1) * 11 + 3, none⟩ = some (.int .i64 pw) ∧ w'.cell? ⟨g, p + (j + 1) * 11 + 4, none⟩ = some (.int .i64 ph) ∧ w'.cell? ⟨g, p + (j + 1) * 11 + 5, none⟩ = some (.slice ua q_ uc) ∧ w'.cell? ⟨g, p + (j + 1) * 11 + 6, none⟩ = some (.int .i64 cx) ∧ w'.cell? ⟨g, p + (j + 1) * 11 + 7, none⟩ = some (.int .i64 cy) ∧ w'.cell? ⟨g, p + (j + 1) * 11 + 8, none⟩ = some (.int .i64 cw) ∧ w'.cell? ⟨g, p + (j + 1) * 11 + 9, none⟩ = some (.int .i64 ch) ∧ w'.cell? ⟨g, p + (j + 1) * 11 + 10, none⟩ = some (.bool sh) ∧ w'.cell? ⟨g, p + j * 11, none⟩ = some (.int .i64 idp))) := by
              intro w' h
              refine ⟨?_, ?_, ?_, ?_, ?_, ?_, ?_, ?_, ?_, ?_, ?_, ?_⟩
              · rw [h.cell (p := ⟨g, p + (j + 1) * 11, none⟩) hg]; exact c0
              · rw [h.cell (p := ⟨g, p + (j + 1) * 11 + 1, none⟩) hg]; exact c1
              · rw [h.cell (p := ⟨g, p + (j + 1) * 11 + 2, none⟩) hg]; exact c2
              · rw [h.cell (p := ⟨g, p + (j + 1) * 11 + 3, none⟩) hg]; exact c3
              · rw [h.cell (p := ⟨g, p + (j + 1) * 11 + 4, none⟩) hg]; exact c4
              · rw [h.cell (p := ⟨g, p + (j + 1) * 11 + 5, none⟩) hg]; exact c5
              · rw [h.cell (p := ⟨g, p + (j + 1) * 11 + 6, none⟩) hg]; exact c6
              · rw [h.cell (p := ⟨g, p + (j + 1) * 11 + 7, none⟩) hg]; exact c7
              · rw [h.cell (p := ⟨g, p + (j + 1) * 11 + 8, none⟩) hg]; exact c8
              · rw [h.cell (p := ⟨g, p + (j + 1) * 11 + 9, none⟩) hg]; exact c9
              · rw [h.cell (p := ⟨g, p + (j + 1) * 11 + 10, none⟩) hg]; exact c10
              · rw [h.cell (p := ⟨g, p + j * 11, none⟩) hg]; exact cp0
            have HUd : Hid (RdP wr.drew (.slice ua q_ uc) ps) := HUo.out
            clear c0 c1 c2 c3 c4 c5 c6 c7 c8 c9 c10 cp0
            go_wp2_with fail
            refine wp_region_held_drew (S := (fun w' => w'.cell? ⟨g, p + (j + 1) * 11, none⟩ = some (.int .i64 id_) ∧ w'.cell? ⟨g, p + (j + 1) * 11 + 1, none⟩ = some (.int .i64 x) ∧ w'.cell? ⟨g, p + (j + 1) * 11 + 2, none⟩ = some (.int .i64 y) ∧ w'.cell? ⟨g, p + (j + 1) * 11 + 3, none⟩ = some (.int .i64 pw) ∧ w'.cell? ⟨g, p + (j + 1) * 11 + 4, none⟩ = some (.int .i64 ph) ∧ w'.cell? ⟨g, p + (j + 1) * 11 + 5, none⟩ = some (.slice ua q_ uc) ∧ w'.cell? ⟨g, p + (j + 1) * 11 + 6, none⟩ = some (.int .i64 cx) ∧ w'.cell? ⟨g, p + (j + 1) * 11 + 7, none⟩ = some (.int .i64 cy) ∧ w'.cell? ⟨g, p + (j + 1) * 11 + 8, none⟩ = some (.int .i64 cw) ∧ w'.cell? ⟨g, p + (j + 1) * 11 + 9, none⟩ = some (.int .i64 ch) ∧ w'.cell? ⟨g, p + (j + 1) * 11 + 10, none⟩ = some (.bool sh) ∧ w'.cell? ⟨g, p + j * 11, none⟩ = some (.int .i64 idp))) (by kernel_rfl) ?_ (fun hHeld => ?_)
            · exact KEEP.out _ (Below.refl _ _).drew
            refine wpAnyH_take (i := 0) (oi := ({ dst := some 60, op := Op.move (Operand.tmp 7), type := 22, pos := "parts.go:227", after := #[], guard := none } : Oper)) (v := ?_) rfl (by kernel_rfl) (by kernel_rfl) (by kernel_rfl) (fun _ _ _ h => h) (Or.inl ⟨by rfl, ?_⟩) (by assumption) ?_
            rotate_left
            · (intro w hSw; (try dsimp only at hSw); go_simp; try with_reducible rfl)
            try simp only [Act.put, List.setIfInBounds_toArray, List.set_cons_zero, List.set_cons_succ]
            refine wpAnyH_take (i := 1) (oi := ({ dst := some 61, op := Op.move (Operand.tmp 9), type := 3, pos := "parts.go:227", after := #[], guard := none } : Oper)) (v := ?_) rfl (by kernel_rfl) (by kernel_rfl) (by kernel_rfl) (fun _ _ _ h => h) (Or.inl ⟨by rfl, ?_⟩) (by assumption) ?_
            rotate_left
            · (intro w hSw; (try dsimp only at hSw); go_simp; try with_reducible rfl)
            try simp only [Act.put, List.setIfInBounds_toArray, List.set_cons_zero, List.set_cons_succ]
            refine wpAnyH_take (i := 2) (oi := ({ dst := some 62, op := Op.indexAddr 22 (Operand.tmp 60) (Operand.tmp 61), type := 0, pos := "parts.go:227", after := #[{ on := 0, ground := Ground.data }, { on := 1, ground := Ground.data }], guard := none } : Oper)) (v := ?_) rfl (by kernel_rfl) (by kernel_rfl) (by kernel_rfl) (fun _ _ _ h => h) (Or.inl ⟨by rfl, ?_⟩) (by assumption) ?_
            rotate_left
            · (intro w hSw; (try dsimp only at hSw); go_simp; try with_reducible rfl)
            try simp only [Act.put, List.setIfInBounds_toArray, List.set_cons_zero, List.set_cons_succ]
            refine wpAnyH_take (i := 3) (oi := ({ dst := some 63, op := Op.load 41 (Operand.tmp 62), type := 41, pos := "parts.go:227", after := #[{ on := 2, ground := Ground.data }], guard := none } : Oper)) (v := ?_) rfl (by kernel_rfl) (by kernel_rfl) (by kernel_rfl) (fun _ _ _ h => h) (Or.inl ⟨by rfl, ?_⟩) (by assumption) ?_
            rotate_left
            · (intro w hSw; (try dsimp only at hSw); go_simp; try with_reducible rfl)
            try simp only [Act.put, List.setIfInBounds_toArray, List.set_cons_zero, List.set_cons_succ]
            refine wpAnyH_ready (rs := [4]) (by kernel_rfl) (by simp) ?_
            refine AllReadyH.cons (o := ({ dst := some 64, op := Op.call { callee := Callee.value (Operand.func 9), args := #[Operand.tmp 63], argTypes := #[41] }, type := 29, pos := "parts.go:227", after := #[{ on := 3, ground := Ground.data }], guard := none } : Oper)) rfl (fun K_ hK => ?_) AllReadyH.nil
            go_simp
            refine (ocheck_any id_ x y pw ph _ ps cx cy cw ch sh wr.drew (by omega) HUd 0 HF2).mono ?_
            rw [show errV 0 = Value.nilIface from rfl]
            rintro e w7 ⟨rfl, hb7⟩
            have HB7 : Hid (Below wr.heap.size wr w7) := ⟨hb7.os, hb7.tape, hb7.output, hb7.size, hb7.block⟩
            clear hb7
            refine hK.out _ _ ?_ (fun hHeld => ?_)
            · exact KEEP.out _ HB7.out
            clear hK K_
            try simp only [Act.put, List.setIfInBounds_toArray, List.set_cons_zero, List.set_cons_succ]
            refine wpAnyH_take (i := 5) (oi := ({ dst := some 65, op := Op.binOp BinOp.neq 29 (Operand.tmp 64) (Operand.const Value.nilIface) 29, type := 4, pos := "parts.go:227", after := #[{ on := 4, ground := Ground.data }], guard := none } : Oper)) (v := ?_) rfl (by kernel_rfl) (by kernel_rfl) (by kernel_rfl) (fun _ _ _ h => h) (Or.inl ⟨by rfl, ?_⟩) (by assumption) ?_
            rotate_left
            · (intro w hSw; (try dsimp only at hSw); go_simp; try with_reducible rfl)
            try simp only [Act.put, List.setIfInBounds_toArray, List.set_cons_zero, List.set_cons_succ]
            refine wpAnyH_take (i := 6) (oi := ({ dst := some 66, op := Op.move (Operand.tmp 65), type := 4, pos := "parts.go:227", after := #[{ on := 5, ground := Ground.data }, { on := 4, ground := Ground.chain }], guard := none } : Oper)) (v := ?_) rfl (by kernel_rfl) (by kernel_rfl) (by kernel_rfl) (fun _ _ _ h => h) (Or.inl ⟨by rfl, ?_⟩) (by assumption) ?_
            rotate_left
            · (intro w hSw; (try dsimp only at hSw); go_simp; try with_reducible rfl)
            try simp only [Act.put, List.setIfInBounds_toArray, List.set_cons_zero, List.set_cons_succ]
            refine wpAnyH_take (i := 7) (oi := ({ dst := some 67, op := Op.move (Operand.tmp 9), type := 3, pos := "parts.go:227", after := #[{ on := 6, ground := Ground.guard }], guard := some (6, false) } : Oper)) (v := ?_) rfl (by kernel_rfl) (by kernel_rfl) (by kernel_rfl) (fun _ _ _ h => h) (Or.inl ⟨by rfl, ?_⟩) (by assumption) ?_
            rotate_left
            · (intro w hSw; (try dsimp only at hSw); go_simp; try with_reducible rfl)
            try simp only [Act.put, List.setIfInBounds_toArray, List.set_cons_zero, List.set_cons_succ]
            refine wpAnyH_take (i := 8) (oi := ({ dst := some 68, op := Op.binOp BinOp.gtr 3 (Operand.tmp 67) (Operand.const (Value.int IntKind.i64 0)) 3, type := 4, pos := "parts.go:227", after := #[{ on := 7, ground := Ground.data }, { on := 6, ground := Ground.guard }], guard := some (6, false) } : Oper)) (v := ?_) rfl (by kernel_rfl) (by kernel_rfl) (by kernel_rfl) (fun _ _ _ h => h) (Or.inl ⟨by rfl, ?_⟩) (by assumption) ?_
            rotate_left
            · (intro w hSw; (try dsimp only at hSw); go_simp; try with_reducible rfl)
            try simp only [Act.put, List.setIfInBounds_toArray, List.set_cons_zero, List.set_cons_succ]
            refine wpAnyH_take (i := 9) (oi := ({ dst := some 69, op := Op.move (Operand.tmp 68), type := 4, pos := "parts.go:227", after := #[{ on := 8, ground := Ground.data }, { on := 6, ground := Ground.chain }, { on := 6, ground := Ground.guard }], guard := some (6, false) } : Oper)) (v := ?_) rfl (by kernel_rfl) (by kernel_rfl) (by kernel_rfl) (fun _ _ _ h => h) (Or.inl ⟨by rfl, ?_⟩) (by assumption) ?_
            rotate_left
            · (intro w hSw; (try dsimp only at hSw); go_simp; try with_reducible rfl)
            try simp only [Act.put, List.setIfInBounds_toArray, List.set_cons_zero, List.set_cons_succ]
            refine wpAnyH_take (i := 10) (oi := ({ dst := some 70, op := Op.move (Operand.tmp 7), type := 22, pos := "parts.go:227", after := #[{ on := 9, ground := Ground.guard }], guard := some (9, true) } : Oper)) (v := ?_) rfl (by kernel_rfl) (by kernel_rfl) (by kernel_rfl) (fun _ _ _ h => h) (Or.inl ⟨by rfl, ?_⟩) (by assumption) ?_
            rotate_left
            · (intro w hSw; (try dsimp only at hSw); go_simp; try with_reducible rfl)
            try simp only [Act.put, List.setIfInBounds_toArray, List.set_cons_zero, List.set_cons_succ]
            refine wpAnyH_take (i := 11) (oi := ({ dst := some 71, op := Op.move (Operand.tmp 9), type := 3, pos := "parts.go:227", after := #[{ on := 9, ground := Ground.guard }], guard := some (9, true) } : Oper)) (v := ?_) rfl (by kernel_rfl) (by kernel_rfl) (by kernel_rfl) (fun _ _ _ h => h) (Or.inl ⟨by rfl, ?_⟩) (by assumption) ?_
            rotate_left
            · (intro w hSw; (try dsimp only at hSw); go_simp; try with_reducible rfl)
            try simp only [Act.put, List.setIfInBounds_toArray, List.set_cons_zero, List.set_cons_succ]
            refine wpAnyH_take (i := 12) (oi := ({ dst := some 72, op := Op.indexAddr 22 (Operand.tmp 70) (Operand.tmp 71), type := 0, pos := "parts.go:227", after := #[{ on := 10, ground := Ground.data }, { on := 11, ground := Ground.data }, { on := 9, ground := Ground.guard }], guard := some (9, true) } : Oper)) (v := ?_) rfl (by kernel_rfl) (by kernel_rfl) (by kernel_rfl) (fun _ _ _ h => h) (Or.inl ⟨by rfl, ?_⟩) (by assumption) ?_
            rotate_left
            · (intro w hSw; (try dsimp only at hSw); go_simp; try with_reducible rfl)
            try simp only [Act.put, List.setIfInBounds_toArray, List.set_cons_zero, List.set_cons_succ]
            refine wpAnyH_take (i := 13) (oi := ({ dst := some 73, op := Op.fieldAddr 41 (Operand.tmp 72) 0, type := 0, pos := "parts.go:227", after := #[{ on := 12, ground := Ground.data }, { on := 9, ground := Ground.guard }], guard := some (9, true) } : Oper)) (v := ?_) rfl (by kernel_rfl) (by kernel_rfl) (by kernel_rfl) (fun _ _ _ h => h) (Or.inl ⟨by rfl, ?_⟩) (by assumption) ?_
            rotate_left
            · (intro w hSw; (try dsimp only at hSw); go_simp; try with_reducible rfl)
            try simp only [Act.put, List.setIfInBounds_toArray, List.set_cons_zero, List.set_cons_succ]
            refine wpAnyH_take (i := 14) (oi := ({ dst := some 74, op := Op.load 3 (Operand.tmp 73), type := 3, pos := "parts.go:227", after := #[{ on := 13, ground := Ground.data }, { on := 9, ground := Ground.guard }], guard := some (9, true) } : Oper)) (v := ?_) rfl (by kernel_rfl) (by kernel_rfl) (by kernel_rfl) (fun _ _ _ h => h) (Or.inl ⟨by rfl, ?_⟩) (by assumption) ?_
            rotate_left
            · (intro w hSw; (try dsimp only at hSw); go_simp; try with_reducible rfl)
            try simp only [Act.put, List.setIfInBounds_toArray, List.set_cons_zero, List.set_cons_succ]
            refine wpAnyH_take (i := 15) (oi := ({ dst := some 75, op := Op.move (Operand.tmp 7), type := 22, pos := "parts.go:227", after := #[{ on := 9, ground := Ground.guard }], guard := some (9, true) } : Oper)) (v := ?_) rfl (by kernel_rfl) (by kernel_rfl) (by kernel_rfl) (fun _ _ _ h => h) (Or.inl ⟨by rfl, ?_⟩) (by assumption) ?_
            rotate_left
            · (intro w hSw; (try dsimp only at hSw); go_simp; try with_reducible rfl)
            try simp only [Act.put, List.setIfInBounds_toArray, List.set_cons_zero, List.set_cons_succ]
            refine wpAnyH_take (i := 16) (oi := ({ dst := some 76, op := Op.move (Operand.tmp 9), type := 3, pos := "parts.go:227", after := #[{ on := 9, ground := Ground.guard }], guard := some (9, true) } : Oper)) (v := ?_) rfl (by kernel_rfl) (by kernel_rfl) (by kernel_rfl) (fun _ _ _ h => h) (Or.inl ⟨by rfl, ?_⟩) (by assumption) ?_
            rotate_left
            · (intro w hSw; (try dsimp only at hSw); go_simp; try with_reducible rfl)
            try simp only [Act.put, List.setIfInBounds_toArray, List.set_cons_zero, List.set_cons_succ]
            refine wpAnyH_take (i := 17) (oi := ({ dst := some 77, op := Op.binOp BinOp.sub 3 (Operand.tmp 76) (Operand.const (Value.int IntKind.i64 1)) 3, type := 3, pos := "parts.go:227", after := #[{ on := 16, ground := Ground.data }, { on := 9, ground := Ground.guard }], guard := some (9, true) } : Oper)) (v := ?_) rfl (by kernel_rfl) (by kernel_rfl) (by kernel_rfl) (fun _ _ _ h => h) (Or.inl ⟨by rfl, ?_⟩) (by assumption) ?_
            rotate_left
            · (intro w hSw; (try dsimp only at hSw); go_simp; try with_reducible rfl)
            try simp only [Act.put, List.setIfInBounds_toArray, List.set_cons_zero, List.set_cons_succ]
            refine wpAnyH_take (i := 18) (oi := ({ dst := some 78, op := Op.indexAddr 22 (Operand.tmp 75) (Operand.tmp 77), type := 0, pos := "parts.go:227", after := #[{ on := 15, ground := Ground.data }, { on := 17, ground := Ground.data }, { on := 9, ground := Ground.guard }], guard := some (9, true) } : Oper)) (v := ?_) rfl (by kernel_rfl) (by kernel_rfl) (by kernel_rfl) (fun _ _ _ h => h) (Or.inl ⟨by rfl, ?_⟩) (by assumption) ?_
            rotate_left
            · (intro w hSw; (try dsimp only at hSw); go_simp; try with_reducible rfl)
            try simp only [Act.put, List.setIfInBounds_toArray, List.set_cons_zero, List.set_cons_succ]
            refine wpAnyH_take (i := 19) (oi := ({ dst := some 79, op := Op.fieldAddr 41 (Operand.tmp 78) 0, type := 0, pos := "parts.go:227", after := #[{ on := 18, ground := Ground.data }, { on := 9, ground := Ground.guard }], guard := some (9, true) } : Oper)) (v := ?_) rfl (by kernel_rfl) (by kernel_rfl) (by kernel_rfl) (fun _ _ _ h => h) (Or.inl ⟨by rfl, ?_⟩) (by assumption) ?_
            rotate_left
            · (intro w hSw; (try dsimp only at hSw); go_simp; try with_reducible rfl)
            try simp only [Act.put, List.setIfInBounds_toArray, List.set_cons_zero, List.set_cons_succ]
            refine wpAnyH_take (i := 20) (oi := ({ dst := some 80, op := Op.load 3 (Operand.tmp 79), type := 3, pos := "parts.go:227", after := #[{ on := 19, ground := Ground.data }, { on := 9, ground := Ground.guard }], guard := some (9, true) } : Oper)) (v := ?_) rfl (by kernel_rfl) (by kernel_rfl) (by kernel_rfl) (fun _ _ _ h => h) (Or.inl ⟨by rfl, ?_⟩) (by assumption) ?_
            rotate_left
            · (intro w hSw; (try dsimp only at hSw); go_simp; try with_reducible rfl)
            try simp only [Act.put, List.setIfInBounds_toArray, List.set_cons_zero, List.set_cons_succ]
            refine wpAnyH_take (i := 21) (oi := ({ dst := some 81, op := Op.binOp BinOp.leq 3 (Operand.tmp 74) (Operand.tmp 80) 3, type := 4, pos := "parts.go:227", after := #[{ on := 14, ground := Ground.data }, { on := 20, ground := Ground.data }, { on := 9, ground := Ground.guard }], guard := some (9, true) } : Oper)) (v := ?_) rfl (by kernel_rfl) (by kernel_rfl) (by kernel_rfl) (fun _ _ _ h => h) (Or.inl ⟨by rfl, ?_⟩) (by assumption) ?_
            rotate_left
            · (intro w hSw; (try dsimp only at hSw); go_simp; try with_reducible rfl)
            try simp only [Act.put, List.setIfInBounds_toArray, List.set_cons_zero, List.set_cons_succ]
            refine wpAnyH_take (i := 22) (oi := ({ dst := some 82, op := Op.pick (Operand.tmp 69) (Operand.tmp 81) (Operand.const (Value.bool false)), type := 4, pos := "parts.go:227", after := #[{ on := 9, ground := Ground.data }, { on := 21, ground := Ground.data }, { on := 6, ground := Ground.guard }], guard := some (6, false) } : Oper)) (v := ?_) rfl (by kernel_rfl) (by kernel_rfl) (by kernel_rfl) (fun _ _ _ h => h) (Or.inl ⟨by rfl, ?_⟩) (by assumption) ?_
            rotate_left
            · (intro w hSw; (try dsimp only at hSw); go_simp; try with_reducible rfl)
            try simp only [Act.put, List.setIfInBounds_toArray, List.set_cons_zero, List.set_cons_succ]
            refine wpAnyH_take (i := 23) (oi := ({ dst := some 83, op := Op.pick (Operand.tmp 66) (Operand.const (Value.bool true)) (Operand.tmp 82), type := 4, pos := "parts.go:227", after := #[{ on := 6, ground := Ground.data }, { on := 22, ground := Ground.data }], guard := none } : Oper)) (v := ?_) rfl (by kernel_rfl) (by kernel_rfl) (by kernel_rfl) (fun _ _ _ h => h) (Or.inl ⟨by rfl, ?_⟩) (by assumption) ?_
            rotate_left
            · (intro w hSw; (try dsimp only at hSw); go_simp; try with_reducible rfl)
            try simp only [Act.put, List.setIfInBounds_toArray, List.set_cons_zero, List.set_cons_succ]
            refine wpAnyH_done (by kernel_rfl) ?_ _
            go_wp2_with fail
            go_roundw
            case rel => exact ⟨j + 1 + 1, by omega, by go_num, hbr.trans (HB7.out.mono hbr.size)⟩
            case measure => simp [intOf]; omega
        · obtain rfl : k = m := by omega
          have NR := N5.out.on hbr
          obtain ⟨m0, m1, m2, m3, m4, m5, m6, m7, m8, mf0, mf1, mf2, mf3, mf4, mf5, mf6, mf7, mf8, mlt⟩ := NR
          have HMr : Hid (RdO wr (.slice a5 k cc5) rs) := HM5.out.on hbr
          by_cases e1 : id = q.id
          · have b1 : (id == q.id) = true := by simpa using e1
            clear e1
            go_wp2_with fail
            go_ret
            exact ⟨rfl, hbbr⟩
          have b1 : (id == q.id) = false := by simpa using e1
          replace e1 := hid_of2 e1
          by_cases e3 : q.kind = 6
          · have b2 : (q.kind == 6) = true := by simpa using e3
            by_cases e4 : id = q.a
            · have b3 : (id == q.a) = true := by simpa using e4
              clear e3 e4
              go_wp2_with fail
              go_ret
              exact ⟨rfl, hbbr⟩
            have b3 : (id == q.a) = false := by simpa using e4
            have e2 : Hid (¬ (q.kind = 6 ∧ id = q.a)) := fun h => e4 h.2
            clear e3 e4
            have HFIND := hid_of2 (do_find os q rs HE5.out id (fun h => e1.out h.symm) (fun h => e2.out ⟨h.1, h.2.symm⟩))
            have HRr : Hid (RdO wr (.slice a n cap) os) := HR.out.on hbbr
            have hos6 := HGO.out.few
            have hrs6 : rs.length ≤ 100 := by rw [HLM.out]; exact hg3
            go_wp2_with fail
            refine (get_any _ os id _ (by omega) (fun j hj => by have := HGO.out.pix j hj; omega) HGO.out.sort HRr).mono ?_
            intro e w8 hget
            obtain ⟨hb8, hget⟩ := get_find hget HGO.out.sort
            have hbb8a := hbbr.trans (hb8.mono hbbr.size)
            clear m0 m1 m2 m3 m4 m5 m6 m7 m8 mf0 mf1 mf2 mf3 mf4 mf5 mf6 mf7 mf8 mlt
            rcases hget with ⟨o, u, hfo, hmem, rfl, hru⟩ | ⟨hfo, rfl⟩
            · have HFO := hid_of2 hfo
              have hopl := (good_mem2 HGO.out o hmem)
              obtain ⟨mu, HMU⟩ : ∃ mu, Hid (o.ps.length = mu) := ⟨_, (rfl : _ = _)⟩
              obtain ⟨au, cu, hu, h7, h8, h9⟩ := hru
              have hru : RdP w8 u o.ps := ⟨au, cu, hu, h7, h8, h9⟩
              rw [HMU.out] at hu
              subst hu
              clear hfo hmem h7 h8 h9
              have hbx8 : Below w8.heap.size w8 (w8.alloc (.cells #[.int .i64 o.id, .int .i64 o.x, .int .i64 o.y, .int .i64 o.pw, .int .i64 o.ph, .slice au mu cu, .int .i64 o.cx, .int .i64 o.cy, .int .i64 o.cw, .int .i64 o.ch, .bool o.sh] 41)) := (Below.refl _ _).alloc (Nat.le_refl _) _
              have E8 := hid_of2 (eleven_start w8 (.int .i64 o.id) (.int .i64 o.x) (.int .i64 o.y) (.int .i64 o.pw) (.int .i64 o.ph) (.slice au mu cu) (.int .i64 o.cx) (.int .i64 o.cy) (.int .i64 o.cw) (.int .i64 o.ch) (.bool o.sh) 41 w8.heap.size rfl)
              have HU8 := hid_of2 (hru.on hbx8)
              have hbb8 := hbb8a.trans (hbx8.mono hbb8a.size)
              have HM8 : Hid (RdO (w8.alloc (.cells #[.int .i64 o.id, .int .i64 o.x, .int .i64 o.y, .int .i64 o.pw, .int .i64 o.ph, .slice au mu cu, .int .i64 o.cx, .int .i64 o.cy, .int .i64 o.cw, .int .i64 o.ch, .bool o.sh] 41)) (.slice a5 k cc5) rs) := (HMr.out.on hb8).on hbx8
              clear hru hbx8 hb8 HMr HRr hbb8a
              unfold poV objV
              go_wp2_with fail
              refine (get_any _ rs id _ (by omega) ((all_mem (P := fun o => o.ps.length ≤ 100) rs).2 (fun o ho => by have := (HG1.out o ho).2; omega)) HG2.out HM8).mono ?_
              intro e w9 hget9
              obtain ⟨hb9, hget9⟩ := get_find hget9 HG2.out
              have E9 := hid_of2 (E8.out.on hb9)
              have HU9 := hid_of2 (HU8.out.on hb9)
              have hbb9 := hbb8.trans (hb9.mono hbb8.size)
              clear E8 HU8 hbb8 HM8 hb9
              rcases hget9 with ⟨o9, u9, hfo9, _, rfl, hru9⟩ | ⟨hfo9, _⟩
              case inr => rw [HFIND.out, HFO.out] at hfo9; cases hfo9
              rw [HFIND.out, HFO.out] at hfo9
              obtain rfl := Option.some.inj hfo9
              obtain ⟨au9, cu9, hu9, _, _, _⟩ := hru9
              have hru9 : RdP w9 u9 o.ps := ⟨au9, cu9, hu9, by assumption, by assumption, by assumption⟩
              rw [HMU.out] at hu9
              subst hu9
              have hbx9 : Below w9.heap.size w9 (w9.alloc (.cells #[.int .i64 o.id, .int .i64 o.x, .int .i64 o.y, .int .i64 o.pw, .int .i64 o.ph, .slice au9 mu cu9, .int .i64 o.cx, .int .i64 o.cy, .int .i64 o.cw, .int .i64 o.ch, .bool o.sh] 41)) := (Below.refl _ _).alloc (Nat.le_refl _) _
              have E10 := eleven_start w9 (.int .i64 o.id) (.int .i64 o.x) (.int .i64 o.y) (.int .i64 o.pw) (.int .i64 o.ph) (.slice au9 mu cu9) (.int .i64 o.cx) (.int .i64 o.cy) (.int .i64 o.cw) (.int .i64 o.ch) (.bool o.sh) 41 w9.heap.size rfl
              have E9b := E9.out.on hbx9
              have HU9b := hid_of2 (HU9.out.on hbx9)
              have HU10 := hid_of2 (hru9.on hbx9)
              have hbb10 := hbb9.trans (hbx9.mono hbb9.size)
              obtain ⟨s0, s1, s2, s3, s4, s5, s6, s7, s8, s9, s10, sf0, sf1, sf2, sf3, sf4, sf5, sf6, sf7, sf8, sf9, sf10, slt⟩ := E9b
              obtain ⟨t0, t1, t2, t3, t4, t5, t6, t7, t8, t9, t10, tf0, tf1, tf2, tf3, tf4, tf5, tf6, tf7, tf8, tf9, tf10, tlt⟩ := E10
              clear hru9 E9 HU9 hbb9 hbx9
              unfold poV objV
              go_wp2_with fail
              have hso := sameOb_any o (.slice au mu cu) (.slice au9 mu cu9) _ (by omega) HU9b HU10
              unfold poV objV at hso
              refine hso.mono ?_
              clear hso
              rintro e w11 ⟨rfl, hb11⟩
              have hbb11 := hbb10.trans (hb11.mono hbb10.size)
              clear hb11
              go_wp2_with fail
              go_ret
              exact ⟨rfl, hbb11⟩
            · have HFO := hid_of2 hfo
              have hru : RdP w8 (.slice none 0 0) po0.ps := rdP_nil _
              clear hfo
              have hbx8 : Below w8.heap.size w8 (w8.alloc (.cells #[.int .i64 po0.id, .int .i64 po0.x, .int .i64 po0.y, .int .i64 po0.pw, .int .i64 po0.ph, .slice none 0 0, .int .i64 po0.cx, .int .i64 po0.cy, .int .i64 po0.cw, .int .i64 po0.ch, .bool po0.sh] 41)) := (Below.refl _ _).alloc (Nat.le_refl _) _
              have E8 := hid_of2 (eleven_start w8 (.int .i64 po0.id) (.int .i64 po0.x) (.int .i64 po0.y) (.int .i64 po0.pw) (.int .i64 po0.ph) (.slice none 0 0) (.int .i64 po0.cx) (.int .i64 po0.cy) (.int .i64 po0.cw) (.int .i64 po0.ch) (.bool po0.sh) 41 w8.heap.size rfl)
              have HU8 := hid_of2 (hru.on hbx8)
              have hbb8 := hbb8a.trans (hbx8.mono hbb8a.size)
              have HM8 : Hid (RdO (w8.alloc (.cells #[.int .i64 po0.id, .int .i64 po0.x, .int .i64 po0.y, .int .i64 po0.pw, .int .i64 po0.ph, .slice none 0 0, .int .i64 po0.cx, .int .i64 po0.cy, .int .i64 po0.cw, .int .i64 po0.ch, .bool po0.sh] 41)) (.slice a5 k cc5) rs) := (HMr.out.on hb8).on hbx8
              clear hru hbx8 hb8 HMr HRr hbb8a
              unfold poV objV
              go_wp2_with fail
              refine (get_any _ rs id _ (by omega) ((all_mem (P := fun o => o.ps.length ≤ 100) rs).2 (fun o ho => by have := (HG1.out o ho).2; omega)) HG2.out HM8).mono ?_
              intro e w9 hget9
              obtain ⟨hb9, hget9⟩ := get_find hget9 HG2.out
              have E9 := hid_of2 (E8.out.on hb9)
              have HU9 := hid_of2 (HU8.out.on hb9)
              have hbb9 := hbb8.trans (hb9.mono hbb8.size)
              clear E8 HU8 hbb8 HM8 hb9
              rcases hget9 with ⟨o9, u9, hfo9, _, _, _⟩ | ⟨hfo9, rfl⟩
              case inl => rw [HFIND.out, HFO.out] at hfo9; cases hfo9
              have hru9 : RdP w9 (.slice none 0 0) po0.ps := rdP_nil _
              have hbx9 : Below w9.heap.size w9 (w9.alloc (.cells #[.int .i64 po0.id, .int .i64 po0.x, .int .i64 po0.y, .int .i64 po0.pw, .int .i64 po0.ph, .slice none 0 0, .int .i64 po0.cx, .int .i64 po0.cy, .int .i64 po0.cw, .int .i64 po0.ch, .bool po0.sh] 41)) := (Below.refl _ _).alloc (Nat.le_refl _) _
              have E10 := eleven_start w9 (.int .i64 po0.id) (.int .i64 po0.x) (.int .i64 po0.y) (.int .i64 po0.pw) (.int .i64 po0.ph) (.slice none 0 0) (.int .i64 po0.cx) (.int .i64 po0.cy) (.int .i64 po0.cw) (.int .i64 po0.ch) (.bool po0.sh) 41 w9.heap.size rfl
              have E9b := E9.out.on hbx9
              have HU9b := hid_of2 (HU9.out.on hbx9)
              have HU10 := hid_of2 (hru9.on hbx9)
              have hbb10 := hbb9.trans (hbx9.mono hbb9.size)
              obtain ⟨s0, s1, s2, s3, s4, s5, s6, s7, s8, s9, s10, sf0, sf1, sf2, sf3, sf4, sf5, sf6, sf7, sf8, sf9, sf10, slt⟩ := E9b
              obtain ⟨t0, t1, t2, t3, t4, t5, t6, t7, t8, t9, t10, tf0, tf1, tf2, tf3, tf4, tf5, tf6, tf7, tf8, tf9, tf10, tlt⟩ := E10
              clear hru9 E9 HU9 hbb9 hbx9
              unfold poV objV
              go_wp2_with fail
              have hso := sameOb_any po0 (.slice none 0 0) (.slice none 0 0) _ (by simp) HU9b HU10
              unfold poV objV at hso
              refine hso.mono ?_
              clear hso
              rintro e w11 ⟨rfl, hb11⟩
              have hbb11 := hbb10.trans (hb11.mono hbb10.size)
              clear hb11
              go_wp2_with fail
              go_ret
              exact ⟨rfl, hbb11⟩
          have b2 : (q.kind == 6) = false := by simpa using e3
          have e2 : Hid (¬ (q.kind = 6 ∧ id = q.a)) := fun h => e3 h.1
          clear e3
          have HFIND := hid_of2 (do_find os q rs HE5.out id (fun h => e1.out h.symm) (fun h => e2.out ⟨h.1, h.2.symm⟩))
          have HRr : Hid (RdO wr (.slice a n cap) os) := HR.out.on hbbr
          have hos6 := HGO.out.few
          have hrs6 : rs.length ≤ 100 := by rw [HLM.out]; exact hg3
          go_wp2_with fail
          refine (get_any _ os id _ (by omega) (fun j hj => by have := HGO.out.pix j hj; omega) HGO.out.sort HRr).mono ?_
          intro e w8 hget
          obtain ⟨hb8, hget⟩ := get_find hget HGO.out.sort
          have hbb8a := hbbr.trans (hb8.mono hbbr.size)
          clear m0 m1 m2 m3 m4 m5 m6 m7 m8 mf0 mf1 mf2 mf3 mf4 mf5 mf6 mf7 mf8 mlt
          rcases hget with ⟨o, u, hfo, hmem, rfl, hru⟩ | ⟨hfo, rfl⟩
          · have HFO := hid_of2 hfo
            have hopl := (good_mem2 HGO.out o hmem)
            obtain ⟨mu, HMU⟩ : ∃ mu, Hid (o.ps.length = mu) := ⟨_, (rfl : _ = _)⟩
            obtain ⟨au, cu, hu, h7, h8, h9⟩ := hru
            have hru : RdP w8 u o.ps := ⟨au, cu, hu, h7, h8, h9⟩
            rw [HMU.out] at hu
            subst hu
            clear hfo hmem h7 h8 h9
            have hbx8 : Below w8.heap.size w8 (w8.alloc (.cells #[.int .i64 o.id, .int .i64 o.x, .int .i64 o.y, .int .i64 o.pw, .int .i64 o.ph, .slice au mu cu, .int .i64 o.cx, .int .i64 o.cy, .int .i64 o.cw, .int .i64 o.ch, .bool o.sh] 41)) := (Below.refl _ _).alloc (Nat.le_refl _) _
            have E8 := hid_of2 (eleven_start w8 (.int .i64 o.id) (.int .i64 o.x) (.int .i64 o.y) (.int .i64 o.pw) (.int .i64 o.ph) (.slice au mu cu) (.int .i64 o.cx) (.int .i64 o.cy) (.int .i64 o.cw) (.int .i64 o.ch) (.bool o.sh) 41 w8.heap.size rfl)
            have HU8 := hid_of2 (hru.on hbx8)
            have hbb8 := hbb8a.trans (hbx8.mono hbb8a.size)
            have HM8 : Hid (RdO (w8.alloc (.cells #[.int .i64 o.id, .int .i64 o.x, .int .i64 o.y, .int .i64 o.pw, .int .i64 o.ph, .slice au mu cu, .int .i64 o.cx, .int .i64 o.cy, .int .i64 o.cw, .int .i64 o.ch, .bool o.sh] 41)) (.slice a5 k cc5) rs) := (HMr.out.on hb8).on hbx8
            clear hru hbx8 hb8 HMr HRr hbb8a
            unfold poV objV
            go_wp2_with fail
            refine (get_any _ rs id _ (by omega) ((all_mem (P := fun o => o.ps.length ≤ 100) rs).2 (fun o ho => by have := (HG1.out o ho).2; omega)) HG2.out HM8).mono ?_
            intro e w9 hget9
            obtain ⟨hb9, hget9⟩ := get_find hget9 HG2.out
            have E9 := hid_of2 (E8.out.on hb9)
            have HU9 := hid_of2 (HU8.out.on hb9)
            have hbb9 := hbb8.trans (hb9.mono hbb8.size)
            clear E8 HU8 hbb8 HM8 hb9
            rcases hget9 with ⟨o9, u9, hfo9, _, rfl, hru9⟩ | ⟨hfo9, _⟩
            case inr => rw [HFIND.out, HFO.out] at hfo9; cases hfo9
            rw [HFIND.out, HFO.out] at hfo9
            obtain rfl := Option.some.inj hfo9
            obtain ⟨au9, cu9, hu9, _, _, _⟩ := hru9
            have hru9 : RdP w9 u9 o.ps := ⟨au9, cu9, hu9, by assumption, by assumption, by assumption⟩
            rw [HMU.out] at hu9
            subst hu9
            have hbx9 : Below w9.heap.size w9 (w9.alloc (.cells #[.int .i64 o.id, .int .i64 o.x, .int .i64 o.y, .int .i64 o.pw, .int .i64 o.ph, .slice au9 mu cu9, .int .i64 o.cx, .int .i64 o.cy, .int .i64 o.cw, .int .i64 o.ch, .bool o.sh] 41)) := (Below.refl _ _).alloc (Nat.le_refl _) _
            have E10 := eleven_start w9 (.int .i64 o.id) (.int .i64 o.x) (.int .i64 o.y) (.int .i64 o.pw) (.int .i64 o.ph) (.slice au9 mu cu9) (.int .i64 o.cx) (.int .i64 o.cy) (.int .i64 o.cw) (.int .i64 o.ch) (.bool o.sh) 41 w9.heap.size rfl
            have E9b := E9.out.on hbx9
            have HU9b := hid_of2 (HU9.out.on hbx9)
            have HU10 := hid_of2 (hru9.on hbx9)
            have hbb10 := hbb9.trans (hbx9.mono hbb9.size)
            obtain ⟨s0, s1, s2, s3, s4, s5, s6, s7, s8, s9, s10, sf0, sf1, sf2, sf3, sf4, sf5, sf6, sf7, sf8, sf9, sf10, slt⟩ := E9b
            obtain ⟨t0, t1, t2, t3, t4, t5, t6, t7, t8, t9, t10, tf0, tf1, tf2, tf3, tf4, tf5, tf6, tf7, tf8, tf9, tf10, tlt⟩ := E10
            clear hru9 E9 HU9 hbb9 hbx9
            unfold poV objV
            go_wp2_with fail
            have hso := sameOb_any o (.slice au mu cu) (.slice au9 mu cu9) _ (by omega) HU9b HU10
            unfold poV objV at hso
            refine hso.mono ?_
            clear hso
            rintro e w11 ⟨rfl, hb11⟩
            have hbb11 := hbb10.trans (hb11.mono hbb10.size)
            clear hb11
            go_wp2_with fail
            go_ret
            exact ⟨rfl, hbb11⟩
          · have HFO := hid_of2 hfo
            have hru : RdP w8 (.slice none 0 0) po0.ps := rdP_nil _
            clear hfo
            have hbx8 : Below w8.heap.size w8 (w8.alloc (.cells #[.int .i64 po0.id, .int .i64 po0.x, .int .i64 po0.y, .int .i64 po0.pw, .int .i64 po0.ph, .slice none 0 0, .int .i64 po0.cx, .int .i64 po0.cy, .int .i64 po0.cw, .int .i64 po0.ch, .bool po0.sh] 41)) := (Below.refl _ _).alloc (Nat.le_refl _) _
            have E8 := hid_of2 (eleven_start w8 (.int .i64 po0.id) (.int .i64 po0.x) (.int .i64 po0.y) (.int .i64 po0.pw) (.int .i64 po0.ph) (.slice none 0 0) (.int .i64 po0.cx) (.int .i64 po0.cy) (.int .i64 po0.cw) (.int .i64 po0.ch) (.bool po0.sh) 41 w8.heap.size rfl)
            have HU8 := hid_of2 (hru.on hbx8)
            have hbb8 := hbb8a.trans (hbx8.mono hbb8a.size)
            have HM8 : Hid (RdO (w8.alloc (.cells #[.int .i64 po0.id, .int .i64 po0.x, .int .i64 po0.y, .int .i64 po0.pw, .int .i64 po0.ph, .slice none 0 0, .int .i64 po0.cx, .int .i64 po0.cy, .int .i64 po0.cw, .int .i64 po0.ch, .bool po0.sh] 41)) (.slice a5 k cc5) rs) := (HMr.out.on hb8).on hbx8
            clear hru hbx8 hb8 HMr HRr hbb8a
            unfold poV objV
            go_wp2_with fail
            refine (get_any _ rs id _ (by omega) ((all_mem (P := fun o => o.ps.length ≤ 100) rs).2 (fun o ho => by have := (HG1.out o ho).2; omega)) HG2.out HM8).mono ?_
            intro e w9 hget9
            obtain ⟨hb9, hget9⟩ := get_find hget9 HG2.out
            have E9 := hid_of2 (E8.out.on hb9)
            have HU9 := hid_of2 (HU8.out.on hb9)
            have hbb9 := hbb8.trans (hb9.mono hbb8.size)
            clear E8 HU8 hbb8 HM8 hb9
            rcases hget9 with ⟨o9, u9, hfo9, _, _, _⟩ | ⟨hfo9, rfl⟩
            case inl => rw [HFIND.out, HFO.out] at hfo9; cases hfo9
            have hru9 : RdP w9 (.slice none 0 0) po0.ps := rdP_nil _
            have hbx9 : Below w9.heap.size w9 (w9.alloc (.cells #[.int .i64 po0.id, .int .i64 po0.x, .int .i64 po0.y, .int .i64 po0.pw, .int .i64 po0.ph, .slice none 0 0, .int .i64 po0.cx, .int .i64 po0.cy, .int .i64 po0.cw, .int .i64 po0.ch, .bool po0.sh] 41)) := (Below.refl _ _).alloc (Nat.le_refl _) _
            have E10 := eleven_start w9 (.int .i64 po0.id) (.int .i64 po0.x) (.int .i64 po0.y) (.int .i64 po0.pw) (.int .i64 po0.ph) (.slice none 0 0) (.int .i64 po0.cx) (.int .i64 po0.cy) (.int .i64 po0.cw) (.int .i64 po0.ch) (.bool po0.sh) 41 w9.heap.size rfl
            have E9b := E9.out.on hbx9
            have HU9b := hid_of2 (HU9.out.on hbx9)
            have HU10 := hid_of2 (hru9.on hbx9)
            have hbb10 := hbb9.trans (hbx9.mono hbb9.size)
            obtain ⟨s0, s1, s2, s3, s4, s5, s6, s7, s8, s9, s10, sf0, sf1, sf2, sf3, sf4, sf5, sf6, sf7, sf8, sf9, sf10, slt⟩ := E9b
            obtain ⟨t0, t1, t2, t3, t4, t5, t6, t7, t8, t9, t10, tf0, tf1, tf2, tf3, tf4, tf5, tf6, tf7, tf8, tf9, tf10, tlt⟩ := E10
            clear hru9 E9 HU9 hbb9 hbx9
            unfold poV objV
            go_wp2_with fail
            have hso := sameOb_any po0 (.slice none 0 0) (.slice none 0 0) _ (by simp) HU9b HU10
            unfold poV objV at hso
            refine hso.mono ?_
            clear hso
            rintro e w11 ⟨rfl, hb11⟩
            have hbb11 := hbb10.trans (hb11.mono hbb10.size)
            clear hb11
            go_wp2_with fail
            go_ret
            exact ⟨rfl, hbb11⟩
end Go.Proofs.YtkmolifgfbaboaaDoor
