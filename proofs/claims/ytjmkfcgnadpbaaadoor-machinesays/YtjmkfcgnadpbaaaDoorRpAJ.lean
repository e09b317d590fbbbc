/- Walk of the reference's Played. -/
import Derived.Test.YtjmkfcgnadpbaaaDoorM9
import Derived.Test.YtjmkfcgnadpbaaaDoorRsAnyJ
import Derived.Test.YtjmkfcgnadpbaaaDoorRefKJ
namespace Go.Proofs.YtjmkfcgnadpbaaaDoor
open Go.RowKit Go.Maps

/-- what the reference plays -/
def RPlP (r : List Pf ⊕ Nat) (w : World) (e : Ending) (w' : World) : Prop :=
  Below w.heap.size w w' ∧ ((∃ v fs, r = .inl fs ∧ e = .returned (.tuple #[v, .int .i64 0]) ∧ RdF w' v fs) ∨ (∃ c : Nat, c ≠ 0 ∧ r = .inr c ∧ e = .returned (.tuple #[.slice none 0 0, .int .i64 (c : Int)])))
theorem rmac_start (w w1 : World) (v : Value) (qs : List Pq) (HR : RdQ w v qs) (hb : Below w.heap.size w w1) :
    RMac (w1.alloc (.cells #[v, .int .i64 0, .slice none 0 0, .slice none 0 0, .slice none 0 0, .int .i64 0, .int .i64 0, .slice none 0 0] 44)) w1.heap.size (fun x => x = w1.heap.size) qs ms0 := by
  have hbx : Below w1.heap.size w1 (w1.alloc (.cells #[v, .int .i64 0, .slice none 0 0, .slice none 0 0, .slice none 0 0, .int .i64 0, .int .i64 0, .slice none 0 0] 44)) := (Below.refl _ _).alloc (Nat.le_refl _) _
  exact ⟨v, .slice none 0 0, .slice none 0 0, .slice none 0 0, .slice none 0 0, own_box [v, .int .i64 0, .slice none 0 0, .slice none 0 0, .slice none 0 0, .int .i64 0, .int .i64 0, .slice none 0 0] 8 (Nat.le_refl _) rfl,
    ⟨⟨⟨w, HR, hb.trans (hbx.mono hb.size), fun x hx => by rw [hx]; exact hb.size⟩, rfl, fun x hx => by rw [hx]; simp⟩, ⟨World.ownsRow_nil _ _ _ _, fun g hg => by simp [Value.ownBlock] at hg⟩, @Go.Proofs.YtjmkfcgnadpbaaaDoor.NI.rdO_nil ⟨⟨_⟩⟩ _, @Go.Proofs.YtjmkfcgnadpbaaaDoor.NI.rdO_nil ⟨⟨_⟩⟩ _, [], ⟨World.ownsRow_nil _ _ _ _, by simp⟩, rfl, fun g hg => by simp [Value.ownBlock] at hg, by simp⟩⟩

set_option maxHeartbeats 8000000 in
set_option maxRecDepth 100000 in
theorem rplayed_any (v : Value) (qs : List Pq) (fuel : Int) (w : World) (HR : Hid (RdQ w v qs)) (hps : ∀ j, j < qs.length → (qs.getD j pq0).ps.length ≤ 100) (hn : qs.length ≤ 1000) (hf1 : -9223372036854775808 ≤ fuel) (hf2 : fuel ≤ 9223372036854775807) :
    Calls Tryd.prog 7 #[v, .int .i64 fuel] w fun e w' => RPlP (playR qs fuel) w e w' := by
  obtain ⟨a, cap, hv, _, _⟩ := HR.out.shape
  obtain ⟨n, HN⟩ : ∃ n, Hid (qs.length = n) := ⟨_, (rfl : _ = _)⟩
  rw [HN.out] at hv
  subst hv
  obtain ⟨c, HC⟩ : ∃ c, Hid (bkC qs = c) := ⟨_, (rfl : _ = _)⟩
  have hl4 : n ≤ 1000 := by rw [← HN.out]; exact hn
  go_enter Tryd.func7, Tryd.ntmps7
  go_wp2_with fail
  refine (bookFault_any _ qs w HR (fun j hj => by have := hps j hj; omega) hn c HC).mono ?_
  rintro e w1 ⟨rfl, hb1⟩
  by_cases hc : c = 0
  case neg =>
    have hcp : (0 : Int) < (c : Int) := by omega
    have HPR : Hid (playR qs fuel = .inr c) := by unfold Hid playR; rw [HC.out, if_pos hc]
    go_wp2_with fail
    refine bodyPost_ret (v := .tuple #[.slice none 0 0, .int .i64 (c : Int)]) (by simp [results, Tryd.results7, go_sem]) rfl ⟨hb1, .inr ⟨c, hc, HPR.out, rfl⟩⟩
  subst hc
  have hcp : ¬ (0 : Int) < ((0 : Nat) : Int) := by omega
  have HPR : Hid (playR qs fuel = playM qs (min fuel 400).toNat ms0) := by unfold Hid playR; rw [if_neg (by rw [HC.out]; simp)]
  have HBK : Hid (Book qs) := book_of HC.out
  have HW0 : Hid (Way qs ms0) := way0 HBK.out
  have hm0 := rmac_start w w1 (.slice a n cap) qs HR.out hb1
  have hbx : Below w.heap.size w (w1.alloc (.cells #[.slice a n cap, .int .i64 0, .slice none 0 0, .slice none 0 0, .slice none 0 0, .int .i64 0, .int .i64 0, .slice none 0 0] 44)) := hb1.alloc hb1.size _
  have hbs := hb1.size
  obtain ⟨N, HLN⟩ : ∃ N : Nat, Hid ((min fuel 400).toNat = N) := ⟨_, (rfl : _ = _)⟩
  rw [HLN.out] at HPR
  go_wp2_with fail
  obtain ⟨b, HBB⟩ : ∃ b, Hid (w1.heap.size = b) := ⟨_, (rfl : _ = _)⟩
  rw [HBB.out] at hm0 hbs
  rw [HBB.out]
  have HM0 := hid_of2 hm0
  clear hm0
  go_loopw [8, 9] (fun i _ wr => ∃ (k : Nat) (st : Ms), k ≤ N ∧ i = .int .i64 k ∧ Hid (RMac wr b (fun x => x = b) qs st) ∧ Hid (Way qs st) ∧ Hid (playM qs (N - k) st = playR qs fuel) ∧ Below w.heap.size w wr) (fun i _ _ => N - (intOf i).toNat)
  case atStart => exact ⟨0, ms0, by omega, rfl, HM0, HW0, by rw [HPR.out]; rfl, hbx⟩
  case round =>
    obtain ⟨k, st, hk, rfl, HMS, HWS, HP, hbr⟩ := hrel
    have hpc := HWS.out.on
    rw [HN.out] at hpc
    have hk4 : (k : Int) ≤ 400 := by have := HLN.out; omega
    obtain ⟨vl, vt, vo, vs, vf, hm1, hm2⟩ := HMS.out
    obtain ⟨m0, m1, m2, m3, m4, m5, m6, m7, mf0, mf1, mf2, mf3, mf4, mf5, mf6, mf7, mlt⟩ := box_eight hm1
    obtain ⟨⟨W0, hq0, hqb, hql⟩, -, -⟩ := hm2.ops
    obtain ⟨qa_, qc_, hvl, hol, hoc⟩ := hq0.shape
    rw [HN.out] at hvl hol
    subst hvl
    obtain ⟨q, HX⟩ : ∃ q, Hid (qs.getD st.pc pq0 = q) := ⟨_, (rfl : _ = _)⟩
    obtain ⟨g, o, pua, pum, puc, rfl, hg, OC, -, -⟩ := hq0.at hpc HX
    have hgw : g < wr.heap.size := Nat.lt_of_lt_of_le hg hqb.size
    obtain ⟨c0, -, -, -, -, -, -, -, -⟩ := OC.on hg hqb
    have hki : (st.pc : Int) < (n : Int) := by omega
    have hki0 : (0 : Int) ≤ (st.pc : Int) := by omega
    obtain ⟨fv, hf1, hf2, -, -⟩ := hm2.frs
    obtain ⟨fa, fc, hvf⟩ := own_any hf1.1
    subst hvf
    have HF1 := hid_of2 hf1
    have HF2 := hid_of2 hf2
    clear hm1 hm2 hq0 hqb OC hf1 hf2
    by_cases hlt : k < N
    · have hki1 : (k : Int) < fuel := by have := HLN.out; omega
      have hki2 : (k : Int) < 400 := by have := HLN.out; omega
      by_cases hd : q.kind = 16
      · have hd1 : (q.kind == 16) = true := by simp [hd]
        have HPD : Hid (playR qs fuel = .inl st.frs) := by unfold Hid; rw [← HP.out]; exact play_done qs _ st (show doneM qs st by unfold doneM; rw [HX.out]; exact hd)
        have KEEP : Hid (∀ w', Below wr.heap.size wr w' → w'.cell? ⟨b, 0, none⟩ = some (.slice (some ⟨g, o, none⟩) n qc_) ∧ w'.cell? ⟨b, 1, none⟩ = some (.int .i64 (st.pc : Int)) ∧ w'.cell? ⟨g, o + st.pc * 9, none⟩ = some (.int .i64 q.kind)) := by
          intro w' h
          refine ⟨?_, ?_, ?_⟩
          · rw [h.cell (p := ⟨b, 0, none⟩) mlt]; exact m0
          · rw [h.cell (p := ⟨b, 1, none⟩) mlt]; exact m1
          · rw [h.cell (p := ⟨g, o + st.pc * 9, none⟩) hgw]; exact c0
        go_wp2_with fail
        refine wp_region_held_drew (S := (fun w' => w'.cell? ⟨b, 0, none⟩ = some (.slice (some ⟨g, o, none⟩) n qc_) ∧ w'.cell? ⟨b, 1, none⟩ = some (.int .i64 (st.pc : Int)) ∧ w'.cell? ⟨g, o + st.pc * 9, none⟩ = some (.int .i64 q.kind))) (by kernel_rfl) ?_ (fun hHeld => ?_)
        · exact KEEP.out _ (Below.refl _ _).drew
        refine wpAnyH_take (i := 0) (oi := ({ dst := some 27, op := Op.move (Operand.tmp 7), type := 38, pos := "parts.go:802", after := #[], guard := none } : Oper)) (v := ?_) rfl (by kernel_rfl) (by kernel_rfl) (by kernel_rfl) (fun _ _ _ h => h) (Or.inl ⟨by rfl, ?_⟩) (by assumption) ?_
        rotate_left
        · (intro w hSw; (try dsimp only at hSw); go_simp; try with_reducible rfl)
        try simp only [Act.put, List.setIfInBounds_toArray, List.set_cons_zero, List.set_cons_succ]
        refine wpAnyH_take (i := 1) (oi := ({ dst := some 28, op := Op.nilCheck (Operand.tmp 27), type := 0, pos := "parts.go:802", after := #[{ on := 0, ground := Ground.data }], guard := none } : Oper)) (v := ?_) rfl (by kernel_rfl) (by kernel_rfl) (by kernel_rfl) (fun _ _ _ h => h) (Or.inl ⟨by rfl, ?_⟩) (by assumption) ?_
        rotate_left
        · (intro w hSw; (try dsimp only at hSw); go_simp; try with_reducible rfl)
        try simp only [Act.put, List.setIfInBounds_toArray, List.set_cons_zero, List.set_cons_succ]
        refine wpAnyH_take (i := 2) (oi := ({ dst := some 29, op := Op.fieldAddr 44 (Operand.tmp 28) 0, type := 0, pos := "parts.go:802", after := #[{ on := 1, ground := Ground.data }], guard := none } : Oper)) (v := ?_) rfl (by kernel_rfl) (by kernel_rfl) (by kernel_rfl) (fun _ _ _ h => h) (Or.inl ⟨by rfl, ?_⟩) (by assumption) ?_
        rotate_left
        · (intro w hSw; (try dsimp only at hSw); go_simp; try with_reducible rfl)
        try simp only [Act.put, List.setIfInBounds_toArray, List.set_cons_zero, List.set_cons_succ]
        refine wpAnyH_take (i := 3) (oi := ({ dst := some 30, op := Op.load 22 (Operand.tmp 29), type := 22, pos := "parts.go:802", after := #[{ on := 2, ground := Ground.data }], guard := none } : Oper)) (v := ?_) rfl (by kernel_rfl) (by kernel_rfl) (by kernel_rfl) (fun _ _ _ h => h) (Or.inl ⟨by rfl, ?_⟩) (by assumption) ?_
        rotate_left
        · (intro w hSw; (try dsimp only at hSw); go_simp; try with_reducible rfl)
        try simp only [Act.put, List.setIfInBounds_toArray, List.set_cons_zero, List.set_cons_succ]
        refine wpAnyH_take (i := 4) (oi := ({ dst := some 31, op := Op.move (Operand.tmp 7), type := 38, pos := "parts.go:802", after := #[], guard := none } : Oper)) (v := ?_) rfl (by kernel_rfl) (by kernel_rfl) (by kernel_rfl) (fun _ _ _ h => h) (Or.inl ⟨by rfl, ?_⟩) (by assumption) ?_
        rotate_left
        · (intro w hSw; (try dsimp only at hSw); go_simp; try with_reducible rfl)
        try simp only [Act.put, List.setIfInBounds_toArray, List.set_cons_zero, List.set_cons_succ]
        refine wpAnyH_take (i := 5) (oi := ({ dst := some 32, op := Op.nilCheck (Operand.tmp 31), type := 0, pos := "parts.go:802", after := #[{ on := 4, ground := Ground.data }], guard := none } : Oper)) (v := ?_) rfl (by kernel_rfl) (by kernel_rfl) (by kernel_rfl) (fun _ _ _ h => h) (Or.inl ⟨by rfl, ?_⟩) (by assumption) ?_
        rotate_left
        · (intro w hSw; (try dsimp only at hSw); go_simp; try with_reducible rfl)
        try simp only [Act.put, List.setIfInBounds_toArray, List.set_cons_zero, List.set_cons_succ]
        refine wpAnyH_take (i := 6) (oi := ({ dst := some 33, op := Op.fieldAddr 44 (Operand.tmp 32) 1, type := 0, pos := "parts.go:802", after := #[{ on := 5, ground := Ground.data }], guard := none } : Oper)) (v := ?_) rfl (by kernel_rfl) (by kernel_rfl) (by kernel_rfl) (fun _ _ _ h => h) (Or.inl ⟨by rfl, ?_⟩) (by assumption) ?_
        rotate_left
        · (intro w hSw; (try dsimp only at hSw); go_simp; try with_reducible rfl)
        try simp only [Act.put, List.setIfInBounds_toArray, List.set_cons_zero, List.set_cons_succ]
        refine wpAnyH_take (i := 7) (oi := ({ dst := some 34, op := Op.load 3 (Operand.tmp 33), type := 3, pos := "parts.go:802", after := #[{ on := 6, ground := Ground.data }], guard := none } : Oper)) (v := ?_) rfl (by kernel_rfl) (by kernel_rfl) (by kernel_rfl) (fun _ _ _ h => h) (Or.inl ⟨by rfl, ?_⟩) (by assumption) ?_
        rotate_left
        · (intro w hSw; (try dsimp only at hSw); go_simp; try with_reducible rfl)
        try simp only [Act.put, List.setIfInBounds_toArray, List.set_cons_zero, List.set_cons_succ]
        refine wpAnyH_take (i := 8) (oi := ({ dst := some 35, op := Op.indexAddr 22 (Operand.tmp 30) (Operand.tmp 34), type := 0, pos := "parts.go:802", after := #[{ on := 3, ground := Ground.data }, { on := 7, ground := Ground.data }], guard := none } : Oper)) (v := ?_) rfl (by kernel_rfl) (by kernel_rfl) (by kernel_rfl) (fun _ _ _ h => h) (Or.inl ⟨by rfl, ?_⟩) (by assumption) ?_
        rotate_left
        · (intro w hSw; (try dsimp only at hSw); go_simp; try with_reducible rfl)
        try simp only [Act.put, List.setIfInBounds_toArray, List.set_cons_zero, List.set_cons_succ]
        refine wpAnyH_take (i := 9) (oi := ({ dst := some 36, op := Op.fieldAddr 51 (Operand.tmp 35) 0, type := 0, pos := "parts.go:802", after := #[{ on := 8, ground := Ground.data }], guard := none } : Oper)) (v := ?_) rfl (by kernel_rfl) (by kernel_rfl) (by kernel_rfl) (fun _ _ _ h => h) (Or.inl ⟨by rfl, ?_⟩) (by assumption) ?_
        rotate_left
        · (intro w hSw; (try dsimp only at hSw); go_simp; try with_reducible rfl)
        try simp only [Act.put, List.setIfInBounds_toArray, List.set_cons_zero, List.set_cons_succ]
        refine wpAnyH_take (i := 10) (oi := ({ dst := some 37, op := Op.load 3 (Operand.tmp 36), type := 3, pos := "parts.go:802", after := #[{ on := 9, ground := Ground.data }], guard := none } : Oper)) (v := ?_) rfl (by kernel_rfl) (by kernel_rfl) (by kernel_rfl) (fun _ _ _ h => h) (Or.inl ⟨by rfl, ?_⟩) (by assumption) ?_
        rotate_left
        · (intro w hSw; (try dsimp only at hSw); go_simp; try with_reducible rfl)
        try simp only [Act.put, List.setIfInBounds_toArray, List.set_cons_zero, List.set_cons_succ]
        refine wpAnyH_take (i := 11) (oi := ({ dst := some 38, op := Op.binOp BinOp.eql 3 (Operand.tmp 37) (Operand.const (Value.int IntKind.i64 16)) 3, type := 4, pos := "parts.go:802", after := #[{ on := 10, ground := Ground.data }], guard := none } : Oper)) (v := ?_) rfl (by kernel_rfl) (by kernel_rfl) (by kernel_rfl) (fun _ _ _ h => h) (Or.inl ⟨by rfl, ?_⟩) (by assumption) ?_
        rotate_left
        · (intro w hSw; (try dsimp only at hSw); go_simp; try with_reducible rfl)
        try simp only [Act.put, List.setIfInBounds_toArray, List.set_cons_zero, List.set_cons_succ]
        refine wpAnyH_done (by kernel_rfl) ?_ _
        clear KEEP hHeld
        have m0d : wr.drew.cell? ⟨b, 0, none⟩ = some (.slice (some ⟨g, o, none⟩) n qc_) := m0
        have m1d : wr.drew.cell? ⟨b, 1, none⟩ = some (.int .i64 (st.pc : Int)) := m1
        have c0d : wr.drew.cell? ⟨g, o + st.pc * 9, none⟩ = some (.int .i64 q.kind) := c0
        have m7d : wr.drew.cell? ⟨b, 7, none⟩ = some (.slice fa fv.length fc) := m7
        have mld : b < wr.drew.heap.size := mlt
        have hgd : g < wr.drew.heap.size := hgw
        have HFD : Hid (RdF wr.drew (.slice fa fv.length fc) (fv.map Prod.fst)) := HF1.out.rd.on (Below.refl _ _).drew
        have hbd : Below w.heap.size w wr.drew := hbr.drew
        obtain ⟨V, HV⟩ : ∃ V, Hid (wr.drew = V) := ⟨_, (rfl : _ = _)⟩
        rw [HV.out] at m0d m1d c0d m7d mld hgd HFD hbd ⊢
        clear m0 m1 m2 m3 m4 m5 m6 m7 mf0 mf1 mf2 mf3 mf4 mf5 mf6 mf7 mlt c0 HV
        have KEEP : Hid (∀ w', Below V.heap.size V w' → w'.cell? ⟨b, 0, none⟩ = some (.slice (some ⟨g, o, none⟩) n qc_) ∧ w'.cell? ⟨b, 1, none⟩ = some (.int .i64 (st.pc : Int)) ∧ w'.cell? ⟨g, o + st.pc * 9, none⟩ = some (.int .i64 q.kind)) := by
          intro w' h
          refine ⟨?_, ?_, ?_⟩
          · rw [h.cell (p := ⟨b, 0, none⟩) mld]; exact m0d
          · rw [h.cell (p := ⟨b, 1, none⟩) mld]; exact m1d
          · rw [h.cell (p := ⟨g, o + st.pc * 9, none⟩) hgd]; exact c0d
        go_wp2_with fail
        refine wp_region_held_drew (S := (fun w' => w'.cell? ⟨b, 0, none⟩ = some (.slice (some ⟨g, o, none⟩) n qc_) ∧ w'.cell? ⟨b, 1, none⟩ = some (.int .i64 (st.pc : Int)) ∧ w'.cell? ⟨g, o + st.pc * 9, none⟩ = some (.int .i64 q.kind))) (by kernel_rfl) ?_ (fun hHeld => ?_)
        · exact KEEP.out _ (Below.refl _ _).drew
        refine wpAnyH_take (i := 0) (oi := ({ dst := some 44, op := Op.move (Operand.tmp 7), type := 38, pos := "parts.go:809", after := #[], guard := none } : Oper)) (v := ?_) rfl (by kernel_rfl) (by kernel_rfl) (by kernel_rfl) (fun _ _ _ h => h) (Or.inl ⟨by rfl, ?_⟩) (by assumption) ?_
        rotate_left
        · (intro w hSw; (try dsimp only at hSw); go_simp; try with_reducible rfl)
        try simp only [Act.put, List.setIfInBounds_toArray, List.set_cons_zero, List.set_cons_succ]
        refine wpAnyH_take (i := 1) (oi := ({ dst := some 45, op := Op.nilCheck (Operand.tmp 44), type := 0, pos := "parts.go:809", after := #[{ on := 0, ground := Ground.data }], guard := none } : Oper)) (v := ?_) rfl (by kernel_rfl) (by kernel_rfl) (by kernel_rfl) (fun _ _ _ h => h) (Or.inl ⟨by rfl, ?_⟩) (by assumption) ?_
        rotate_left
        · (intro w hSw; (try dsimp only at hSw); go_simp; try with_reducible rfl)
        try simp only [Act.put, List.setIfInBounds_toArray, List.set_cons_zero, List.set_cons_succ]
        refine wpAnyH_take (i := 2) (oi := ({ dst := some 46, op := Op.fieldAddr 44 (Operand.tmp 45) 0, type := 0, pos := "parts.go:809", after := #[{ on := 1, ground := Ground.data }], guard := none } : Oper)) (v := ?_) rfl (by kernel_rfl) (by kernel_rfl) (by kernel_rfl) (fun _ _ _ h => h) (Or.inl ⟨by rfl, ?_⟩) (by assumption) ?_
        rotate_left
        · (intro w hSw; (try dsimp only at hSw); go_simp; try with_reducible rfl)
        try simp only [Act.put, List.setIfInBounds_toArray, List.set_cons_zero, List.set_cons_succ]
        refine wpAnyH_take (i := 3) (oi := ({ dst := some 47, op := Op.load 22 (Operand.tmp 46), type := 22, pos := "parts.go:809", after := #[{ on := 2, ground := Ground.data }], guard := none } : Oper)) (v := ?_) rfl (by kernel_rfl) (by kernel_rfl) (by kernel_rfl) (fun _ _ _ h => h) (Or.inl ⟨by rfl, ?_⟩) (by assumption) ?_
        rotate_left
        · (intro w hSw; (try dsimp only at hSw); go_simp; try with_reducible rfl)
        try simp only [Act.put, List.setIfInBounds_toArray, List.set_cons_zero, List.set_cons_succ]
        refine wpAnyH_take (i := 4) (oi := ({ dst := some 48, op := Op.move (Operand.tmp 7), type := 38, pos := "parts.go:809", after := #[], guard := none } : Oper)) (v := ?_) rfl (by kernel_rfl) (by kernel_rfl) (by kernel_rfl) (fun _ _ _ h => h) (Or.inl ⟨by rfl, ?_⟩) (by assumption) ?_
        rotate_left
        · (intro w hSw; (try dsimp only at hSw); go_simp; try with_reducible rfl)
        try simp only [Act.put, List.setIfInBounds_toArray, List.set_cons_zero, List.set_cons_succ]
        refine wpAnyH_take (i := 5) (oi := ({ dst := some 49, op := Op.nilCheck (Operand.tmp 48), type := 0, pos := "parts.go:809", after := #[{ on := 4, ground := Ground.data }], guard := none } : Oper)) (v := ?_) rfl (by kernel_rfl) (by kernel_rfl) (by kernel_rfl) (fun _ _ _ h => h) (Or.inl ⟨by rfl, ?_⟩) (by assumption) ?_
        rotate_left
        · (intro w hSw; (try dsimp only at hSw); go_simp; try with_reducible rfl)
        try simp only [Act.put, List.setIfInBounds_toArray, List.set_cons_zero, List.set_cons_succ]
        refine wpAnyH_take (i := 6) (oi := ({ dst := some 50, op := Op.fieldAddr 44 (Operand.tmp 49) 1, type := 0, pos := "parts.go:809", after := #[{ on := 5, ground := Ground.data }], guard := none } : Oper)) (v := ?_) rfl (by kernel_rfl) (by kernel_rfl) (by kernel_rfl) (fun _ _ _ h => h) (Or.inl ⟨by rfl, ?_⟩) (by assumption) ?_
        rotate_left
        · (intro w hSw; (try dsimp only at hSw); go_simp; try with_reducible rfl)
        try simp only [Act.put, List.setIfInBounds_toArray, List.set_cons_zero, List.set_cons_succ]
        refine wpAnyH_take (i := 7) (oi := ({ dst := some 51, op := Op.load 3 (Operand.tmp 50), type := 3, pos := "parts.go:809", after := #[{ on := 6, ground := Ground.data }], guard := none } : Oper)) (v := ?_) rfl (by kernel_rfl) (by kernel_rfl) (by kernel_rfl) (fun _ _ _ h => h) (Or.inl ⟨by rfl, ?_⟩) (by assumption) ?_
        rotate_left
        · (intro w hSw; (try dsimp only at hSw); go_simp; try with_reducible rfl)
        try simp only [Act.put, List.setIfInBounds_toArray, List.set_cons_zero, List.set_cons_succ]
        refine wpAnyH_take (i := 8) (oi := ({ dst := some 52, op := Op.indexAddr 22 (Operand.tmp 47) (Operand.tmp 51), type := 0, pos := "parts.go:809", after := #[{ on := 3, ground := Ground.data }, { on := 7, ground := Ground.data }], guard := none } : Oper)) (v := ?_) rfl (by kernel_rfl) (by kernel_rfl) (by kernel_rfl) (fun _ _ _ h => h) (Or.inl ⟨by rfl, ?_⟩) (by assumption) ?_
        rotate_left
        · (intro w hSw; (try dsimp only at hSw); go_simp; try with_reducible rfl)
        try simp only [Act.put, List.setIfInBounds_toArray, List.set_cons_zero, List.set_cons_succ]
        refine wpAnyH_take (i := 9) (oi := ({ dst := some 53, op := Op.fieldAddr 51 (Operand.tmp 52) 0, type := 0, pos := "parts.go:809", after := #[{ on := 8, ground := Ground.data }], guard := none } : Oper)) (v := ?_) rfl (by kernel_rfl) (by kernel_rfl) (by kernel_rfl) (fun _ _ _ h => h) (Or.inl ⟨by rfl, ?_⟩) (by assumption) ?_
        rotate_left
        · (intro w hSw; (try dsimp only at hSw); go_simp; try with_reducible rfl)
        try simp only [Act.put, List.setIfInBounds_toArray, List.set_cons_zero, List.set_cons_succ]
        refine wpAnyH_take (i := 10) (oi := ({ dst := some 54, op := Op.load 3 (Operand.tmp 53), type := 3, pos := "parts.go:809", after := #[{ on := 9, ground := Ground.data }], guard := none } : Oper)) (v := ?_) rfl (by kernel_rfl) (by kernel_rfl) (by kernel_rfl) (fun _ _ _ h => h) (Or.inl ⟨by rfl, ?_⟩) (by assumption) ?_
        rotate_left
        · (intro w hSw; (try dsimp only at hSw); go_simp; try with_reducible rfl)
        try simp only [Act.put, List.setIfInBounds_toArray, List.set_cons_zero, List.set_cons_succ]
        refine wpAnyH_take (i := 11) (oi := ({ dst := some 55, op := Op.binOp BinOp.neq 3 (Operand.tmp 54) (Operand.const (Value.int IntKind.i64 16)) 3, type := 4, pos := "parts.go:809", after := #[{ on := 10, ground := Ground.data }], guard := none } : Oper)) (v := ?_) rfl (by kernel_rfl) (by kernel_rfl) (by kernel_rfl) (fun _ _ _ h => h) (Or.inl ⟨by rfl, ?_⟩) (by assumption) ?_
        rotate_left
        · (intro w hSw; (try dsimp only at hSw); go_simp; try with_reducible rfl)
        try simp only [Act.put, List.setIfInBounds_toArray, List.set_cons_zero, List.set_cons_succ]
        refine wpAnyH_done (by kernel_rfl) ?_ _
        have n7 : V.drew.cell? ⟨b, 7, none⟩ = some (.slice fa fv.length fc) := m7d
        clear KEEP hHeld
        go_wp2_with fail
        refine bodyPost_ret (v := .tuple #[.slice fa fv.length fc, .int .i64 0]) (by simp [results, Tryd.results7, go_sem]) rfl ?_
        refine ⟨hbd.drew, .inl ⟨_, st.frs, HPD.out, rfl, ?_⟩⟩
        have := HFD.out
        rw [HF2.out] at this
        exact this.on (Below.refl _ _).drew
      · have hd1 : (q.kind == 16) = false := by simpa using hd
        have HND : Hid (¬ doneM qs st) := by unfold Hid doneM; rw [HX.out]; exact hd
        have KEEP : Hid (∀ w', Below wr.heap.size wr w' → w'.cell? ⟨b, 0, none⟩ = some (.slice (some ⟨g, o, none⟩) n qc_) ∧ w'.cell? ⟨b, 1, none⟩ = some (.int .i64 (st.pc : Int)) ∧ w'.cell? ⟨g, o + st.pc * 9, none⟩ = some (.int .i64 q.kind)) := by
          intro w' h
          refine ⟨?_, ?_, ?_⟩
          · rw [h.cell (p := ⟨b, 0, none⟩) mlt]; exact m0
          · rw [h.cell (p := ⟨b, 1, none⟩) mlt]; exact m1
          · rw [h.cell (p := ⟨g, o + st.pc * 9, none⟩) hgw]; exact c0
        go_wp2_with fail
        refine wp_region_held_drew (S := (fun w' => w'.cell? ⟨b, 0, none⟩ = some (.slice (some ⟨g, o, none⟩) n qc_) ∧ w'.cell? ⟨b, 1, none⟩ = some (.int .i64 (st.pc : Int)) ∧ w'.cell? ⟨g, o + st.pc * 9, none⟩ = some (.int .i64 q.kind))) (by kernel_rfl) ?_ (fun hHeld => ?_)
        · exact KEEP.out _ (Below.refl _ _).drew
        refine wpAnyH_take (i := 0) (oi := ({ dst := some 27, op := Op.move (Operand.tmp 7), type := 38, pos := "parts.go:802", after := #[], guard := none } : Oper)) (v := ?_) rfl (by kernel_rfl) (by kernel_rfl) (by kernel_rfl) (fun _ _ _ h => h) (Or.inl ⟨by rfl, ?_⟩) (by assumption) ?_
        rotate_left
        · (intro w hSw; (try dsimp only at hSw); go_simp; try with_reducible rfl)
        try simp only [Act.put, List.setIfInBounds_toArray, List.set_cons_zero, List.set_cons_succ]
        refine wpAnyH_take (i := 1) (oi := ({ dst := some 28, op := Op.nilCheck (Operand.tmp 27), type := 0, pos := "parts.go:802", after := #[{ on := 0, ground := Ground.data }], guard := none } : Oper)) (v := ?_) rfl (by kernel_rfl) (by kernel_rfl) (by kernel_rfl) (fun _ _ _ h => h) (Or.inl ⟨by rfl, ?_⟩) (by assumption) ?_
        rotate_left
        · (intro w hSw; (try dsimp only at hSw); go_simp; try with_reducible rfl)
        try simp only [Act.put, List.setIfInBounds_toArray, List.set_cons_zero, List.set_cons_succ]
        refine wpAnyH_take (i := 2) (oi := ({ dst := some 29, op := Op.fieldAddr 44 (Operand.tmp 28) 0, type := 0, pos := "parts.go:802", after := #[{ on := 1, ground := Ground.data }], guard := none } : Oper)) (v := ?_) rfl (by kernel_rfl) (by kernel_rfl) (by kernel_rfl) (fun _ _ _ h => h) (Or.inl ⟨by rfl, ?_⟩) (by assumption) ?_
        rotate_left
        · (intro w hSw; (try dsimp only at hSw); go_simp; try with_reducible rfl)
        try simp only [Act.put, List.setIfInBounds_toArray, List.set_cons_zero, List.set_cons_succ]
        refine wpAnyH_take (i := 3) (oi := ({ dst := some 30, op := Op.load 22 (Operand.tmp 29), type := 22, pos := "parts.go:802", after := #[{ on := 2, ground := Ground.data }], guard := none } : Oper)) (v := ?_) rfl (by kernel_rfl) (by kernel_rfl) (by kernel_rfl) (fun _ _ _ h => h) (Or.inl ⟨by rfl, ?_⟩) (by assumption) ?_
        rotate_left
        · (intro w hSw; (try dsimp only at hSw); go_simp; try with_reducible rfl)
        try simp only [Act.put, List.setIfInBounds_toArray, List.set_cons_zero, List.set_cons_succ]
        refine wpAnyH_take (i := 4) (oi := ({ dst := some 31, op := Op.move (Operand.tmp 7), type := 38, pos := "parts.go:802", after := #[], guard := none } : Oper)) (v := ?_) rfl (by kernel_rfl) (by kernel_rfl) (by kernel_rfl) (fun _ _ _ h => h) (Or.inl ⟨by rfl, ?_⟩) (by assumption) ?_
        rotate_left
        · (intro w hSw; (try dsimp only at hSw); go_simp; try with_reducible rfl)
        try simp only [Act.put, List.setIfInBounds_toArray, List.set_cons_zero, List.set_cons_succ]
        refine wpAnyH_take (i := 5) (oi := ({ dst := some 32, op := Op.nilCheck (Operand.tmp 31), type := 0, pos := "parts.go:802", after := #[{ on := 4, ground := Ground.data }], guard := none } : Oper)) (v := ?_) rfl (by kernel_rfl) (by kernel_rfl) (by kernel_rfl) (fun _ _ _ h => h) (Or.inl ⟨by rfl, ?_⟩) (by assumption) ?_
        rotate_left
        · (intro w hSw; (try dsimp only at hSw); go_simp; try with_reducible rfl)
        try simp only [Act.put, List.setIfInBounds_toArray, List.set_cons_zero, List.set_cons_succ]
        refine wpAnyH_take (i := 6) (oi := ({ dst := some 33, op := Op.fieldAddr 44 (Operand.tmp 32) 1, type := 0, pos := "parts.go:802", after := #[{ on := 5, ground := Ground.data }], guard := none } : Oper)) (v := ?_) rfl (by kernel_rfl) (by kernel_rfl) (by kernel_rfl) (fun _ _ _ h => h) (Or.inl ⟨by rfl, ?_⟩) (by assumption) ?_
        rotate_left
        · (intro w hSw; (try dsimp only at hSw); go_simp; try with_reducible rfl)
        try simp only [Act.put, List.setIfInBounds_toArray, List.set_cons_zero, List.set_cons_succ]
        refine wpAnyH_take (i := 7) (oi := ({ dst := some 34, op := Op.load 3 (Operand.tmp 33), type := 3, pos := "parts.go:802", after := #[{ on := 6, ground := Ground.data }], guard := none } : Oper)) (v := ?_) rfl (by kernel_rfl) (by kernel_rfl) (by kernel_rfl) (fun _ _ _ h => h) (Or.inl ⟨by rfl, ?_⟩) (by assumption) ?_
        rotate_left
        · (intro w hSw; (try dsimp only at hSw); go_simp; try with_reducible rfl)
        try simp only [Act.put, List.setIfInBounds_toArray, List.set_cons_zero, List.set_cons_succ]
        refine wpAnyH_take (i := 8) (oi := ({ dst := some 35, op := Op.indexAddr 22 (Operand.tmp 30) (Operand.tmp 34), type := 0, pos := "parts.go:802", after := #[{ on := 3, ground := Ground.data }, { on := 7, ground := Ground.data }], guard := none } : Oper)) (v := ?_) rfl (by kernel_rfl) (by kernel_rfl) (by kernel_rfl) (fun _ _ _ h => h) (Or.inl ⟨by rfl, ?_⟩) (by assumption) ?_
        rotate_left
        · (intro w hSw; (try dsimp only at hSw); go_simp; try with_reducible rfl)
        try simp only [Act.put, List.setIfInBounds_toArray, List.set_cons_zero, List.set_cons_succ]
        refine wpAnyH_take (i := 9) (oi := ({ dst := some 36, op := Op.fieldAddr 51 (Operand.tmp 35) 0, type := 0, pos := "parts.go:802", after := #[{ on := 8, ground := Ground.data }], guard := none } : Oper)) (v := ?_) rfl (by kernel_rfl) (by kernel_rfl) (by kernel_rfl) (fun _ _ _ h => h) (Or.inl ⟨by rfl, ?_⟩) (by assumption) ?_
        rotate_left
        · (intro w hSw; (try dsimp only at hSw); go_simp; try with_reducible rfl)
        try simp only [Act.put, List.setIfInBounds_toArray, List.set_cons_zero, List.set_cons_succ]
        refine wpAnyH_take (i := 10) (oi := ({ dst := some 37, op := Op.load 3 (Operand.tmp 36), type := 3, pos := "parts.go:802", after := #[{ on := 9, ground := Ground.data }], guard := none } : Oper)) (v := ?_) rfl (by kernel_rfl) (by kernel_rfl) (by kernel_rfl) (fun _ _ _ h => h) (Or.inl ⟨by rfl, ?_⟩) (by assumption) ?_
        rotate_left
        · (intro w hSw; (try dsimp only at hSw); go_simp; try with_reducible rfl)
        try simp only [Act.put, List.setIfInBounds_toArray, List.set_cons_zero, List.set_cons_succ]
        refine wpAnyH_take (i := 11) (oi := ({ dst := some 38, op := Op.binOp BinOp.eql 3 (Operand.tmp 37) (Operand.const (Value.int IntKind.i64 16)) 3, type := 4, pos := "parts.go:802", after := #[{ on := 10, ground := Ground.data }], guard := none } : Oper)) (v := ?_) rfl (by kernel_rfl) (by kernel_rfl) (by kernel_rfl) (fun _ _ _ h => h) (Or.inl ⟨by rfl, ?_⟩) (by assumption) ?_
        rotate_left
        · (intro w hSw; (try dsimp only at hSw); go_simp; try with_reducible rfl)
        try simp only [Act.put, List.setIfInBounds_toArray, List.set_cons_zero, List.set_cons_succ]
        refine wpAnyH_done (by kernel_rfl) ?_ _
        clear KEEP hHeld m0 m1 m2 m3 m4 m5 m6 m7 mf0 mf1 mf2 mf3 mf4 mf5 mf6 mf7 mlt c0
        have HMD : Hid (RMac wr.drew b (fun x => x = b) qs st) := HMS.out.on (Below.refl _ _).drew
        go_wp2_with fail
        refine (rstep_any b _ qs st wr.drew HMD HBK HWS).mono ?_
        rintro e w3 ⟨rfl, hm3, hf3⟩
        have hbb3 : Below w.heap.size w w3 := hbr.drew.trans (hf3.belowB (by intro x hx; simp at hx; subst hx; exact hbs) (by have := hbr.size; exact this))
        obtain ⟨r, HRR⟩ : ∃ r, Hid (stepM qs st = r) := ⟨_, (rfl : _ = _)⟩
        rw [HRR.out] at hm3 ⊢
        clear hf3
        cases r with
        | inr c =>
          have HC0 := hid_of2 (stepM_err HRR.out)
          have HPD : Hid (playR qs fuel = .inr c) := by
            unfold Hid
            rw [← HP.out, show N - k = (N - k - 1) + 1 by omega, playM, if_neg HND.out, HRR.out]
          unfold numM
          have hcc : (0 : Int) < (c : Int) := by have := HC0.out; omega
          clear hm3
          go_wp2_with fail
          refine bodyPost_ret (v := .tuple #[.slice none 0 0, .int .i64 (c : Int)]) (by simp [results, Tryd.results7, go_sem]) rfl ⟨hbb3, .inr ⟨c, HC0.out, HPD.out, rfl⟩⟩
        | inl s' =>
          have HP2 : Hid (playM qs (N - (k + 1)) s' = playR qs fuel) := by
            unfold Hid
            rw [← HP.out, show N - k = (N - (k + 1)) + 1 by omega, play_step qs _ st s' HND.out HRR.out]
          have HW2 : Hid (Way qs s') := stepM_way HBK.out HWS.out HRR.out
          have HM3 : Hid (RMac w3 b (fun x => x = b) qs s') := hm3
          clear hm3
          unfold numM
          have hcc : ¬ (0 : Int) < ((0 : Nat) : Int) := by omega
          go_wp2_with fail
          go_roundw
          case rel => exact ⟨k + 1, s', by omega, by go_num, HM3, HW2, HP2, hbb3⟩
          case measure => simp [intOf]; omega
    · have hkN : N - k = 0 := by omega
      rw [hkN] at HP
      clear hkN
      by_cases hfu : (k : Int) < fuel
      · have hki2 : ¬ (k : Int) < 400 := by have := HLN.out; omega
        by_cases hd : q.kind = 16
        · have hd1 : (q.kind == 16) = true := by simp [hd]
          have HPD : Hid (playR qs fuel = .inl st.frs) := by unfold Hid; rw [← HP.out]; exact play_done qs _ st (show doneM qs st by unfold doneM; rw [HX.out]; exact hd)
          have KEEP : Hid (∀ w', Below wr.heap.size wr w' → w'.cell? ⟨b, 0, none⟩ = some (.slice (some ⟨g, o, none⟩) n qc_) ∧ w'.cell? ⟨b, 1, none⟩ = some (.int .i64 (st.pc : Int)) ∧ w'.cell? ⟨g, o + st.pc * 9, none⟩ = some (.int .i64 q.kind)) := by
            intro w' h
            refine ⟨?_, ?_, ?_⟩
            · rw [h.cell (p := ⟨b, 0, none⟩) mlt]; exact m0
            · rw [h.cell (p := ⟨b, 1, none⟩) mlt]; exact m1
            · rw [h.cell (p := ⟨g, o + st.pc * 9, none⟩) hgw]; exact c0
          go_wp2_with fail
          refine wp_region_held_drew (S := (fun w' => w'.cell? ⟨b, 0, none⟩ = some (.slice (some ⟨g, o, none⟩) n qc_) ∧ w'.cell? ⟨b, 1, none⟩ = some (.int .i64 (st.pc : Int)) ∧ w'.cell? ⟨g, o + st.pc * 9, none⟩ = some (.int .i64 q.kind))) (by kernel_rfl) ?_ (fun hHeld => ?_)
          · exact KEEP.out _ (Below.refl _ _).drew
          refine wpAnyH_take (i := 0) (oi := ({ dst := some 44, op := Op.move (Operand.tmp 7), type := 38, pos := "parts.go:809", after := #[], guard := none } : Oper)) (v := ?_) rfl (by kernel_rfl) (by kernel_rfl) (by kernel_rfl) (fun _ _ _ h => h) (Or.inl ⟨by rfl, ?_⟩) (by assumption) ?_
          rotate_left
          · (intro w hSw; (try dsimp only at hSw); go_simp; try with_reducible rfl)
          try simp only [Act.put, List.setIfInBounds_toArray, List.set_cons_zero, List.set_cons_succ]
          refine wpAnyH_take (i := 1) (oi := ({ dst := some 45, op := Op.nilCheck (Operand.tmp 44), type := 0, pos := "parts.go:809", after := #[{ on := 0, ground := Ground.data }], guard := none } : Oper)) (v := ?_) rfl (by kernel_rfl) (by kernel_rfl) (by kernel_rfl) (fun _ _ _ h => h) (Or.inl ⟨by rfl, ?_⟩) (by assumption) ?_
          rotate_left
          · (intro w hSw; (try dsimp only at hSw); go_simp; try with_reducible rfl)
          try simp only [Act.put, List.setIfInBounds_toArray, List.set_cons_zero, List.set_cons_succ]
          refine wpAnyH_take (i := 2) (oi := ({ dst := some 46, op := Op.fieldAddr 44 (Operand.tmp 45) 0, type := 0, pos := "parts.go:809", after := #[{ on := 1, ground := Ground.data }], guard := none } : Oper)) (v := ?_) rfl (by kernel_rfl) (by kernel_rfl) (by kernel_rfl) (fun _ _ _ h => h) (Or.inl ⟨by rfl, ?_⟩) (by assumption) ?_
          rotate_left
          · (intro w hSw; (try dsimp only at hSw); go_simp; try with_reducible rfl)
          try simp only [Act.put, List.setIfInBounds_toArray, List.set_cons_zero, List.set_cons_succ]
          refine wpAnyH_take (i := 3) (oi := ({ dst := some 47, op := Op.load 22 (Operand.tmp 46), type := 22, pos := "parts.go:809", after := #[{ on := 2, ground := Ground.data }], guard := none } : Oper)) (v := ?_) rfl (by kernel_rfl) (by kernel_rfl) (by kernel_rfl) (fun _ _ _ h => h) (Or.inl ⟨by rfl, ?_⟩) (by assumption) ?_
          rotate_left
          · (intro w hSw; (try dsimp only at hSw); go_simp; try with_reducible rfl)
          try simp only [Act.put, List.setIfInBounds_toArray, List.set_cons_zero, List.set_cons_succ]
          refine wpAnyH_take (i := 4) (oi := ({ dst := some 48, op := Op.move (Operand.tmp 7), type := 38, pos := "parts.go:809", after := #[], guard := none } : Oper)) (v := ?_) rfl (by kernel_rfl) (by kernel_rfl) (by kernel_rfl) (fun _ _ _ h => h) (Or.inl ⟨by rfl, ?_⟩) (by assumption) ?_
          rotate_left
          · (intro w hSw; (try dsimp only at hSw); go_simp; try with_reducible rfl)
          try simp only [Act.put, List.setIfInBounds_toArray, List.set_cons_zero, List.set_cons_succ]
          refine wpAnyH_take (i := 5) (oi := ({ dst := some 49, op := Op.nilCheck (Operand.tmp 48), type := 0, pos := "parts.go:809", after := #[{ on := 4, ground := Ground.data }], guard := none } : Oper)) (v := ?_) rfl (by kernel_rfl) (by kernel_rfl) (by kernel_rfl) (fun _ _ _ h => h) (Or.inl ⟨by rfl, ?_⟩) (by assumption) ?_
          rotate_left
          · (intro w hSw; (try dsimp only at hSw); go_simp; try with_reducible rfl)
          try simp only [Act.put, List.setIfInBounds_toArray, List.set_cons_zero, List.set_cons_succ]
          refine wpAnyH_take (i := 6) (oi := ({ dst := some 50, op := Op.fieldAddr 44 (Operand.tmp 49) 1, type := 0, pos := "parts.go:809", after := #[{ on := 5, ground := Ground.data }], guard := none } : Oper)) (v := ?_) rfl (by kernel_rfl) (by kernel_rfl) (by kernel_rfl) (fun _ _ _ h => h) (Or.inl ⟨by rfl, ?_⟩) (by assumption) ?_
          rotate_left
          · (intro w hSw; (try dsimp only at hSw); go_simp; try with_reducible rfl)
          try simp only [Act.put, List.setIfInBounds_toArray, List.set_cons_zero, List.set_cons_succ]
          refine wpAnyH_take (i := 7) (oi := ({ dst := some 51, op := Op.load 3 (Operand.tmp 50), type := 3, pos := "parts.go:809", after := #[{ on := 6, ground := Ground.data }], guard := none } : Oper)) (v := ?_) rfl (by kernel_rfl) (by kernel_rfl) (by kernel_rfl) (fun _ _ _ h => h) (Or.inl ⟨by rfl, ?_⟩) (by assumption) ?_
          rotate_left
          · (intro w hSw; (try dsimp only at hSw); go_simp; try with_reducible rfl)
          try simp only [Act.put, List.setIfInBounds_toArray, List.set_cons_zero, List.set_cons_succ]
          refine wpAnyH_take (i := 8) (oi := ({ dst := some 52, op := Op.indexAddr 22 (Operand.tmp 47) (Operand.tmp 51), type := 0, pos := "parts.go:809", after := #[{ on := 3, ground := Ground.data }, { on := 7, ground := Ground.data }], guard := none } : Oper)) (v := ?_) rfl (by kernel_rfl) (by kernel_rfl) (by kernel_rfl) (fun _ _ _ h => h) (Or.inl ⟨by rfl, ?_⟩) (by assumption) ?_
          rotate_left
          · (intro w hSw; (try dsimp only at hSw); go_simp; try with_reducible rfl)
          try simp only [Act.put, List.setIfInBounds_toArray, List.set_cons_zero, List.set_cons_succ]
          refine wpAnyH_take (i := 9) (oi := ({ dst := some 53, op := Op.fieldAddr 51 (Operand.tmp 52) 0, type := 0, pos := "parts.go:809", after := #[{ on := 8, ground := Ground.data }], guard := none } : Oper)) (v := ?_) rfl (by kernel_rfl) (by kernel_rfl) (by kernel_rfl) (fun _ _ _ h => h) (Or.inl ⟨by rfl, ?_⟩) (by assumption) ?_
          rotate_left
          · (intro w hSw; (try dsimp only at hSw); go_simp; try with_reducible rfl)
          try simp only [Act.put, List.setIfInBounds_toArray, List.set_cons_zero, List.set_cons_succ]
          refine wpAnyH_take (i := 10) (oi := ({ dst := some 54, op := Op.load 3 (Operand.tmp 53), type := 3, pos := "parts.go:809", after := #[{ on := 9, ground := Ground.data }], guard := none } : Oper)) (v := ?_) rfl (by kernel_rfl) (by kernel_rfl) (by kernel_rfl) (fun _ _ _ h => h) (Or.inl ⟨by rfl, ?_⟩) (by assumption) ?_
          rotate_left
          · (intro w hSw; (try dsimp only at hSw); go_simp; try with_reducible rfl)
          try simp only [Act.put, List.setIfInBounds_toArray, List.set_cons_zero, List.set_cons_succ]
          refine wpAnyH_take (i := 11) (oi := ({ dst := some 55, op := Op.binOp BinOp.neq 3 (Operand.tmp 54) (Operand.const (Value.int IntKind.i64 16)) 3, type := 4, pos := "parts.go:809", after := #[{ on := 10, ground := Ground.data }], guard := none } : Oper)) (v := ?_) rfl (by kernel_rfl) (by kernel_rfl) (by kernel_rfl) (fun _ _ _ h => h) (Or.inl ⟨by rfl, ?_⟩) (by assumption) ?_
          rotate_left
          · (intro w hSw; (try dsimp only at hSw); go_simp; try with_reducible rfl)
          try simp only [Act.put, List.setIfInBounds_toArray, List.set_cons_zero, List.set_cons_succ]
          refine wpAnyH_done (by kernel_rfl) ?_ _
          have n7 : wr.drew.cell? ⟨b, 7, none⟩ = some (.slice fa fv.length fc) := m7
          clear KEEP hHeld
          go_wp2_with fail
          refine bodyPost_ret (v := .tuple #[.slice fa fv.length fc, .int .i64 0]) (by simp [results, Tryd.results7, go_sem]) rfl ?_
          refine ⟨hbr.drew, .inl ⟨_, st.frs, HPD.out, rfl, ?_⟩⟩
          have := HF1.out.rd
          rw [HF2.out] at this
          exact this.on (Below.refl _ _).drew
        · have hd1 : (q.kind == 16) = false := by simpa using hd
          have HPD : Hid (playR qs fuel = .inr 8) := by unfold Hid; rw [← HP.out, playM, if_neg (by unfold doneM; rw [HX.out]; exact hd)]
          have KEEP : Hid (∀ w', Below wr.heap.size wr w' → w'.cell? ⟨b, 0, none⟩ = some (.slice (some ⟨g, o, none⟩) n qc_) ∧ w'.cell? ⟨b, 1, none⟩ = some (.int .i64 (st.pc : Int)) ∧ w'.cell? ⟨g, o + st.pc * 9, none⟩ = some (.int .i64 q.kind)) := by
            intro w' h
            refine ⟨?_, ?_, ?_⟩
            · rw [h.cell (p := ⟨b, 0, none⟩) mlt]; exact m0
            · rw [h.cell (p := ⟨b, 1, none⟩) mlt]; exact m1
            · rw [h.cell (p := ⟨g, o + st.pc * 9, none⟩) hgw]; exact c0
          go_wp2_with fail
          refine wp_region_held_drew (S := (fun w' => w'.cell? ⟨b, 0, none⟩ = some (.slice (some ⟨g, o, none⟩) n qc_) ∧ w'.cell? ⟨b, 1, none⟩ = some (.int .i64 (st.pc : Int)) ∧ w'.cell? ⟨g, o + st.pc * 9, none⟩ = some (.int .i64 q.kind))) (by kernel_rfl) ?_ (fun hHeld => ?_)
          · exact KEEP.out _ (Below.refl _ _).drew
          refine wpAnyH_take (i := 0) (oi := ({ dst := some 44, op := Op.move (Operand.tmp 7), type := 38, pos := "parts.go:809", after := #[], guard := none } : Oper)) (v := ?_) rfl (by kernel_rfl) (by kernel_rfl) (by kernel_rfl) (fun _ _ _ h => h) (Or.inl ⟨by rfl, ?_⟩) (by assumption) ?_
          rotate_left
          · (intro w hSw; (try dsimp only at hSw); go_simp; try with_reducible rfl)
          try simp only [Act.put, List.setIfInBounds_toArray, List.set_cons_zero, List.set_cons_succ]
          refine wpAnyH_take (i := 1) (oi := ({ dst := some 45, op := Op.nilCheck (Operand.tmp 44), type := 0, pos := "parts.go:809", after := #[{ on := 0, ground := Ground.data }], guard := none } : Oper)) (v := ?_) rfl (by kernel_rfl) (by kernel_rfl) (by kernel_rfl) (fun _ _ _ h => h) (Or.inl ⟨by rfl, ?_⟩) (by assumption) ?_
          rotate_left
          · (intro w hSw; (try dsimp only at hSw); go_simp; try with_reducible rfl)
          try simp only [Act.put, List.setIfInBounds_toArray, List.set_cons_zero, List.set_cons_succ]
          refine wpAnyH_take (i := 2) (oi := ({ dst := some 46, op := Op.fieldAddr 44 (Operand.tmp 45) 0, type := 0, pos := "parts.go:809", after := #[{ on := 1, ground := Ground.data }], guard := none } : Oper)) (v := ?_) rfl (by kernel_rfl) (by kernel_rfl) (by kernel_rfl) (fun _ _ _ h => h) (Or.inl ⟨by rfl, ?_⟩) (by assumption) ?_
          rotate_left
          · (intro w hSw; (try dsimp only at hSw); go_simp; try with_reducible rfl)
          try simp only [Act.put, List.setIfInBounds_toArray, List.set_cons_zero, List.set_cons_succ]
          refine wpAnyH_take (i := 3) (oi := ({ dst := some 47, op := Op.load 22 (Operand.tmp 46), type := 22, pos := "parts.go:809", after := #[{ on := 2, ground := Ground.data }], guard := none } : Oper)) (v := ?_) rfl (by kernel_rfl) (by kernel_rfl) (by kernel_rfl) (fun _ _ _ h => h) (Or.inl ⟨by rfl, ?_⟩) (by assumption) ?_
          rotate_left
          · (intro w hSw; (try dsimp only at hSw); go_simp; try with_reducible rfl)
          try simp only [Act.put, List.setIfInBounds_toArray, List.set_cons_zero, List.set_cons_succ]
          refine wpAnyH_take (i := 4) (oi := ({ dst := some 48, op := Op.move (Operand.tmp 7), type := 38, pos := "parts.go:809", after := #[], guard := none } : Oper)) (v := ?_) rfl (by kernel_rfl) (by kernel_rfl) (by kernel_rfl) (fun _ _ _ h => h) (Or.inl ⟨by rfl, ?_⟩) (by assumption) ?_
          rotate_left
          · (intro w hSw; (try dsimp only at hSw); go_simp; try with_reducible rfl)
          try simp only [Act.put, List.setIfInBounds_toArray, List.set_cons_zero, List.set_cons_succ]
          refine wpAnyH_take (i := 5) (oi := ({ dst := some 49, op := Op.nilCheck (Operand.tmp 48), type := 0, pos := "parts.go:809", after := #[{ on := 4, ground := Ground.data }], guard := none } : Oper)) (v := ?_) rfl (by kernel_rfl) (by kernel_rfl) (by kernel_rfl) (fun _ _ _ h => h) (Or.inl ⟨by rfl, ?_⟩) (by assumption) ?_
          rotate_left
          · (intro w hSw; (try dsimp only at hSw); go_simp; try with_reducible rfl)
          try simp only [Act.put, List.setIfInBounds_toArray, List.set_cons_zero, List.set_cons_succ]
          refine wpAnyH_take (i := 6) (oi := ({ dst := some 50, op := Op.fieldAddr 44 (Operand.tmp 49) 1, type := 0, pos := "parts.go:809", after := #[{ on := 5, ground := Ground.data }], guard := none } : Oper)) (v := ?_) rfl (by kernel_rfl) (by kernel_rfl) (by kernel_rfl) (fun _ _ _ h => h) (Or.inl ⟨by rfl, ?_⟩) (by assumption) ?_
          rotate_left
          · (intro w hSw; (try dsimp only at hSw); go_simp; try with_reducible rfl)
          try simp only [Act.put, List.setIfInBounds_toArray, List.set_cons_zero, List.set_cons_succ]
          refine wpAnyH_take (i := 7) (oi := ({ dst := some 51, op := Op.load 3 (Operand.tmp 50), type := 3, pos := "parts.go:809", after := #[{ on := 6, ground := Ground.data }], guard := none } : Oper)) (v := ?_) rfl (by kernel_rfl) (by kernel_rfl) (by kernel_rfl) (fun _ _ _ h => h) (Or.inl ⟨by rfl, ?_⟩) (by assumption) ?_
          rotate_left
          · (intro w hSw; (try dsimp only at hSw); go_simp; try with_reducible rfl)
          try simp only [Act.put, List.setIfInBounds_toArray, List.set_cons_zero, List.set_cons_succ]
          refine wpAnyH_take (i := 8) (oi := ({ dst := some 52, op := Op.indexAddr 22 (Operand.tmp 47) (Operand.tmp 51), type := 0, pos := "parts.go:809", after := #[{ on := 3, ground := Ground.data }, { on := 7, ground := Ground.data }], guard := none } : Oper)) (v := ?_) rfl (by kernel_rfl) (by kernel_rfl) (by kernel_rfl) (fun _ _ _ h => h) (Or.inl ⟨by rfl, ?_⟩) (by assumption) ?_
          rotate_left
          · (intro w hSw; (try dsimp only at hSw); go_simp; try with_reducible rfl)
          try simp only [Act.put, List.setIfInBounds_toArray, List.set_cons_zero, List.set_cons_succ]
          refine wpAnyH_take (i := 9) (oi := ({ dst := some 53, op := Op.fieldAddr 51 (Operand.tmp 52) 0, type := 0, pos := "parts.go:809", after := #[{ on := 8, ground := Ground.data }], guard := none } : Oper)) (v := ?_) rfl (by kernel_rfl) (by kernel_rfl) (by kernel_rfl) (fun _ _ _ h => h) (Or.inl ⟨by rfl, ?_⟩) (by assumption) ?_
          rotate_left
          · (intro w hSw; (try dsimp only at hSw); go_simp; try with_reducible rfl)
          try simp only [Act.put, List.setIfInBounds_toArray, List.set_cons_zero, List.set_cons_succ]
          refine wpAnyH_take (i := 10) (oi := ({ dst := some 54, op := Op.load 3 (Operand.tmp 53), type := 3, pos := "parts.go:809", after := #[{ on := 9, ground := Ground.data }], guard := none } : Oper)) (v := ?_) rfl (by kernel_rfl) (by kernel_rfl) (by kernel_rfl) (fun _ _ _ h => h) (Or.inl ⟨by rfl, ?_⟩) (by assumption) ?_
          rotate_left
          · (intro w hSw; (try dsimp only at hSw); go_simp; try with_reducible rfl)
          try simp only [Act.put, List.setIfInBounds_toArray, List.set_cons_zero, List.set_cons_succ]
          refine wpAnyH_take (i := 11) (oi := ({ dst := some 55, op := Op.binOp BinOp.neq 3 (Operand.tmp 54) (Operand.const (Value.int IntKind.i64 16)) 3, type := 4, pos := "parts.go:809", after := #[{ on := 10, ground := Ground.data }], guard := none } : Oper)) (v := ?_) rfl (by kernel_rfl) (by kernel_rfl) (by kernel_rfl) (fun _ _ _ h => h) (Or.inl ⟨by rfl, ?_⟩) (by assumption) ?_
          rotate_left
          · (intro w hSw; (try dsimp only at hSw); go_simp; try with_reducible rfl)
          try simp only [Act.put, List.setIfInBounds_toArray, List.set_cons_zero, List.set_cons_succ]
          refine wpAnyH_done (by kernel_rfl) ?_ _
          clear KEEP hHeld
          go_wp2_with fail
          refine bodyPost_ret (v := .tuple #[.slice none 0 0, .int .i64 8]) (by simp [results, Tryd.results7, go_sem]) rfl ⟨hbr.drew, .inr ⟨8, by decide, HPD.out, rfl⟩⟩
      · have hki1 : ¬ (k : Int) < fuel := hfu
        by_cases hd : q.kind = 16
        · have hd1 : (q.kind == 16) = true := by simp [hd]
          have HPD : Hid (playR qs fuel = .inl st.frs) := by unfold Hid; rw [← HP.out]; exact play_done qs _ st (show doneM qs st by unfold doneM; rw [HX.out]; exact hd)
          have KEEP : Hid (∀ w', Below wr.heap.size wr w' → w'.cell? ⟨b, 0, none⟩ = some (.slice (some ⟨g, o, none⟩) n qc_) ∧ w'.cell? ⟨b, 1, none⟩ = some (.int .i64 (st.pc : Int)) ∧ w'.cell? ⟨g, o + st.pc * 9, none⟩ = some (.int .i64 q.kind)) := by
            intro w' h
            refine ⟨?_, ?_, ?_⟩
            · rw [h.cell (p := ⟨b, 0, none⟩) mlt]; exact m0
            · rw [h.cell (p := ⟨b, 1, none⟩) mlt]; exact m1
            · rw [h.cell (p := ⟨g, o + st.pc * 9, none⟩) hgw]; exact c0
          go_wp2_with fail
          refine wp_region_held_drew (S := (fun w' => w'.cell? ⟨b, 0, none⟩ = some (.slice (some ⟨g, o, none⟩) n qc_) ∧ w'.cell? ⟨b, 1, none⟩ = some (.int .i64 (st.pc : Int)) ∧ w'.cell? ⟨g, o + st.pc * 9, none⟩ = some (.int .i64 q.kind))) (by kernel_rfl) ?_ (fun hHeld => ?_)
          · exact KEEP.out _ (Below.refl _ _).drew
          refine wpAnyH_take (i := 0) (oi := ({ dst := some 44, op := Op.move (Operand.tmp 7), type := 38, pos := "parts.go:809", after := #[], guard := none } : Oper)) (v := ?_) rfl (by kernel_rfl) (by kernel_rfl) (by kernel_rfl) (fun _ _ _ h => h) (Or.inl ⟨by rfl, ?_⟩) (by assumption) ?_
          rotate_left
          · (intro w hSw; (try dsimp only at hSw); go_simp; try with_reducible rfl)
          try simp only [Act.put, List.setIfInBounds_toArray, List.set_cons_zero, List.set_cons_succ]
          refine wpAnyH_take (i := 1) (oi := ({ dst := some 45, op := Op.nilCheck (Operand.tmp 44), type := 0, pos := "parts.go:809", after := #[{ on := 0, ground := Ground.data }], guard := none } : Oper)) (v := ?_) rfl (by kernel_rfl) (by kernel_rfl) (by kernel_rfl) (fun _ _ _ h => h) (Or.inl ⟨by rfl, ?_⟩) (by assumption) ?_
          rotate_left
          · (intro w hSw; (try dsimp only at hSw); go_simp; try with_reducible rfl)
          try simp only [Act.put, List.setIfInBounds_toArray, List.set_cons_zero, List.set_cons_succ]
          refine wpAnyH_take (i := 2) (oi := ({ dst := some 46, op := Op.fieldAddr 44 (Operand.tmp 45) 0, type := 0, pos := "parts.go:809", after := #[{ on := 1, ground := Ground.data }], guard := none } : Oper)) (v := ?_) rfl (by kernel_rfl) (by kernel_rfl) (by kernel_rfl) (fun _ _ _ h => h) (Or.inl ⟨by rfl, ?_⟩) (by assumption) ?_
          rotate_left
          · (intro w hSw; (try dsimp only at hSw); go_simp; try with_reducible rfl)
          try simp only [Act.put, List.setIfInBounds_toArray, List.set_cons_zero, List.set_cons_succ]
          refine wpAnyH_take (i := 3) (oi := ({ dst := some 47, op := Op.load 22 (Operand.tmp 46), type := 22, pos := "parts.go:809", after := #[{ on := 2, ground := Ground.data }], guard := none } : Oper)) (v := ?_) rfl (by kernel_rfl) (by kernel_rfl) (by kernel_rfl) (fun _ _ _ h => h) (Or.inl ⟨by rfl, ?_⟩) (by assumption) ?_
          rotate_left
          · (intro w hSw; (try dsimp only at hSw); go_simp; try with_reducible rfl)
          try simp only [Act.put, List.setIfInBounds_toArray, List.set_cons_zero, List.set_cons_succ]
          refine wpAnyH_take (i := 4) (oi := ({ dst := some 48, op := Op.move (Operand.tmp 7), type := 38, pos := "parts.go:809", after := #[], guard := none } : Oper)) (v := ?_) rfl (by kernel_rfl) (by kernel_rfl) (by kernel_rfl) (fun _ _ _ h => h) (Or.inl ⟨by rfl, ?_⟩) (by assumption) ?_
          rotate_left
          · (intro w hSw; (try dsimp only at hSw); go_simp; try with_reducible rfl)
          try simp only [Act.put, List.setIfInBounds_toArray, List.set_cons_zero, List.set_cons_succ]
          refine wpAnyH_take (i := 5) (oi := ({ dst := some 49, op := Op.nilCheck (Operand.tmp 48), type := 0, pos := "parts.go:809", after := #[{ on := 4, ground := Ground.data }], guard := none } : Oper)) (v := ?_) rfl (by kernel_rfl) (by kernel_rfl) (by kernel_rfl) (fun _ _ _ h => h) (Or.inl ⟨by rfl, ?_⟩) (by assumption) ?_
          rotate_left
          · (intro w hSw; (try dsimp only at hSw); go_simp; try with_reducible rfl)
          try simp only [Act.put, List.setIfInBounds_toArray, List.set_cons_zero, List.set_cons_succ]
          refine wpAnyH_take (i := 6) (oi := ({ dst := some 50, op := Op.fieldAddr 44 (Operand.tmp 49) 1, type := 0, pos := "parts.go:809", after := #[{ on := 5, ground := Ground.data }], guard := none } : Oper)) (v := ?_) rfl (by kernel_rfl) (by kernel_rfl) (by kernel_rfl) (fun _ _ _ h => h) (Or.inl ⟨by rfl, ?_⟩) (by assumption) ?_
          rotate_left
          · (intro w hSw; (try dsimp only at hSw); go_simp; try with_reducible rfl)
          try simp only [Act.put, List.setIfInBounds_toArray, List.set_cons_zero, List.set_cons_succ]
          refine wpAnyH_take (i := 7) (oi := ({ dst := some 51, op := Op.load 3 (Operand.tmp 50), type := 3, pos := "parts.go:809", after := #[{ on := 6, ground := Ground.data }], guard := none } : Oper)) (v := ?_) rfl (by kernel_rfl) (by kernel_rfl) (by kernel_rfl) (fun _ _ _ h => h) (Or.inl ⟨by rfl, ?_⟩) (by assumption) ?_
          rotate_left
          · (intro w hSw; (try dsimp only at hSw); go_simp; try with_reducible rfl)
          try simp only [Act.put, List.setIfInBounds_toArray, List.set_cons_zero, List.set_cons_succ]
          refine wpAnyH_take (i := 8) (oi := ({ dst := some 52, op := Op.indexAddr 22 (Operand.tmp 47) (Operand.tmp 51), type := 0, pos := "parts.go:809", after := #[{ on := 3, ground := Ground.data }, { on := 7, ground := Ground.data }], guard := none } : Oper)) (v := ?_) rfl (by kernel_rfl) (by kernel_rfl) (by kernel_rfl) (fun _ _ _ h => h) (Or.inl ⟨by rfl, ?_⟩) (by assumption) ?_
          rotate_left
          · (intro w hSw; (try dsimp only at hSw); go_simp; try with_reducible rfl)
          try simp only [Act.put, List.setIfInBounds_toArray, List.set_cons_zero, List.set_cons_succ]
          refine wpAnyH_take (i := 9) (oi := ({ dst := some 53, op := Op.fieldAddr 51 (Operand.tmp 52) 0, type := 0, pos := "parts.go:809", after := #[{ on := 8, ground := Ground.data }], guard := none } : Oper)) (v := ?_) rfl (by kernel_rfl) (by kernel_rfl) (by kernel_rfl) (fun _ _ _ h => h) (Or.inl ⟨by rfl, ?_⟩) (by assumption) ?_
          rotate_left
          · (intro w hSw; (try dsimp only at hSw); go_simp; try with_reducible rfl)
          try simp only [Act.put, List.setIfInBounds_toArray, List.set_cons_zero, List.set_cons_succ]
          refine wpAnyH_take (i := 10) (oi := ({ dst := some 54, op := Op.load 3 (Operand.tmp 53), type := 3, pos := "parts.go:809", after := #[{ on := 9, ground := Ground.data }], guard := none } : Oper)) (v := ?_) rfl (by kernel_rfl) (by kernel_rfl) (by kernel_rfl) (fun _ _ _ h => h) (Or.inl ⟨by rfl, ?_⟩) (by assumption) ?_
          rotate_left
          · (intro w hSw; (try dsimp only at hSw); go_simp; try with_reducible rfl)
          try simp only [Act.put, List.setIfInBounds_toArray, List.set_cons_zero, List.set_cons_succ]
          refine wpAnyH_take (i := 11) (oi := ({ dst := some 55, op := Op.binOp BinOp.neq 3 (Operand.tmp 54) (Operand.const (Value.int IntKind.i64 16)) 3, type := 4, pos := "parts.go:809", after := #[{ on := 10, ground := Ground.data }], guard := none } : Oper)) (v := ?_) rfl (by kernel_rfl) (by kernel_rfl) (by kernel_rfl) (fun _ _ _ h => h) (Or.inl ⟨by rfl, ?_⟩) (by assumption) ?_
          rotate_left
          · (intro w hSw; (try dsimp only at hSw); go_simp; try with_reducible rfl)
          try simp only [Act.put, List.setIfInBounds_toArray, List.set_cons_zero, List.set_cons_succ]
          refine wpAnyH_done (by kernel_rfl) ?_ _
          have n7 : wr.drew.cell? ⟨b, 7, none⟩ = some (.slice fa fv.length fc) := m7
          clear KEEP hHeld
          go_wp2_with fail
          refine bodyPost_ret (v := .tuple #[.slice fa fv.length fc, .int .i64 0]) (by simp [results, Tryd.results7, go_sem]) rfl ?_
          refine ⟨hbr.drew, .inl ⟨_, st.frs, HPD.out, rfl, ?_⟩⟩
          have := HF1.out.rd
          rw [HF2.out] at this
          exact this.on (Below.refl _ _).drew
        · have hd1 : (q.kind == 16) = false := by simpa using hd
          have HPD : Hid (playR qs fuel = .inr 8) := by unfold Hid; rw [← HP.out, playM, if_neg (by unfold doneM; rw [HX.out]; exact hd)]
          have KEEP : Hid (∀ w', Below wr.heap.size wr w' → w'.cell? ⟨b, 0, none⟩ = some (.slice (some ⟨g, o, none⟩) n qc_) ∧ w'.cell? ⟨b, 1, none⟩ = some (.int .i64 (st.pc : Int)) ∧ w'.cell? ⟨g, o + st.pc * 9, none⟩ = some (.int .i64 q.kind)) := by
            intro w' h
            refine ⟨?_, ?_, ?_⟩
            · rw [h.cell (p := ⟨b, 0, none⟩) mlt]; exact m0
            · rw [h.cell (p := ⟨b, 1, none⟩) mlt]; exact m1
            · rw [h.cell (p := ⟨g, o + st.pc * 9, none⟩) hgw]; exact c0
          go_wp2_with fail
          refine wp_region_held_drew (S := (fun w' => w'.cell? ⟨b, 0, none⟩ = some (.slice (some ⟨g, o, none⟩) n qc_) ∧ w'.cell? ⟨b, 1, none⟩ = some (.int .i64 (st.pc : Int)) ∧ w'.cell? ⟨g, o + st.pc * 9, none⟩ = some (.int .i64 q.kind))) (by kernel_rfl) ?_ (fun hHeld => ?_)
          · exact KEEP.out _ (Below.refl _ _).drew
          refine wpAnyH_take (i := 0) (oi := ({ dst := some 44, op := Op.move (Operand.tmp 7), type := 38, pos := "parts.go:809", after := #[], guard := none } : Oper)) (v := ?_) rfl (by kernel_rfl) (by kernel_rfl) (by kernel_rfl) (fun _ _ _ h => h) (Or.inl ⟨by rfl, ?_⟩) (by assumption) ?_
          rotate_left
          · (intro w hSw; (try dsimp only at hSw); go_simp; try with_reducible rfl)
          try simp only [Act.put, List.setIfInBounds_toArray, List.set_cons_zero, List.set_cons_succ]
          refine wpAnyH_take (i := 1) (oi := ({ dst := some 45, op := Op.nilCheck (Operand.tmp 44), type := 0, pos := "parts.go:809", after := #[{ on := 0, ground := Ground.data }], guard := none } : Oper)) (v := ?_) rfl (by kernel_rfl) (by kernel_rfl) (by kernel_rfl) (fun _ _ _ h => h) (Or.inl ⟨by rfl, ?_⟩) (by assumption) ?_
          rotate_left
          · (intro w hSw; (try dsimp only at hSw); go_simp; try with_reducible rfl)
          try simp only [Act.put, List.setIfInBounds_toArray, List.set_cons_zero, List.set_cons_succ]
          refine wpAnyH_take (i := 2) (oi := ({ dst := some 46, op := Op.fieldAddr 44 (Operand.tmp 45) 0, type := 0, pos := "parts.go:809", after := #[{ on := 1, ground := Ground.data }], guard := none } : Oper)) (v := ?_) rfl (by kernel_rfl) (by kernel_rfl) (by kernel_rfl) (fun _ _ _ h => h) (Or.inl ⟨by rfl, ?_⟩) (by assumption) ?_
          rotate_left
          · (intro w hSw; (try dsimp only at hSw); go_simp; try with_reducible rfl)
          try simp only [Act.put, List.setIfInBounds_toArray, List.set_cons_zero, List.set_cons_succ]
          refine wpAnyH_take (i := 3) (oi := ({ dst := some 47, op := Op.load 22 (Operand.tmp 46), type := 22, pos := "parts.go:809", after := #[{ on := 2, ground := Ground.data }], guard := none } : Oper)) (v := ?_) rfl (by kernel_rfl) (by kernel_rfl) (by kernel_rfl) (fun _ _ _ h => h) (Or.inl ⟨by rfl, ?_⟩) (by assumption) ?_
          rotate_left
          · (intro w hSw; (try dsimp only at hSw); go_simp; try with_reducible rfl)
          try simp only [Act.put, List.setIfInBounds_toArray, List.set_cons_zero, List.set_cons_succ]
          refine wpAnyH_take (i := 4) (oi := ({ dst := some 48, op := Op.move (Operand.tmp 7), type := 38, pos := "parts.go:809", after := #[], guard := none } : Oper)) (v := ?_) rfl (by kernel_rfl) (by kernel_rfl) (by kernel_rfl) (fun _ _ _ h => h) (Or.inl ⟨by rfl, ?_⟩) (by assumption) ?_
          rotate_left
          · (intro w hSw; (try dsimp only at hSw); go_simp; try with_reducible rfl)
          try simp only [Act.put, List.setIfInBounds_toArray, List.set_cons_zero, List.set_cons_succ]
          refine wpAnyH_take (i := 5) (oi := ({ dst := some 49, op := Op.nilCheck (Operand.tmp 48), type := 0, pos := "parts.go:809", after := #[{ on := 4, ground := Ground.data }], guard := none } : Oper)) (v := ?_) rfl (by kernel_rfl) (by kernel_rfl) (by kernel_rfl) (fun _ _ _ h => h) (Or.inl ⟨by rfl, ?_⟩) (by assumption) ?_
          rotate_left
          · (intro w hSw; (try dsimp only at hSw); go_simp; try with_reducible rfl)
          try simp only [Act.put, List.setIfInBounds_toArray, List.set_cons_zero, List.set_cons_succ]
          refine wpAnyH_take (i := 6) (oi := ({ dst := some 50, op := Op.fieldAddr 44 (Operand.tmp 49) 1, type := 0, pos := "parts.go:809", after := #[{ on := 5, ground := Ground.data }], guard := none } : Oper)) (v := ?_) rfl (by kernel_rfl) (by kernel_rfl) (by kernel_rfl) (fun _ _ _ h => h) (Or.inl ⟨by rfl, ?_⟩) (by assumption) ?_
          rotate_left
          · (intro w hSw; (try dsimp only at hSw); go_simp; try with_reducible rfl)
          try simp only [Act.put, List.setIfInBounds_toArray, List.set_cons_zero, List.set_cons_succ]
          refine wpAnyH_take (i := 7) (oi := ({ dst := some 51, op := Op.load 3 (Operand.tmp 50), type := 3, pos := "parts.go:809", after := #[{ on := 6, ground := Ground.data }], guard := none } : Oper)) (v := ?_) rfl (by kernel_rfl) (by kernel_rfl) (by kernel_rfl) (fun _ _ _ h => h) (Or.inl ⟨by rfl, ?_⟩) (by assumption) ?_
          rotate_left
          · (intro w hSw; (try dsimp only at hSw); go_simp; try with_reducible rfl)
          try simp only [Act.put, List.setIfInBounds_toArray, List.set_cons_zero, List.set_cons_succ]
          refine wpAnyH_take (i := 8) (oi := ({ dst := some 52, op := Op.indexAddr 22 (Operand.tmp 47) (Operand.tmp 51), type := 0, pos := "parts.go:809", after := #[{ on := 3, ground := Ground.data }, { on := 7, ground := Ground.data }], guard := none } : Oper)) (v := ?_) rfl (by kernel_rfl) (by kernel_rfl) (by kernel_rfl) (fun _ _ _ h => h) (Or.inl ⟨by rfl, ?_⟩) (by assumption) ?_
          rotate_left
          · (intro w hSw; (try dsimp only at hSw); go_simp; try with_reducible rfl)
          try simp only [Act.put, List.setIfInBounds_toArray, List.set_cons_zero, List.set_cons_succ]
          refine wpAnyH_take (i := 9) (oi := ({ dst := some 53, op := Op.fieldAddr 51 (Operand.tmp 52) 0, type := 0, pos := "parts.go:809", after := #[{ on := 8, ground := Ground.data }], guard := none } : Oper)) (v := ?_) rfl (by kernel_rfl) (by kernel_rfl) (by kernel_rfl) (fun _ _ _ h => h) (Or.inl ⟨by rfl, ?_⟩) (by assumption) ?_
          rotate_left
          · (intro w hSw; (try dsimp only at hSw); go_simp; try with_reducible rfl)
          try simp only [Act.put, List.setIfInBounds_toArray, List.set_cons_zero, List.set_cons_succ]
          refine wpAnyH_take (i := 10) (oi := ({ dst := some 54, op := Op.load 3 (Operand.tmp 53), type := 3, pos := "parts.go:809", after := #[{ on := 9, ground := Ground.data }], guard := none } : Oper)) (v := ?_) rfl (by kernel_rfl) (by kernel_rfl) (by kernel_rfl) (fun _ _ _ h => h) (Or.inl ⟨by rfl, ?_⟩) (by assumption) ?_
          rotate_left
          · (intro w hSw; (try dsimp only at hSw); go_simp; try with_reducible rfl)
          try simp only [Act.put, List.setIfInBounds_toArray, List.set_cons_zero, List.set_cons_succ]
          refine wpAnyH_take (i := 11) (oi := ({ dst := some 55, op := Op.binOp BinOp.neq 3 (Operand.tmp 54) (Operand.const (Value.int IntKind.i64 16)) 3, type := 4, pos := "parts.go:809", after := #[{ on := 10, ground := Ground.data }], guard := none } : Oper)) (v := ?_) rfl (by kernel_rfl) (by kernel_rfl) (by kernel_rfl) (fun _ _ _ h => h) (Or.inl ⟨by rfl, ?_⟩) (by assumption) ?_
          rotate_left
          · (intro w hSw; (try dsimp only at hSw); go_simp; try with_reducible rfl)
          try simp only [Act.put, List.setIfInBounds_toArray, List.set_cons_zero, List.set_cons_succ]
          refine wpAnyH_done (by kernel_rfl) ?_ _
          clear KEEP hHeld
          go_wp2_with fail
          refine bodyPost_ret (v := .tuple #[.slice none 0 0, .int .i64 8]) (by simp [results, Tryd.results7, go_sem]) rfl ⟨hbr.drew, .inr ⟨8, by decide, HPD.out, rfl⟩⟩
end Go.Proofs.YtjmkfcgnadpbaaaDoor
