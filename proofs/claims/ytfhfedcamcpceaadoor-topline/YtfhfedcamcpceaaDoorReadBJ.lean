/- Walk: op.read. -- s1 -/
import Derived.Test.YtfhfedcamcpceaaDoorReadAJ
import Derived.StillTailTactics
import Derived.Lib.IndexBytes
namespace Go.Proofs.YtfhfedcamcpceaaDoor
open Go.RowKit

set_option maxHeartbeats 8000000 in
set_option maxRecDepth 100000 in
theorem readS_any (s : Shp) (d : ByteArray) (w : World) (hn : s.nums ≤ 4) (hd : d.size = sizeS s) :
    Calls Tryd.prog 31 #[s.val, .string d] w fun e w' => e = .returned (opV (readQ s.kind s.id s.nums d.data.toList) (.slice none 0 0)) ∧ Below w.heap.size w w' := by
  obtain ⟨nn, HNN⟩ : ∃ n, Hid (s.nums = n) := ⟨_, (rfl : _ = _)⟩
  obtain ⟨fid, HB⟩ : ∃ n, Hid (s.id = n) := ⟨_, (rfl : _ = _)⟩
  have hn4 : nn ≤ 4 := by rw [← HNN.out]; exact hn
  have hds : d.size = 2 * nn + (if fid then 1 else 0) := by rw [hd]; unfold sizeS; rw [HNN.out, HB.out]
  have HDS := hid_of3 hds
  unfold Shp.val
  rw [HNN.out, HB.out]
  clear hd hn hds
  cases fid with
  | true =>
    have hsz : d.size = 2 * nn + 1 := HDS.out
    obtain ⟨i0, HI0⟩ : ∃ i, Hid (d.data.toList.getD 0 0 = i) := ⟨_, (rfl : _ = _)⟩
    obtain ⟨id0, HID⟩ : ∃ i, Hid (i0.toNat = i) := ⟨_, (rfl : _ = _)⟩
    have hix := nat_at d 0 i0 HI0 id0 HID
    have hwid : wrap64 (id0 : Int) = (id0 : Int) := by have := byte_le _ _ HID; unfold wrap64; omega
    have hpos : 0 < d.size := by omega
    have hpos1 : 1 ≤ d.size := by omega
    have hposI : (1 : Int) ≤ (d.size : Int) := by omega
    have HSZ0 := hid_of3 hsz
    clear hsz
    go_enter Tryd.func31, Tryd.ntmps31
    go_wp2_with fail
    obtain ⟨EE, HEE⟩ : ∃ E, Hid (d.extract 1 d.size = E) := ⟨_, (rfl : _ = _)⟩
    obtain ⟨bs, HBS0⟩ : ∃ b, Hid (EE.data.toList = b) := ⟨_, (rfl : _ = _)⟩
    have HBS : Hid (EE.data.toList = bs) := HBS0
    have HES : Hid (EE.size = 2 * nn) := by unfold Hid; rw [← HEE.out, ByteArray.size_extract]; have := HSZ0.out; omega
    have HDR : Hid (d.data.toList.drop 1 = bs) := by unfold Hid; rw [← HBS0.out, ← HEE.out]; exact (Lib.extract_to_end d 1).symm
    rw [HEE.out]
    clear hix hpos hpos1 hposI hwid
    obtain ⟨X0, HX0⟩ : ∃ W, Hid (((((w.alloc (.cells #[.int .i64 (s.kind : Int), .string s.bytes, .bool true, .int .i64 (nn : Int), .int .i64 s.low, .int .i64 s.high, .bool s.pic] 56)).alloc (.cells #[.int .i64 0, .int .i64 0, .int .i64 0, .int .i64 0, .int .i64 0, .int .i64 0, .int .i64 0, .int .i64 0, .slice none 0 0] 26)).alloc (.cells #[.int .i64 (s.kind : Int), .int .i64 (id0 : Int), .int .i64 0, .int .i64 0, .int .i64 0, .int .i64 0, .int .i64 0, .int .i64 0, .slice none 0 0] 26)).alloc (.cells #[.int .i64 0, .int .i64 0, .int .i64 0, .int .i64 0] 104)) = W) := ⟨_, (rfl : _ = _)⟩
    have hbz : Below w.heap.size w X0 := by rw [← HX0.out]; exact ((((Below.refl _ _).alloc (Nat.le_refl _) _).alloc (by simp) _).alloc (by simp; omega) _).alloc (by simp; omega) _
    have HSZ : Hid (X0.heap.size = w.heap.size + 4) := by unfold Hid; rw [← HX0.out]; simp
    have SL0 : Slots X0 (w.heap.size + 1 + 1 + 1) (numK bs 0) := by
      have F : Four X0 (w.heap.size + 1 + 1 + 1) (.int .i64 0) (.int .i64 0) (.int .i64 0) (.int .i64 0) := by rw [← HX0.out]; exact four_start _ _ _ _ _ 104 (w.heap.size + 1 + 1 + 1) (by simp)
      have e : ∀ j, numK bs 0 j = 0 := fun j => by unfold numK; rw [if_neg (by omega)]
      refine ⟨fun j hj => ?_, fun j hj => ?_⟩
      · rw [e]
        rcases (show j = 0 ∨ j = 1 ∨ j = 2 ∨ j = 3 by omega) with rfl | rfl | rfl | rfl
        · exact F.c0
        · exact F.c1
        · exact F.c2
        · exact F.c3
      · rcases (show j = 0 ∨ j = 1 ∨ j = 2 ∨ j = 3 by omega) with rfl | rfl | rfl | rfl
        · exact F.f0
        · exact F.f1
        · exact F.f2
        · exact F.f3
    have NO := hid_of3 (show Nine X0 (w.heap.size + 1 + 1) (.int .i64 (s.kind : Int)) (.int .i64 (id0 : Int)) (.int .i64 0) (.int .i64 0) (.int .i64 0) (.int .i64 0) (.int .i64 0) (.int .i64 0) (.slice none 0 0) by rw [← HX0.out]; exact (nine_start _ _ _ _ _ _ _ _ _ _ 26 (w.heap.size + 1 + 1) (by simp)).alloc _)
    have NR := hid_of3 (show Nine X0 (w.heap.size + 1) (.int .i64 0) (.int .i64 0) (.int .i64 0) (.int .i64 0) (.int .i64 0) (.int .i64 0) (.int .i64 0) (.int .i64 0) (.slice none 0 0) by rw [← HX0.out]; exact ((nine_start _ _ _ _ _ _ _ _ _ _ 26 (w.heap.size + 1) (by simp)).alloc _).alloc _)
    have HSL0 := hid_of3 SL0
    rw [HX0.out]
    clear HX0 SL0
    go_loopw [7, 21] (fun _ i wr => ∃ k : Nat, k ≤ nn ∧ i = .int .i64 k ∧ Hid (Slots wr (w.heap.size + 1 + 1 + 1) (numK bs k)) ∧ Below (w.heap.size + 1 + 1 + 1) X0 wr) (fun _ i _ => nn - (intOf i).toNat)
    case atStart => exact ⟨0, by omega, rfl, HSL0, Below.refl _ _⟩
    case round =>
      obtain ⟨k, hk, rfl, HSL, hbr⟩ := hrel
      by_cases hlt : k < nn
      · have hki : (k : Int) < (nn : Int) := by omega
        have hki0 : (0 : Int) ≤ (k : Int) := by omega
        have hki4 : (k : Int) < 4 := by omega
        have hk4 : k < 4 := by omega
        obtain ⟨d0, HD0⟩ : ∃ d, Hid (bs.getD (2 * k) 0 = d) := ⟨_, (rfl : _ = _)⟩
        obtain ⟨d1, HD1⟩ : ∃ d, Hid (bs.getD (2 * k + 1) 0 = d) := ⟨_, (rfl : _ = _)⟩
        obtain ⟨m0, HM0⟩ : ∃ d, Hid (d0.toNat = d) := ⟨_, (rfl : _ = _)⟩
        obtain ⟨m1, HM1⟩ : ∃ d, Hid (d1.toNat = d) := ⟨_, (rfl : _ = _)⟩
        obtain ⟨e1, e2, hval⟩ := num_parts bs k hk4 m0 m1 (by rw [HD0.out]; exact HM0.out) (by rw [HD1.out]; exact HM1.out) (byte_le _ _ HM0) (byte_le _ _ HM1)
        have HST := hid_of3 (numK_step bs k ▸ HSL.out.set hk4 (numAt bs k))
        obtain ⟨M, HM⟩ : ∃ M, Hid (2 * k = M) := ⟨_, (rfl : _ = _)⟩
        obtain ⟨M1, HMM1⟩ : ∃ M', Hid (M + 1 = M') := ⟨_, (rfl : _ = _)⟩
        obtain ⟨V, HV⟩ : ∃ M, Hid (numAt bs k = M) := ⟨_, (rfl : _ = _)⟩
        rw [HM.out] at e1 e2
        rw [HMM1.out] at e2
        rw [HV.out] at hval HST
        have HVAL := hid_of3 hval
        clear hval
        have hx0 := nat_at EE M d0 (by unfold Hid; rw [← HM.out, HBS.out]; exact HD0.out) m0 HM0
        have hx1 := nat_at EE M1 d1 (by unfold Hid; rw [← HMM1.out, ← HM.out, HBS.out]; exact HD1.out) m1 HM1
        have hM : M < EE.size := by have := HM.out; have := HES.out; omega
        have hM1 : M1 < EE.size := by have := HMM1.out; have := HM.out; have := HES.out; omega
        have hMi : (M : Int) < (EE.size : Int) := by omega
        have hMi1 : (M1 : Int) < (EE.size : Int) := by omega
        have c0 := HSL.out.cell k hk4
        have f0 := HSL.out.free k hk4
        clear HD0 HD1 HM0 HM1
        go_wp2_with fail
        go_still_tail 16, (by kernel_rfl)
        go_wp2_with fail
        rw [HVAL.out]
        exact ⟨⟨k + 1, by omega, by simp, HST.out.drew, (hbr.setCell (Nat.le_refl _) _).drew⟩, by simp [intOf]; omega⟩
      · have hki : ¬ (k : Int) < (nn : Int) := by omega
        obtain rfl : nn = k := by omega
        have HSD := hid_of3 HSL.out.drew
        obtain ⟨v0, HV0⟩ : ∃ v, Hid (numK bs nn 0 = v) := ⟨_, (rfl : _ = _)⟩
        obtain ⟨v1, HV1⟩ : ∃ v, Hid (numK bs nn 1 = v) := ⟨_, (rfl : _ = _)⟩
        obtain ⟨v2, HV2⟩ : ∃ v, Hid (numK bs nn 2 = v) := ⟨_, (rfl : _ = _)⟩
        obtain ⟨v3, HV3⟩ : ∃ v, Hid (numK bs nn 3 = v) := ⟨_, (rfl : _ = _)⟩
        have KS : Hid (∀ W', Slots W' (w.heap.size + 1 + 1 + 1) (numK bs nn) → (W'.cell? ⟨w.heap.size + 1 + 1 + 1, 0, none⟩ = some (.int .i64 v0) ∧ W'.cell? ⟨w.heap.size + 1 + 1 + 1, 1, none⟩ = some (.int .i64 v1) ∧ W'.cell? ⟨w.heap.size + 1 + 1 + 1, 2, none⟩ = some (.int .i64 v2) ∧ W'.cell? ⟨w.heap.size + 1 + 1 + 1, 3, none⟩ = some (.int .i64 v3))) := fun W' h => by
          rw [← HV0.out, ← HV1.out, ← HV2.out, ← HV3.out]
          exact ⟨h.cell 0 (by omega), h.cell 1 (by omega), h.cell 2 (by omega), h.cell 3 (by omega)⟩
        obtain ⟨k0, k1, k2, k3, k4, k5, k6, k7, k8, kf0, kf1, kf2, kf3, kf4, kf5, kf6, kf7, kf8, klt⟩ := NO.out.onB hbr (by omega)
        obtain ⟨r0, r1, r2, r3, r4, r5, r6, r7, r8, rf0, rf1, rf2, rf3, rf4, rf5, rf6, rf7, rf8, rlt⟩ := NR.out.onB hbr (by omega)
        have hbbr : Below w.heap.size w wr := hbz.trans (hbr.mono (by omega))
        clear HSL
        go_wp2_with fail
        refine wp_region_held_drew (S := (fun W' => W'.cell? ⟨w.heap.size + 1 + 1 + 1, 0, none⟩ = some (.int .i64 v0) ∧ W'.cell? ⟨w.heap.size + 1 + 1 + 1, 1, none⟩ = some (.int .i64 v1) ∧ W'.cell? ⟨w.heap.size + 1 + 1 + 1, 2, none⟩ = some (.int .i64 v2) ∧ W'.cell? ⟨w.heap.size + 1 + 1 + 1, 3, none⟩ = some (.int .i64 v3))) (by kernel_rfl) ?_ (fun hHeld => ?_)
        · exact KS.out _ HSD.out
        refine wpAnyH_take (i := 0) (oi := ({ dst := some 41, op := Op.indexAddr 104 (Operand.tmp 6) (Operand.const (Value.int IntKind.i64 0)), type := 0, pos := "op.go:174", after := #[], guard := none } : Oper)) (v := ?_) rfl (by kernel_rfl) (by kernel_rfl) (by kernel_rfl) (fun _ _ _ h => h) (Or.inl ⟨by rfl, ?_⟩) (by assumption) ?_
        rotate_left
        · (intro w hSw; (try dsimp only at hSw); go_simp; try with_reducible rfl)
        try simp only [Act.put, List.setIfInBounds_toArray, List.set_cons_zero, List.set_cons_succ]
        refine wpAnyH_take (i := 1) (oi := ({ dst := some 42, op := Op.load 3 (Operand.tmp 41), type := 3, pos := "op.go:174", after := #[{ on := 0, ground := Ground.data }], guard := none } : Oper)) (v := ?_) rfl (by kernel_rfl) (by kernel_rfl) (by kernel_rfl) (fun _ _ _ h => h) (Or.inl ⟨by rfl, ?_⟩) (by assumption) ?_
        rotate_left
        · (intro w hSw; (try dsimp only at hSw); go_simp; try with_reducible rfl)
        try simp only [Act.put, List.setIfInBounds_toArray, List.set_cons_zero, List.set_cons_succ]
        refine wpAnyH_take (i := 2) (oi := ({ dst := some 43, op := Op.indexAddr 104 (Operand.tmp 6) (Operand.const (Value.int IntKind.i64 1)), type := 0, pos := "op.go:174", after := #[{ on := 9, ground := Ground.gcOnly Departure.lateStores }], guard := none } : Oper)) (v := ?_) rfl (by kernel_rfl) (by kernel_rfl) (by kernel_rfl) (fun _ _ _ h => h) (Or.inl ⟨by rfl, ?_⟩) (by assumption) ?_
        rotate_left
        · (intro w hSw; (try dsimp only at hSw); go_simp; try with_reducible rfl)
        try simp only [Act.put, List.setIfInBounds_toArray, List.set_cons_zero, List.set_cons_succ]
        refine wpAnyH_take (i := 3) (oi := ({ dst := some 44, op := Op.load 3 (Operand.tmp 43), type := 3, pos := "op.go:174", after := #[{ on := 2, ground := Ground.data }, { on := 9, ground := Ground.gcOnly Departure.lateStores }], guard := none } : Oper)) (v := ?_) rfl (by kernel_rfl) (by kernel_rfl) (by kernel_rfl) (fun _ _ _ h => h) (Or.inl ⟨by rfl, ?_⟩) (by assumption) ?_
        rotate_left
        · (intro w hSw; (try dsimp only at hSw); go_simp; try with_reducible rfl)
        try simp only [Act.put, List.setIfInBounds_toArray, List.set_cons_zero, List.set_cons_succ]
        refine wpAnyH_take (i := 4) (oi := ({ dst := some 45, op := Op.indexAddr 104 (Operand.tmp 6) (Operand.const (Value.int IntKind.i64 2)), type := 0, pos := "op.go:174", after := #[{ on := 11, ground := Ground.gcOnly Departure.lateStores }], guard := none } : Oper)) (v := ?_) rfl (by kernel_rfl) (by kernel_rfl) (by kernel_rfl) (fun _ _ _ h => h) (Or.inl ⟨by rfl, ?_⟩) (by assumption) ?_
        rotate_left
        · (intro w hSw; (try dsimp only at hSw); go_simp; try with_reducible rfl)
        try simp only [Act.put, List.setIfInBounds_toArray, List.set_cons_zero, List.set_cons_succ]
        refine wpAnyH_take (i := 5) (oi := ({ dst := some 46, op := Op.load 3 (Operand.tmp 45), type := 3, pos := "op.go:174", after := #[{ on := 4, ground := Ground.data }, { on := 11, ground := Ground.gcOnly Departure.lateStores }], guard := none } : Oper)) (v := ?_) rfl (by kernel_rfl) (by kernel_rfl) (by kernel_rfl) (fun _ _ _ h => h) (Or.inl ⟨by rfl, ?_⟩) (by assumption) ?_
        rotate_left
        · (intro w hSw; (try dsimp only at hSw); go_simp; try with_reducible rfl)
        try simp only [Act.put, List.setIfInBounds_toArray, List.set_cons_zero, List.set_cons_succ]
        refine wpAnyH_take (i := 6) (oi := ({ dst := some 47, op := Op.indexAddr 104 (Operand.tmp 6) (Operand.const (Value.int IntKind.i64 3)), type := 0, pos := "op.go:174", after := #[{ on := 13, ground := Ground.gcOnly Departure.lateStores }], guard := none } : Oper)) (v := ?_) rfl (by kernel_rfl) (by kernel_rfl) (by kernel_rfl) (fun _ _ _ h => h) (Or.inl ⟨by rfl, ?_⟩) (by assumption) ?_
        rotate_left
        · (intro w hSw; (try dsimp only at hSw); go_simp; try with_reducible rfl)
        try simp only [Act.put, List.setIfInBounds_toArray, List.set_cons_zero, List.set_cons_succ]
        refine wpAnyH_take (i := 7) (oi := ({ dst := some 48, op := Op.load 3 (Operand.tmp 47), type := 3, pos := "op.go:174", after := #[{ on := 6, ground := Ground.data }, { on := 13, ground := Ground.gcOnly Departure.lateStores }], guard := none } : Oper)) (v := ?_) rfl (by kernel_rfl) (by kernel_rfl) (by kernel_rfl) (fun _ _ _ h => h) (Or.inl ⟨by rfl, ?_⟩) (by assumption) ?_
        rotate_left
        · (intro w hSw; (try dsimp only at hSw); go_simp; try with_reducible rfl)
        try simp only [Act.put, List.setIfInBounds_toArray, List.set_cons_zero, List.set_cons_succ]
        refine wpAnyH_take (i := 8) (oi := ({ dst := some 49, op := Op.fieldAddr 26 (Operand.tmp 5) 2, type := 0, pos := "op.go:174", after := #[{ on := 0, ground := Ground.phase }, { on := 1, ground := Ground.phase }, { on := 2, ground := Ground.textOnly Departure.lateStores }, { on := 3, ground := Ground.textOnly Departure.lateStores }, { on := 4, ground := Ground.textOnly Departure.lateStores }, { on := 5, ground := Ground.textOnly Departure.lateStores }, { on := 6, ground := Ground.textOnly Departure.lateStores }, { on := 7, ground := Ground.textOnly Departure.lateStores }], guard := none } : Oper)) (v := ?_) rfl (by kernel_rfl) (by kernel_rfl) (by kernel_rfl) (fun _ _ _ h => h) (Or.inl ⟨by rfl, ?_⟩) (by assumption) ?_
        rotate_left
        · (intro w hSw; (try dsimp only at hSw); go_simp; try with_reducible rfl)
        try simp only [Act.put, List.setIfInBounds_toArray, List.set_cons_zero, List.set_cons_succ]
        refine wpAnyH_ready (rs := [9]) (by kernel_rfl) (by simp) ?_
        refine AllReadyH.cons (o := ({ dst := none, op := Op.store 3 (Operand.tmp 49) (Operand.tmp 42), type := 0, pos := "op.go:174", after := #[{ on := 8, ground := Ground.data }, { on := 1, ground := Ground.data }, { on := 0, ground := Ground.phase }, { on := 1, ground := Ground.phase }, { on := 2, ground := Ground.textOnly Departure.lateStores }, { on := 3, ground := Ground.textOnly Departure.lateStores }, { on := 4, ground := Ground.textOnly Departure.lateStores }, { on := 5, ground := Ground.textOnly Departure.lateStores }, { on := 6, ground := Ground.textOnly Departure.lateStores }, { on := 7, ground := Ground.textOnly Departure.lateStores }], guard := none } : Oper)) rfl (fun K_ hK => ?_) AllReadyH.nil
        go_simp
        refine hK.out _ _ ?_ (fun hHeld => ?_)
        · exact KS.out _ (HSD.out.other (show w.heap.size + 1 + 1 + 1 ≠ w.heap.size + 1 + 1 by omega) 2 _)
        clear hK K_
        try simp only [Act.put, List.setIfInBounds_toArray, List.set_cons_zero, List.set_cons_succ]
        refine wpAnyH_take (i := 10) (oi := ({ dst := some 50, op := Op.fieldAddr 26 (Operand.tmp 5) 3, type := 0, pos := "op.go:174", after := #[{ on := 0, ground := Ground.phase }, { on := 1, ground := Ground.phase }, { on := 2, ground := Ground.phase }, { on := 3, ground := Ground.phase }, { on := 4, ground := Ground.textOnly Departure.lateStores }, { on := 5, ground := Ground.textOnly Departure.lateStores }, { on := 6, ground := Ground.textOnly Departure.lateStores }, { on := 7, ground := Ground.textOnly Departure.lateStores }, { on := 8, ground := Ground.phase }, { on := 9, ground := Ground.phase }], guard := none } : Oper)) (v := ?_) rfl (by kernel_rfl) (by kernel_rfl) (by kernel_rfl) (fun _ _ _ h => h) (Or.inl ⟨by rfl, ?_⟩) (by assumption) ?_
        rotate_left
        · (intro w hSw; (try dsimp only at hSw); go_simp; try with_reducible rfl)
        try simp only [Act.put, List.setIfInBounds_toArray, List.set_cons_zero, List.set_cons_succ]
        refine wpAnyH_ready (rs := [11]) (by kernel_rfl) (by simp) ?_
        refine AllReadyH.cons (o := ({ dst := none, op := Op.store 3 (Operand.tmp 50) (Operand.tmp 44), type := 0, pos := "op.go:174", after := #[{ on := 10, ground := Ground.data }, { on := 3, ground := Ground.data }, { on := 9, ground := Ground.chain }, { on := 0, ground := Ground.phase }, { on := 1, ground := Ground.phase }, { on := 2, ground := Ground.phase }, { on := 3, ground := Ground.phase }, { on := 4, ground := Ground.textOnly Departure.lateStores }, { on := 5, ground := Ground.textOnly Departure.lateStores }, { on := 6, ground := Ground.textOnly Departure.lateStores }, { on := 7, ground := Ground.textOnly Departure.lateStores }, { on := 8, ground := Ground.phase }, { on := 9, ground := Ground.phase }], guard := none } : Oper)) rfl (fun K_ hK => ?_) AllReadyH.nil
        go_simp
        refine hK.out _ _ ?_ (fun hHeld => ?_)
        · exact KS.out _ ((HSD.out.other (show w.heap.size + 1 + 1 + 1 ≠ w.heap.size + 1 + 1 by omega) 2 _).other (show w.heap.size + 1 + 1 + 1 ≠ w.heap.size + 1 + 1 by omega) 3 _)
        clear hK K_
        try simp only [Act.put, List.setIfInBounds_toArray, List.set_cons_zero, List.set_cons_succ]
        refine wpAnyH_take (i := 12) (oi := ({ dst := some 51, op := Op.fieldAddr 26 (Operand.tmp 5) 4, type := 0, pos := "op.go:174", after := #[{ on := 0, ground := Ground.phase }, { on := 1, ground := Ground.phase }, { on := 2, ground := Ground.phase }, { on := 3, ground := Ground.phase }, { on := 4, ground := Ground.phase }, { on := 5, ground := Ground.phase }, { on := 6, ground := Ground.textOnly Departure.lateStores }, { on := 7, ground := Ground.textOnly Departure.lateStores }, { on := 8, ground := Ground.phase }, { on := 9, ground := Ground.phase }, { on := 10, ground := Ground.phase }, { on := 11, ground := Ground.phase }], guard := none } : Oper)) (v := ?_) rfl (by kernel_rfl) (by kernel_rfl) (by kernel_rfl) (fun _ _ _ h => h) (Or.inl ⟨by rfl, ?_⟩) (by assumption) ?_
        rotate_left
        · (intro w hSw; (try dsimp only at hSw); go_simp; try with_reducible rfl)
        try simp only [Act.put, List.setIfInBounds_toArray, List.set_cons_zero, List.set_cons_succ]
        refine wpAnyH_ready (rs := [13]) (by kernel_rfl) (by simp) ?_
        refine AllReadyH.cons (o := ({ dst := none, op := Op.store 3 (Operand.tmp 51) (Operand.tmp 46), type := 0, pos := "op.go:174", after := #[{ on := 12, ground := Ground.data }, { on := 5, ground := Ground.data }, { on := 11, ground := Ground.chain }, { on := 0, ground := Ground.phase }, { on := 1, ground := Ground.phase }, { on := 2, ground := Ground.phase }, { on := 3, ground := Ground.phase }, { on := 4, ground := Ground.phase }, { on := 5, ground := Ground.phase }, { on := 6, ground := Ground.textOnly Departure.lateStores }, { on := 7, ground := Ground.textOnly Departure.lateStores }, { on := 8, ground := Ground.phase }, { on := 9, ground := Ground.phase }, { on := 10, ground := Ground.phase }, { on := 11, ground := Ground.phase }], guard := none } : Oper)) rfl (fun K_ hK => ?_) AllReadyH.nil
        go_simp
        refine hK.out _ _ ?_ (fun hHeld => ?_)
        · exact KS.out _ (((HSD.out.other (show w.heap.size + 1 + 1 + 1 ≠ w.heap.size + 1 + 1 by omega) 2 _).other (show w.heap.size + 1 + 1 + 1 ≠ w.heap.size + 1 + 1 by omega) 3 _).other (show w.heap.size + 1 + 1 + 1 ≠ w.heap.size + 1 + 1 by omega) 4 _)
        clear hK K_
        try simp only [Act.put, List.setIfInBounds_toArray, List.set_cons_zero, List.set_cons_succ]
        refine wpAnyH_take (i := 14) (oi := ({ dst := some 52, op := Op.fieldAddr 26 (Operand.tmp 5) 5, type := 0, pos := "op.go:174", after := #[{ on := 0, ground := Ground.phase }, { on := 1, ground := Ground.phase }, { on := 2, ground := Ground.phase }, { on := 3, ground := Ground.phase }, { on := 4, ground := Ground.phase }, { on := 5, ground := Ground.phase }, { on := 6, ground := Ground.phase }, { on := 7, ground := Ground.phase }, { on := 8, ground := Ground.phase }, { on := 9, ground := Ground.phase }, { on := 10, ground := Ground.phase }, { on := 11, ground := Ground.phase }, { on := 12, ground := Ground.phase }, { on := 13, ground := Ground.phase }], guard := none } : Oper)) (v := ?_) rfl (by kernel_rfl) (by kernel_rfl) (by kernel_rfl) (fun _ _ _ h => h) (Or.inl ⟨by rfl, ?_⟩) (by assumption) ?_
        rotate_left
        · (intro w hSw; (try dsimp only at hSw); go_simp; try with_reducible rfl)
        try simp only [Act.put, List.setIfInBounds_toArray, List.set_cons_zero, List.set_cons_succ]
        refine wpAnyH_ready (rs := [15]) (by kernel_rfl) (by simp) ?_
        refine AllReadyH.cons (o := ({ dst := none, op := Op.store 3 (Operand.tmp 52) (Operand.tmp 48), type := 0, pos := "op.go:174", after := #[{ on := 14, ground := Ground.data }, { on := 7, ground := Ground.data }, { on := 13, ground := Ground.chain }, { on := 0, ground := Ground.phase }, { on := 1, ground := Ground.phase }, { on := 2, ground := Ground.phase }, { on := 3, ground := Ground.phase }, { on := 4, ground := Ground.phase }, { on := 5, ground := Ground.phase }, { on := 6, ground := Ground.phase }, { on := 7, ground := Ground.phase }, { on := 8, ground := Ground.phase }, { on := 9, ground := Ground.phase }, { on := 10, ground := Ground.phase }, { on := 11, ground := Ground.phase }, { on := 12, ground := Ground.phase }, { on := 13, ground := Ground.phase }], guard := none } : Oper)) rfl (fun K_ hK => ?_) AllReadyH.nil
        go_simp
        refine hK.out _ _ ?_ (fun hHeld => ?_)
        · exact KS.out _ ((((HSD.out.other (show w.heap.size + 1 + 1 + 1 ≠ w.heap.size + 1 + 1 by omega) 2 _).other (show w.heap.size + 1 + 1 + 1 ≠ w.heap.size + 1 + 1 by omega) 3 _).other (show w.heap.size + 1 + 1 + 1 ≠ w.heap.size + 1 + 1 by omega) 4 _).other (show w.heap.size + 1 + 1 + 1 ≠ w.heap.size + 1 + 1 by omega) 5 _)
        clear hK K_
        try simp only [Act.put, List.setIfInBounds_toArray, List.set_cons_zero, List.set_cons_succ]
        refine wpAnyH_done (by kernel_rfl) ?_ _
        go_wp2_with fail
        have HRD : Hid (readQ (s.kind : Int) true nn d.data.toList = ⟨s.kind, (id0 : Int), v0, v1, v2, v3, 0, 0, []⟩) := by
          unfold Hid readQ
          rw [if_pos rfl, if_pos rfl, HI0.out, HID.out, HDR.out, HV0.out, HV1.out, HV2.out, HV3.out]
        rw [HRD.out]
        refine bodyPost_ret (v := .agg #[.int .i64 (s.kind : Int), .int .i64 (id0 : Int), .int .i64 v0, .int .i64 v1, .int .i64 v2, .int .i64 v3, .int .i64 0, .int .i64 0, .slice none 0 0]) (by simp [results, Tryd.results31, go_sem, r0, r1, r2, r3, r4, r5, r6, r7, r8]) rfl ⟨rfl, ?_⟩
        refine Below.drew ?_
        repeat (refine Below.setCell ?_ (by first | (simp; done) | (simp; omega)) _)
        exact hbbr
  | false =>
    have HSZ0 := hid_of3 HDS.out
    go_enter Tryd.func31, Tryd.ntmps31
    go_wp2_with fail
    obtain ⟨bs, HBS⟩ : ∃ b, Hid (d.data.toList = b) := ⟨_, (rfl : _ = _)⟩
    have HES : Hid (d.size = 2 * nn) := HDS.out
    obtain ⟨X0, HX0⟩ : ∃ W, Hid (((((w.alloc (.cells #[.int .i64 (s.kind : Int), .string s.bytes, .bool false, .int .i64 (nn : Int), .int .i64 s.low, .int .i64 s.high, .bool s.pic] 56)).alloc (.cells #[.int .i64 0, .int .i64 0, .int .i64 0, .int .i64 0, .int .i64 0, .int .i64 0, .int .i64 0, .int .i64 0, .slice none 0 0] 26)).alloc (.cells #[.int .i64 (s.kind : Int), .int .i64 0, .int .i64 0, .int .i64 0, .int .i64 0, .int .i64 0, .int .i64 0, .int .i64 0, .slice none 0 0] 26)).alloc (.cells #[.int .i64 0, .int .i64 0, .int .i64 0, .int .i64 0] 104)) = W) := ⟨_, (rfl : _ = _)⟩
    have hbz : Below w.heap.size w X0 := by rw [← HX0.out]; exact ((((Below.refl _ _).alloc (Nat.le_refl _) _).alloc (by simp) _).alloc (by simp; omega) _).alloc (by simp; omega) _
    have HSZ : Hid (X0.heap.size = w.heap.size + 4) := by unfold Hid; rw [← HX0.out]; simp
    have SL0 : Slots X0 (w.heap.size + 1 + 1 + 1) (numK bs 0) := by
      have F : Four X0 (w.heap.size + 1 + 1 + 1) (.int .i64 0) (.int .i64 0) (.int .i64 0) (.int .i64 0) := by rw [← HX0.out]; exact four_start _ _ _ _ _ 104 (w.heap.size + 1 + 1 + 1) (by simp)
      have e : ∀ j, numK bs 0 j = 0 := fun j => by unfold numK; rw [if_neg (by omega)]
      refine ⟨fun j hj => ?_, fun j hj => ?_⟩
      · rw [e]
        rcases (show j = 0 ∨ j = 1 ∨ j = 2 ∨ j = 3 by omega) with rfl | rfl | rfl | rfl
        · exact F.c0
        · exact F.c1
        · exact F.c2
        · exact F.c3
      · rcases (show j = 0 ∨ j = 1 ∨ j = 2 ∨ j = 3 by omega) with rfl | rfl | rfl | rfl
        · exact F.f0
        · exact F.f1
        · exact F.f2
        · exact F.f3
    have NO := hid_of3 (show Nine X0 (w.heap.size + 1 + 1) (.int .i64 (s.kind : Int)) (.int .i64 0) (.int .i64 0) (.int .i64 0) (.int .i64 0) (.int .i64 0) (.int .i64 0) (.int .i64 0) (.slice none 0 0) by rw [← HX0.out]; exact (nine_start _ _ _ _ _ _ _ _ _ _ 26 (w.heap.size + 1 + 1) (by simp)).alloc _)
    have NR := hid_of3 (show Nine X0 (w.heap.size + 1) (.int .i64 0) (.int .i64 0) (.int .i64 0) (.int .i64 0) (.int .i64 0) (.int .i64 0) (.int .i64 0) (.int .i64 0) (.slice none 0 0) by rw [← HX0.out]; exact ((nine_start _ _ _ _ _ _ _ _ _ _ 26 (w.heap.size + 1) (by simp)).alloc _).alloc _)
    have HSL0 := hid_of3 SL0
    rw [HX0.out]
    clear HX0 SL0
    go_loopw [7, 21] (fun _ i wr => ∃ k : Nat, k ≤ nn ∧ i = .int .i64 k ∧ Hid (Slots wr (w.heap.size + 1 + 1 + 1) (numK bs k)) ∧ Below (w.heap.size + 1 + 1 + 1) X0 wr) (fun _ i _ => nn - (intOf i).toNat)
    case atStart => exact ⟨0, by omega, rfl, HSL0, Below.refl _ _⟩
    case round =>
      obtain ⟨k, hk, rfl, HSL, hbr⟩ := hrel
      by_cases hlt : k < nn
      · have hki : (k : Int) < (nn : Int) := by omega
        have hki0 : (0 : Int) ≤ (k : Int) := by omega
        have hki4 : (k : Int) < 4 := by omega
        have hk4 : k < 4 := by omega
        obtain ⟨d0, HD0⟩ : ∃ d, Hid (bs.getD (2 * k) 0 = d) := ⟨_, (rfl : _ = _)⟩
        obtain ⟨d1, HD1⟩ : ∃ d, Hid (bs.getD (2 * k + 1) 0 = d) := ⟨_, (rfl : _ = _)⟩
        obtain ⟨m0, HM0⟩ : ∃ d, Hid (d0.toNat = d) := ⟨_, (rfl : _ = _)⟩
        obtain ⟨m1, HM1⟩ : ∃ d, Hid (d1.toNat = d) := ⟨_, (rfl : _ = _)⟩
        obtain ⟨e1, e2, hval⟩ := num_parts bs k hk4 m0 m1 (by rw [HD0.out]; exact HM0.out) (by rw [HD1.out]; exact HM1.out) (byte_le _ _ HM0) (byte_le _ _ HM1)
        have HST := hid_of3 (numK_step bs k ▸ HSL.out.set hk4 (numAt bs k))
        obtain ⟨M, HM⟩ : ∃ M, Hid (2 * k = M) := ⟨_, (rfl : _ = _)⟩
        obtain ⟨M1, HMM1⟩ : ∃ M', Hid (M + 1 = M') := ⟨_, (rfl : _ = _)⟩
        obtain ⟨V, HV⟩ : ∃ M, Hid (numAt bs k = M) := ⟨_, (rfl : _ = _)⟩
        rw [HM.out] at e1 e2
        rw [HMM1.out] at e2
        rw [HV.out] at hval HST
        have HVAL := hid_of3 hval
        clear hval
        have hx0 := nat_at d M d0 (by unfold Hid; rw [← HM.out, HBS.out]; exact HD0.out) m0 HM0
        have hx1 := nat_at d M1 d1 (by unfold Hid; rw [← HMM1.out, ← HM.out, HBS.out]; exact HD1.out) m1 HM1
        have hM : M < d.size := by have := HM.out; have := HES.out; omega
        have hM1 : M1 < d.size := by have := HMM1.out; have := HM.out; have := HES.out; omega
        have hMi : (M : Int) < (d.size : Int) := by omega
        have hMi1 : (M1 : Int) < (d.size : Int) := by omega
        have c0 := HSL.out.cell k hk4
        have f0 := HSL.out.free k hk4
        clear HD0 HD1 HM0 HM1
        go_wp2_with fail
        go_still_tail 16, (by kernel_rfl)
        go_wp2_with fail
        rw [HVAL.out]
        exact ⟨⟨k + 1, by omega, by simp, HST.out.drew, (hbr.setCell (Nat.le_refl _) _).drew⟩, by simp [intOf]; omega⟩
      · have hki : ¬ (k : Int) < (nn : Int) := by omega
        obtain rfl : nn = k := by omega
        have HSD := hid_of3 HSL.out.drew
        obtain ⟨v0, HV0⟩ : ∃ v, Hid (numK bs nn 0 = v) := ⟨_, (rfl : _ = _)⟩
        obtain ⟨v1, HV1⟩ : ∃ v, Hid (numK bs nn 1 = v) := ⟨_, (rfl : _ = _)⟩
        obtain ⟨v2, HV2⟩ : ∃ v, Hid (numK bs nn 2 = v) := ⟨_, (rfl : _ = _)⟩
        obtain ⟨v3, HV3⟩ : ∃ v, Hid (numK bs nn 3 = v) := ⟨_, (rfl : _ = _)⟩
        have KS : Hid (∀ W', Slots W' (w.heap.size + 1 + 1 + 1) (numK bs nn) → (W'.cell? ⟨w.heap.size + 1 + 1 + 1, 0, none⟩ = some (.int .i64 v0) ∧ W'.cell? ⟨w.heap.size + 1 + 1 + 1, 1, none⟩ = some (.int .i64 v1) ∧ W'.cell? ⟨w.heap.size + 1 + 1 + 1, 2, none⟩ = some (.int .i64 v2) ∧ W'.cell? ⟨w.heap.size + 1 + 1 + 1, 3, none⟩ = some (.int .i64 v3))) := fun W' h => by
          rw [← HV0.out, ← HV1.out, ← HV2.out, ← HV3.out]
          exact ⟨h.cell 0 (by omega), h.cell 1 (by omega), h.cell 2 (by omega), h.cell 3 (by omega)⟩
        obtain ⟨k0, k1, k2, k3, k4, k5, k6, k7, k8, kf0, kf1, kf2, kf3, kf4, kf5, kf6, kf7, kf8, klt⟩ := NO.out.onB hbr (by omega)
        obtain ⟨r0, r1, r2, r3, r4, r5, r6, r7, r8, rf0, rf1, rf2, rf3, rf4, rf5, rf6, rf7, rf8, rlt⟩ := NR.out.onB hbr (by omega)
        have hbbr : Below w.heap.size w wr := hbz.trans (hbr.mono (by omega))
        clear HSL
        go_wp2_with fail
        refine wp_region_held_drew (S := (fun W' => W'.cell? ⟨w.heap.size + 1 + 1 + 1, 0, none⟩ = some (.int .i64 v0) ∧ W'.cell? ⟨w.heap.size + 1 + 1 + 1, 1, none⟩ = some (.int .i64 v1) ∧ W'.cell? ⟨w.heap.size + 1 + 1 + 1, 2, none⟩ = some (.int .i64 v2) ∧ W'.cell? ⟨w.heap.size + 1 + 1 + 1, 3, none⟩ = some (.int .i64 v3))) (by kernel_rfl) ?_ (fun hHeld => ?_)
        · exact KS.out _ HSD.out
        refine wpAnyH_take (i := 0) (oi := ({ dst := some 41, op := Op.indexAddr 104 (Operand.tmp 6) (Operand.const (Value.int IntKind.i64 0)), type := 0, pos := "op.go:174", after := #[], guard := none } : Oper)) (v := ?_) rfl (by kernel_rfl) (by kernel_rfl) (by kernel_rfl) (fun _ _ _ h => h) (Or.inl ⟨by rfl, ?_⟩) (by assumption) ?_
        rotate_left
        · (intro w hSw; (try dsimp only at hSw); go_simp; try with_reducible rfl)
        try simp only [Act.put, List.setIfInBounds_toArray, List.set_cons_zero, List.set_cons_succ]
        refine wpAnyH_take (i := 1) (oi := ({ dst := some 42, op := Op.load 3 (Operand.tmp 41), type := 3, pos := "op.go:174", after := #[{ on := 0, ground := Ground.data }], guard := none } : Oper)) (v := ?_) rfl (by kernel_rfl) (by kernel_rfl) (by kernel_rfl) (fun _ _ _ h => h) (Or.inl ⟨by rfl, ?_⟩) (by assumption) ?_
        rotate_left
        · (intro w hSw; (try dsimp only at hSw); go_simp; try with_reducible rfl)
        try simp only [Act.put, List.setIfInBounds_toArray, List.set_cons_zero, List.set_cons_succ]
        refine wpAnyH_take (i := 2) (oi := ({ dst := some 43, op := Op.indexAddr 104 (Operand.tmp 6) (Operand.const (Value.int IntKind.i64 1)), type := 0, pos := "op.go:174", after := #[{ on := 9, ground := Ground.gcOnly Departure.lateStores }], guard := none } : Oper)) (v := ?_) rfl (by kernel_rfl) (by kernel_rfl) (by kernel_rfl) (fun _ _ _ h => h) (Or.inl ⟨by rfl, ?_⟩) (by assumption) ?_
        rotate_left
        · (intro w hSw; (try dsimp only at hSw); go_simp; try with_reducible rfl)
        try simp only [Act.put, List.setIfInBounds_toArray, List.set_cons_zero, List.set_cons_succ]
        refine wpAnyH_take (i := 3) (oi := ({ dst := some 44, op := Op.load 3 (Operand.tmp 43), type := 3, pos := "op.go:174", after := #[{ on := 2, ground := Ground.data }, { on := 9, ground := Ground.gcOnly Departure.lateStores }], guard := none } : Oper)) (v := ?_) rfl (by kernel_rfl) (by kernel_rfl) (by kernel_rfl) (fun _ _ _ h => h) (Or.inl ⟨by rfl, ?_⟩) (by assumption) ?_
        rotate_left
        · (intro w hSw; (try dsimp only at hSw); go_simp; try with_reducible rfl)
        try simp only [Act.put, List.setIfInBounds_toArray, List.set_cons_zero, List.set_cons_succ]
        refine wpAnyH_take (i := 4) (oi := ({ dst := some 45, op := Op.indexAddr 104 (Operand.tmp 6) (Operand.const (Value.int IntKind.i64 2)), type := 0, pos := "op.go:174", after := #[{ on := 11, ground := Ground.gcOnly Departure.lateStores }], guard := none } : Oper)) (v := ?_) rfl (by kernel_rfl) (by kernel_rfl) (by kernel_rfl) (fun _ _ _ h => h) (Or.inl ⟨by rfl, ?_⟩) (by assumption) ?_
        rotate_left
        · (intro w hSw; (try dsimp only at hSw); go_simp; try with_reducible rfl)
        try simp only [Act.put, List.setIfInBounds_toArray, List.set_cons_zero, List.set_cons_succ]
        refine wpAnyH_take (i := 5) (oi := ({ dst := some 46, op := Op.load 3 (Operand.tmp 45), type := 3, pos := "op.go:174", after := #[{ on := 4, ground := Ground.data }, { on := 11, ground := Ground.gcOnly Departure.lateStores }], guard := none } : Oper)) (v := ?_) rfl (by kernel_rfl) (by kernel_rfl) (by kernel_rfl) (fun _ _ _ h => h) (Or.inl ⟨by rfl, ?_⟩) (by assumption) ?_
        rotate_left
        · (intro w hSw; (try dsimp only at hSw); go_simp; try with_reducible rfl)
        try simp only [Act.put, List.setIfInBounds_toArray, List.set_cons_zero, List.set_cons_succ]
        refine wpAnyH_take (i := 6) (oi := ({ dst := some 47, op := Op.indexAddr 104 (Operand.tmp 6) (Operand.const (Value.int IntKind.i64 3)), type := 0, pos := "op.go:174", after := #[{ on := 13, ground := Ground.gcOnly Departure.lateStores }], guard := none } : Oper)) (v := ?_) rfl (by kernel_rfl) (by kernel_rfl) (by kernel_rfl) (fun _ _ _ h => h) (Or.inl ⟨by rfl, ?_⟩) (by assumption) ?_
        rotate_left
        · (intro w hSw; (try dsimp only at hSw); go_simp; try with_reducible rfl)
        try simp only [Act.put, List.setIfInBounds_toArray, List.set_cons_zero, List.set_cons_succ]
        refine wpAnyH_take (i := 7) (oi := ({ dst := some 48, op := Op.load 3 (Operand.tmp 47), type := 3, pos := "op.go:174", after := #[{ on := 6, ground := Ground.data }, { on := 13, ground := Ground.gcOnly Departure.lateStores }], guard := none } : Oper)) (v := ?_) rfl (by kernel_rfl) (by kernel_rfl) (by kernel_rfl) (fun _ _ _ h => h) (Or.inl ⟨by rfl, ?_⟩) (by assumption) ?_
        rotate_left
        · (intro w hSw; (try dsimp only at hSw); go_simp; try with_reducible rfl)
        try simp only [Act.put, List.setIfInBounds_toArray, List.set_cons_zero, List.set_cons_succ]
        refine wpAnyH_take (i := 8) (oi := ({ dst := some 49, op := Op.fieldAddr 26 (Operand.tmp 5) 2, type := 0, pos := "op.go:174", after := #[{ on := 0, ground := Ground.phase }, { on := 1, ground := Ground.phase }, { on := 2, ground := Ground.textOnly Departure.lateStores }, { on := 3, ground := Ground.textOnly Departure.lateStores }, { on := 4, ground := Ground.textOnly Departure.lateStores }, { on := 5, ground := Ground.textOnly Departure.lateStores }, { on := 6, ground := Ground.textOnly Departure.lateStores }, { on := 7, ground := Ground.textOnly Departure.lateStores }], guard := none } : Oper)) (v := ?_) rfl (by kernel_rfl) (by kernel_rfl) (by kernel_rfl) (fun _ _ _ h => h) (Or.inl ⟨by rfl, ?_⟩) (by assumption) ?_
        rotate_left
        · (intro w hSw; (try dsimp only at hSw); go_simp; try with_reducible rfl)
        try simp only [Act.put, List.setIfInBounds_toArray, List.set_cons_zero, List.set_cons_succ]
        refine wpAnyH_ready (rs := [9]) (by kernel_rfl) (by simp) ?_
        refine AllReadyH.cons (o := ({ dst := none, op := Op.store 3 (Operand.tmp 49) (Operand.tmp 42), type := 0, pos := "op.go:174", after := #[{ on := 8, ground := Ground.data }, { on := 1, ground := Ground.data }, { on := 0, ground := Ground.phase }, { on := 1, ground := Ground.phase }, { on := 2, ground := Ground.textOnly Departure.lateStores }, { on := 3, ground := Ground.textOnly Departure.lateStores }, { on := 4, ground := Ground.textOnly Departure.lateStores }, { on := 5, ground := Ground.textOnly Departure.lateStores }, { on := 6, ground := Ground.textOnly Departure.lateStores }, { on := 7, ground := Ground.textOnly Departure.lateStores }], guard := none } : Oper)) rfl (fun K_ hK => ?_) AllReadyH.nil
        go_simp
        refine hK.out _ _ ?_ (fun hHeld => ?_)
        · exact KS.out _ (HSD.out.other (show w.heap.size + 1 + 1 + 1 ≠ w.heap.size + 1 + 1 by omega) 2 _)
        clear hK K_
        try simp only [Act.put, List.setIfInBounds_toArray, List.set_cons_zero, List.set_cons_succ]
        refine wpAnyH_take (i := 10) (oi := ({ dst := some 50, op := Op.fieldAddr 26 (Operand.tmp 5) 3, type := 0, pos := "op.go:174", after := #[{ on := 0, ground := Ground.phase }, { on := 1, ground := Ground.phase }, { on := 2, ground := Ground.phase }, { on := 3, ground := Ground.phase }, { on := 4, ground := Ground.textOnly Departure.lateStores }, { on := 5, ground := Ground.textOnly Departure.lateStores }, { on := 6, ground := Ground.textOnly Departure.lateStores }, { on := 7, ground := Ground.textOnly Departure.lateStores }, { on := 8, ground := Ground.phase }, { on := 9, ground := Ground.phase }], guard := none } : Oper)) (v := ?_) rfl (by kernel_rfl) (by kernel_rfl) (by kernel_rfl) (fun _ _ _ h => h) (Or.inl ⟨by rfl, ?_⟩) (by assumption) ?_
        rotate_left
        · (intro w hSw; (try dsimp only at hSw); go_simp; try with_reducible rfl)
        try simp only [Act.put, List.setIfInBounds_toArray, List.set_cons_zero, List.set_cons_succ]
        refine wpAnyH_ready (rs := [11]) (by kernel_rfl) (by simp) ?_
        refine AllReadyH.cons (o := ({ dst := none, op := Op.store 3 (Operand.tmp 50) (Operand.tmp 44), type := 0, pos := "op.go:174", after := #[{ on := 10, ground := Ground.data }, { on := 3, ground := Ground.data }, { on := 9, ground := Ground.chain }, { on := 0, ground := Ground.phase }, { on := 1, ground := Ground.phase }, { on := 2, ground := Ground.phase }, { on := 3, ground := Ground.phase }, { on := 4, ground := Ground.textOnly Departure.lateStores }, { on := 5, ground := Ground.textOnly Departure.lateStores }, { on := 6, ground := Ground.textOnly Departure.lateStores }, { on := 7, ground := Ground.textOnly Departure.lateStores }, { on := 8, ground := Ground.phase }, { on := 9, ground := Ground.phase }], guard := none } : Oper)) rfl (fun K_ hK => ?_) AllReadyH.nil
        go_simp
        refine hK.out _ _ ?_ (fun hHeld => ?_)
        · exact KS.out _ ((HSD.out.other (show w.heap.size + 1 + 1 + 1 ≠ w.heap.size + 1 + 1 by omega) 2 _).other (show w.heap.size + 1 + 1 + 1 ≠ w.heap.size + 1 + 1 by omega) 3 _)
        clear hK K_
        try simp only [Act.put, List.setIfInBounds_toArray, List.set_cons_zero, List.set_cons_succ]
        refine wpAnyH_take (i := 12) (oi := ({ dst := some 51, op := Op.fieldAddr 26 (Operand.tmp 5) 4, type := 0, pos := "op.go:174", after := #[{ on := 0, ground := Ground.phase }, { on := 1, ground := Ground.phase }, { on := 2, ground := Ground.phase }, { on := 3, ground := Ground.phase }, { on := 4, ground := Ground.phase }, { on := 5, ground := Ground.phase }, { on := 6, ground := Ground.textOnly Departure.lateStores }, { on := 7, ground := Ground.textOnly Departure.lateStores }, { on := 8, ground := Ground.phase }, { on := 9, ground := Ground.phase }, { on := 10, ground := Ground.phase }, { on := 11, ground := Ground.phase }], guard := none } : Oper)) (v := ?_) rfl (by kernel_rfl) (by kernel_rfl) (by kernel_rfl) (fun _ _ _ h => h) (Or.inl ⟨by rfl, ?_⟩) (by assumption) ?_
        rotate_left
        · (intro w hSw; (try dsimp only at hSw); go_simp; try with_reducible rfl)
        try simp only [Act.put, List.setIfInBounds_toArray, List.set_cons_zero, List.set_cons_succ]
        refine wpAnyH_ready (rs := [13]) (by kernel_rfl) (by simp) ?_
        refine AllReadyH.cons (o := ({ dst := none, op := Op.store 3 (Operand.tmp 51) (Operand.tmp 46), type := 0, pos := "op.go:174", after := #[{ on := 12, ground := Ground.data }, { on := 5, ground := Ground.data }, { on := 11, ground := Ground.chain }, { on := 0, ground := Ground.phase }, { on := 1, ground := Ground.phase }, { on := 2, ground := Ground.phase }, { on := 3, ground := Ground.phase }, { on := 4, ground := Ground.phase }, { on := 5, ground := Ground.phase }, { on := 6, ground := Ground.textOnly Departure.lateStores }, { on := 7, ground := Ground.textOnly Departure.lateStores }, { on := 8, ground := Ground.phase }, { on := 9, ground := Ground.phase }, { on := 10, ground := Ground.phase }, { on := 11, ground := Ground.phase }], guard := none } : Oper)) rfl (fun K_ hK => ?_) AllReadyH.nil
        go_simp
        refine hK.out _ _ ?_ (fun hHeld => ?_)
        · exact KS.out _ (((HSD.out.other (show w.heap.size + 1 + 1 + 1 ≠ w.heap.size + 1 + 1 by omega) 2 _).other (show w.heap.size + 1 + 1 + 1 ≠ w.heap.size + 1 + 1 by omega) 3 _).other (show w.heap.size + 1 + 1 + 1 ≠ w.heap.size + 1 + 1 by omega) 4 _)
        clear hK K_
        try simp only [Act.put, List.setIfInBounds_toArray, List.set_cons_zero, List.set_cons_succ]
        refine wpAnyH_take (i := 14) (oi := ({ dst := some 52, op := Op.fieldAddr 26 (Operand.tmp 5) 5, type := 0, pos := "op.go:174", after := #[{ on := 0, ground := Ground.phase }, { on := 1, ground := Ground.phase }, { on := 2, ground := Ground.phase }, { on := 3, ground := Ground.phase }, { on := 4, ground := Ground.phase }, { on := 5, ground := Ground.phase }, { on := 6, ground := Ground.phase }, { on := 7, ground := Ground.phase }, { on := 8, ground := Ground.phase }, { on := 9, ground := Ground.phase }, { on := 10, ground := Ground.phase }, { on := 11, ground := Ground.phase }, { on := 12, ground := Ground.phase }, { on := 13, ground := Ground.phase }], guard := none } : Oper)) (v := ?_) rfl (by kernel_rfl) (by kernel_rfl) (by kernel_rfl) (fun _ _ _ h => h) (Or.inl ⟨by rfl, ?_⟩) (by assumption) ?_
        rotate_left
        · (intro w hSw; (try dsimp only at hSw); go_simp; try with_reducible rfl)
        try simp only [Act.put, List.setIfInBounds_toArray, List.set_cons_zero, List.set_cons_succ]
        refine wpAnyH_ready (rs := [15]) (by kernel_rfl) (by simp) ?_
        refine AllReadyH.cons (o := ({ dst := none, op := Op.store 3 (Operand.tmp 52) (Operand.tmp 48), type := 0, pos := "op.go:174", after := #[{ on := 14, ground := Ground.data }, { on := 7, ground := Ground.data }, { on := 13, ground := Ground.chain }, { on := 0, ground := Ground.phase }, { on := 1, ground := Ground.phase }, { on := 2, ground := Ground.phase }, { on := 3, ground := Ground.phase }, { on := 4, ground := Ground.phase }, { on := 5, ground := Ground.phase }, { on := 6, ground := Ground.phase }, { on := 7, ground := Ground.phase }, { on := 8, ground := Ground.phase }, { on := 9, ground := Ground.phase }, { on := 10, ground := Ground.phase }, { on := 11, ground := Ground.phase }, { on := 12, ground := Ground.phase }, { on := 13, ground := Ground.phase }], guard := none } : Oper)) rfl (fun K_ hK => ?_) AllReadyH.nil
        go_simp
        refine hK.out _ _ ?_ (fun hHeld => ?_)
        · exact KS.out _ ((((HSD.out.other (show w.heap.size + 1 + 1 + 1 ≠ w.heap.size + 1 + 1 by omega) 2 _).other (show w.heap.size + 1 + 1 + 1 ≠ w.heap.size + 1 + 1 by omega) 3 _).other (show w.heap.size + 1 + 1 + 1 ≠ w.heap.size + 1 + 1 by omega) 4 _).other (show w.heap.size + 1 + 1 + 1 ≠ w.heap.size + 1 + 1 by omega) 5 _)
        clear hK K_
        try simp only [Act.put, List.setIfInBounds_toArray, List.set_cons_zero, List.set_cons_succ]
        refine wpAnyH_done (by kernel_rfl) ?_ _
        go_wp2_with fail
        have HRD : Hid (readQ (s.kind : Int) false nn d.data.toList = ⟨s.kind, 0, v0, v1, v2, v3, 0, 0, []⟩) := by
          unfold Hid readQ
          rw [if_neg (by decide), if_neg (by decide), HBS.out, HV0.out, HV1.out, HV2.out, HV3.out]
        rw [HRD.out]
        refine bodyPost_ret (v := .agg #[.int .i64 (s.kind : Int), .int .i64 0, .int .i64 v0, .int .i64 v1, .int .i64 v2, .int .i64 v3, .int .i64 0, .int .i64 0, .slice none 0 0]) (by simp [results, Tryd.results31, go_sem, r0, r1, r2, r3, r4, r5, r6, r7, r8]) rfl ⟨rfl, ?_⟩
        refine Below.drew ?_
        repeat (refine Below.setCell ?_ (by first | (simp; done) | (simp; omega)) _)
        exact hbbr
end Go.Proofs.YtfhfedcamcpceaaDoor
