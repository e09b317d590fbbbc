/- Some of the walks, in one text. -/
import Derived.Test.YtceabiodelfdoaaDoorM10
import Derived.Maps.AppendAt
/- Walk: the reference's OpChunk. -- s1 -/
namespace Go.Proofs.YtceabiodelfdoaaDoor
open Go.RowKit

theorem heap_new2 (W : World) (o : Obj) (g : Nat) (hg : W.heap.size = g) : (W.alloc o).heap[g]? = some o := by
  subst hg
  show (W.heap.push o)[W.heap.size]? = some o
  simp
/-- what the reference's OpChunk answers -/
def RckP (q : Pq) (w : World) (e : Ending) (w' : World) : Prop :=
  Below w.heap.size w w' ∧ ((∃ c, opC q = c ∧ c ≠ 0 ∧ e = .returned (.tuple #[.string ⟨#[]⟩, .string ⟨#[]⟩, .int .i64 (c : Int)])) ∨
    (opC q = 0 ∧ ∃ s, kindAt q.kind shps = some s ∧ e = .returned (.tuple #[.string s.bytes, str (opB q s.id s.nums s.pic), .int .i64 0])))
set_option maxHeartbeats 8000000 in
set_option maxRecDepth 100000 in
theorem refChunk_any (q : Pq) (u : Value) (w : World) (HM : Hid (RefNames w)) (HU : Hid (RdP w u q.ps)) (hps : q.ps.length ≤ 1000000000) :
    Calls Tryd.prog 21 #[opV q u] w fun e w' => RckP q w e w' := by
  obtain ⟨ap, cp, hv, hl0, hcp, -⟩ := HU.out
  obtain ⟨np, HNP⟩ : ∃ n, Hid (q.ps.length = n) := ⟨_, (rfl : _ = _)⟩
  rw [HNP.out] at hv hl0
  subst hv
  obtain ⟨X0, HX0⟩ : ∃ X0, Hid (w.alloc (.cells #[.int .i64 q.kind, .int .i64 q.id, .int .i64 q.a, .int .i64 q.b, .int .i64 q.c, .int .i64 q.d, .int .i64 q.pw, .int .i64 q.ph, .slice ap np cp] 45) = X0) := ⟨_, (rfl : _ = _)⟩
  have hbz : Below w.heap.size w X0 := by rw [← HX0.out]; exact (Below.refl _ _).alloc (Nat.le_refl _) _
  have N0 : Hid (Nine X0 w.heap.size (.int .i64 q.kind) (.int .i64 q.id) (.int .i64 q.a) (.int .i64 q.b) (.int .i64 q.c) (.int .i64 q.d) (.int .i64 q.pw) (.int .i64 q.ph) (.slice ap np cp)) := by rw [← HX0.out]; exact nine_start w _ _ _ _ _ _ _ _ _ 45 w.heap.size rfl
  have HU0 : Hid (RdP X0 (.slice ap np cp) q.ps) := HU.out.on hbz
  have hof := opf_any q (.slice ap np cp) X0 hps HU0
  unfold OpfP at hof
  obtain ⟨c, HC⟩ : ∃ c, Hid (opC q = c) := ⟨_, (rfl : _ = _)⟩
  rw [rf_eq, HC.out] at hof
  unfold opV at hof ⊢
  obtain ⟨m0, m1, m2, m3, m4, m5, m6, m7, m8, -, -, -, -, -, -, -, -, -, -⟩ := N0.out
  go_enter Tryd.func21, Tryd.ntmps21
  go_wp2_with fail
  rw [HX0.out]
  refine hof.mono ?_
  clear hof m0 m1 m2 m3 m4 m5 m6 m7 m8
  rintro e w1 ⟨rfl, hb1⟩
  have hbb1 := hbz.trans (hb1.mono hbz.size)
  have N1 := hid_of3 (N0.out.on hb1)
  clear hbz hb1 N0 HU0 HX0
  by_cases hc : c = 0
  case neg =>
    have hcp : (0 : Int) < (c : Int) := by omega
    go_wp2_with fail
    refine bodyPost_ret (v := .tuple #[.string ⟨#[]⟩, .string ⟨#[]⟩, .int .i64 (c : Int)]) (by simp [results, Tryd.results21, go_sem]) rfl ⟨hbb1, .inl ⟨c, HC.out, hc, rfl⟩⟩
  subst hc
  have hcp : ¬ (0 : Int) < ((0 : Nat) : Int) := by omega
  obtain ⟨s, hs⟩ := opC_some HC.out
  have HK := hid_of3 hs
  have HOK := hid_of3 (opC_ok HC.out hs)
  obtain ⟨hs1, hs2⟩ := shps_ok s (kindAt_mem _ _ _ hs).1
  clear hs
  obtain ⟨m0, m1, m2, m3, m4, m5, m6, m7, m8, -, -, -, -, -, -, -, -, -, mlt⟩ := N1.out
  go_wp2_with fail
  refine (parts_at q.kind s HK.out w1).mono ?_
  rintro e wx ⟨rfl, rfl⟩
  have hwid : s.id = true → IntKind.u8.wrap q.id = q.id ∧ Hid (((UInt8.ofNat q.id.toNat).toNat : Int) = q.id) := fun h => by
    obtain ⟨i1, i2⟩ := HOK.out.id h
    refine ⟨by rw [IntKind.wrap_u8]; omega, ?_⟩
    unfold Hid
    rw [u8_toNat _ (by omega)]
    omega
  have HWID := hid_of3 hwid
  clear hwid
  obtain ⟨nn, HNN⟩ : ∃ n, Hid (s.nums = n) := ⟨_, (rfl : _ = _)⟩
  have hn4 : nn ≤ 4 := by rw [← HNN.out]; exact hs1
  obtain ⟨fid, HFID⟩ : ∃ b, Hid (s.id = b) := ⟨_, (rfl : _ = _)⟩
  obtain ⟨fpc, HFPC⟩ : ∃ b, Hid (s.pic = b) := ⟨_, (rfl : _ = _)⟩
  rw [HNN.out, HFID.out, HFPC.out]
  cases fid with
  | true =>
    obtain ⟨hw1, HW2⟩ := HWID.out HFID.out
    have hcv := run_one1 (wx.alloc (.cells #[.int .u8 q.id] 5)) wx.heap.size q.id (UInt8.ofNat q.id.toNat) HW2 (by simp)
    go_wp2_with fail
    clear m0 m1 m2 m3 m4 m5 m6 m7 m8
    obtain ⟨W9, HW9⟩ : ∃ W, Hid ((wx.alloc (.cells #[.int .u8 q.id] 5)).alloc (.cells #[.int .i64 q.a, .int .i64 q.b, .int .i64 q.c, .int .i64 q.d] 3) = W) := ⟨_, (rfl : _ = _)⟩
    have hb9 : Below wx.heap.size wx W9 := by rw [← HW9.out]; exact ((Below.refl _ _).alloc (Nat.le_refl _) _).alloc (by simp) _
    have N9 := hid_of3 (N1.out.on hb9)
    have hbb9 := hbb1.trans (hb9.mono hbb1.size)
    have HR9 : Hid (RdI W9 (.slice (some ⟨(wx.heap.size + 1), 0, none⟩) 4 4) ((nums4 q).take 4)) := four_take q (by rw [← HW9.out]; exact heap_new2 _ _ _ (by simp)) 4 (Nat.le_refl _)
    rw [HW9.out]
    obtain ⟨g, HGG⟩ : ∃ g, Hid ((wx.heap.size + 1) = g) := ⟨_, (rfl : _ = _)⟩
    rw [HGG.out] at HR9 ⊢
    obtain ⟨t0, HT0⟩ : ∃ t, Hid ((⟨#[UInt8.ofNat q.id.toNat]⟩ : ByteArray) = t) := ⟨_, (rfl : _ = _)⟩
    have HL0 : Hid (t0.data.toList = idB q.id s.id) := by unfold Hid; rw [← HT0.out, HFID.out]; rfl
    rw [HT0.out]
    clear HW9 HGG HT0 hb9 mlt
    go_loopw [9, 11] (fun z i wr => ∃ (k : Nat) (t : ByteArray), k ≤ nn ∧ i = .int .i64 k ∧ z = .string t ∧ Hid (t.data.toList = idB q.id s.id ++ nsB ((nums4 q).take k)) ∧ Below W9.heap.size W9 wr) (fun _ i _ => nn - (intOf i).toNat)
    case atStart => exact ⟨0, t0, by omega, rfl, rfl, by unfold Hid; rw [HL0.out]; simp [nsB], Below.refl _ _⟩
    case round =>
      obtain ⟨k, t, hk, rfl, rfl, HT, hbr⟩ := hrel
      by_cases hlt : k < nn
      · have hki : (k : Int) < (nn : Int) := by omega
        have hki0 : (0 : Int) ≤ (k : Int) := by omega
        have hki4 : (k : Int) < 4 := by omega
        have hk4 : k < 4 := by omega
        obtain ⟨x, HX⟩ : ∃ x, Hid ((nums4 q).getD k 0 = x) := ⟨_, (rfl : _ = _)⟩
        obtain ⟨gg, po, hag, hgl, hcx⟩ := (HR9.out.on hbr).at (k := k) hk4 (show Hid (((nums4 q).take 4).length = 4) from rfl) (show Hid (((nums4 q).take 4).getD k 0 = x) from HX)
        simp only [Option.some.injEq, Addr.mk.injEq, and_true] at hag
        obtain ⟨rfl, rfl⟩ := hag
        have hxm : x ∈ (nums4 q).take s.nums := by
          have h := four_get q s.nums k (by rw [HNN.out]; exact hlt) hs1
          rw [HX.out] at h
          exact List.mem_of_getElem? h
        obtain ⟨hx1, hx2⟩ := HOK.out.num x hxm
        obtain ⟨N, n0, n1, hn0, hn1, hwx, ee1, ee2, ee3, hnb⟩ := two_parts x hx1 hx2
        rw [Nat.zero_add] at hcx
        have HA : Hid (((UInt8.ofNat n0).toNat : Int) = (n0 : Int)) := by unfold Hid; rw [u8_toNat n0 hn0]
        have HB : Hid (((UInt8.ofNat n1).toNat : Int) = (n1 : Int)) := by unfold Hid; rw [u8_toNat n1 hn1]
        have hcv := run_pair2 (wr.alloc (.cells #[.int .u8 (n0 : Int), .int .u8 (n1 : Int)] 5)).drew wr.heap.size (n0 : Int) (n1 : Int) (UInt8.ofNat n0) (UInt8.ofNat n1) HA HB (by show (wr.alloc _).cell? _ = _; simp) (by show (wr.alloc _).cell? _ = _; simp)
        have hts : t.size ≤ 100 := by
          have h1 : t.data.toList.length = t.size := by simp
          have h2 := idB_len q.id s.id
          rw [HT.out, List.length_append, nsB_len, List.length_take] at h1
          have h3 : (nums4 q).length = 4 := rfl
          omega
        have hts2 : ¬ 9223372036854775807 < t.size + 2 := by omega
        have HT2 : Hid ((t ++ (⟨#[UInt8.ofNat n0, UInt8.ofNat n1]⟩ : ByteArray)).data.toList = idB q.id s.id ++ nsB ((nums4 q).take (k + 1))) := by
          unfold Hid
          rw [add_two, HT.out, take_nsB (by exact hk4) HX.out, hnb, List.append_assoc]
        have eu0 : IntKind.u8.wrap (n0 : Int) = (n0 : Int) := by rw [IntKind.wrap_u8]; omega
        have eu1 : IntKind.u8.wrap (n1 : Int) = (n1 : Int) := by rw [IntKind.wrap_u8]; omega
        have ei1 : IntKind.i64.wrap ((N : Int) / 256) = (n1 : Int) := by rw [IntKind.wrap_i64]; unfold wrap64 at ee2; exact ee2
        clear hxm hx1 hx2 hnb hn0 hn1
        have hcx9 := hcx
        have ed1 : (N : Int).tmod 256 = (n0 : Int) := by rw [Int.tmod_eq_emod_of_nonneg (by omega)]; exact ee1
        have ed2 : (N : Int).tdiv 256 = (N : Int) / 256 := Int.tdiv_eq_ediv_of_nonneg (by omega)
        go_upto_region 12 with fail
        refine wp_region_held_drew (S := (fun w' => w'.cell? ⟨g, k, none⟩ = some (.int .i64 x))) (by kernel_rfl) ?_ (fun hHeld => ?_)
        · exact hcx9
        refine wpAnyH_take (i := 0) (oi := ({ dst := some 46, op := Op.move (Operand.tmp 9), type := 9, pos := "parts.go:583", after := #[], guard := none } : Oper)) (v := ?_) rfl (by kernel_rfl) (by kernel_rfl) (by kernel_rfl) (fun _ _ _ h => h) (Or.inl ⟨by rfl, ?_⟩) (by assumption) ?_
        rotate_left
        · (intro w hSw; (try dsimp only at hSw); go_simp; try with_reducible rfl)
        try simp only [Act.put, List.setIfInBounds_toArray, List.set_cons_zero, List.set_cons_succ]
        refine wpAnyH_take (i := 1) (oi := ({ dst := some 47, op := Op.move (Operand.tmp 10), type := 78, pos := "parts.go:583", after := #[], guard := none } : Oper)) (v := ?_) rfl (by kernel_rfl) (by kernel_rfl) (by kernel_rfl) (fun _ _ _ h => h) (Or.inl ⟨by rfl, ?_⟩) (by assumption) ?_
        rotate_left
        · (intro w hSw; (try dsimp only at hSw); go_simp; try with_reducible rfl)
        try simp only [Act.put, List.setIfInBounds_toArray, List.set_cons_zero, List.set_cons_succ]
        refine wpAnyH_take (i := 2) (oi := ({ dst := some 48, op := Op.move (Operand.tmp 11), type := 3, pos := "parts.go:583", after := #[], guard := none } : Oper)) (v := ?_) rfl (by kernel_rfl) (by kernel_rfl) (by kernel_rfl) (fun _ _ _ h => h) (Or.inl ⟨by rfl, ?_⟩) (by assumption) ?_
        rotate_left
        · (intro w hSw; (try dsimp only at hSw); go_simp; try with_reducible rfl)
        try simp only [Act.put, List.setIfInBounds_toArray, List.set_cons_zero, List.set_cons_succ]
        refine wpAnyH_take (i := 3) (oi := ({ dst := some 49, op := Op.indexAddr 78 (Operand.tmp 47) (Operand.tmp 48), type := 0, pos := "parts.go:583", after := #[{ on := 1, ground := Ground.data }, { on := 2, ground := Ground.data }], guard := none } : Oper)) (v := ?_) rfl (by kernel_rfl) (by kernel_rfl) (by kernel_rfl) (fun _ _ _ h => h) (Or.inl ⟨by rfl, ?_⟩) (by assumption) ?_
        rotate_left
        · (intro w hSw; (try dsimp only at hSw); go_simp; try with_reducible rfl)
        try simp only [Act.put, List.setIfInBounds_toArray, List.set_cons_zero, List.set_cons_succ]
        refine wpAnyH_take (i := 4) (oi := ({ dst := some 50, op := Op.load 3 (Operand.tmp 49), type := 3, pos := "parts.go:583", after := #[{ on := 3, ground := Ground.data }], guard := none } : Oper)) (v := ?_) rfl (by kernel_rfl) (by kernel_rfl) (by kernel_rfl) (fun _ _ _ h => h) (Or.inl ⟨by rfl, ?_⟩) (by assumption) ?_
        rotate_left
        · (intro w hSw; (try dsimp only at hSw); go_simp; try with_reducible rfl)
        try simp only [Act.put, List.setIfInBounds_toArray, List.set_cons_zero, List.set_cons_succ]
        refine wpAnyH_take (i := 5) (oi := ({ dst := some 51, op := Op.binOp BinOp.add 3 (Operand.tmp 50) (Operand.const (Value.int IntKind.i64 128)) 3, type := 3, pos := "parts.go:583", after := #[{ on := 4, ground := Ground.data }], guard := none } : Oper)) (v := ?_) rfl (by kernel_rfl) (by kernel_rfl) (by kernel_rfl) (fun _ _ _ h => h) (Or.inl ⟨by rfl, ?_⟩) (by assumption) ?_
        rotate_left
        · (intro w hSw; (try dsimp only at hSw); go_simp; try with_reducible rfl)
        try simp only [Act.put, List.setIfInBounds_toArray, List.set_cons_zero, List.set_cons_succ]
        refine wpAnyH_take (i := 6) (oi := ({ dst := some 52, op := Op.binOp BinOp.rem 3 (Operand.tmp 51) (Operand.const (Value.int IntKind.i64 256)) 3, type := 3, pos := "parts.go:583", after := #[{ on := 5, ground := Ground.data }], guard := none } : Oper)) (v := ?_) rfl (by kernel_rfl) (by kernel_rfl) (by kernel_rfl) (fun _ _ _ h => h) (Or.inl ⟨by rfl, ?_⟩) (by assumption) ?_
        rotate_left
        · (intro w hSw; (try dsimp only at hSw); go_simp; try with_reducible rfl)
        try simp only [Act.put, List.setIfInBounds_toArray, List.set_cons_zero, List.set_cons_succ]
        refine wpAnyH_take (i := 7) (oi := ({ dst := some 53, op := Op.convert 3 5 (Operand.tmp 52), type := 5, pos := "parts.go:583", after := #[{ on := 6, ground := Ground.data }], guard := none } : Oper)) (v := ?_) rfl (by kernel_rfl) (by kernel_rfl) (by kernel_rfl) (fun _ _ _ h => h) (Or.inl ⟨by rfl, ?_⟩) (by assumption) ?_
        rotate_left
        · (intro w hSw; (try dsimp only at hSw); go_simp; try with_reducible rfl)
        try simp only [Act.put, List.setIfInBounds_toArray, List.set_cons_zero, List.set_cons_succ]
        refine wpAnyH_take (i := 8) (oi := ({ dst := some 54, op := Op.move (Operand.tmp 10), type := 78, pos := "parts.go:583", after := #[], guard := none } : Oper)) (v := ?_) rfl (by kernel_rfl) (by kernel_rfl) (by kernel_rfl) (fun _ _ _ h => h) (Or.inl ⟨by rfl, ?_⟩) (by assumption) ?_
        rotate_left
        · (intro w hSw; (try dsimp only at hSw); go_simp; try with_reducible rfl)
        try simp only [Act.put, List.setIfInBounds_toArray, List.set_cons_zero, List.set_cons_succ]
        refine wpAnyH_take (i := 9) (oi := ({ dst := some 55, op := Op.move (Operand.tmp 11), type := 3, pos := "parts.go:583", after := #[], guard := none } : Oper)) (v := ?_) rfl (by kernel_rfl) (by kernel_rfl) (by kernel_rfl) (fun _ _ _ h => h) (Or.inl ⟨by rfl, ?_⟩) (by assumption) ?_
        rotate_left
        · (intro w hSw; (try dsimp only at hSw); go_simp; try with_reducible rfl)
        try simp only [Act.put, List.setIfInBounds_toArray, List.set_cons_zero, List.set_cons_succ]
        refine wpAnyH_take (i := 10) (oi := ({ dst := some 56, op := Op.indexAddr 78 (Operand.tmp 54) (Operand.tmp 55), type := 0, pos := "parts.go:583", after := #[{ on := 8, ground := Ground.data }, { on := 9, ground := Ground.data }], guard := none } : Oper)) (v := ?_) rfl (by kernel_rfl) (by kernel_rfl) (by kernel_rfl) (fun _ _ _ h => h) (Or.inl ⟨by rfl, ?_⟩) (by assumption) ?_
        rotate_left
        · (intro w hSw; (try dsimp only at hSw); go_simp; try with_reducible rfl)
        try simp only [Act.put, List.setIfInBounds_toArray, List.set_cons_zero, List.set_cons_succ]
        refine wpAnyH_take (i := 11) (oi := ({ dst := some 57, op := Op.load 3 (Operand.tmp 56), type := 3, pos := "parts.go:583", after := #[{ on := 10, ground := Ground.data }], guard := none } : Oper)) (v := ?_) rfl (by kernel_rfl) (by kernel_rfl) (by kernel_rfl) (fun _ _ _ h => h) (Or.inl ⟨by rfl, ?_⟩) (by assumption) ?_
        rotate_left
        · (intro w hSw; (try dsimp only at hSw); go_simp; try with_reducible rfl)
        try simp only [Act.put, List.setIfInBounds_toArray, List.set_cons_zero, List.set_cons_succ]
        refine wpAnyH_take (i := 12) (oi := ({ dst := some 58, op := Op.binOp BinOp.add 3 (Operand.tmp 57) (Operand.const (Value.int IntKind.i64 128)) 3, type := 3, pos := "parts.go:583", after := #[{ on := 11, ground := Ground.data }], guard := none } : Oper)) (v := ?_) rfl (by kernel_rfl) (by kernel_rfl) (by kernel_rfl) (fun _ _ _ h => h) (Or.inl ⟨by rfl, ?_⟩) (by assumption) ?_
        rotate_left
        · (intro w hSw; (try dsimp only at hSw); go_simp; try with_reducible rfl)
        try simp only [Act.put, List.setIfInBounds_toArray, List.set_cons_zero, List.set_cons_succ]
        refine wpAnyH_take (i := 13) (oi := ({ dst := some 59, op := Op.binOp BinOp.quo 3 (Operand.tmp 58) (Operand.const (Value.int IntKind.i64 256)) 3, type := 3, pos := "parts.go:583", after := #[{ on := 12, ground := Ground.data }], guard := none } : Oper)) (v := ?_) rfl (by kernel_rfl) (by kernel_rfl) (by kernel_rfl) (fun _ _ _ h => h) (Or.inl ⟨by rfl, ?_⟩) (by assumption) ?_
        rotate_left
        · (intro w hSw; (try dsimp only at hSw); go_simp; try with_reducible rfl)
        try simp only [Act.put, List.setIfInBounds_toArray, List.set_cons_zero, List.set_cons_succ]
        refine wpAnyH_take (i := 14) (oi := ({ dst := some 60, op := Op.convert 3 5 (Operand.tmp 59), type := 5, pos := "parts.go:583", after := #[{ on := 13, ground := Ground.data }], guard := none } : Oper)) (v := ?_) rfl (by kernel_rfl) (by kernel_rfl) (by kernel_rfl) (fun _ _ _ h => h) (Or.inl ⟨by rfl, ?_⟩) (by assumption) ?_
        rotate_left
        · (intro w hSw; (try dsimp only at hSw); go_simp; try with_reducible rfl)
        try simp only [Act.put, List.setIfInBounds_toArray, List.set_cons_zero, List.set_cons_succ]
        refine wpAnyH_ready (rs := [15]) (by kernel_rfl) (by simp) ?_
        refine AllReadyH.cons (o := ({ dst := some 61, op := Op.buildSlice 51 2 #[(0, Operand.tmp 53), (1, Operand.tmp 60)], type := 51, pos := "parts.go:583", after := #[{ on := 7, ground := Ground.data }, { on := 14, ground := Ground.data }], guard := none } : Oper)) rfl (fun K_ hK => ?_) AllReadyH.nil
        go_simp
        refine hK.out _ _ ?_ (fun hHeld => ?_)
        · exact (cell_old wr _ g k hgl).trans hcx9
        clear hK K_
        try simp only [Act.put, List.setIfInBounds_toArray, List.set_cons_zero, List.set_cons_succ]
        refine wpAnyH_ready (rs := [16]) (by kernel_rfl) (by simp) ?_
        refine AllReadyH.cons (o := ({ dst := some 62, op := Op.convert 51 9 (Operand.tmp 61), type := 9, pos := "parts.go:583", after := #[{ on := 15, ground := Ground.data }], guard := none } : Oper)) rfl (fun K_ hK => ?_) AllReadyH.nil
        go_simp
        refine hK.out _ _ ?_ (fun hHeld => ?_)
        · exact (cell_old wr _ g k hgl).trans hcx9
        clear hK K_
        try simp only [Act.put, List.setIfInBounds_toArray, List.set_cons_zero, List.set_cons_succ]
        refine wpAnyH_take (i := 17) (oi := ({ dst := some 63, op := Op.binOp BinOp.add 9 (Operand.tmp 46) (Operand.tmp 62) 9, type := 9, pos := "parts.go:583", after := #[{ on := 0, ground := Ground.data }, { on := 16, ground := Ground.data }], guard := none } : Oper)) (v := ?_) rfl (by kernel_rfl) (by kernel_rfl) (by kernel_rfl) (fun _ _ _ h => h) (Or.inl ⟨by rfl, ?_⟩) (by assumption) ?_
        rotate_left
        · (intro w hSw; (try dsimp only at hSw); go_simp; try with_reducible rfl)
        try simp only [Act.put, List.setIfInBounds_toArray, List.set_cons_zero, List.set_cons_succ]
        refine wpAnyH_take (i := 18) (oi := ({ dst := some 9, op := Op.assign (Operand.tmp 63), type := 9, pos := "parts.go:583", after := #[{ on := 17, ground := Ground.data }, { on := 0, ground := Ground.phase }, { on := 1, ground := Ground.phase }, { on := 2, ground := Ground.phase }, { on := 3, ground := Ground.phase }, { on := 4, ground := Ground.phase }, { on := 5, ground := Ground.phase }, { on := 6, ground := Ground.phase }, { on := 7, ground := Ground.phase }, { on := 8, ground := Ground.phase }, { on := 9, ground := Ground.phase }, { on := 10, ground := Ground.phase }, { on := 11, ground := Ground.phase }, { on := 12, ground := Ground.phase }, { on := 13, ground := Ground.phase }, { on := 14, ground := Ground.phase }, { on := 15, ground := Ground.phase }, { on := 16, ground := Ground.phase }, { on := 17, ground := Ground.phase }], guard := none } : Oper)) (v := ?_) rfl (by kernel_rfl) (by kernel_rfl) (by kernel_rfl) (fun _ _ _ h => h) (Or.inl ⟨by rfl, ?_⟩) (by assumption) ?_
        rotate_left
        · (intro w hSw; (try dsimp only at hSw); go_simp; try with_reducible rfl)
        try simp only [Act.put, List.setIfInBounds_toArray, List.set_cons_zero, List.set_cons_succ]
        refine wpAnyH_done (by kernel_rfl) ?_ _
        go_wp2_with fail
        go_roundw
        case rel => exact ⟨k + 1, _, by omega, by go_num, rfl, HT2, (hbr.alloc (Nat.le_trans (Nat.le_refl _) hbr.size) _).drew⟩
        case measure => simp [intOf]; omega
      · have hki : ¬ (k : Int) < (nn : Int) := by omega
        obtain rfl : nn = k := by omega
        have hbW : Below w.heap.size w wr := hbb9.trans (hbr.mono hbb9.size)
        obtain ⟨kk, hkk, hk1, hk16, hnm⟩ := name_kind q.kind s HK.out
        obtain ⟨nb, noff, ncap, y0, y1, y2, y3⟩ := HM.out.on hbW
        have y4 : wr.cell? ⟨nb, noff + kk, none⟩ = some (.string s.bytes) := y3 kk s.name hnm
        have Nr := hid_of3 (N9.out.on hbr)
        obtain ⟨m0, m1, m2, m3, m4, m5, m6, m7, m8, -, -, -, -, -, -, -, -, -, mlt⟩ := Nr.out
        rw [hkk] at m0
        have hq1 : (kk : Int) < (17 : Int) := by omega
        have hq0 : (0 : Int) ≤ (kk : Int) := by omega
        have hq2 : kk < 17 := by omega
        have HLT : Hid (t.data.toList = idB q.id s.id ++ nsB ((nums4 q).take s.nums)) := by unfold Hid; rw [HT.out, HNN.out]
        clear y3 hnm hkk HT
        cases fpc with
        | false =>
          have HFIN : Hid (str (opB q s.id s.nums s.pic) = .string t) := by
            unfold Hid opB pcB
            rw [HFPC.out, if_neg (by decide), List.append_nil, ← HLT.out, str_self]
          go_wp2_with fail
          refine bodyPost_ret (v := .tuple #[.string s.bytes, .string t, .int .i64 0]) (by simp [results, Tryd.results21, go_sem]) rfl ⟨hbW, .inr ⟨HC.out, s, HK.out, by rw [HFIN.out]⟩⟩
        | true =>
          have hts : t.size ≤ 100 := by
            have h1 : t.data.toList.length = t.size := by simp
            have h2 := idB_len q.id s.id
            rw [HLT.out, List.length_append, nsB_len, List.length_take] at h1
            have h3 : (nums4 q).length = 4 := rfl
            omega
          have hpok := HOK.out.pic HFPC.out
          obtain ⟨PW, PH, e1, e2, -⟩ := check_zero _ _ _ hpok
          rw [e1] at m6
          rw [e2] at m7
          rw [e1, e2] at hpok
          have HCP := hid_of3 hpok
          have HE := hid_of3 (And.intro e1 e2)
          clear hpok e1 e2
          obtain ⟨tp, HTP⟩ := bytes_of (picBytes PW PH q.ps)
          have htp : tp.size ≤ 1000 := by
            have h := picBytes_len PW PH q.ps HCP.out
            obtain ⟨i1, i2, i3, i4, -, -⟩ := check_ok HCP.out
            have h3 : PH * (1 + 2 * PW) ≤ 8 * 17 := Nat.mul_le_mul (by omega) (by omega)
            rw [size_of HTP]
            omega
          have HFIN : Hid (str (opB q s.id s.nums s.pic) = .string (t ++ tp)) := by
            unfold Hid opB pcB
            rw [HFPC.out, if_pos rfl, HE.out.1, HE.out.2, ← HLT.out]
            show str (t.data.toList ++ picBytes PW PH q.ps) = _
            rw [HTP.out, ← str_self (t ++ tp), ByteArray.data_append, Array.toList_append]
          go_wp2_with fail
          refine (refBytes_at PW PH (.slice ap np cp) q.ps wr (HU.out.on hbW) HCP tp HTP).mono ?_
          rintro e wp ⟨rfl, hbp⟩
          have hbP := hbW.trans (hbp.mono hbW.size)
          have z0 := (hbp.cell (p := ⟨_, 0, none⟩) y2).trans y0
          have z4 := (hbp.cell (p := ⟨nb, noff + kk, none⟩) y1).trans y4
          have n0 := (hbp.cell (p := ⟨w.heap.size, 0, none⟩) mlt).trans m0
          clear m0 m1 m2 m3 m4 m5 m6 m7 m8 y0 y4 hbp
          go_wp2_with fail
          refine bodyPost_ret (v := .tuple #[.string s.bytes, .string (t ++ tp), .int .i64 0]) (by simp [results, Tryd.results21, go_sem]) rfl ⟨hbP, .inr ⟨HC.out, s, HK.out, by rw [HFIN.out]⟩⟩
  | false =>
    go_wp2_with fail
    clear m0 m1 m2 m3 m4 m5 m6 m7 m8
    obtain ⟨W9, HW9⟩ : ∃ W, Hid (wx.alloc (.cells #[.int .i64 q.a, .int .i64 q.b, .int .i64 q.c, .int .i64 q.d] 3) = W) := ⟨_, (rfl : _ = _)⟩
    have hb9 : Below wx.heap.size wx W9 := by rw [← HW9.out]; exact (Below.refl _ _).alloc (Nat.le_refl _) _
    have N9 := hid_of3 (N1.out.on hb9)
    have hbb9 := hbb1.trans (hb9.mono hbb1.size)
    have HR9 : Hid (RdI W9 (.slice (some ⟨wx.heap.size, 0, none⟩) 4 4) ((nums4 q).take 4)) := four_take q (by rw [← HW9.out]; exact heap_new2 _ _ _ (by simp)) 4 (Nat.le_refl _)
    rw [HW9.out]
    obtain ⟨g, HGG⟩ : ∃ g, Hid (wx.heap.size = g) := ⟨_, (rfl : _ = _)⟩
    rw [HGG.out] at HR9 ⊢
    obtain ⟨t0, HT0⟩ : ∃ t, Hid ((⟨#[]⟩ : ByteArray) = t) := ⟨_, (rfl : _ = _)⟩
    have HL0 : Hid (t0.data.toList = idB q.id s.id) := by unfold Hid; rw [← HT0.out, HFID.out]; rfl
    rw [HT0.out]
    clear HW9 HGG HT0 hb9 mlt
    go_loopw [9, 11] (fun z i wr => ∃ (k : Nat) (t : ByteArray), k ≤ nn ∧ i = .int .i64 k ∧ z = .string t ∧ Hid (t.data.toList = idB q.id s.id ++ nsB ((nums4 q).take k)) ∧ Below W9.heap.size W9 wr) (fun _ i _ => nn - (intOf i).toNat)
    case atStart => exact ⟨0, t0, by omega, rfl, rfl, by unfold Hid; rw [HL0.out]; simp [nsB], Below.refl _ _⟩
    case round =>
      obtain ⟨k, t, hk, rfl, rfl, HT, hbr⟩ := hrel
      by_cases hlt : k < nn
      · have hki : (k : Int) < (nn : Int) := by omega
        have hki0 : (0 : Int) ≤ (k : Int) := by omega
        have hki4 : (k : Int) < 4 := by omega
        have hk4 : k < 4 := by omega
        obtain ⟨x, HX⟩ : ∃ x, Hid ((nums4 q).getD k 0 = x) := ⟨_, (rfl : _ = _)⟩
        obtain ⟨gg, po, hag, hgl, hcx⟩ := (HR9.out.on hbr).at (k := k) hk4 (show Hid (((nums4 q).take 4).length = 4) from rfl) (show Hid (((nums4 q).take 4).getD k 0 = x) from HX)
        simp only [Option.some.injEq, Addr.mk.injEq, and_true] at hag
        obtain ⟨rfl, rfl⟩ := hag
        have hxm : x ∈ (nums4 q).take s.nums := by
          have h := four_get q s.nums k (by rw [HNN.out]; exact hlt) hs1
          rw [HX.out] at h
          exact List.mem_of_getElem? h
        obtain ⟨hx1, hx2⟩ := HOK.out.num x hxm
        obtain ⟨N, n0, n1, hn0, hn1, hwx, ee1, ee2, ee3, hnb⟩ := two_parts x hx1 hx2
        rw [Nat.zero_add] at hcx
        have HA : Hid (((UInt8.ofNat n0).toNat : Int) = (n0 : Int)) := by unfold Hid; rw [u8_toNat n0 hn0]
        have HB : Hid (((UInt8.ofNat n1).toNat : Int) = (n1 : Int)) := by unfold Hid; rw [u8_toNat n1 hn1]
        have hcv := run_pair2 (wr.alloc (.cells #[.int .u8 (n0 : Int), .int .u8 (n1 : Int)] 5)).drew wr.heap.size (n0 : Int) (n1 : Int) (UInt8.ofNat n0) (UInt8.ofNat n1) HA HB (by show (wr.alloc _).cell? _ = _; simp) (by show (wr.alloc _).cell? _ = _; simp)
        have hts : t.size ≤ 100 := by
          have h1 : t.data.toList.length = t.size := by simp
          have h2 := idB_len q.id s.id
          rw [HT.out, List.length_append, nsB_len, List.length_take] at h1
          have h3 : (nums4 q).length = 4 := rfl
          omega
        have hts2 : ¬ 9223372036854775807 < t.size + 2 := by omega
        have HT2 : Hid ((t ++ (⟨#[UInt8.ofNat n0, UInt8.ofNat n1]⟩ : ByteArray)).data.toList = idB q.id s.id ++ nsB ((nums4 q).take (k + 1))) := by
          unfold Hid
          rw [add_two, HT.out, take_nsB (by exact hk4) HX.out, hnb, List.append_assoc]
        have eu0 : IntKind.u8.wrap (n0 : Int) = (n0 : Int) := by rw [IntKind.wrap_u8]; omega
        have eu1 : IntKind.u8.wrap (n1 : Int) = (n1 : Int) := by rw [IntKind.wrap_u8]; omega
        have ei1 : IntKind.i64.wrap ((N : Int) / 256) = (n1 : Int) := by rw [IntKind.wrap_i64]; unfold wrap64 at ee2; exact ee2
        clear hxm hx1 hx2 hnb hn0 hn1
        have hcx9 := hcx
        have ed1 : (N : Int).tmod 256 = (n0 : Int) := by rw [Int.tmod_eq_emod_of_nonneg (by omega)]; exact ee1
        have ed2 : (N : Int).tdiv 256 = (N : Int) / 256 := Int.tdiv_eq_ediv_of_nonneg (by omega)
        go_upto_region 12 with fail
        refine wp_region_held_drew (S := (fun w' => w'.cell? ⟨g, k, none⟩ = some (.int .i64 x))) (by kernel_rfl) ?_ (fun hHeld => ?_)
        · exact hcx9
        refine wpAnyH_take (i := 0) (oi := ({ dst := some 46, op := Op.move (Operand.tmp 9), type := 9, pos := "parts.go:583", after := #[], guard := none } : Oper)) (v := ?_) rfl (by kernel_rfl) (by kernel_rfl) (by kernel_rfl) (fun _ _ _ h => h) (Or.inl ⟨by rfl, ?_⟩) (by assumption) ?_
        rotate_left
        · (intro w hSw; (try dsimp only at hSw); go_simp; try with_reducible rfl)
        try simp only [Act.put, List.setIfInBounds_toArray, List.set_cons_zero, List.set_cons_succ]
        refine wpAnyH_take (i := 1) (oi := ({ dst := some 47, op := Op.move (Operand.tmp 10), type := 78, pos := "parts.go:583", after := #[], guard := none } : Oper)) (v := ?_) rfl (by kernel_rfl) (by kernel_rfl) (by kernel_rfl) (fun _ _ _ h => h) (Or.inl ⟨by rfl, ?_⟩) (by assumption) ?_
        rotate_left
        · (intro w hSw; (try dsimp only at hSw); go_simp; try with_reducible rfl)
        try simp only [Act.put, List.setIfInBounds_toArray, List.set_cons_zero, List.set_cons_succ]
        refine wpAnyH_take (i := 2) (oi := ({ dst := some 48, op := Op.move (Operand.tmp 11), type := 3, pos := "parts.go:583", after := #[], guard := none } : Oper)) (v := ?_) rfl (by kernel_rfl) (by kernel_rfl) (by kernel_rfl) (fun _ _ _ h => h) (Or.inl ⟨by rfl, ?_⟩) (by assumption) ?_
        rotate_left
        · (intro w hSw; (try dsimp only at hSw); go_simp; try with_reducible rfl)
        try simp only [Act.put, List.setIfInBounds_toArray, List.set_cons_zero, List.set_cons_succ]
        refine wpAnyH_take (i := 3) (oi := ({ dst := some 49, op := Op.indexAddr 78 (Operand.tmp 47) (Operand.tmp 48), type := 0, pos := "parts.go:583", after := #[{ on := 1, ground := Ground.data }, { on := 2, ground := Ground.data }], guard := none } : Oper)) (v := ?_) rfl (by kernel_rfl) (by kernel_rfl) (by kernel_rfl) (fun _ _ _ h => h) (Or.inl ⟨by rfl, ?_⟩) (by assumption) ?_
        rotate_left
        · (intro w hSw; (try dsimp only at hSw); go_simp; try with_reducible rfl)
        try simp only [Act.put, List.setIfInBounds_toArray, List.set_cons_zero, List.set_cons_succ]
        refine wpAnyH_take (i := 4) (oi := ({ dst := some 50, op := Op.load 3 (Operand.tmp 49), type := 3, pos := "parts.go:583", after := #[{ on := 3, ground := Ground.data }], guard := none } : Oper)) (v := ?_) rfl (by kernel_rfl) (by kernel_rfl) (by kernel_rfl) (fun _ _ _ h => h) (Or.inl ⟨by rfl, ?_⟩) (by assumption) ?_
        rotate_left
        · (intro w hSw; (try dsimp only at hSw); go_simp; try with_reducible rfl)
        try simp only [Act.put, List.setIfInBounds_toArray, List.set_cons_zero, List.set_cons_succ]
        refine wpAnyH_take (i := 5) (oi := ({ dst := some 51, op := Op.binOp BinOp.add 3 (Operand.tmp 50) (Operand.const (Value.int IntKind.i64 128)) 3, type := 3, pos := "parts.go:583", after := #[{ on := 4, ground := Ground.data }], guard := none } : Oper)) (v := ?_) rfl (by kernel_rfl) (by kernel_rfl) (by kernel_rfl) (fun _ _ _ h => h) (Or.inl ⟨by rfl, ?_⟩) (by assumption) ?_
        rotate_left
        · (intro w hSw; (try dsimp only at hSw); go_simp; try with_reducible rfl)
        try simp only [Act.put, List.setIfInBounds_toArray, List.set_cons_zero, List.set_cons_succ]
        refine wpAnyH_take (i := 6) (oi := ({ dst := some 52, op := Op.binOp BinOp.rem 3 (Operand.tmp 51) (Operand.const (Value.int IntKind.i64 256)) 3, type := 3, pos := "parts.go:583", after := #[{ on := 5, ground := Ground.data }], guard := none } : Oper)) (v := ?_) rfl (by kernel_rfl) (by kernel_rfl) (by kernel_rfl) (fun _ _ _ h => h) (Or.inl ⟨by rfl, ?_⟩) (by assumption) ?_
        rotate_left
        · (intro w hSw; (try dsimp only at hSw); go_simp; try with_reducible rfl)
        try simp only [Act.put, List.setIfInBounds_toArray, List.set_cons_zero, List.set_cons_succ]
        refine wpAnyH_take (i := 7) (oi := ({ dst := some 53, op := Op.convert 3 5 (Operand.tmp 52), type := 5, pos := "parts.go:583", after := #[{ on := 6, ground := Ground.data }], guard := none } : Oper)) (v := ?_) rfl (by kernel_rfl) (by kernel_rfl) (by kernel_rfl) (fun _ _ _ h => h) (Or.inl ⟨by rfl, ?_⟩) (by assumption) ?_
        rotate_left
        · (intro w hSw; (try dsimp only at hSw); go_simp; try with_reducible rfl)
        try simp only [Act.put, List.setIfInBounds_toArray, List.set_cons_zero, List.set_cons_succ]
        refine wpAnyH_take (i := 8) (oi := ({ dst := some 54, op := Op.move (Operand.tmp 10), type := 78, pos := "parts.go:583", after := #[], guard := none } : Oper)) (v := ?_) rfl (by kernel_rfl) (by kernel_rfl) (by kernel_rfl) (fun _ _ _ h => h) (Or.inl ⟨by rfl, ?_⟩) (by assumption) ?_
        rotate_left
        · (intro w hSw; (try dsimp only at hSw); go_simp; try with_reducible rfl)
        try simp only [Act.put, List.setIfInBounds_toArray, List.set_cons_zero, List.set_cons_succ]
        refine wpAnyH_take (i := 9) (oi := ({ dst := some 55, op := Op.move (Operand.tmp 11), type := 3, pos := "parts.go:583", after := #[], guard := none } : Oper)) (v := ?_) rfl (by kernel_rfl) (by kernel_rfl) (by kernel_rfl) (fun _ _ _ h => h) (Or.inl ⟨by rfl, ?_⟩) (by assumption) ?_
        rotate_left
        · (intro w hSw; (try dsimp only at hSw); go_simp; try with_reducible rfl)
        try simp only [Act.put, List.setIfInBounds_toArray, List.set_cons_zero, List.set_cons_succ]
        refine wpAnyH_take (i := 10) (oi := ({ dst := some 56, op := Op.indexAddr 78 (Operand.tmp 54) (Operand.tmp 55), type := 0, pos := "parts.go:583", after := #[{ on := 8, ground := Ground.data }, { on := 9, ground := Ground.data }], guard := none } : Oper)) (v := ?_) rfl (by kernel_rfl) (by kernel_rfl) (by kernel_rfl) (fun _ _ _ h => h) (Or.inl ⟨by rfl, ?_⟩) (by assumption) ?_
        rotate_left
        · (intro w hSw; (try dsimp only at hSw); go_simp; try with_reducible rfl)
        try simp only [Act.put, List.setIfInBounds_toArray, List.set_cons_zero, List.set_cons_succ]
        refine wpAnyH_take (i := 11) (oi := ({ dst := some 57, op := Op.load 3 (Operand.tmp 56), type := 3, pos := "parts.go:583", after := #[{ on := 10, ground := Ground.data }], guard := none } : Oper)) (v := ?_) rfl (by kernel_rfl) (by kernel_rfl) (by kernel_rfl) (fun _ _ _ h => h) (Or.inl ⟨by rfl, ?_⟩) (by assumption) ?_
        rotate_left
        · (intro w hSw; (try dsimp only at hSw); go_simp; try with_reducible rfl)
        try simp only [Act.put, List.setIfInBounds_toArray, List.set_cons_zero, List.set_cons_succ]
        refine wpAnyH_take (i := 12) (oi := ({ dst := some 58, op := Op.binOp BinOp.add 3 (Operand.tmp 57) (Operand.const (Value.int IntKind.i64 128)) 3, type := 3, pos := "parts.go:583", after := #[{ on := 11, ground := Ground.data }], guard := none } : Oper)) (v := ?_) rfl (by kernel_rfl) (by kernel_rfl) (by kernel_rfl) (fun _ _ _ h => h) (Or.inl ⟨by rfl, ?_⟩) (by assumption) ?_
        rotate_left
        · (intro w hSw; (try dsimp only at hSw); go_simp; try with_reducible rfl)
        try simp only [Act.put, List.setIfInBounds_toArray, List.set_cons_zero, List.set_cons_succ]
        refine wpAnyH_take (i := 13) (oi := ({ dst := some 59, op := Op.binOp BinOp.quo 3 (Operand.tmp 58) (Operand.const (Value.int IntKind.i64 256)) 3, type := 3, pos := "parts.go:583", after := #[{ on := 12, ground := Ground.data }], guard := none } : Oper)) (v := ?_) rfl (by kernel_rfl) (by kernel_rfl) (by kernel_rfl) (fun _ _ _ h => h) (Or.inl ⟨by rfl, ?_⟩) (by assumption) ?_
        rotate_left
        · (intro w hSw; (try dsimp only at hSw); go_simp; try with_reducible rfl)
        try simp only [Act.put, List.setIfInBounds_toArray, List.set_cons_zero, List.set_cons_succ]
        refine wpAnyH_take (i := 14) (oi := ({ dst := some 60, op := Op.convert 3 5 (Operand.tmp 59), type := 5, pos := "parts.go:583", after := #[{ on := 13, ground := Ground.data }], guard := none } : Oper)) (v := ?_) rfl (by kernel_rfl) (by kernel_rfl) (by kernel_rfl) (fun _ _ _ h => h) (Or.inl ⟨by rfl, ?_⟩) (by assumption) ?_
        rotate_left
        · (intro w hSw; (try dsimp only at hSw); go_simp; try with_reducible rfl)
        try simp only [Act.put, List.setIfInBounds_toArray, List.set_cons_zero, List.set_cons_succ]
        refine wpAnyH_ready (rs := [15]) (by kernel_rfl) (by simp) ?_
        refine AllReadyH.cons (o := ({ dst := some 61, op := Op.buildSlice 51 2 #[(0, Operand.tmp 53), (1, Operand.tmp 60)], type := 51, pos := "parts.go:583", after := #[{ on := 7, ground := Ground.data }, { on := 14, ground := Ground.data }], guard := none } : Oper)) rfl (fun K_ hK => ?_) AllReadyH.nil
        go_simp
        refine hK.out _ _ ?_ (fun hHeld => ?_)
        · exact (cell_old wr _ g k hgl).trans hcx9
        clear hK K_
        try simp only [Act.put, List.setIfInBounds_toArray, List.set_cons_zero, List.set_cons_succ]
        refine wpAnyH_ready (rs := [16]) (by kernel_rfl) (by simp) ?_
        refine AllReadyH.cons (o := ({ dst := some 62, op := Op.convert 51 9 (Operand.tmp 61), type := 9, pos := "parts.go:583", after := #[{ on := 15, ground := Ground.data }], guard := none } : Oper)) rfl (fun K_ hK => ?_) AllReadyH.nil
        go_simp
        refine hK.out _ _ ?_ (fun hHeld => ?_)
        · exact (cell_old wr _ g k hgl).trans hcx9
        clear hK K_
        try simp only [Act.put, List.setIfInBounds_toArray, List.set_cons_zero, List.set_cons_succ]
        refine wpAnyH_take (i := 17) (oi := ({ dst := some 63, op := Op.binOp BinOp.add 9 (Operand.tmp 46) (Operand.tmp 62) 9, type := 9, pos := "parts.go:583", after := #[{ on := 0, ground := Ground.data }, { on := 16, ground := Ground.data }], guard := none } : Oper)) (v := ?_) rfl (by kernel_rfl) (by kernel_rfl) (by kernel_rfl) (fun _ _ _ h => h) (Or.inl ⟨by rfl, ?_⟩) (by assumption) ?_
        rotate_left
        · (intro w hSw; (try dsimp only at hSw); go_simp; try with_reducible rfl)
        try simp only [Act.put, List.setIfInBounds_toArray, List.set_cons_zero, List.set_cons_succ]
        refine wpAnyH_take (i := 18) (oi := ({ dst := some 9, op := Op.assign (Operand.tmp 63), type := 9, pos := "parts.go:583", after := #[{ on := 17, ground := Ground.data }, { on := 0, ground := Ground.phase }, { on := 1, ground := Ground.phase }, { on := 2, ground := Ground.phase }, { on := 3, ground := Ground.phase }, { on := 4, ground := Ground.phase }, { on := 5, ground := Ground.phase }, { on := 6, ground := Ground.phase }, { on := 7, ground := Ground.phase }, { on := 8, ground := Ground.phase }, { on := 9, ground := Ground.phase }, { on := 10, ground := Ground.phase }, { on := 11, ground := Ground.phase }, { on := 12, ground := Ground.phase }, { on := 13, ground := Ground.phase }, { on := 14, ground := Ground.phase }, { on := 15, ground := Ground.phase }, { on := 16, ground := Ground.phase }, { on := 17, ground := Ground.phase }], guard := none } : Oper)) (v := ?_) rfl (by kernel_rfl) (by kernel_rfl) (by kernel_rfl) (fun _ _ _ h => h) (Or.inl ⟨by rfl, ?_⟩) (by assumption) ?_
        rotate_left
        · (intro w hSw; (try dsimp only at hSw); go_simp; try with_reducible rfl)
        try simp only [Act.put, List.setIfInBounds_toArray, List.set_cons_zero, List.set_cons_succ]
        refine wpAnyH_done (by kernel_rfl) ?_ _
        go_wp2_with fail
        go_roundw
        case rel => exact ⟨k + 1, _, by omega, by go_num, rfl, HT2, (hbr.alloc (Nat.le_trans (Nat.le_refl _) hbr.size) _).drew⟩
        case measure => simp [intOf]; omega
      · have hki : ¬ (k : Int) < (nn : Int) := by omega
        obtain rfl : nn = k := by omega
        have hbW : Below w.heap.size w wr := hbb9.trans (hbr.mono hbb9.size)
        obtain ⟨kk, hkk, hk1, hk16, hnm⟩ := name_kind q.kind s HK.out
        obtain ⟨nb, noff, ncap, y0, y1, y2, y3⟩ := HM.out.on hbW
        have y4 : wr.cell? ⟨nb, noff + kk, none⟩ = some (.string s.bytes) := y3 kk s.name hnm
        have Nr := hid_of3 (N9.out.on hbr)
        obtain ⟨m0, m1, m2, m3, m4, m5, m6, m7, m8, -, -, -, -, -, -, -, -, -, mlt⟩ := Nr.out
        rw [hkk] at m0
        have hq1 : (kk : Int) < (17 : Int) := by omega
        have hq0 : (0 : Int) ≤ (kk : Int) := by omega
        have hq2 : kk < 17 := by omega
        have HLT : Hid (t.data.toList = idB q.id s.id ++ nsB ((nums4 q).take s.nums)) := by unfold Hid; rw [HT.out, HNN.out]
        clear y3 hnm hkk HT
        cases fpc with
        | false =>
          have HFIN : Hid (str (opB q s.id s.nums s.pic) = .string t) := by
            unfold Hid opB pcB
            rw [HFPC.out, if_neg (by decide), List.append_nil, ← HLT.out, str_self]
          go_wp2_with fail
          refine bodyPost_ret (v := .tuple #[.string s.bytes, .string t, .int .i64 0]) (by simp [results, Tryd.results21, go_sem]) rfl ⟨hbW, .inr ⟨HC.out, s, HK.out, by rw [HFIN.out]⟩⟩
        | true =>
          have hts : t.size ≤ 100 := by
            have h1 : t.data.toList.length = t.size := by simp
            have h2 := idB_len q.id s.id
            rw [HLT.out, List.length_append, nsB_len, List.length_take] at h1
            have h3 : (nums4 q).length = 4 := rfl
            omega
          have hpok := HOK.out.pic HFPC.out
          obtain ⟨PW, PH, e1, e2, -⟩ := check_zero _ _ _ hpok
          rw [e1] at m6
          rw [e2] at m7
          rw [e1, e2] at hpok
          have HCP := hid_of3 hpok
          have HE := hid_of3 (And.intro e1 e2)
          clear hpok e1 e2
          obtain ⟨tp, HTP⟩ := bytes_of (picBytes PW PH q.ps)
          have htp : tp.size ≤ 1000 := by
            have h := picBytes_len PW PH q.ps HCP.out
            obtain ⟨i1, i2, i3, i4, -, -⟩ := check_ok HCP.out
            have h3 : PH * (1 + 2 * PW) ≤ 8 * 17 := Nat.mul_le_mul (by omega) (by omega)
            rw [size_of HTP]
            omega
          have HFIN : Hid (str (opB q s.id s.nums s.pic) = .string (t ++ tp)) := by
            unfold Hid opB pcB
            rw [HFPC.out, if_pos rfl, HE.out.1, HE.out.2, ← HLT.out]
            show str (t.data.toList ++ picBytes PW PH q.ps) = _
            rw [HTP.out, ← str_self (t ++ tp), ByteArray.data_append, Array.toList_append]
          go_wp2_with fail
          refine (refBytes_at PW PH (.slice ap np cp) q.ps wr (HU.out.on hbW) HCP tp HTP).mono ?_
          rintro e wp ⟨rfl, hbp⟩
          have hbP := hbW.trans (hbp.mono hbW.size)
          have z0 := (hbp.cell (p := ⟨_, 0, none⟩) y2).trans y0
          have z4 := (hbp.cell (p := ⟨nb, noff + kk, none⟩) y1).trans y4
          have n0 := (hbp.cell (p := ⟨w.heap.size, 0, none⟩) mlt).trans m0
          clear m0 m1 m2 m3 m4 m5 m6 m7 m8 y0 y4 hbp
          go_wp2_with fail
          refine bodyPost_ret (v := .tuple #[.string s.bytes, .string (t ++ tp), .int .i64 0]) (by simp [results, Tryd.results21, go_sem]) rfl ⟨hbP, .inr ⟨HC.out, s, HK.out, by rw [HFIN.out]⟩⟩
end Go.Proofs.YtceabiodelfdoaaDoor
/- Walk: the reference's BookFault. -/
namespace Go.Proofs.YtceabiodelfdoaaDoor
open Go.RowKit

set_option maxHeartbeats 8000000 in
set_option maxRecDepth 100000 in
theorem bookFault_any (v : Value) (qs : List Pq) (w : World) (HR : Hid (RdQ w v qs)) (hps : ∀ j, j < qs.length → (qs.getD j pq0).ps.length ≤ 1000) (hnq : qs.length ≤ 1000) (c : Nat) (HC : Hid (bkC qs = c)) :
    Calls Tryd.prog 6 #[v] w fun e w' => e = .returned (.int .i64 (c : Int)) ∧ Below w.heap.size w w' := by
  obtain ⟨a, cap, hv, hl, hcap⟩ := HR.out.shape
  have HPS : Hid (∀ j, j < qs.length → (qs.getD j pq0).ps.length ≤ 1000) := hps
  obtain ⟨n, HN⟩ : ∃ n, Hid (qs.length = n) := ⟨_, (rfl : _ = _)⟩
  rw [HN.out] at hv hl hnq
  clear hps
  subst hv
  have HC1 := HC
  unfold bkC at HC1
  rw [HN.out] at HC1
  have hbw : Below w.heap.size w w := Below.refl _ _
  by_cases hn2 : n < 2
  · have hc3 : c = 3 := by have := HC1.out; rw [if_pos (.inl hn2)] at this; exact this.symm
    subst hc3
    have hn2i : (n : Int) < 2 := by omega
    clear HC1 HC
    go_enter Tryd.func6, Tryd.ntmps6
    go_wp2_with fail
    go_ret
    exact ⟨rfl, hbw⟩
  have hn2i : ¬ (n : Int) < 2 := by omega
  obtain ⟨z0, HX0⟩ : ∃ x, Hid (qs.getD 0 pq0 = x) := ⟨_, (rfl : _ = _)⟩
  obtain ⟨zl, HXL⟩ : ∃ x, Hid (qs.getD (n - 1) pq0 = x) := ⟨_, (rfl : _ = _)⟩
  rw [HX0.out, HXL.out] at HC1
  obtain ⟨g, o, _, _, _, ha, hg, OC0, _, _⟩ := HR.out.at (k := 0) (by omega) HX0
  obtain ⟨g', o', _, _, _, ha', _, OCL, _, _⟩ := HR.out.at (k := n - 1) (by omega) HXL
  rw [ha] at ha'
  simp only [Option.some.injEq, Addr.mk.injEq, and_true] at ha'
  obtain ⟨rfl, rfl⟩ := ha'
  subst ha
  have k0 := OC0.c0
  have kl := OCL.c0
  rw [Nat.zero_mul, Nat.add_zero] at k0
  clear OC0 OCL
  have hw1 : IntKind.i64.wrap ((n : Int) - 1) = ((n - 1 : Nat) : Int) := by rw [wrap_s (by omega) (by omega)]; omega
  obtain ⟨m, HM⟩ : ∃ m, Hid (n - 1 = m) := ⟨_, (rfl : _ = _)⟩
  rw [HM.out] at hw1 kl
  have hmn : m < n := by have := HM.out; omega
  have hi1 : (0 : Int) ≤ (m : Int) := by omega
  have hi2 : (m : Int) < (n : Int) := by omega
  have hi3 : (0 : Int) < (n : Int) := by omega
  have hmn1 : Hid (m + 1 = n) := by have := HM.out; unfold Hid; omega
  by_cases hz0 : z0.kind = 1
  case neg =>
    have b0 : (z0.kind != 1) = true := by simpa using hz0
    have hc3 : c = 3 := by have := HC1.out; rw [if_pos (.inr (.inl hz0))] at this; exact this.symm
    subst hc3
    clear HC1 HC hz0
    go_enter Tryd.func6, Tryd.ntmps6
    go_wp2_with fail
    go_ret
    exact ⟨rfl, hbw⟩
  have b0 : (z0.kind != 1) = false := by simpa using hz0
  by_cases hzl : zl.kind = 16
  case neg =>
    have b1 : (zl.kind != 16) = true := by simpa using hzl
    have hc3 : c = 3 := by have := HC1.out; rw [if_pos (.inr (.inr hzl))] at this; exact this.symm
    subst hc3
    clear HC1 HC hzl hz0
    go_enter Tryd.func6, Tryd.ntmps6
    go_wp2_with fail
    go_ret
    exact ⟨rfl, hbw⟩
  have b1 : (zl.kind != 16) = false := by simpa using hzl
  rw [if_neg (by omega)] at HC1
  have HZ0 := hid_of2 hz0
  have HZL := hid_of2 hzl
  clear hz0 hzl
  by_cases hn60 : 60 < n
  · have hc2 : c = 2 := by have := HC1.out; rw [if_pos hn60] at this; exact this.symm
    subst hc2
    have hn60i : (60 : Int) < (n : Int) := by omega
    clear HC1 HC
    go_enter Tryd.func6, Tryd.ntmps6
    go_wp2_with fail
    go_ret
    exact ⟨rfl, hbw⟩
  rw [if_neg hn60] at HC1
  have hn60i : ¬ (60 : Int) < (n : Int) := by omega
  have HC2 : Hid (bkR n 0 (dep qs 0) (qs.drop 0) = c) := by unfold Hid; rw [dep_zero]; exact HC1.out
  clear HC1 HC
  have HD : Hid (∀ k, k ≤ n → -60 ≤ dep qs k ∧ dep qs k ≤ 60) := by
    have : ∀ k, k ≤ qs.length → -(k : Int) ≤ dep qs k ∧ dep qs k ≤ k := by
      intro k
      induction k with
      | zero => intro _; rw [dep_zero]; omega
      | succ k ih =>
        intro hk
        have := ih (by omega)
        rw [dep_succ qs k (by omega)]
        rcases opn_cases (qs.getD k pq0) with ⟨_, h2⟩ | ⟨_, h2⟩ | ⟨_, _, h2⟩ <;> omega
    rw [HN.out] at this
    intro k hk
    have := this k hk
    omega
  go_enter Tryd.func6, Tryd.ntmps6
  go_wp2_with fail
  clear k0 kl hi1 hi2 hi3
  go_loopw [4, 5, 6] (fun d i _ wr => ∃ k : Nat, k ≤ n ∧ i = .int .i64 k ∧ d = .int .i64 (dep qs k) ∧ Hid (bkR n k (dep qs k) (qs.drop k) = c) ∧ Below w.heap.size w wr) (fun _ i _ _ => n - (intOf i).toNat)
  case atStart => exact ⟨0, by omega, rfl, by rw [dep_zero], HC2, Below.refl _ _⟩
  case round =>
    obtain ⟨k, hk, rfl, rfl, HCK, hbr⟩ := hrel
    by_cases hlt : k < n
    · have hlt' : k < qs.length := by rw [HN.out]; exact hlt
      obtain ⟨hdl, hdh⟩ := HD.out k hk
      have hds := dep_succ qs k hlt'
      rw [getD_dropB qs k hlt'] at HCK
      obtain ⟨q, HX⟩ : ∃ q, Hid (qs.getD k pq0 = q) := ⟨_, (rfl : _ = _)⟩
      have hpl : q.ps.length ≤ 1000 := by rw [← HX.out]; exact HPS.out k hlt'
      rw [HX.out] at HCK hds
      obtain ⟨d, HDK⟩ : ∃ d, Hid (dep qs k = d) := ⟨_, (rfl : _ = _)⟩
      obtain ⟨d1, HDK1⟩ : ∃ d, Hid (dep qs (k + 1) = d) := ⟨_, (rfl : _ = _)⟩
      rw [HDK.out] at HCK hds hdl hdh ⊢
      rw [HDK1.out] at hds
      have HDS : Hid (d1 = d + opn q) := hds
      clear hds
      obtain ⟨g', o', ua, mu, uc, ha', hg', OC, HU, HMU⟩ := (HR.out.on hbr).at hlt HX
      simp only [Option.some.injEq, Addr.mk.injEq, and_true] at ha'
      obtain ⟨rfl, rfl⟩ := ha'
      have HK0 : Hid (k = 0 → q.kind = 1) := fun h => by subst h; rw [← HX.out, HX0.out]; exact HZ0.out
      have HKL : Hid (k = m → q.kind = 16) := fun h => by subst h; rw [← HX.out, ← HM.out, HXL.out]; exact HZL.out
      obtain ⟨kd, qid, qa, qb, qc, qd, qw, qh, qp⟩ := q
      obtain ⟨c0, c1, c2, c3, c4, c5, c6, c7, c8⟩ := OC
      simp only at c0 c1 c2 c3 c4 c5 c6 c7 c8 HU HMU hpl HK0 HKL
      have hki0 : (0 : Int) ≤ (k : Int) := by omega
      have hki1 : (k : Int) < (n : Int) := by omega
      obtain ⟨cc, HCC⟩ : ∃ cc, Hid (opC ⟨kd, qid, qa, qb, qc, qd, qw, qh, qp⟩ = cc) := ⟨_, (rfl : _ = _)⟩
      have hof := opf_any ⟨kd, qid, qa, qb, qc, qd, qw, qh, qp⟩ (.slice ua mu uc) wr (by simp only; omega) HU
      unfold OpfP at hof
      rw [rf_eq, HCC.out] at hof
      simp only [opV] at hof
      clear hlt' HX
      go_wp2_with fail
      refine hof.mono ?_
      clear hof
      rintro e w2 ⟨rfl, hb2⟩
      have hbb := hbr.trans (hb2.mono hbr.size)
      have c0 := (hb2.cell (p := ⟨g, o + k * 9, none⟩) hg').trans c0
      clear hb2
      have HCK1 := HCK
      unfold bkR at HCK1
      rw [HCC.out] at HCK1
      by_cases hcc : cc = 0
      case neg =>
        have hccp : (0 : Int) < (cc : Int) := by omega
        obtain rfl : cc = c := by have := HCK1.out; rw [if_pos hcc] at this; exact this
        clear HCK HCK1
        go_wp2_with fail
        go_ret
        exact ⟨rfl, hbb⟩
      subst hcc
      rw [if_neg (by omega)] at HCK1
      simp only at HCK1
      have hcc0 : ¬ (0 : Int) < ((0 : Nat) : Int) := by omega
      clear HCK
      by_cases a1 : kd = 1
      · subst a1
        by_cases hk0 : k = 0
        case neg =>
          have hkp : (0 : Int) < (k : Int) := by omega
          have hc3 : c = 3 := by have := HCK1.out; rw [if_pos (.inl (by simp [hk0]))] at this; exact this.symm
          subst hc3
          clear HCK1 hk0
          go_wp2_with fail
          go_ret
          exact ⟨rfl, hbb⟩
        have hkp : ¬ (0 : Int) < (k : Int) := by omega
        have hkn : ¬ k + 1 = n := by have := hmn1.out; omega
        have HON : Hid (opn ⟨1, qid, qa, qb, qc, qd, qw, qh, qp⟩ = 0) := rfl
        rw [HON.out] at HCK1 HDS
        rw [if_neg (by rintro (h | h); exact h (by simp [hk0]); exact h (by simp [hkn]))] at HCK1
        have hkp2 : ¬ 0 < k := by omega
        clear hk0 hkn HK0 HKL
        have HCK2 : Hid ((if d + 0 < 0 then 3 else if 3 < d + 0 then 2 else bkR n (k + 1) (d + 0) (qs.drop (k + 1))) = c) := HCK1
        clear HCK1
        by_cases hlo : d + 0 < 0
        · have hc3 : c = 3 := by have := HCK2.out; rw [if_pos hlo] at this; exact this.symm
          subst hc3
          clear HCK2
          have hlo2 : d < 0 := by omega
          go_wp2_with fail
          go_ret
          exact ⟨rfl, hbb⟩
        rw [if_neg hlo] at HCK2
        by_cases hhi : 3 < d + 0
        · have hc3 : c = 2 := by have := HCK2.out; rw [if_pos hhi] at this; exact this.symm
          subst hc3
          clear HCK2
          have hhi2 : 3 < d := by omega
          have hlo2 : ¬ d < 0 := by omega
          go_wp2_with fail
          go_ret
          exact ⟨rfl, hbb⟩
        rw [if_neg hhi] at HCK2
        have hhi2 : ¬ 3 < d := by omega
        have hlo2 : ¬ d < 0 := by omega
        have HD1 : Hid (d1 = d + 0) := HDS.out
        go_wp2_with fail
        go_roundw
        case rel => exact ⟨k + 1, by omega, by go_num, (congrArg (Value.int .i64) (show d = dep qs (k + 1) by have h1 := HDK1.out; have h2 := HD1.out; omega)), by rw [HDK1.out, HD1.out]; exact HCK2, hbb⟩
        case measure => simp [intOf]; omega
      by_cases a2 : kd = 16
      · subst a2
        by_cases hkl : k + 1 = n
        case neg =>
          have hkp : (k : Int) < (m : Int) := by have := hmn1.out; omega
          have hc3 : c = 3 := by have := HCK1.out; rw [if_pos (.inr (by simp [hkl]))] at this; exact this.symm
          subst hc3
          clear HCK1 hkl
          go_wp2_with fail
          go_ret
          exact ⟨rfl, hbb⟩
        have hkp : ¬ (k : Int) < (m : Int) := by have := hmn1.out; omega
        have hk0 : ¬ k = 0 := by omega
        have HON : Hid (opn ⟨16, qid, qa, qb, qc, qd, qw, qh, qp⟩ = 0) := rfl
        rw [HON.out] at HCK1 HDS
        rw [if_neg (by rintro (h | h); exact h (by simp [hk0]); exact h (by simp [hkl]))] at HCK1
        clear hk0 hkl HK0 HKL
        have HCK2 : Hid ((if d + 0 < 0 then 3 else if 3 < d + 0 then 2 else bkR n (k + 1) (d + 0) (qs.drop (k + 1))) = c) := HCK1
        clear HCK1
        by_cases hlo : d + 0 < 0
        · have hc3 : c = 3 := by have := HCK2.out; rw [if_pos hlo] at this; exact this.symm
          subst hc3
          clear HCK2
          have hlo2 : d < 0 := by omega
          go_wp2_with fail
          go_ret
          exact ⟨rfl, hbb⟩
        rw [if_neg hlo] at HCK2
        by_cases hhi : 3 < d + 0
        · have hc3 : c = 2 := by have := HCK2.out; rw [if_pos hhi] at this; exact this.symm
          subst hc3
          clear HCK2
          have hhi2 : 3 < d := by omega
          have hlo2 : ¬ d < 0 := by omega
          go_wp2_with fail
          go_ret
          exact ⟨rfl, hbb⟩
        rw [if_neg hhi] at HCK2
        have hhi2 : ¬ 3 < d := by omega
        have hlo2 : ¬ d < 0 := by omega
        have HD1 : Hid (d1 = d + 0) := HDS.out
        go_wp2_with fail
        go_roundw
        case rel => exact ⟨k + 1, by omega, by go_num, (congrArg (Value.int .i64) (show d = dep qs (k + 1) by have h1 := HDK1.out; have h2 := HD1.out; omega)), by rw [HDK1.out, HD1.out]; exact HCK2, hbb⟩
        case measure => simp [intOf]; omega
      have b1 : (kd == 1) = false := by simpa using a1
      have b2 : (kd == 16) = false := by simpa using a2
      have hk0 : ¬ k = 0 := fun h => a1 (HK0.out h)
      have hkn : ¬ k + 1 = n := fun h => a2 (HKL.out (by have := hmn1.out; omega))
      have HCN : Hid (¬ (decide (kd = 1) ≠ decide (k = 0) ∨ decide (kd = 16) ≠ decide (k + 1 = n))) := by unfold Hid; simp [a1, a2, hk0, hkn]
      rw [if_neg HCN.out] at HCK1
      clear HCN HK0 HKL hk0 hkn a1 a2
      by_cases a3 : kd = 12
      · subst a3
        have HON : Hid (opn ⟨12, qid, qa, qb, qc, qd, qw, qh, qp⟩ = 1) := rfl
        rw [HON.out] at HCK1 HDS
        have HCK2 : Hid ((if d + 1 < 0 then 3 else if 3 < d + 1 then 2 else bkR n (k + 1) (d + 1) (qs.drop (k + 1))) = c) := HCK1
        clear HCK1
        by_cases hlo : d + 1 < 0
        · have hc3 : c = 3 := by have := HCK2.out; rw [if_pos hlo] at this; exact this.symm
          subst hc3
          clear HCK2
          have hlo2 : (d + 1) < 0 := by omega
          go_wp2_with fail
          go_ret
          exact ⟨rfl, hbb⟩
        rw [if_neg hlo] at HCK2
        by_cases hhi : 3 < d + 1
        · have hc3 : c = 2 := by have := HCK2.out; rw [if_pos hhi] at this; exact this.symm
          subst hc3
          clear HCK2
          have hhi2 : 3 < (d + 1) := by omega
          have hlo2 : ¬ (d + 1) < 0 := by omega
          go_wp2_with fail
          go_ret
          exact ⟨rfl, hbb⟩
        rw [if_neg hhi] at HCK2
        have hhi2 : ¬ 3 < (d + 1) := by omega
        have hlo2 : ¬ (d + 1) < 0 := by omega
        have HD1 : Hid (d1 = d + 1) := HDS.out
        go_wp2_with fail
        go_roundw
        case rel => exact ⟨k + 1, by omega, by go_num, (congrArg (Value.int .i64) (show (d + 1) = dep qs (k + 1) by have h1 := HDK1.out; have h2 := HD1.out; omega)), by rw [HDK1.out, HD1.out]; exact HCK2, hbb⟩
        case measure => simp [intOf]; omega
      by_cases a4 : kd = 13
      · subst a4
        have HON : Hid (opn ⟨13, qid, qa, qb, qc, qd, qw, qh, qp⟩ = (-1)) := rfl
        rw [HON.out] at HCK1 HDS
        have HCK2 : Hid ((if d + (-1) < 0 then 3 else if 3 < d + (-1) then 2 else bkR n (k + 1) (d + (-1)) (qs.drop (k + 1))) = c) := HCK1
        clear HCK1
        by_cases hlo : d + (-1) < 0
        · have hc3 : c = 3 := by have := HCK2.out; rw [if_pos hlo] at this; exact this.symm
          subst hc3
          clear HCK2
          have hlo2 : (d - 1) < 0 := by omega
          go_wp2_with fail
          go_ret
          exact ⟨rfl, hbb⟩
        rw [if_neg hlo] at HCK2
        by_cases hhi : 3 < d + (-1)
        · have hc3 : c = 2 := by have := HCK2.out; rw [if_pos hhi] at this; exact this.symm
          subst hc3
          clear HCK2
          have hhi2 : 3 < (d - 1) := by omega
          have hlo2 : ¬ (d - 1) < 0 := by omega
          go_wp2_with fail
          go_ret
          exact ⟨rfl, hbb⟩
        rw [if_neg hhi] at HCK2
        have hhi2 : ¬ 3 < (d - 1) := by omega
        have hlo2 : ¬ (d - 1) < 0 := by omega
        have HD1 : Hid (d1 = d + (-1)) := HDS.out
        go_wp2_with fail
        go_roundw
        case rel => exact ⟨k + 1, by omega, by go_num, (congrArg (Value.int .i64) (show (d - 1) = dep qs (k + 1) by have h1 := HDK1.out; have h2 := HD1.out; omega)), by rw [HDK1.out, HD1.out]; exact HCK2, hbb⟩
        case measure => simp [intOf]; omega
      have b3 : (kd == 12) = false := by simpa using a3
      have b4 : (kd == 13) = false := by simpa using a4
      have HON : Hid (opn ⟨kd, qid, qa, qb, qc, qd, qw, qh, qp⟩ = 0) := by unfold Hid opn; rw [if_neg a3, if_neg a4]
      rw [HON.out] at HCK1 HDS
      have HCK2 : Hid ((if d + 0 < 0 then 3 else if 3 < d + 0 then 2 else bkR n (k + 1) (d + 0) (qs.drop (k + 1))) = c) := HCK1
      clear HCK1 a3 a4
      by_cases hlo : d + 0 < 0
      · have hc3 : c = 3 := by have := HCK2.out; rw [if_pos hlo] at this; exact this.symm
        subst hc3
        clear HCK2
        have hlo2 : d < 0 := by omega
        go_wp2_with fail
        go_ret
        exact ⟨rfl, hbb⟩
      rw [if_neg hlo] at HCK2
      by_cases hhi : 3 < d + 0
      · have hc3 : c = 2 := by have := HCK2.out; rw [if_pos hhi] at this; exact this.symm
        subst hc3
        clear HCK2
        have hhi2 : 3 < d := by omega
        have hlo2 : ¬ d < 0 := by omega
        go_wp2_with fail
        go_ret
        exact ⟨rfl, hbb⟩
      rw [if_neg hhi] at HCK2
      have hhi2 : ¬ 3 < d := by omega
      have hlo2 : ¬ d < 0 := by omega
      have HD1 : Hid (d1 = d + 0) := HDS.out
      go_wp2_with fail
      go_roundw
      case rel => exact ⟨k + 1, by omega, by go_num, (congrArg (Value.int .i64) (show d = dep qs (k + 1) by have h1 := HDK1.out; have h2 := HD1.out; omega)), by rw [HDK1.out, HD1.out]; exact HCK2, hbb⟩
      case measure => simp [intOf]; omega
    · obtain rfl : k = n := by omega
      have hki : ¬ (k : Int) < (k : Int) := by omega
      rw [List.drop_of_length_le (by rw [HN.out]; exact Nat.le_refl _)] at HCK
      have HCK1 := HCK
      unfold bkR at HCK1
      obtain ⟨d, HDK⟩ : ∃ d, Hid (dep qs k = d) := ⟨_, (rfl : _ = _)⟩
      rw [HDK.out] at HCK1 ⊢
      by_cases hd0 : 0 < d
      · have hc3 : c = 3 := by have := HCK1.out; rw [if_pos hd0] at this; exact this.symm
        subst hc3
        clear HCK HCK1
        go_wp2_with fail
        go_ret
        exact ⟨rfl, hbr⟩
      · have hc3 : c = 0 := by have := HCK1.out; rw [if_neg hd0] at this; exact this.symm
        subst hc3
        clear HCK HCK1
        go_wp2_with fail
        go_ret
        exact ⟨rfl, hbr⟩
end Go.Proofs.YtceabiodelfdoaaDoor
/- Walk: the reference's BookBytes. -- s1 -/
namespace Go.Proofs.YtceabiodelfdoaaDoor
open Go.RowKit

/-- the bytes of an op's chunk, of a book -/
def cB (q : Pq) : List UInt8 := match kindAt q.kind shps with
  | some s => Fb.sealL (Fb.headL s.name (opB q s.id s.nums s.pic))
  | none => []
def bookB (qs : List Pq) : List UInt8 := qs.flatMap cB
theorem opB_len (q : Pq) (s : Shp) (hok : OpOk q s) : (opB q s.id s.nums s.pic).length ≤ 1000 := by
  unfold opB
  rw [List.length_append, List.length_append, nsB_len, List.length_take]
  have h1 := idB_len q.id s.id
  have h2 : (nums4 q).length = 4 := rfl
  have h3 : (pcB q s.pic).length ≤ 300 := by
    unfold pcB
    split
    · rename_i hp
      have hpk := hok.pic hp
      obtain ⟨PW, PH, e1, e2, -⟩ := check_zero _ _ _ hpk
      rw [e1, e2] at hpk
      obtain ⟨i1, i2, i3, i4, -, -⟩ := check_ok hpk
      have h := picBytes_len PW PH q.ps hpk
      have h4 : PH * (1 + 2 * PW) ≤ 8 * 17 := Nat.mul_le_mul (by omega) (by omega)
      rw [e1, e2]
      show (picBytes PW PH q.ps).length ≤ 300
      omega
    · simp
  omega
theorem name_ok (s : Shp) (h : s ∈ shps) : Fb.nameB s.name = true ∧ s.name.length = 4 := by
  simp only [shps, List.mem_cons, List.not_mem_nil, or_false] at h
  rcases h with rfl | rfl | rfl | rfl | rfl | rfl | rfl | rfl | rfl | rfl | rfl | rfl | rfl | rfl | rfl | rfl <;> exact ⟨by decide, rfl⟩
theorem seal_len (a b : List UInt8) : (Fb.sealL (Fb.headL a b)).length = a.length + b.length + 4 := by
  unfold Fb.sealL Fb.headL Fb.pairL
  simp
  omega
theorem cB_of (q : Pq) (s : Shp) (hs : kindAt q.kind shps = some s) (hok : OpOk q s) : cB q = (Fb.chunkBytes s.name (opB q s.id s.nums s.pic)).1 ∧ (Fb.chunkBytes s.name (opB q s.id s.nums s.pic)).2 = 0 ∧ (cB q).length ≤ 1008 := by
  have hl := opB_len q s hok
  obtain ⟨h1, h2⟩ := name_ok s (kindAt_mem _ _ _ hs).1
  have h3 : Fb.chunkBytes s.name (opB q s.id s.nums s.pic) = (Fb.sealL (Fb.headL s.name (opB q s.id s.nums s.pic)), 0) := by
    unfold Fb.chunkBytes
    rw [if_neg (by rw [h1]; decide), if_neg (by omega)]
  have h4 : cB q = Fb.sealL (Fb.headL s.name (opB q s.id s.nums s.pic)) := by unfold cB; rw [hs]
  refine ⟨by rw [h3, h4], by rw [h3], ?_⟩
  rw [h4, seal_len]
  omega
theorem bookB_take (qs : List Pq) (k : Nat) (hk : k < qs.length) {q : Pq} (hq : qs.getD k pq0 = q) : bookB (qs.take (k + 1)) = bookB (qs.take k) ++ cB q := by
  subst hq
  unfold bookB
  rw [List.take_succ_eq_append_getElem hk, List.flatMap_append, List.getD_eq_getElem?_getD, List.getElem?_eq_getElem hk]
  simp
theorem bookB_len (qs : List Pq) (h : ∀ q ∈ qs, (cB q).length ≤ 1008) : (bookB qs).length ≤ 1008 * qs.length := by
  induction qs with
  | nil => simp [bookB]
  | cons a r ih =>
    have h1 := h a (by simp)
    have h2 := ih (fun q hq => h q (by simp [hq]))
    unfold bookB at h2 ⊢
    rw [List.flatMap_cons, List.length_append, List.length_cons]
    omega
/-- what the reference's BookBytes answers -/
def RBbP (qs : List Pq) (w : World) (e : Ending) (w' : World) : Prop :=
  Below w.heap.size w w' ∧ ((∃ c, bkC qs = c ∧ c ≠ 0 ∧ e = .returned (.tuple #[.string ⟨#[]⟩, .int .i64 (c : Int)])) ∨ (bkC qs = 0 ∧ e = .returned (.tuple #[str (bookB qs), .int .i64 0])))
set_option maxHeartbeats 8000000 in
set_option maxRecDepth 100000 in
theorem bookBytesR_any (v : Value) (qs : List Pq) (w : World) (HM : Hid (RefNames w)) (HR : Hid (RdQ w v qs)) (hps : ∀ j, j < qs.length → (qs.getD j pq0).ps.length ≤ 1000) (hn : qs.length ≤ 1000) :
    Calls Tryd.prog 8 #[v] w fun e w' => RBbP qs w e w' := by
  obtain ⟨a, cap, hv, hl0, hcap⟩ := HR.out.shape
  obtain ⟨n, HN⟩ : ∃ n, Hid (qs.length = n) := ⟨_, (rfl : _ = _)⟩
  rw [HN.out] at hv hl0
  subst hv
  have HPS := hid_of3 hps
  obtain ⟨c, HC⟩ : ∃ c, Hid (bkC qs = c) := ⟨_, (rfl : _ = _)⟩
  have hbf := bookFault_any (.slice a n cap) qs w HR hps hn c HC
  rw [HN.out] at hn
  clear hps
  go_enter Tryd.func8, Tryd.ntmps8
  go_wp2_with fail
  refine hbf.mono ?_
  clear hbf
  rintro e w1 ⟨rfl, hb1⟩
  by_cases hc : c = 0
  case neg =>
    have hcp : (0 : Int) < (c : Int) := by omega
    go_wp2_with fail
    refine bodyPost_ret (v := .tuple #[.string ⟨#[]⟩, .int .i64 (c : Int)]) (by simp [results, Tryd.results8, go_sem]) rfl ⟨hb1, .inl ⟨c, HC.out, hc, rfl⟩⟩
  subst hc
  have hcp : ¬ (0 : Int) < ((0 : Nat) : Int) := by omega
  have HBK : Hid (Book qs) := book_of HC.out
  have HCL : Hid (∀ q ∈ qs, (cB q).length ≤ 1008) := fun q hq => by
    obtain ⟨j, hj, rfl⟩ := List.mem_iff_getElem.1 hq
    have h0 := HBK.out.ok j hj
    rw [List.getD_eq_getElem?_getD, List.getElem?_eq_getElem hj] at h0
    simp only [Option.getD_some] at h0
    obtain ⟨s, hs⟩ := opC_some h0
    exact (cB_of _ s hs (opC_ok h0 hs)).2.2
  go_wp2_with fail
  go_loopw [5, 6] (fun z i wr => ∃ (k : Nat) (t : ByteArray), k ≤ n ∧ i = .int .i64 k ∧ z = .string t ∧ Hid (t.data.toList = bookB (qs.take k)) ∧ Below w.heap.size w wr) (fun _ i _ => n - (intOf i).toNat)
  case atStart => exact ⟨0, ⟨#[]⟩, by omega, rfl, rfl, by unfold Hid; simp [bookB], hb1⟩
  case round =>
    obtain ⟨k, t, hk, rfl, rfl, HT, hbr⟩ := hrel
    have hts : t.size ≤ 1008 * 1000 := by
      have h1 : t.data.toList.length = t.size := by simp
      rw [HT.out] at h1
      have h2 := bookB_len (qs.take k) (fun q hq => HCL.out q (List.mem_of_mem_take hq))
      have h3 := List.length_take_le k qs
      have : 1008 * (qs.take k).length ≤ 1008 * 1000 := Nat.mul_le_mul (Nat.le_refl _) (by omega)
      omega
    by_cases hlt : k < n
    · have hki : (k : Int) < (n : Int) := by omega
      have hki0 : (0 : Int) ≤ (k : Int) := by omega
      obtain ⟨q, HX⟩ : ∃ q, Hid (qs.getD k pq0 = q) := ⟨_, (rfl : _ = _)⟩
      have HRr : Hid (RdQ wr (.slice a n cap) qs) := HR.out.on hbr
      obtain ⟨g, o, ua, m, uc, rfl, hg, OC, HU, HMU⟩ := HRr.out.at hlt HX
      obtain ⟨c0, c1, c2, c3, c4, c5, c6, c7, c8⟩ := OC
      have hok : opC q = 0 := by rw [← HX.out]; exact HBK.out.ok k (by rw [HN.out]; exact hlt)
      obtain ⟨s, hs⟩ := opC_some hok
      have HS := hid_of3 hs
      have HOK := hid_of3 hok
      obtain ⟨b1, b2, b3⟩ := cB_of q s hs (opC_ok hok hs)
      have HB1 := hid_of3 b1
      have HB2 := hid_of3 b2
      have hql : q.ps.length ≤ 1000000000 := by rw [← HX.out]; have := HPS.out k (by rw [HN.out]; exact hlt); omega
      have hoc := refChunk_any q (.slice ua m uc) wr (HM.out.on hbr) HU hql
      unfold opV at hoc
      have HST : Hid (bookB (qs.take (k + 1)) = bookB (qs.take k) ++ cB q) := bookB_take qs k (by rw [HN.out]; exact hlt) HX.out
      have hol := opB_len q s (opC_ok hok hs)
      have hnl := (name_ok s (kindAt_mem _ _ _ hs).1).2
      clear b1 b2 hs hok
      go_wp2_with fail
      refine hoc.mono ?_
      clear hoc
      rintro e w2 ⟨hb2, he⟩
      have he2 : e = .returned (.tuple #[.string s.bytes, str (opB q s.id s.nums s.pic), .int .i64 0]) := by
        rcases he with ⟨c', hc', hn', _⟩ | ⟨_, s', hs', rfl⟩
        · exact absurd (hc'.symm.trans HOK.out) hn'
        · obtain rfl := Option.some.inj (HS.out.symm.trans hs')
          rfl
      subst he2
      have hbb2 := hbr.trans (hb2.mono hbr.size)
      obtain ⟨d, HD⟩ := bytes_of (opB q s.id s.nums s.pic)
      have hstr : str (opB q s.id s.nums s.pic) = .string d := by rw [HD.out, str_self]
      rw [hstr]
      have hcb := chunkBytesR_any s.bytes d w2 (by show s.name.toArray.size ≤ _; simp; omega) (by rw [size_of HD]; omega)
      rw [← HD.out, show s.bytes.data.toList = s.name by unfold Shp.bytes; simp, HB2.out, ← HB1.out] at hcb
      obtain ⟨u, HUU⟩ := bytes_of (cB q)
      rw [HUU.out, str_self] at hcb
      have hus : u.size ≤ 1008 := by rw [size_of HUU]; exact b3
      have HCB := hid_of3 hcb
      clear he hcb hstr c0 c1 c2 c3 c4 c5 c6 c7 c8 hb2
      go_wp2_with fail
      refine HCB.out.mono ?_
      rintro e w3 ⟨rfl, hb3⟩
      have hz : ¬ 9223372036854775807 < t.size + u.size := by omega
      have HT2 : Hid ((t ++ u).data.toList = bookB (qs.take (k + 1))) := by
        unfold Hid
        rw [HST.out, ← HT.out, HUU.out]
        simp
      have hbb3 := hbb2.trans (hb3.mono hbb2.size)
      clear HCB hb3
      go_wp2_with fail
      go_roundw
      case rel => exact ⟨k + 1, t ++ u, by omega, by go_num, rfl, HT2, hbb3⟩
      case measure => simp [intOf]; omega
    · have hki : ¬ (k : Int) < (n : Int) := by omega
      obtain rfl : n = k := by omega
      have htk : qs.take n = qs := List.take_of_length_le (by rw [HN.out]; omega)
      go_wp2_with fail
      refine bodyPost_ret (v := .tuple #[.string t, .int .i64 0]) (by simp [results, Tryd.results8, go_sem]) rfl ⟨hbr, .inr ⟨HC.out, ?_⟩⟩
      rw [← htk, ← HT.out, str_self]
end Go.Proofs.YtceabiodelfdoaaDoor
/- What a book's bytes are read as: chunks, then ops; rows of texts. -- s1 -/
namespace Go.Proofs.YtceabiodelfdoaaDoor
open Go.RowKit

/-- a chunk that is passed over -/
def passB (n : List UInt8) : Bool := decide ((n.getD 0 0).toNat = 88)
/-- ops of chunks, behind those that were read -/
def parB : List (List UInt8 × List UInt8) → List Pq → List Pq × Nat
  | [], acc => (acc, 0)
  | (n, d) :: r, acc => if passB n = true then parB r acc else if (parQ ⟨n.toArray⟩ ⟨d.toArray⟩).2 = 0 then parB r (acc ++ [(parQ ⟨n.toArray⟩ ⟨d.toArray⟩).1]) else ([], (parQ ⟨n.toArray⟩ ⟨d.toArray⟩).2)
/-- ops of a book's bytes, and the number of the error -/
def bookOf (l : List UInt8) : List Pq × Nat :=
  if 4000 < l.length then ([], 2)
  else if (Fb.allOf 120 l 0).2 ≠ 0 then ([], (Fb.allOf 120 l 0).2)
  else if (parB (Fb.allOf 120 l 0).1 []).2 ≠ 0 then ([], (parB (Fb.allOf 120 l 0).1 []).2)
  else if bkC (parB (Fb.allOf 120 l 0).1 []).1 ≠ 0 then ([], bkC (parB (Fb.allOf 120 l 0).1 []).1)
  else ((parB (Fb.allOf 120 l 0).1 []).1, 0)
theorem parB_len : ∀ (cs : List (List UInt8 × List UInt8)) (acc : List Pq), (parB cs acc).1.length ≤ acc.length + cs.length := by
  intro cs
  induction cs with
  | nil => intro acc; simp [parB]
  | cons p r ih =>
    intro acc
    obtain ⟨n, d⟩ := p
    unfold parB
    split
    · have := ih acc; simp only [List.length_cons]; omega
    · split
      · have := ih (acc ++ [(parQ ⟨n.toArray⟩ ⟨d.toArray⟩).1]); simp only [List.length_append, List.length_cons, List.length_nil] at this ⊢; omega
      · simp
theorem Tryd.infoStr : (Tryd.prog.info? 9).map (fun i => (i.zero, i.size, i.bytes)) = some (some (.string ⟨#[]⟩), 1, 16) := by kernel_rfl
/-- a row of texts -/
def txts (l : List (List UInt8)) : List Value := l.map str
theorem txts_len (l : List (List UInt8)) : (txts l).length = l.length * 1 := by simp [txts]
theorem txts_app (a b : List (List UInt8)) : txts (a ++ b) = txts a ++ txts b := by simp [txts]
theorem txt_app (w : World) (B : Nat) (v : Value) (l : List (List UInt8)) (h : w.ownsRow B 9 1 v l.length (txts l)) (hn : l.length ≤ 1000) (hB : B ≤ w.heap.size) (x : List UInt8) (g : Nat) (c0 : w.cell? ⟨g, 0, none⟩ = some (str x)) :
    ∃ v' w', (Builtin.append_ #[70, 70] 70 #[v, .slice (some ⟨g, 0, none⟩) 1 1]).run Tryd.prog w = .ok v' w' ∧ w'.ownsRow B 9 1 v' (l ++ [x]).length (txts (l ++ [x])) ∧ w.grownBy w' v.ownBlock ∧ (v'.ownBlock = v.ownBlock ∨ v'.ownBlock = some w.heap.size) := by
  obtain ⟨i0, hi, hz0, hz1, hz2⟩ := info_parts Tryd.infoStr
  obtain ⟨v', w', hr, r1, r2, _, r4⟩ := run_append_own_at (P := Tryd.prog) w B 70 70 9 i0 _ 1 16 Tryd.underlying70 hi hz0 hz1 hz2 rfl (by decide) v _ _ h ⟨g, 0, none⟩ 1 1 [str x] rfl
    (fun j u hj => by
      have e : (⟨g, 0, none⟩ : Addr).add j = ⟨g, j, none⟩ := by unfold Addr.add; split <;> simp_all
      rw [e]
      match j, hj with
      | 0, hj => simp at hj; subst hj; exact c0) (by intro u hu; simp at hu; subst hu; rfl) (by unfold maxLen; omega) (by omega) hB
  refine ⟨v', w', hr, ?_, r2, r4⟩
  rw [List.length_append, txts_app]
  exact r1
theorem op_app (w : World) (B : Nat) (v : Value) (qv : List (Pq × Value)) (h : OwnQ w B v qv) (hn : qv.length ≤ 1000) (hB : B ≤ w.heap.size) (x : Pq) (u : Value) (hu : w.ownsRow B 110 2 u x.ps.length (pixCells x.ps)) (g : Nat)
    (hc : ∀ j z, (qCells x u)[j]? = some z → w.cell? ⟨g, j, none⟩ = some z) :
    ∃ v' w', (Builtin.append_ #[22, 22] 22 #[v, .slice (some ⟨g, 0, none⟩) 1 1]).run Tryd.prog w = .ok v' w' ∧ OwnQ w' B v' (qv ++ [(x, u)]) ∧ Below B w w' := by
  obtain ⟨i0, hi, hz0, hz1, hz2⟩ := info_parts Tryd.infoOp
  obtain ⟨ua, uc, hue⟩ := own_any hu
  obtain ⟨v', w', hr, r1, r2, _, _⟩ := run_append_own_at (P := Tryd.prog) w B 22 22 45 i0 _ 9 88 Tryd.underlying22 hi hz0 hz1 hz2 rfl (by decide) v _ _ h.1 ⟨g, 0, none⟩ 1 1 (qCells x u) rfl
    (fun j z hj => by
      have e : (⟨g, 0, none⟩ : Addr).add j = ⟨g, j, none⟩ := by unfold Addr.add; split <;> simp_all
      rw [e]; exact hc j z hj) (by intro z hz; subst hue; simp [qCells] at hz; rcases hz with rfl | rfl | rfl | rfl | rfl | rfl | rfl | rfl | rfl <;> rfl) (by unfold maxLen; omega) (by omega) hB
  exact ⟨v', w', hr, h.app hu r1 r2, (Below.refl _ _).grown r2 hB (fun z hz => (h.1.lt z hz).1)⟩
/-- the first chunk may be: what it has -/
theorem first_name {l : List UInt8} {m : Nat} (h : Fb.measureL l = (m, 0)) : (l.take 4).length = 4 ∧ 8 ≤ m ∧ m ≤ l.length := by
  have h1 := Fb.measure_pos (l := l) (by rw [h])
  rw [h] at h1
  simp only at h1
  refine ⟨by rw [List.length_take]; omega, h1.1, h1.2⟩
end Go.Proofs.YtceabiodelfdoaaDoor
/- Walk: strings.HasPrefix of "X". -- s1 -/
namespace Go.Proofs.YtceabiodelfdoaaDoor
open Go.RowKit

set_option maxHeartbeats 4000000 in
set_option maxRecDepth 100000 in
theorem hasX_lite (nb : ByteArray) (w : World) (hs : 1 ≤ nb.size) (hs2 : nb.size ≤ 1000000) :
    Calls Tryd.prog 41 #[.string nb, .string ⟨#[88]⟩] w fun e w' => e = .returned (.bool (decide ((nb.data.toList.getD 0 0).toNat = 88))) ∧ Below w.heap.size w w' := by
  have hsi : (1 : Int) ≤ (nb.size : Int) := by omega
  go_enter Tryd.func41, Tryd.ntmps41
  go_wp2_with fail
  have e : ((nb.extract 0 1).toList == [88]) = decide ((nb.data.toList.getD 0 0).toNat = 88) := by
    rw [ByteArray.toList_eq, ByteArray.data_extract, Array.toList_extract]
    cases hl : nb.data.toList with
    | nil =>
      have h : nb.data.toList.length = nb.size := by simp
      rw [hl] at h
      simp at h
      omega
    | cons a l =>
      by_cases h : a = 88
      · subst h; simp
      · have h2 : a.toNat ≠ 88 := fun h2 => h (UInt8.toNat_inj.1 h2)
        simp [h, h2]
  rw [e]
  refine bodyPost_ret (v := .bool (decide ((nb.data.toList.getD 0 0).toNat = 88))) (by simp [results, Tryd.results41, go_sem]) rfl ⟨rfl, Below.refl _ _⟩
set_option maxHeartbeats 4000000 in
set_option maxRecDepth 100000 in
theorem hasX_any (nb : ByteArray) (w : World) (hs : 1 ≤ nb.size) (hs2 : nb.size ≤ 1000000) (b : Bool) (HB : Hid (decide ((nb.data.toList.getD 0 0).toNat = 88) = b)) :
    Calls Tryd.prog 24 #[.string nb, .string ⟨#[88]⟩] w fun e w' => e = .returned (.bool b) ∧ Below w.heap.size w w' := by
  have hc := hasX_lite nb w hs hs2
  rw [HB.out] at hc
  go_enter Tryd.func24, Tryd.ntmps24
  go_wp2_with fail
  refine hc.mono ?_
  rintro e w1 ⟨rfl, hb1⟩
  go_wp2_with fail
  go_ret
  exact ⟨rfl, hb1⟩
end Go.Proofs.YtceabiodelfdoaaDoor
/- Kinds by names, as the reference looks for them. -- s1 -/
namespace Go.Proofs.YtceabiodelfdoaaDoor
open Go.RowKit

def kindNm (k : Nat) : ByteArray := ⟨(nmsB.getD k []).toArray⟩
/-- the last of the first k kinds that has the name; 0: none -/
def kn (nm : ByteArray) : Nat → Nat
  | 0 => 0
  | k + 1 => if kindNm (k + 1) = nm then k + 1 else kn nm k
theorem nameAt_none (nm : ByteArray) : ∀ (l : List Shp), nameAt nm l = none → ∀ s ∈ l, s.bytes ≠ nm := by
  intro l
  induction l with
  | nil => intro _ s h; cases h
  | cons a r ih =>
    intro h s hs
    unfold nameAt at h
    split at h
    · cases h
    · rcases List.mem_cons.1 hs with rfl | hs
      · assumption
      · exact ih h s hs
theorem kn_none (nm : ByteArray) (h : nameAt nm shps = none) : ∀ k, k ≤ 16 → kn nm k = 0 := by
  intro k
  induction k with
  | zero => intro _; rfl
  | succ k ih =>
    intro hk
    unfold kn
    have hkl : k < shps.length := hk
    rw [if_neg, ih (by omega)]
    have h2 := nameAt_none nm shps h shps[k] (List.getElem_mem hkl)
    have h3 : kindNm (k + 1) = (shps[k]).bytes := by
      unfold kindNm nmsB Shp.bytes
      rw [List.getD_eq_getElem?_getD, List.getElem?_cons_succ, List.getElem?_map, List.getElem?_eq_getElem hkl]
      rfl
    rw [h3]
    exact h2
theorem kn_some (nm : ByteArray) (s : Shp) (h : nameAt nm shps = some s) : kn nm 16 = s.kind ∧ kindAt (s.kind : Int) shps = some s := by
  obtain ⟨hm, rfl⟩ := nameAt_mem _ _ _ h
  clear h
  simp only [shps, List.mem_cons, List.not_mem_nil, or_false] at hm
  rcases hm with rfl | rfl | rfl | rfl | rfl | rfl | rfl | rfl | rfl | rfl | rfl | rfl | rfl | rfl | rfl | rfl <;> exact ⟨by decide +kernel, by rfl⟩
end Go.Proofs.YtceabiodelfdoaaDoor
