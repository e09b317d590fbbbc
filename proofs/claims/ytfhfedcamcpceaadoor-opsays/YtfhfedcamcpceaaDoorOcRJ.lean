/- Walk: the reference's OpChunk. -- s1 -/
import Derived.Test.YtfhfedcamcpceaaDoorM5
import Derived.Test.YtfhfedcamcpceaaDoorOcR1J
import Derived.Test.YtfhfedcamcpceaaDoorRefEJ
import Derived.Test.YtfhfedcamcpceaaDoorParMJ
namespace Go.Proofs.YtfhfedcamcpceaaDoor
open Go.RowKit

theorem heap_new2 (W : World) (o : Obj) (g : Nat) (hg : W.heap.size = g) : (W.alloc o).heap[g]? = some o := by
  subst hg
  show (W.heap.push o)[W.heap.size]? = some o
  simp
/-- what the reference's OpChunk answers -/
def RckP (q : Pq) (w : World) (e : Ending) (w' : World) : Prop :=
  Below w.heap.size w w' ∧ ((∃ c, opC q = c ∧ c ≠ 0 ∧ e = .returned (.tuple #[.string ⟨#[]⟩, .string ⟨#[]⟩, .int .i64 (c : Int)])) ∨
    (opC q = 0 ∧ ∃ s, kindAt q.kind shps = some s ∧ e = .returned (.tuple #[.string s.bytes, str (opB q s.id s.nums s.pic), .int .i64 0])))
set_option maxHeartbeats 8000000 in
set_option maxRecDepth 100000 in
theorem refChunk_any (q : Pq) (u : Value) (w : World) (HM : Hid (RefNames w)) (HU : Hid (RdP w u q.ps)) (hps : q.ps.length ≤ 1000000000) :
    Calls Tryd.prog 10 #[opV q u] w fun e w' => RckP q w e w' := by
  obtain ⟨ap, cp, hv, hl0, hcp, -⟩ := HU.out
  obtain ⟨np, HNP⟩ : ∃ n, Hid (q.ps.length = n) := ⟨_, (rfl : _ = _)⟩
  rw [HNP.out] at hv hl0
  subst hv
  obtain ⟨X0, HX0⟩ : ∃ X0, Hid (w.alloc (.cells #[.int .i64 q.kind, .int .i64 q.id, .int .i64 q.a, .int .i64 q.b, .int .i64 q.c, .int .i64 q.d, .int .i64 q.pw, .int .i64 q.ph, .slice ap np cp] 26) = X0) := ⟨_, (rfl : _ = _)⟩
  have hbz : Below w.heap.size w X0 := by rw [← HX0.out]; exact (Below.refl _ _).alloc (Nat.le_refl _) _
  have N0 : Hid (Nine X0 w.heap.size (.int .i64 q.kind) (.int .i64 q.id) (.int .i64 q.a) (.int .i64 q.b) (.int .i64 q.c) (.int .i64 q.d) (.int .i64 q.pw) (.int .i64 q.ph) (.slice ap np cp)) := by rw [← HX0.out]; exact nine_start w _ _ _ _ _ _ _ _ _ 26 w.heap.size rfl
  have HU0 : Hid (RdP X0 (.slice ap np cp) q.ps) := HU.out.on hbz
  have hof := opf_any q (.slice ap np cp) X0 hps HU0
  unfold OpfP at hof
  obtain ⟨c, HC⟩ : ∃ c, Hid (opC q = c) := ⟨_, (rfl : _ = _)⟩
  rw [rf_eq, HC.out] at hof
  unfold opV at hof ⊢
  obtain ⟨m0, m1, m2, m3, m4, m5, m6, m7, m8, -, -, -, -, -, -, -, -, -, -⟩ := N0.out
  go_enter Tryd.func10, Tryd.ntmps10
  go_wp2_with fail
  rw [HX0.out]
  refine hof.mono ?_
  clear hof m0 m1 m2 m3 m4 m5 m6 m7 m8
  rintro e w1 ⟨rfl, hb1⟩
  have hbb1 := hbz.trans (hb1.mono hbz.size)
  have N1 := hid_of3 (N0.out.on hb1)
  clear hbz hb1 N0 HU0 HX0
  by_cases hc : c = 0
  case neg =>
    have hcp : (0 : Int) < (c : Int) := by omega
    go_wp2_with fail
    refine bodyPost_ret (v := .tuple #[.string ⟨#[]⟩, .string ⟨#[]⟩, .int .i64 (c : Int)]) (by simp [results, Tryd.results10, go_sem]) rfl ⟨hbb1, .inl ⟨c, HC.out, hc, rfl⟩⟩
  subst hc
  have hcp : ¬ (0 : Int) < ((0 : Nat) : Int) := by omega
  obtain ⟨s, hs⟩ := opC_some HC.out
  have HK := hid_of3 hs
  have HOK := hid_of3 (opC_ok HC.out hs)
  obtain ⟨hs1, hs2⟩ := shps_ok s (kindAt_mem _ _ _ hs).1
  clear hs
  obtain ⟨m0, m1, m2, m3, m4, m5, m6, m7, m8, -, -, -, -, -, -, -, -, -, mlt⟩ := N1.out
  go_wp2_with fail
  refine (parts_at q.kind s HK.out w1).mono ?_
  rintro e wx ⟨rfl, rfl⟩
  have hwid : s.id = true → IntKind.u8.wrap q.id = q.id ∧ Hid (((UInt8.ofNat q.id.toNat).toNat : Int) = q.id) := fun h => by
    obtain ⟨i1, i2⟩ := HOK.out.id h
    refine ⟨by rw [IntKind.wrap_u8]; omega, ?_⟩
    unfold Hid
    rw [u8_toNat _ (by omega)]
    omega
  have HWID := hid_of3 hwid
  clear hwid
  obtain ⟨nn, HNN⟩ : ∃ n, Hid (s.nums = n) := ⟨_, (rfl : _ = _)⟩
  have hn4 : nn ≤ 4 := by rw [← HNN.out]; exact hs1
  obtain ⟨fid, HFID⟩ : ∃ b, Hid (s.id = b) := ⟨_, (rfl : _ = _)⟩
  obtain ⟨fpc, HFPC⟩ : ∃ b, Hid (s.pic = b) := ⟨_, (rfl : _ = _)⟩
  rw [HNN.out, HFID.out, HFPC.out]
  cases fid with
  | true =>
    obtain ⟨hw1, HW2⟩ := HWID.out HFID.out
    have hcv := run_one1 (wx.alloc (.cells #[.int .u8 q.id] 5)) wx.heap.size q.id (UInt8.ofNat q.id.toNat) HW2 (by simp)
    go_wp2_with fail
    clear m0 m1 m2 m3 m4 m5 m6 m7 m8
    obtain ⟨W9, HW9⟩ : ∃ W, Hid ((wx.alloc (.cells #[.int .u8 q.id] 5)).alloc (.cells #[.int .i64 q.a, .int .i64 q.b, .int .i64 q.c, .int .i64 q.d] 3) = W) := ⟨_, (rfl : _ = _)⟩
    have hb9 : Below wx.heap.size wx W9 := by rw [← HW9.out]; exact ((Below.refl _ _).alloc (Nat.le_refl _) _).alloc (by simp) _
    have N9 := hid_of3 (N1.out.on hb9)
    have hbb9 := hbb1.trans (hb9.mono hbb1.size)
    have HR9 : Hid (RdI W9 (.slice (some ⟨(wx.heap.size + 1), 0, none⟩) 4 4) ((nums4 q).take 4)) := four_take q (by rw [← HW9.out]; exact heap_new2 _ _ _ (by simp)) 4 (Nat.le_refl _)
    rw [HW9.out]
    obtain ⟨g, HGG⟩ : ∃ g, Hid ((wx.heap.size + 1) = g) := ⟨_, (rfl : _ = _)⟩
    rw [HGG.out] at HR9 ⊢
    obtain ⟨t0, HT0⟩ : ∃ t, Hid ((⟨#[UInt8.ofNat q.id.toNat]⟩ : ByteArray) = t) := ⟨_, (rfl : _ = _)⟩
    have HL0 : Hid (t0.data.toList = idB q.id s.id) := by unfold Hid; rw [← HT0.out, HFID.out]; rfl
    rw [HT0.out]
    clear HW9 HGG HT0 hb9 mlt
    go_loopw [9, 11] (fun z i wr => ∃ (k : Nat) (t : ByteArray), k ≤ nn ∧ i = .int .i64 k ∧ z = .string t ∧ Hid (t.data.toList = idB q.id s.id ++ nsB ((nums4 q).take k)) ∧ Below W9.heap.size W9 wr) (fun _ i _ => nn - (intOf i).toNat)
    case atStart => exact ⟨0, t0, by omega, rfl, rfl, by unfold Hid; rw [HL0.out]; simp [nsB], Below.refl _ _⟩
    case round =>
      obtain ⟨k, t, hk, rfl, rfl, HT, hbr⟩ := hrel
      by_cases hlt : k < nn
      · have hki : (k : Int) < (nn : Int) := by omega
        have hki0 : (0 : Int) ≤ (k : Int) := by omega
        have hki4 : (k : Int) < 4 := by omega
        have hk4 : k < 4 := by omega
        obtain ⟨x, HX⟩ : ∃ x, Hid ((nums4 q).getD k 0 = x) := ⟨_, (rfl : _ = _)⟩
        obtain ⟨gg, po, hag, hgl, hcx⟩ := (HR9.out.on hbr).at (k := k) hk4 (show Hid (((nums4 q).take 4).length = 4) from rfl) (show Hid (((nums4 q).take 4).getD k 0 = x) from HX)
        simp only [Option.some.injEq, Addr.mk.injEq, and_true] at hag
        obtain ⟨rfl, rfl⟩ := hag
        have hxm : x ∈ (nums4 q).take s.nums := by
          have h := four_get q s.nums k (by rw [HNN.out]; exact hlt) hs1
          rw [HX.out] at h
          exact List.mem_of_getElem? h
        obtain ⟨hx1, hx2⟩ := HOK.out.num x hxm
        obtain ⟨N, n0, n1, hn0, hn1, hwx, ee1, ee2, ee3, hnb⟩ := two_parts x hx1 hx2
        rw [Nat.zero_add] at hcx
        have HA : Hid (((UInt8.ofNat n0).toNat : Int) = (n0 : Int)) := by unfold Hid; rw [u8_toNat n0 hn0]
        have HB : Hid (((UInt8.ofNat n1).toNat : Int) = (n1 : Int)) := by unfold Hid; rw [u8_toNat n1 hn1]
        have hcv := run_pair2 (wr.alloc (.cells #[.int .u8 (n0 : Int), .int .u8 (n1 : Int)] 5)).drew wr.heap.size (n0 : Int) (n1 : Int) (UInt8.ofNat n0) (UInt8.ofNat n1) HA HB (by show (wr.alloc _).cell? _ = _; simp) (by show (wr.alloc _).cell? _ = _; simp)
        have hts : t.size ≤ 100 := by
          have h1 : t.data.toList.length = t.size := by simp
          have h2 := idB_len q.id s.id
          rw [HT.out, List.length_append, nsB_len, List.length_take] at h1
          have h3 : (nums4 q).length = 4 := rfl
          omega
        have hts2 : ¬ 9223372036854775807 < t.size + 2 := by omega
        have HT2 : Hid ((t ++ (⟨#[UInt8.ofNat n0, UInt8.ofNat n1]⟩ : ByteArray)).data.toList = idB q.id s.id ++ nsB ((nums4 q).take (k + 1))) := by
          unfold Hid
          rw [add_two, HT.out, take_nsB (by exact hk4) HX.out, hnb, List.append_assoc]
        have eu0 : IntKind.u8.wrap (n0 : Int) = (n0 : Int) := by rw [IntKind.wrap_u8]; omega
        have eu1 : IntKind.u8.wrap (n1 : Int) = (n1 : Int) := by rw [IntKind.wrap_u8]; omega
        have ei1 : IntKind.i64.wrap ((N : Int) / 256) = (n1 : Int) := by rw [IntKind.wrap_i64]; unfold wrap64 at ee2; exact ee2
        clear hxm hx1 hx2 hnb hn0 hn1
        have hcx9 := hcx
        have ed1 : (N : Int).tmod 256 = (n0 : Int) := by rw [Int.tmod_eq_emod_of_nonneg (by omega)]; exact ee1
        have ed2 : (N : Int).tdiv 256 = (N : Int) / 256 := Int.tdiv_eq_ediv_of_nonneg (by omega)
        go_upto_region 12 with fail
        refine wp_region_held_drew (S := (fun w' => w'.cell? ⟨g, k, none⟩ = some (.int .i64 x))) (by kernel_rfl) ?_ (fun hHeld => ?_)
        · exact hcx9
        refine wpAnyH_take (i := 0) (oi := ({ dst := some 46, op := Op.move (Operand.tmp 9), type := 9, pos := "parts.go:583", after := #[], guard := none } : Oper)) (v := ?_) rfl (by kernel_rfl) (by kernel_rfl) (by kernel_rfl) (fun _ _ _ h => h) (Or.inl ⟨by rfl, ?_⟩) (by assumption) ?_
        rotate_left
        · (intro w hSw; (try dsimp only at hSw); go_simp; try with_reducible rfl)
        try simp only [Act.put, List.setIfInBounds_toArray, List.set_cons_zero, List.set_cons_succ]
        refine wpAnyH_take (i := 1) (oi := ({ dst := some 47, op := Op.move (Operand.tmp 10), type := 60, pos := "parts.go:583", after := #[], guard := none } : Oper)) (v := ?_) rfl (by kernel_rfl) (by kernel_rfl) (by kernel_rfl) (fun _ _ _ h => h) (Or.inl ⟨by rfl, ?_⟩) (by assumption) ?_
        rotate_left
        · (intro w hSw; (try dsimp only at hSw); go_simp; try with_reducible rfl)
        try simp only [Act.put, List.setIfInBounds_toArray, List.set_cons_zero, List.set_cons_succ]
        refine wpAnyH_take (i := 2) (oi := ({ dst := some 48, op := Op.move (Operand.tmp 11), type := 3, pos := "parts.go:583", after := #[], guard := none } : Oper)) (v := ?_) rfl (by kernel_rfl) (by kernel_rfl) (by kernel_rfl) (fun _ _ _ h => h) (Or.inl ⟨by rfl, ?_⟩) (by assumption) ?_
        rotate_left
        · (intro w hSw; (try dsimp only at hSw); go_simp; try with_reducible rfl)
        try simp only [Act.put, List.setIfInBounds_toArray, List.set_cons_zero, List.set_cons_succ]
        refine wpAnyH_take (i := 3) (oi := ({ dst := some 49, op := Op.indexAddr 60 (Operand.tmp 47) (Operand.tmp 48), type := 0, pos := "parts.go:583", after := #[{ on := 1, ground := Ground.data }, { on := 2, ground := Ground.data }], guard := none } : Oper)) (v := ?_) rfl (by kernel_rfl) (by kernel_rfl) (by kernel_rfl) (fun _ _ _ h => h) (Or.inl ⟨by rfl, ?_⟩) (by assumption) ?_
        rotate_left
        · (intro w hSw; (try dsimp only at hSw); go_simp; try with_reducible rfl)
        try simp only [Act.put, List.setIfInBounds_toArray, List.set_cons_zero, List.set_cons_succ]
        refine wpAnyH_take (i := 4) (oi := ({ dst := some 50, op := Op.load 3 (Operand.tmp 49), type := 3, pos := "parts.go:583", after := #[{ on := 3, ground := Ground.data }], guard := none } : Oper)) (v := ?_) rfl (by kernel_rfl) (by kernel_rfl) (by kernel_rfl) (fun _ _ _ h => h) (Or.inl ⟨by rfl, ?_⟩) (by assumption) ?_
        rotate_left
        · (intro w hSw; (try dsimp only at hSw); go_simp; try with_reducible rfl)
        try simp only [Act.put, List.setIfInBounds_toArray, List.set_cons_zero, List.set_cons_succ]
        refine wpAnyH_take (i := 5) (oi := ({ dst := some 51, op := Op.binOp BinOp.add 3 (Operand.tmp 50) (Operand.const (Value.int IntKind.i64 128)) 3, type := 3, pos := "parts.go:583", after := #[{ on := 4, ground := Ground.data }], guard := none } : Oper)) (v := ?_) rfl (by kernel_rfl) (by kernel_rfl) (by kernel_rfl) (fun _ _ _ h => h) (Or.inl ⟨by rfl, ?_⟩) (by assumption) ?_
        rotate_left
        · (intro w hSw; (try dsimp only at hSw); go_simp; try with_reducible rfl)
        try simp only [Act.put, List.setIfInBounds_toArray, List.set_cons_zero, List.set_cons_succ]
        refine wpAnyH_take (i := 6) (oi := ({ dst := some 52, op := Op.binOp BinOp.rem 3 (Operand.tmp 51) (Operand.const (Value.int IntKind.i64 256)) 3, type := 3, pos := "parts.go:583", after := #[{ on := 5, ground := Ground.data }], guard := none } : Oper)) (v := ?_) rfl (by kernel_rfl) (by kernel_rfl) (by kernel_rfl) (fun _ _ _ h => h) (Or.inl ⟨by rfl, ?_⟩) (by assumption) ?_
        rotate_left
        · (intro w hSw; (try dsimp only at hSw); go_simp; try with_reducible rfl)
        try simp only [Act.put, List.setIfInBounds_toArray, List.set_cons_zero, List.set_cons_succ]
        refine wpAnyH_take (i := 7) (oi := ({ dst := some 53, op := Op.convert 3 5 (Operand.tmp 52), type := 5, pos := "parts.go:583", after := #[{ on := 6, ground := Ground.data }], guard := none } : Oper)) (v := ?_) rfl (by kernel_rfl) (by kernel_rfl) (by kernel_rfl) (fun _ _ _ h => h) (Or.inl ⟨by rfl, ?_⟩) (by assumption) ?_
        rotate_left
        · (intro w hSw; (try dsimp only at hSw); go_simp; try with_reducible rfl)
        try simp only [Act.put, List.setIfInBounds_toArray, List.set_cons_zero, List.set_cons_succ]
        refine wpAnyH_take (i := 8) (oi := ({ dst := some 54, op := Op.move (Operand.tmp 10), type := 60, pos := "parts.go:583", after := #[], guard := none } : Oper)) (v := ?_) rfl (by kernel_rfl) (by kernel_rfl) (by kernel_rfl) (fun _ _ _ h => h) (Or.inl ⟨by rfl, ?_⟩) (by assumption) ?_
        rotate_left
        · (intro w hSw; (try dsimp only at hSw); go_simp; try with_reducible rfl)
        try simp only [Act.put, List.setIfInBounds_toArray, List.set_cons_zero, List.set_cons_succ]
        refine wpAnyH_take (i := 9) (oi := ({ dst := some 55, op := Op.move (Operand.tmp 11), type := 3, pos := "parts.go:583", after := #[], guard := none } : Oper)) (v := ?_) rfl (by kernel_rfl) (by kernel_rfl) (by kernel_rfl) (fun _ _ _ h => h) (Or.inl ⟨by rfl, ?_⟩) (by assumption) ?_
        rotate_left
        · (intro w hSw; (try dsimp only at hSw); go_simp; try with_reducible rfl)
        try simp only [Act.put, List.setIfInBounds_toArray, List.set_cons_zero, List.set_cons_succ]
        refine wpAnyH_take (i := 10) (oi := ({ dst := some 56, op := Op.indexAddr 60 (Operand.tmp 54) (Operand.tmp 55), type := 0, pos := "parts.go:583", after := #[{ on := 8, ground := Ground.data }, { on := 9, ground := Ground.data }], guard := none } : Oper)) (v := ?_) rfl (by kernel_rfl) (by kernel_rfl) (by kernel_rfl) (fun _ _ _ h => h) (Or.inl ⟨by rfl, ?_⟩) (by assumption) ?_
        rotate_left
        · (intro w hSw; (try dsimp only at hSw); go_simp; try with_reducible rfl)
        try simp only [Act.put, List.setIfInBounds_toArray, List.set_cons_zero, List.set_cons_succ]
        refine wpAnyH_take (i := 11) (oi := ({ dst := some 57, op := Op.load 3 (Operand.tmp 56), type := 3, pos := "parts.go:583", after := #[{ on := 10, ground := Ground.data }], guard := none } : Oper)) (v := ?_) rfl (by kernel_rfl) (by kernel_rfl) (by kernel_rfl) (fun _ _ _ h => h) (Or.inl ⟨by rfl, ?_⟩) (by assumption) ?_
        rotate_left
        · (intro w hSw; (try dsimp only at hSw); go_simp; try with_reducible rfl)
        try simp only [Act.put, List.setIfInBounds_toArray, List.set_cons_zero, List.set_cons_succ]
        refine wpAnyH_take (i := 12) (oi := ({ dst := some 58, op := Op.binOp BinOp.add 3 (Operand.tmp 57) (Operand.const (Value.int IntKind.i64 128)) 3, type := 3, pos := "parts.go:583", after := #[{ on := 11, ground := Ground.data }], guard := none } : Oper)) (v := ?_) rfl (by kernel_rfl) (by kernel_rfl) (by kernel_rfl) (fun _ _ _ h => h) (Or.inl ⟨by rfl, ?_⟩) (by assumption) ?_
        rotate_left
        · (intro w hSw; (try dsimp only at hSw); go_simp; try with_reducible rfl)
        try simp only [Act.put, List.setIfInBounds_toArray, List.set_cons_zero, List.set_cons_succ]
        refine wpAnyH_take (i := 13) (oi := ({ dst := some 59, op := Op.binOp BinOp.quo 3 (Operand.tmp 58) (Operand.const (Value.int IntKind.i64 256)) 3, type := 3, pos := "parts.go:583", after := #[{ on := 12, ground := Ground.data }], guard := none } : Oper)) (v := ?_) rfl (by kernel_rfl) (by kernel_rfl) (by kernel_rfl) (fun _ _ _ h => h) (Or.inl ⟨by rfl, ?_⟩) (by assumption) ?_
        rotate_left
        · (intro w hSw; (try dsimp only at hSw); go_simp; try with_reducible rfl)
        try simp only [Act.put, List.setIfInBounds_toArray, List.set_cons_zero, List.set_cons_succ]
        refine wpAnyH_take (i := 14) (oi := ({ dst := some 60, op := Op.convert 3 5 (Operand.tmp 59), type := 5, pos := "parts.go:583", after := #[{ on := 13, ground := Ground.data }], guard := none } : Oper)) (v := ?_) rfl (by kernel_rfl) (by kernel_rfl) (by kernel_rfl) (fun _ _ _ h => h) (Or.inl ⟨by rfl, ?_⟩) (by assumption) ?_
        rotate_left
        · (intro w hSw; (try dsimp only at hSw); go_simp; try with_reducible rfl)
        try simp only [Act.put, List.setIfInBounds_toArray, List.set_cons_zero, List.set_cons_succ]
        refine wpAnyH_ready (rs := [15]) (by kernel_rfl) (by simp) ?_
        refine AllReadyH.cons (o := ({ dst := some 61, op := Op.buildSlice 59 2 #[(0, Operand.tmp 53), (1, Operand.tmp 60)], type := 59, pos := "parts.go:583", after := #[{ on := 7, ground := Ground.data }, { on := 14, ground := Ground.data }], guard := none } : Oper)) rfl (fun K_ hK => ?_) AllReadyH.nil
        go_simp
        refine hK.out _ _ ?_ (fun hHeld => ?_)
        · exact (cell_old wr _ g k hgl).trans hcx9
        clear hK K_
        try simp only [Act.put, List.setIfInBounds_toArray, List.set_cons_zero, List.set_cons_succ]
        refine wpAnyH_ready (rs := [16]) (by kernel_rfl) (by simp) ?_
        refine AllReadyH.cons (o := ({ dst := some 62, op := Op.convert 59 9 (Operand.tmp 61), type := 9, pos := "parts.go:583", after := #[{ on := 15, ground := Ground.data }], guard := none } : Oper)) rfl (fun K_ hK => ?_) AllReadyH.nil
        go_simp
        refine hK.out _ _ ?_ (fun hHeld => ?_)
        · exact (cell_old wr _ g k hgl).trans hcx9
        clear hK K_
        try simp only [Act.put, List.setIfInBounds_toArray, List.set_cons_zero, List.set_cons_succ]
        refine wpAnyH_take (i := 17) (oi := ({ dst := some 63, op := Op.binOp BinOp.add 9 (Operand.tmp 46) (Operand.tmp 62) 9, type := 9, pos := "parts.go:583", after := #[{ on := 0, ground := Ground.data }, { on := 16, ground := Ground.data }], guard := none } : Oper)) (v := ?_) rfl (by kernel_rfl) (by kernel_rfl) (by kernel_rfl) (fun _ _ _ h => h) (Or.inl ⟨by rfl, ?_⟩) (by assumption) ?_
        rotate_left
        · (intro w hSw; (try dsimp only at hSw); go_simp; try with_reducible rfl)
        try simp only [Act.put, List.setIfInBounds_toArray, List.set_cons_zero, List.set_cons_succ]
        refine wpAnyH_take (i := 18) (oi := ({ dst := some 9, op := Op.assign (Operand.tmp 63), type := 9, pos := "parts.go:583", after := #[{ on := 17, ground := Ground.data }, { on := 0, ground := Ground.phase }, { on := 1, ground := Ground.phase }, { on := 2, ground := Ground.phase }, { on := 3, ground := Ground.phase }, { on := 4, ground := Ground.phase }, { on := 5, ground := Ground.phase }, { on := 6, ground := Ground.phase }, { on := 7, ground := Ground.phase }, { on := 8, ground := Ground.phase }, { on := 9, ground := Ground.phase }, { on := 10, ground := Ground.phase }, { on := 11, ground := Ground.phase }, { on := 12, ground := Ground.phase }, { on := 13, ground := Ground.phase }, { on := 14, ground := Ground.phase }, { on := 15, ground := Ground.phase }, { on := 16, ground := Ground.phase }, { on := 17, ground := Ground.phase }], guard := none } : Oper)) (v := ?_) rfl (by kernel_rfl) (by kernel_rfl) (by kernel_rfl) (fun _ _ _ h => h) (Or.inl ⟨by rfl, ?_⟩) (by assumption) ?_
        rotate_left
        · (intro w hSw; (try dsimp only at hSw); go_simp; try with_reducible rfl)
        try simp only [Act.put, List.setIfInBounds_toArray, List.set_cons_zero, List.set_cons_succ]
        refine wpAnyH_done (by kernel_rfl) ?_ _
        go_wp2_with fail
        go_roundw
        case rel => exact ⟨k + 1, _, by omega, by go_num, rfl, HT2, (hbr.alloc (Nat.le_trans (Nat.le_refl _) hbr.size) _).drew⟩
        case measure => simp [intOf]; omega
      · have hki : ¬ (k : Int) < (nn : Int) := by omega
        obtain rfl : nn = k := by omega
        have hbW : Below w.heap.size w wr := hbb9.trans (hbr.mono hbb9.size)
        obtain ⟨kk, hkk, hk1, hk16, hnm⟩ := name_kind q.kind s HK.out
        obtain ⟨nb, noff, ncap, y0, y1, y2, y3⟩ := HM.out.on hbW
        have y4 : wr.cell? ⟨nb, noff + kk, none⟩ = some (.string s.bytes) := y3 kk s.name hnm
        have Nr := hid_of3 (N9.out.on hbr)
        obtain ⟨m0, m1, m2, m3, m4, m5, m6, m7, m8, -, -, -, -, -, -, -, -, -, mlt⟩ := Nr.out
        rw [hkk] at m0
        have hq1 : (kk : Int) < (17 : Int) := by omega
        have hq0 : (0 : Int) ≤ (kk : Int) := by omega
        have hq2 : kk < 17 := by omega
        have HLT : Hid (t.data.toList = idB q.id s.id ++ nsB ((nums4 q).take s.nums)) := by unfold Hid; rw [HT.out, HNN.out]
        clear y3 hnm hkk HT
        cases fpc with
        | false =>
          have HFIN : Hid (str (opB q s.id s.nums s.pic) = .string t) := by
            unfold Hid opB pcB
            rw [HFPC.out, if_neg (by decide), List.append_nil, ← HLT.out, str_self]
          go_wp2_with fail
          refine bodyPost_ret (v := .tuple #[.string s.bytes, .string t, .int .i64 0]) (by simp [results, Tryd.results10, go_sem]) rfl ⟨hbW, .inr ⟨HC.out, s, HK.out, by rw [HFIN.out]⟩⟩
        | true =>
          have hts : t.size ≤ 100 := by
            have h1 : t.data.toList.length = t.size := by simp
            have h2 := idB_len q.id s.id
            rw [HLT.out, List.length_append, nsB_len, List.length_take] at h1
            have h3 : (nums4 q).length = 4 := rfl
            omega
          have hpok := HOK.out.pic HFPC.out
          obtain ⟨PW, PH, e1, e2, -⟩ := check_zero _ _ _ hpok
          rw [e1] at m6
          rw [e2] at m7
          rw [e1, e2] at hpok
          have HCP := hid_of3 hpok
          have HE := hid_of3 (And.intro e1 e2)
          clear hpok e1 e2
          obtain ⟨tp, HTP⟩ := bytes_of (picBytes PW PH q.ps)
          have htp : tp.size ≤ 1000 := by
            have h := picBytes_len PW PH q.ps HCP.out
            obtain ⟨i1, i2, i3, i4, -, -⟩ := check_ok HCP.out
            have h3 : PH * (1 + 2 * PW) ≤ 8 * 17 := Nat.mul_le_mul (by omega) (by omega)
            rw [size_of HTP]
            omega
          have HFIN : Hid (str (opB q s.id s.nums s.pic) = .string (t ++ tp)) := by
            unfold Hid opB pcB
            rw [HFPC.out, if_pos rfl, HE.out.1, HE.out.2, ← HLT.out]
            show str (t.data.toList ++ picBytes PW PH q.ps) = _
            rw [HTP.out, ← str_self (t ++ tp), ByteArray.data_append, Array.toList_append]
          go_wp2_with fail
          refine (refBytes_at PW PH (.slice ap np cp) q.ps wr (HU.out.on hbW) HCP tp HTP).mono ?_
          rintro e wp ⟨rfl, hbp⟩
          have hbP := hbW.trans (hbp.mono hbW.size)
          have z0 := (hbp.cell (p := ⟨_, 0, none⟩) y2).trans y0
          have z4 := (hbp.cell (p := ⟨nb, noff + kk, none⟩) y1).trans y4
          have n0 := (hbp.cell (p := ⟨w.heap.size, 0, none⟩) mlt).trans m0
          clear m0 m1 m2 m3 m4 m5 m6 m7 m8 y0 y4 hbp
          go_wp2_with fail
          refine bodyPost_ret (v := .tuple #[.string s.bytes, .string (t ++ tp), .int .i64 0]) (by simp [results, Tryd.results10, go_sem]) rfl ⟨hbP, .inr ⟨HC.out, s, HK.out, by rw [HFIN.out]⟩⟩
  | false =>
    go_wp2_with fail
    clear m0 m1 m2 m3 m4 m5 m6 m7 m8
    obtain ⟨W9, HW9⟩ : ∃ W, Hid (wx.alloc (.cells #[.int .i64 q.a, .int .i64 q.b, .int .i64 q.c, .int .i64 q.d] 3) = W) := ⟨_, (rfl : _ = _)⟩
    have hb9 : Below wx.heap.size wx W9 := by rw [← HW9.out]; exact (Below.refl _ _).alloc (Nat.le_refl _) _
    have N9 := hid_of3 (N1.out.on hb9)
    have hbb9 := hbb1.trans (hb9.mono hbb1.size)
    have HR9 : Hid (RdI W9 (.slice (some ⟨wx.heap.size, 0, none⟩) 4 4) ((nums4 q).take 4)) := four_take q (by rw [← HW9.out]; exact heap_new2 _ _ _ (by simp)) 4 (Nat.le_refl _)
    rw [HW9.out]
    obtain ⟨g, HGG⟩ : ∃ g, Hid (wx.heap.size = g) := ⟨_, (rfl : _ = _)⟩
    rw [HGG.out] at HR9 ⊢
    obtain ⟨t0, HT0⟩ : ∃ t, Hid ((⟨#[]⟩ : ByteArray) = t) := ⟨_, (rfl : _ = _)⟩
    have HL0 : Hid (t0.data.toList = idB q.id s.id) := by unfold Hid; rw [← HT0.out, HFID.out]; rfl
    rw [HT0.out]
    clear HW9 HGG HT0 hb9 mlt
    go_loopw [9, 11] (fun z i wr => ∃ (k : Nat) (t : ByteArray), k ≤ nn ∧ i = .int .i64 k ∧ z = .string t ∧ Hid (t.data.toList = idB q.id s.id ++ nsB ((nums4 q).take k)) ∧ Below W9.heap.size W9 wr) (fun _ i _ => nn - (intOf i).toNat)
    case atStart => exact ⟨0, t0, by omega, rfl, rfl, by unfold Hid; rw [HL0.out]; simp [nsB], Below.refl _ _⟩
    case round =>
      obtain ⟨k, t, hk, rfl, rfl, HT, hbr⟩ := hrel
      by_cases hlt : k < nn
      · have hki : (k : Int) < (nn : Int) := by omega
        have hki0 : (0 : Int) ≤ (k : Int) := by omega
        have hki4 : (k : Int) < 4 := by omega
        have hk4 : k < 4 := by omega
        obtain ⟨x, HX⟩ : ∃ x, Hid ((nums4 q).getD k 0 = x) := ⟨_, (rfl : _ = _)⟩
        obtain ⟨gg, po, hag, hgl, hcx⟩ := (HR9.out.on hbr).at (k := k) hk4 (show Hid (((nums4 q).take 4).length = 4) from rfl) (show Hid (((nums4 q).take 4).getD k 0 = x) from HX)
        simp only [Option.some.injEq, Addr.mk.injEq, and_true] at hag
        obtain ⟨rfl, rfl⟩ := hag
        have hxm : x ∈ (nums4 q).take s.nums := by
          have h := four_get q s.nums k (by rw [HNN.out]; exact hlt) hs1
          rw [HX.out] at h
          exact List.mem_of_getElem? h
        obtain ⟨hx1, hx2⟩ := HOK.out.num x hxm
        obtain ⟨N, n0, n1, hn0, hn1, hwx, ee1, ee2, ee3, hnb⟩ := two_parts x hx1 hx2
        rw [Nat.zero_add] at hcx
        have HA : Hid (((UInt8.ofNat n0).toNat : Int) = (n0 : Int)) := by unfold Hid; rw [u8_toNat n0 hn0]
        have HB : Hid (((UInt8.ofNat n1).toNat : Int) = (n1 : Int)) := by unfold Hid; rw [u8_toNat n1 hn1]
        have hcv := run_pair2 (wr.alloc (.cells #[.int .u8 (n0 : Int), .int .u8 (n1 : Int)] 5)).drew wr.heap.size (n0 : Int) (n1 : Int) (UInt8.ofNat n0) (UInt8.ofNat n1) HA HB (by show (wr.alloc _).cell? _ = _; simp) (by show (wr.alloc _).cell? _ = _; simp)
        have hts : t.size ≤ 100 := by
          have h1 : t.data.toList.length = t.size := by simp
          have h2 := idB_len q.id s.id
          rw [HT.out, List.length_append, nsB_len, List.length_take] at h1
          have h3 : (nums4 q).length = 4 := rfl
          omega
        have hts2 : ¬ 9223372036854775807 < t.size + 2 := by omega
        have HT2 : Hid ((t ++ (⟨#[UInt8.ofNat n0, UInt8.ofNat n1]⟩ : ByteArray)).data.toList = idB q.id s.id ++ nsB ((nums4 q).take (k + 1))) := by
          unfold Hid
          rw [add_two, HT.out, take_nsB (by exact hk4) HX.out, hnb, List.append_assoc]
        have eu0 : IntKind.u8.wrap (n0 : Int) = (n0 : Int) := by rw [IntKind.wrap_u8]; omega
        have eu1 : IntKind.u8.wrap (n1 : Int) = (n1 : Int) := by rw [IntKind.wrap_u8]; omega
        have ei1 : IntKind.i64.wrap ((N : Int) / 256) = (n1 : Int) := by rw [IntKind.wrap_i64]; unfold wrap64 at ee2; exact ee2
        clear hxm hx1 hx2 hnb hn0 hn1
        have hcx9 := hcx
        have ed1 : (N : Int).tmod 256 = (n0 : Int) := by rw [Int.tmod_eq_emod_of_nonneg (by omega)]; exact ee1
        have ed2 : (N : Int).tdiv 256 = (N : Int) / 256 := Int.tdiv_eq_ediv_of_nonneg (by omega)
        go_upto_region 12 with fail
        refine wp_region_held_drew (S := (fun w' => w'.cell? ⟨g, k, none⟩ = some (.int .i64 x))) (by kernel_rfl) ?_ (fun hHeld => ?_)
        · exact hcx9
        refine wpAnyH_take (i := 0) (oi := ({ dst := some 46, op := Op.move (Operand.tmp 9), type := 9, pos := "parts.go:583", after := #[], guard := none } : Oper)) (v := ?_) rfl (by kernel_rfl) (by kernel_rfl) (by kernel_rfl) (fun _ _ _ h => h) (Or.inl ⟨by rfl, ?_⟩) (by assumption) ?_
        rotate_left
        · (intro w hSw; (try dsimp only at hSw); go_simp; try with_reducible rfl)
        try simp only [Act.put, List.setIfInBounds_toArray, List.set_cons_zero, List.set_cons_succ]
        refine wpAnyH_take (i := 1) (oi := ({ dst := some 47, op := Op.move (Operand.tmp 10), type := 60, pos := "parts.go:583", after := #[], guard := none } : Oper)) (v := ?_) rfl (by kernel_rfl) (by kernel_rfl) (by kernel_rfl) (fun _ _ _ h => h) (Or.inl ⟨by rfl, ?_⟩) (by assumption) ?_
        rotate_left
        · (intro w hSw; (try dsimp only at hSw); go_simp; try with_reducible rfl)
        try simp only [Act.put, List.setIfInBounds_toArray, List.set_cons_zero, List.set_cons_succ]
        refine wpAnyH_take (i := 2) (oi := ({ dst := some 48, op := Op.move (Operand.tmp 11), type := 3, pos := "parts.go:583", after := #[], guard := none } : Oper)) (v := ?_) rfl (by kernel_rfl) (by kernel_rfl) (by kernel_rfl) (fun _ _ _ h => h) (Or.inl ⟨by rfl, ?_⟩) (by assumption) ?_
        rotate_left
        · (intro w hSw; (try dsimp only at hSw); go_simp; try with_reducible rfl)
        try simp only [Act.put, List.setIfInBounds_toArray, List.set_cons_zero, List.set_cons_succ]
        refine wpAnyH_take (i := 3) (oi := ({ dst := some 49, op := Op.indexAddr 60 (Operand.tmp 47) (Operand.tmp 48), type := 0, pos := "parts.go:583", after := #[{ on := 1, ground := Ground.data }, { on := 2, ground := Ground.data }], guard := none } : Oper)) (v := ?_) rfl (by kernel_rfl) (by kernel_rfl) (by kernel_rfl) (fun _ _ _ h => h) (Or.inl ⟨by rfl, ?_⟩) (by assumption) ?_
        rotate_left
        · (intro w hSw; (try dsimp only at hSw); go_simp; try with_reducible rfl)
        try simp only [Act.put, List.setIfInBounds_toArray, List.set_cons_zero, List.set_cons_succ]
        refine wpAnyH_take (i := 4) (oi := ({ dst := some 50, op := Op.load 3 (Operand.tmp 49), type := 3, pos := "parts.go:583", after := #[{ on := 3, ground := Ground.data }], guard := none } : Oper)) (v := ?_) rfl (by kernel_rfl) (by kernel_rfl) (by kernel_rfl) (fun _ _ _ h => h) (Or.inl ⟨by rfl, ?_⟩) (by assumption) ?_
        rotate_left
        · (intro w hSw; (try dsimp only at hSw); go_simp; try with_reducible rfl)
        try simp only [Act.put, List.setIfInBounds_toArray, List.set_cons_zero, List.set_cons_succ]
        refine wpAnyH_take (i := 5) (oi := ({ dst := some 51, op := Op.binOp BinOp.add 3 (Operand.tmp 50) (Operand.const (Value.int IntKind.i64 128)) 3, type := 3, pos := "parts.go:583", after := #[{ on := 4, ground := Ground.data }], guard := none } : Oper)) (v := ?_) rfl (by kernel_rfl) (by kernel_rfl) (by kernel_rfl) (fun _ _ _ h => h) (Or.inl ⟨by rfl, ?_⟩) (by assumption) ?_
        rotate_left
        · (intro w hSw; (try dsimp only at hSw); go_simp; try with_reducible rfl)
        try simp only [Act.put, List.setIfInBounds_toArray, List.set_cons_zero, List.set_cons_succ]
        refine wpAnyH_take (i := 6) (oi := ({ dst := some 52, op := Op.binOp BinOp.rem 3 (Operand.tmp 51) (Operand.const (Value.int IntKind.i64 256)) 3, type := 3, pos := "parts.go:583", after := #[{ on := 5, ground := Ground.data }], guard := none } : Oper)) (v := ?_) rfl (by kernel_rfl) (by kernel_rfl) (by kernel_rfl) (fun _ _ _ h => h) (Or.inl ⟨by rfl, ?_⟩) (by assumption) ?_
        rotate_left
        · (intro w hSw; (try dsimp only at hSw); go_simp; try with_reducible rfl)
        try simp only [Act.put, List.setIfInBounds_toArray, List.set_cons_zero, List.set_cons_succ]
        refine wpAnyH_take (i := 7) (oi := ({ dst := some 53, op := Op.convert 3 5 (Operand.tmp 52), type := 5, pos := "parts.go:583", after := #[{ on := 6, ground := Ground.data }], guard := none } : Oper)) (v := ?_) rfl (by kernel_rfl) (by kernel_rfl) (by kernel_rfl) (fun _ _ _ h => h) (Or.inl ⟨by rfl, ?_⟩) (by assumption) ?_
        rotate_left
        · (intro w hSw; (try dsimp only at hSw); go_simp; try with_reducible rfl)
        try simp only [Act.put, List.setIfInBounds_toArray, List.set_cons_zero, List.set_cons_succ]
        refine wpAnyH_take (i := 8) (oi := ({ dst := some 54, op := Op.move (Operand.tmp 10), type := 60, pos := "parts.go:583", after := #[], guard := none } : Oper)) (v := ?_) rfl (by kernel_rfl) (by kernel_rfl) (by kernel_rfl) (fun _ _ _ h => h) (Or.inl ⟨by rfl, ?_⟩) (by assumption) ?_
        rotate_left
        · (intro w hSw; (try dsimp only at hSw); go_simp; try with_reducible rfl)
        try simp only [Act.put, List.setIfInBounds_toArray, List.set_cons_zero, List.set_cons_succ]
        refine wpAnyH_take (i := 9) (oi := ({ dst := some 55, op := Op.move (Operand.tmp 11), type := 3, pos := "parts.go:583", after := #[], guard := none } : Oper)) (v := ?_) rfl (by kernel_rfl) (by kernel_rfl) (by kernel_rfl) (fun _ _ _ h => h) (Or.inl ⟨by rfl, ?_⟩) (by assumption) ?_
        rotate_left
        · (intro w hSw; (try dsimp only at hSw); go_simp; try with_reducible rfl)
        try simp only [Act.put, List.setIfInBounds_toArray, List.set_cons_zero, List.set_cons_succ]
        refine wpAnyH_take (i := 10) (oi := ({ dst := some 56, op := Op.indexAddr 60 (Operand.tmp 54) (Operand.tmp 55), type := 0, pos := "parts.go:583", after := #[{ on := 8, ground := Ground.data }, { on := 9, ground := Ground.data }], guard := none } : Oper)) (v := ?_) rfl (by kernel_rfl) (by kernel_rfl) (by kernel_rfl) (fun _ _ _ h => h) (Or.inl ⟨by rfl, ?_⟩) (by assumption) ?_
        rotate_left
        · (intro w hSw; (try dsimp only at hSw); go_simp; try with_reducible rfl)
        try simp only [Act.put, List.setIfInBounds_toArray, List.set_cons_zero, List.set_cons_succ]
        refine wpAnyH_take (i := 11) (oi := ({ dst := some 57, op := Op.load 3 (Operand.tmp 56), type := 3, pos := "parts.go:583", after := #[{ on := 10, ground := Ground.data }], guard := none } : Oper)) (v := ?_) rfl (by kernel_rfl) (by kernel_rfl) (by kernel_rfl) (fun _ _ _ h => h) (Or.inl ⟨by rfl, ?_⟩) (by assumption) ?_
        rotate_left
        · (intro w hSw; (try dsimp only at hSw); go_simp; try with_reducible rfl)
        try simp only [Act.put, List.setIfInBounds_toArray, List.set_cons_zero, List.set_cons_succ]
        refine wpAnyH_take (i := 12) (oi := ({ dst := some 58, op := Op.binOp BinOp.add 3 (Operand.tmp 57) (Operand.const (Value.int IntKind.i64 128)) 3, type := 3, pos := "parts.go:583", after := #[{ on := 11, ground := Ground.data }], guard := none } : Oper)) (v := ?_) rfl (by kernel_rfl) (by kernel_rfl) (by kernel_rfl) (fun _ _ _ h => h) (Or.inl ⟨by rfl, ?_⟩) (by assumption) ?_
        rotate_left
        · (intro w hSw; (try dsimp only at hSw); go_simp; try with_reducible rfl)
        try simp only [Act.put, List.setIfInBounds_toArray, List.set_cons_zero, List.set_cons_succ]
        refine wpAnyH_take (i := 13) (oi := ({ dst := some 59, op := Op.binOp BinOp.quo 3 (Operand.tmp 58) (Operand.const (Value.int IntKind.i64 256)) 3, type := 3, pos := "parts.go:583", after := #[{ on := 12, ground := Ground.data }], guard := none } : Oper)) (v := ?_) rfl (by kernel_rfl) (by kernel_rfl) (by kernel_rfl) (fun _ _ _ h => h) (Or.inl ⟨by rfl, ?_⟩) (by assumption) ?_
        rotate_left
        · (intro w hSw; (try dsimp only at hSw); go_simp; try with_reducible rfl)
        try simp only [Act.put, List.setIfInBounds_toArray, List.set_cons_zero, List.set_cons_succ]
        refine wpAnyH_take (i := 14) (oi := ({ dst := some 60, op := Op.convert 3 5 (Operand.tmp 59), type := 5, pos := "parts.go:583", after := #[{ on := 13, ground := Ground.data }], guard := none } : Oper)) (v := ?_) rfl (by kernel_rfl) (by kernel_rfl) (by kernel_rfl) (fun _ _ _ h => h) (Or.inl ⟨by rfl, ?_⟩) (by assumption) ?_
        rotate_left
        · (intro w hSw; (try dsimp only at hSw); go_simp; try with_reducible rfl)
        try simp only [Act.put, List.setIfInBounds_toArray, List.set_cons_zero, List.set_cons_succ]
        refine wpAnyH_ready (rs := [15]) (by kernel_rfl) (by simp) ?_
        refine AllReadyH.cons (o := ({ dst := some 61, op := Op.buildSlice 59 2 #[(0, Operand.tmp 53), (1, Operand.tmp 60)], type := 59, pos := "parts.go:583", after := #[{ on := 7, ground := Ground.data }, { on := 14, ground := Ground.data }], guard := none } : Oper)) rfl (fun K_ hK => ?_) AllReadyH.nil
        go_simp
        refine hK.out _ _ ?_ (fun hHeld => ?_)
        · exact (cell_old wr _ g k hgl).trans hcx9
        clear hK K_
        try simp only [Act.put, List.setIfInBounds_toArray, List.set_cons_zero, List.set_cons_succ]
        refine wpAnyH_ready (rs := [16]) (by kernel_rfl) (by simp) ?_
        refine AllReadyH.cons (o := ({ dst := some 62, op := Op.convert 59 9 (Operand.tmp 61), type := 9, pos := "parts.go:583", after := #[{ on := 15, ground := Ground.data }], guard := none } : Oper)) rfl (fun K_ hK => ?_) AllReadyH.nil
        go_simp
        refine hK.out _ _ ?_ (fun hHeld => ?_)
        · exact (cell_old wr _ g k hgl).trans hcx9
        clear hK K_
        try simp only [Act.put, List.setIfInBounds_toArray, List.set_cons_zero, List.set_cons_succ]
        refine wpAnyH_take (i := 17) (oi := ({ dst := some 63, op := Op.binOp BinOp.add 9 (Operand.tmp 46) (Operand.tmp 62) 9, type := 9, pos := "parts.go:583", after := #[{ on := 0, ground := Ground.data }, { on := 16, ground := Ground.data }], guard := none } : Oper)) (v := ?_) rfl (by kernel_rfl) (by kernel_rfl) (by kernel_rfl) (fun _ _ _ h => h) (Or.inl ⟨by rfl, ?_⟩) (by assumption) ?_
        rotate_left
        · (intro w hSw; (try dsimp only at hSw); go_simp; try with_reducible rfl)
        try simp only [Act.put, List.setIfInBounds_toArray, List.set_cons_zero, List.set_cons_succ]
        refine wpAnyH_take (i := 18) (oi := ({ dst := some 9, op := Op.assign (Operand.tmp 63), type := 9, pos := "parts.go:583", after := #[{ on := 17, ground := Ground.data }, { on := 0, ground := Ground.phase }, { on := 1, ground := Ground.phase }, { on := 2, ground := Ground.phase }, { on := 3, ground := Ground.phase }, { on := 4, ground := Ground.phase }, { on := 5, ground := Ground.phase }, { on := 6, ground := Ground.phase }, { on := 7, ground := Ground.phase }, { on := 8, ground := Ground.phase }, { on := 9, ground := Ground.phase }, { on := 10, ground := Ground.phase }, { on := 11, ground := Ground.phase }, { on := 12, ground := Ground.phase }, { on := 13, ground := Ground.phase }, { on := 14, ground := Ground.phase }, { on := 15, ground := Ground.phase }, { on := 16, ground := Ground.phase }, { on := 17, ground := Ground.phase }], guard := none } : Oper)) (v := ?_) rfl (by kernel_rfl) (by kernel_rfl) (by kernel_rfl) (fun _ _ _ h => h) (Or.inl ⟨by rfl, ?_⟩) (by assumption) ?_
        rotate_left
        · (intro w hSw; (try dsimp only at hSw); go_simp; try with_reducible rfl)
        try simp only [Act.put, List.setIfInBounds_toArray, List.set_cons_zero, List.set_cons_succ]
        refine wpAnyH_done (by kernel_rfl) ?_ _
        go_wp2_with fail
        go_roundw
        case rel => exact ⟨k + 1, _, by omega, by go_num, rfl, HT2, (hbr.alloc (Nat.le_trans (Nat.le_refl _) hbr.size) _).drew⟩
        case measure => simp [intOf]; omega
      · have hki : ¬ (k : Int) < (nn : Int) := by omega
        obtain rfl : nn = k := by omega
        have hbW : Below w.heap.size w wr := hbb9.trans (hbr.mono hbb9.size)
        obtain ⟨kk, hkk, hk1, hk16, hnm⟩ := name_kind q.kind s HK.out
        obtain ⟨nb, noff, ncap, y0, y1, y2, y3⟩ := HM.out.on hbW
        have y4 : wr.cell? ⟨nb, noff + kk, none⟩ = some (.string s.bytes) := y3 kk s.name hnm
        have Nr := hid_of3 (N9.out.on hbr)
        obtain ⟨m0, m1, m2, m3, m4, m5, m6, m7, m8, -, -, -, -, -, -, -, -, -, mlt⟩ := Nr.out
        rw [hkk] at m0
        have hq1 : (kk : Int) < (17 : Int) := by omega
        have hq0 : (0 : Int) ≤ (kk : Int) := by omega
        have hq2 : kk < 17 := by omega
        have HLT : Hid (t.data.toList = idB q.id s.id ++ nsB ((nums4 q).take s.nums)) := by unfold Hid; rw [HT.out, HNN.out]
        clear y3 hnm hkk HT
        cases fpc with
        | false =>
          have HFIN : Hid (str (opB q s.id s.nums s.pic) = .string t) := by
            unfold Hid opB pcB
            rw [HFPC.out, if_neg (by decide), List.append_nil, ← HLT.out, str_self]
          go_wp2_with fail
          refine bodyPost_ret (v := .tuple #[.string s.bytes, .string t, .int .i64 0]) (by simp [results, Tryd.results10, go_sem]) rfl ⟨hbW, .inr ⟨HC.out, s, HK.out, by rw [HFIN.out]⟩⟩
        | true =>
          have hts : t.size ≤ 100 := by
            have h1 : t.data.toList.length = t.size := by simp
            have h2 := idB_len q.id s.id
            rw [HLT.out, List.length_append, nsB_len, List.length_take] at h1
            have h3 : (nums4 q).length = 4 := rfl
            omega
          have hpok := HOK.out.pic HFPC.out
          obtain ⟨PW, PH, e1, e2, -⟩ := check_zero _ _ _ hpok
          rw [e1] at m6
          rw [e2] at m7
          rw [e1, e2] at hpok
          have HCP := hid_of3 hpok
          have HE := hid_of3 (And.intro e1 e2)
          clear hpok e1 e2
          obtain ⟨tp, HTP⟩ := bytes_of (picBytes PW PH q.ps)
          have htp : tp.size ≤ 1000 := by
            have h := picBytes_len PW PH q.ps HCP.out
            obtain ⟨i1, i2, i3, i4, -, -⟩ := check_ok HCP.out
            have h3 : PH * (1 + 2 * PW) ≤ 8 * 17 := Nat.mul_le_mul (by omega) (by omega)
            rw [size_of HTP]
            omega
          have HFIN : Hid (str (opB q s.id s.nums s.pic) = .string (t ++ tp)) := by
            unfold Hid opB pcB
            rw [HFPC.out, if_pos rfl, HE.out.1, HE.out.2, ← HLT.out]
            show str (t.data.toList ++ picBytes PW PH q.ps) = _
            rw [HTP.out, ← str_self (t ++ tp), ByteArray.data_append, Array.toList_append]
          go_wp2_with fail
          refine (refBytes_at PW PH (.slice ap np cp) q.ps wr (HU.out.on hbW) HCP tp HTP).mono ?_
          rintro e wp ⟨rfl, hbp⟩
          have hbP := hbW.trans (hbp.mono hbW.size)
          have z0 := (hbp.cell (p := ⟨_, 0, none⟩) y2).trans y0
          have z4 := (hbp.cell (p := ⟨nb, noff + kk, none⟩) y1).trans y4
          have n0 := (hbp.cell (p := ⟨w.heap.size, 0, none⟩) mlt).trans m0
          clear m0 m1 m2 m3 m4 m5 m6 m7 m8 y0 y4 hbp
          go_wp2_with fail
          refine bodyPost_ret (v := .tuple #[.string s.bytes, .string (t ++ tp), .int .i64 0]) (by simp [results, Tryd.results10, go_sem]) rfl ⟨hbP, .inr ⟨HC.out, s, HK.out, by rw [HFIN.out]⟩⟩
end Go.Proofs.YtfhfedcamcpceaaDoor
