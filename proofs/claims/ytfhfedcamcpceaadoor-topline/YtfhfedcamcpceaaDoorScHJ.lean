/- Walk: script.Text. -- s1 -/
import Derived.Test.YtfhfedcamcpceaaDoorM4
import Derived.Test.YtfhfedcamcpceaaDoorScGJ
import Derived.Test.YtfhfedcamcpceaaDoorScEJ
import Derived.Test.YtfhfedcamcpceaaDoorScKJ
namespace Go.Proofs.YtfhfedcamcpceaaDoor
open Go.RowKit
open Go.Lib hiding intOf

/-- an op's line; none, if it may not be -/
def lineT (q : Pq) : List UInt8 := if opC q = 0 then (match kindAt q.kind shps with
  | some s => Sc.lineQ q s
  | none => []) else []
def TextP (q : Pq) (w : World) (e : Ending) (w' : World) : Prop := ∃ t : ByteArray, e = .returned (.tuple #[.string t, errV (opC q)]) ∧ t.data.toList = lineT q ∧ Below w.heap.size w w'
theorem numsQ_count {q : Pq} {s : Shp} (hok : OpOk q s) (h4 : s.nums ≤ 4) : (Sc.numsQ q s.id s.nums s.pic).length ≤ 200 := by
  rw [Sc.numsQ_len q s h4]
  cases hp : s.pic with
  | false => cases s.id <;> simp <;> omega
  | true =>
    obtain ⟨-, -, h64, -⟩ := Sc.pix_of_check (hok.pic hp)
    cases s.id <;> simp <;> omega
set_option maxHeartbeats 16000000 in
set_option maxRecDepth 100000 in
theorem textS_any (q : Pq) (u : Value) (w : World) (HS : Hid (Shapes w)) (h1 : 3 < w.heap.size) (HE : Hid (LibE w)) (HW : Hid (WordsP w)) (HU : Hid (RdP w u q.ps)) (hp : q.ps.length ≤ 1000) :
    Calls Tryd.prog 19 #[opV q u] w fun e w' => TextP q w e w' := by
  obtain ⟨ap, cp, hv, hl0, hcp, -⟩ := HU.out
  obtain ⟨np, HNP⟩ : ∃ n, Hid (q.ps.length = n) := ⟨_, (rfl : _ = _)⟩
  rw [HNP.out] at hv hl0 hp
  subst hv
  obtain ⟨X0, HX0⟩ : ∃ X0, Hid (w.alloc (.cells #[.int .i64 q.kind, .int .i64 q.id, .int .i64 q.a, .int .i64 q.b, .int .i64 q.c, .int .i64 q.d, .int .i64 q.pw, .int .i64 q.ph, .slice ap np cp] 26) = X0) := ⟨_, (rfl : _ = _)⟩
  have hbx : Below w.heap.size w X0 := by rw [← HX0.out]; exact (Below.refl _ _).alloc (Nat.le_refl _) _
  have NX : Hid (Nine X0 w.heap.size (.int .i64 q.kind) (.int .i64 q.id) (.int .i64 q.a) (.int .i64 q.b) (.int .i64 q.c) (.int .i64 q.d) (.int .i64 q.pw) (.int .i64 q.ph) (.slice ap np cp)) := by rw [← HX0.out]; exact nine_start _ _ _ _ _ _ _ _ _ _ _ _ rfl
  obtain ⟨c, HC⟩ : ∃ c, Hid (opC q = c) := ⟨_, (rfl : _ = _)⟩
  have hck := opCheck_any q (.slice ap np cp) X0 (HS.out.on h1 hbx) (Nat.lt_of_lt_of_le h1 hbx.size) (HU.out.on hbx) (by rw [HNP.out]; omega) c HC
  unfold opV at hck ⊢
  obtain ⟨x0, x1, x2, x3, x4, x5, x6, x7, x8, xf0, xf1, xf2, xf3, xf4, xf5, xf6, xf7, xf8, xlt⟩ := NX.out
  by_cases hc : c = 0
  case neg =>
    have hev : errV c = .iface 69 (.int .i64 (c : Int)) := by unfold errV; rw [if_neg hc]
    rw [hev] at hck
    have HCK := hid_of3 hck
    clear hck
    go_enter Tryd.func19, Tryd.ntmps19
    go_upto_region 1 with fail
    rw [HX0.out]
    clear HX0
    go_wp2_with fail
    refine HCK.out.mono ?_
    rintro e w1 ⟨rfl, hb1⟩
    go_wp2_with fail
    refine bodyPost_ret (v := .tuple #[.string ⟨#[]⟩, .iface 69 (.int .i64 (c : Int))]) (by simp [results, Tryd.results19, go_sem]) rfl ⟨⟨#[]⟩, by rw [HC.out, hev], ?_, hbx.trans (hb1.mono hbx.size)⟩
    unfold lineT
    rw [HC.out, if_neg hc]
  subst hc
  rw [show errV 0 = Value.nilIface from rfl] at hck
  have HCK := hid_of3 hck
  clear hck
  obtain ⟨s, hs⟩ := opC_some HC.out
  have HK := hid_of3 hs
  have hok := opC_ok HC.out hs
  obtain ⟨hm, hkk⟩ := kindAt_mem _ _ _ hs
  obtain ⟨hs1, hs2⟩ := Sc.shp_kind s hm
  have hs4 := (shps_ok s hm).1
  obtain ⟨J, HJ⟩ : ∃ J : Nat, Hid (s.kind - 1 = J) := ⟨_, (rfl : _ = _)⟩
  have hJ16 : J < 16 := by have := HJ.out; omega
  have hJi : (J : Int) < 16 := by omega
  have hJ0 : (0 : Int) ≤ (J : Int) := by omega
  have hwk : IntKind.i64.wrap (q.kind - 1) = (J : Int) := by rw [IntKind.wrap_i64, ← hkk]; have := HJ.out; omega
  obtain ⟨wd, HWD⟩ := text_of (Sc.wdAt s.kind)
  have HLT : Hid (lineT q = wd.data.toList ++ Sc.tellN (Sc.numsQ q s.id s.nums s.pic)) := by
    unfold Hid lineT; rw [HC.out, if_pos rfl, HK.out]; simp only; unfold Sc.lineQ; rw [HWD.out.2]
  have hwds : wd.size ≤ 1000000 := by
    have h1 : (Sc.wdAt s.kind).length = wd.size := by rw [HWD.out.2]; simp
    have h2 : ∀ k, k < 17 → (Sc.wdAt k).length ≤ 10 := by decide +kernel
    have := h2 s.kind (by omega)
    omega
  have HWC : Hid (∀ X, Below w.heap.size w X → X.cell? ⟨1, J, none⟩ = some (.string wd)) := by
    intro X hX
    rw [← HWD.out.1]
    refine (HW.out.on hX) J _ ?_
    unfold Sc.wdAt
    rw [HJ.out, List.getD_eq_getElem?_getD, List.getElem?_eq_getElem (show J < Sc.wdB.length from hJ16)]
    rfl
  have hcount := numsQ_count hok hs4
  have hsmall := Sc.numsQ_small hok
  have HNB := hid_of3 (fun X (hX : Below w.heap.size w X) => numbersS2_any q (.slice ap np cp) s X (HS.out.on h1 hX) (Nat.lt_of_lt_of_le h1 hX.size) HK (HU.out.on hX) (by rw [HNP.out]; omega))
  unfold opV at HNB
  obtain ⟨T, HT⟩ := bytes_of (lineT q)
  have HLN := hid_of3 (fun X v (hX : Below w.heap.size w X) (hr : Hid (RdI X v (Sc.numsQ q s.id s.nums s.pic))) => lineS_any wd v _ X (HE.out.on hX) hr (by omega) (fun n hn => by have := hsmall n hn; omega) hwds T (by unfold Hid; rw [← HLT.out]; exact HT.out))
  clear hok hcount hsmall hs
  go_enter Tryd.func19, Tryd.ntmps19
  go_upto_region 1 with fail
  rw [HX0.out]
  clear HX0
  go_wp2_with fail
  refine HCK.out.mono ?_
  rintro e w1 ⟨rfl, hb1⟩
  have hbw1 : Below w.heap.size w w1 := hbx.trans (hb1.mono hbx.size)
  have N1 := hid_of3 (NX.out.on hb1)
  have KEEP : Hid (∀ W, Below w1.heap.size w1 W → W.cell? ⟨w.heap.size, 0, none⟩ = some (.int .i64 q.kind) ∧ W.cell? ⟨w.heap.size, 1, none⟩ = some (.int .i64 q.id) ∧ W.cell? ⟨w.heap.size, 2, none⟩ = some (.int .i64 q.a) ∧ W.cell? ⟨w.heap.size, 3, none⟩ = some (.int .i64 q.b) ∧ W.cell? ⟨w.heap.size, 4, none⟩ = some (.int .i64 q.c) ∧ W.cell? ⟨w.heap.size, 5, none⟩ = some (.int .i64 q.d) ∧ W.cell? ⟨w.heap.size, 6, none⟩ = some (.int .i64 q.pw) ∧ W.cell? ⟨w.heap.size, 7, none⟩ = some (.int .i64 q.ph) ∧ W.cell? ⟨w.heap.size, 8, none⟩ = some (.slice ap np cp) ∧ W.cell? ⟨1, J, none⟩ = some (.string wd)) := by
    intro W h
    obtain ⟨y0, y1, y2, y3, y4, y5, y6, y7, y8, -, -, -, -, -, -, -, -, -, -⟩ := N1.out.on h
    exact ⟨y0, y1, y2, y3, y4, y5, y6, y7, y8, HWC.out _ (hbw1.trans (h.mono hbw1.size))⟩
  clear HCK hb1 x0 x1 x2 x3 x4 x5 x6 x7 x8 xf0 xf1 xf2 xf3 xf4 xf5 xf6 xf7 xf8 xlt NX
  go_wp2_with fail
  refine wp_region_held_drew (S := (fun W => W.cell? ⟨w.heap.size, 0, none⟩ = some (.int .i64 q.kind) ∧ W.cell? ⟨w.heap.size, 1, none⟩ = some (.int .i64 q.id) ∧ W.cell? ⟨w.heap.size, 2, none⟩ = some (.int .i64 q.a) ∧ W.cell? ⟨w.heap.size, 3, none⟩ = some (.int .i64 q.b) ∧ W.cell? ⟨w.heap.size, 4, none⟩ = some (.int .i64 q.c) ∧ W.cell? ⟨w.heap.size, 5, none⟩ = some (.int .i64 q.d) ∧ W.cell? ⟨w.heap.size, 6, none⟩ = some (.int .i64 q.pw) ∧ W.cell? ⟨w.heap.size, 7, none⟩ = some (.int .i64 q.ph) ∧ W.cell? ⟨w.heap.size, 8, none⟩ = some (.slice ap np cp) ∧ W.cell? ⟨1, J, none⟩ = some (.string wd))) (by kernel_rfl) ?_ (fun hHeld => ?_)
  · exact KEEP.out _ (Below.refl _ _).drew
  refine wpAnyH_take (i := 0) (oi := ({ dst := some 10, op := Op.fieldAddr 26 (Operand.tmp 1) 0, type := 0, pos := "script.go:31", after := #[], guard := none } : Oper)) (v := ?_) rfl (by kernel_rfl) (by kernel_rfl) (by kernel_rfl) (fun _ _ _ h => h) (Or.inl ⟨by rfl, ?_⟩) (by assumption) ?_
  rotate_left
  · (intro w hSw; (try dsimp only at hSw); go_simp; try with_reducible rfl)
  try simp only [Act.put, List.setIfInBounds_toArray, List.set_cons_zero, List.set_cons_succ]
  refine wpAnyH_take (i := 1) (oi := ({ dst := some 11, op := Op.load 3 (Operand.tmp 10), type := 3, pos := "script.go:31", after := #[{ on := 0, ground := Ground.data }], guard := none } : Oper)) (v := ?_) rfl (by kernel_rfl) (by kernel_rfl) (by kernel_rfl) (fun _ _ _ h => h) (Or.inl ⟨by rfl, ?_⟩) (by assumption) ?_
  rotate_left
  · (intro w hSw; (try dsimp only at hSw); go_simp; try with_reducible rfl)
  try simp only [Act.put, List.setIfInBounds_toArray, List.set_cons_zero, List.set_cons_succ]
  refine wpAnyH_take (i := 2) (oi := ({ dst := some 12, op := Op.binOp BinOp.sub 3 (Operand.tmp 11) (Operand.const (Value.int IntKind.i64 1)) 3, type := 3, pos := "script.go:31", after := #[{ on := 1, ground := Ground.data }], guard := none } : Oper)) (v := ?_) rfl (by kernel_rfl) (by kernel_rfl) (by kernel_rfl) (fun _ _ _ h => h) (Or.inl ⟨by rfl, ?_⟩) (by assumption) ?_
  rotate_left
  · (intro w hSw; (try dsimp only at hSw); go_simp; try with_reducible rfl)
  try simp only [Act.put, List.setIfInBounds_toArray, List.set_cons_zero, List.set_cons_succ]
  refine wpAnyH_take (i := 3) (oi := ({ dst := some 13, op := Op.indexAddr 85 (Operand.global 1) (Operand.tmp 12), type := 0, pos := "script.go:31", after := #[{ on := 2, ground := Ground.data }], guard := none } : Oper)) (v := ?_) rfl (by kernel_rfl) (by kernel_rfl) (by kernel_rfl) (fun _ _ _ h => h) (Or.inl ⟨by rfl, ?_⟩) (by assumption) ?_
  rotate_left
  · (intro w hSw; (try dsimp only at hSw); go_simp; try with_reducible rfl)
  try simp only [Act.put, List.setIfInBounds_toArray, List.set_cons_zero, List.set_cons_succ]
  refine wpAnyH_take (i := 4) (oi := ({ dst := some 14, op := Op.load 9 (Operand.tmp 13), type := 9, pos := "script.go:31", after := #[{ on := 3, ground := Ground.data }], guard := none } : Oper)) (v := ?_) rfl (by kernel_rfl) (by kernel_rfl) (by kernel_rfl) (fun _ _ _ h => h) (Or.inl ⟨by rfl, ?_⟩) (by assumption) ?_
  rotate_left
  · (intro w hSw; (try dsimp only at hSw); go_simp; try with_reducible rfl)
  try simp only [Act.put, List.setIfInBounds_toArray, List.set_cons_zero, List.set_cons_succ]
  refine wpAnyH_take (i := 5) (oi := ({ dst := some 15, op := Op.load 26 (Operand.tmp 1), type := 26, pos := "script.go:31", after := #[], guard := none } : Oper)) (v := ?_) rfl (by kernel_rfl) (by kernel_rfl) (by kernel_rfl) (fun _ _ _ h => h) (Or.inl ⟨by rfl, ?_⟩) (by assumption) ?_
  rotate_left
  · (intro w hSw; (try dsimp only at hSw); go_simp; try with_reducible rfl)
  try simp only [Act.put, List.setIfInBounds_toArray, List.set_cons_zero, List.set_cons_succ]
  refine wpAnyH_ready (rs := [6]) (by kernel_rfl) (by simp) ?_
  refine AllReadyH.cons (o := ({ dst := some 16, op := Op.call { callee := Callee.value (Operand.func 42), args := #[Operand.tmp 15], argTypes := #[26] }, type := 60, pos := "script.go:31", after := #[{ on := 5, ground := Ground.data }], guard := none } : Oper)) rfl (fun K_ hK => ?_) AllReadyH.nil
  go_simp
  refine (HNB.out _ hbw1.drew).mono ?_
  rintro e w2 ⟨v, rfl, hr2, hb2⟩
  have HR2 := hid_of3 hr2
  have HB2 : Hid (Below w1.heap.size w1 w2) := ⟨hb2.os, hb2.tape, hb2.output, hb2.size, hb2.block⟩
  have hbw2 := hbw1.trans (HB2.out.mono hbw1.size)
  clear hr2 hb2
  refine hK.out _ _ ?_ (fun hHeld => ?_)
  · exact KEEP.out _ HB2.out
  clear hK K_
  try simp only [Act.put, List.setIfInBounds_toArray, List.set_cons_zero, List.set_cons_succ]
  refine wpAnyH_ready (rs := [7]) (by kernel_rfl) (by simp) ?_
  refine AllReadyH.cons (o := ({ dst := some 17, op := Op.call { callee := Callee.value (Operand.func 41), args := #[Operand.tmp 14, Operand.tmp 16], argTypes := #[9, 60] }, type := 9, pos := "script.go:31", after := #[{ on := 4, ground := Ground.data }, { on := 6, ground := Ground.data }, { on := 6, ground := Ground.chain }], guard := none } : Oper)) rfl (fun K_ hK => ?_) AllReadyH.nil
  go_simp
  refine (HLN.out _ _ hbw2 HR2).mono ?_
  rintro e w3 ⟨rfl, hb3⟩
  have HB3 : Hid (Below w1.heap.size w1 w3) := HB2.out.trans (hb3.mono HB2.out.size)
  clear hb3
  refine hK.out _ _ ?_ (fun hHeld => ?_)
  · exact KEEP.out _ HB3.out
  clear hK K_
  try simp only [Act.put, List.setIfInBounds_toArray, List.set_cons_zero, List.set_cons_succ]
  refine wpAnyH_take (i := 8) (oi := ({ dst := some 2, op := Op.assign (Operand.tmp 17), type := 9, pos := "script.go:31", after := #[{ on := 7, ground := Ground.data }, { on := 7, ground := Ground.chain }, { on := 0, ground := Ground.phase }, { on := 1, ground := Ground.phase }, { on := 2, ground := Ground.phase }, { on := 3, ground := Ground.phase }, { on := 4, ground := Ground.phase }, { on := 5, ground := Ground.phase }, { on := 6, ground := Ground.phase }, { on := 7, ground := Ground.phase }], guard := none } : Oper)) (v := ?_) rfl (by kernel_rfl) (by kernel_rfl) (by kernel_rfl) (fun _ _ _ h => h) (Or.inl ⟨by rfl, ?_⟩) (by assumption) ?_
  rotate_left
  · (intro w hSw; (try dsimp only at hSw); go_simp; try with_reducible rfl)
  try simp only [Act.put, List.setIfInBounds_toArray, List.set_cons_zero, List.set_cons_succ]
  refine wpAnyH_take (i := 9) (oi := ({ dst := some 3, op := Op.assign (Operand.const Value.nilIface), type := 32, pos := "script.go:31", after := #[{ on := 8, ground := Ground.chain }, { on := 0, ground := Ground.phase }, { on := 1, ground := Ground.phase }, { on := 2, ground := Ground.phase }, { on := 3, ground := Ground.phase }, { on := 4, ground := Ground.phase }, { on := 5, ground := Ground.phase }, { on := 6, ground := Ground.phase }, { on := 7, ground := Ground.phase }, { on := 8, ground := Ground.phase }], guard := none } : Oper)) (v := ?_) rfl (by kernel_rfl) (by kernel_rfl) (by kernel_rfl) (fun _ _ _ h => h) (Or.inl ⟨by rfl, ?_⟩) (by assumption) ?_
  rotate_left
  · (intro w hSw; (try dsimp only at hSw); go_simp; try with_reducible rfl)
  try simp only [Act.put, List.setIfInBounds_toArray, List.set_cons_zero, List.set_cons_succ]
  refine wpAnyH_done (by kernel_rfl) ?_ _
  go_wp2_with fail
  refine bodyPost_ret (v := .tuple #[.string T, .nilIface]) (by simp [results, Tryd.results19, go_sem]) rfl ⟨T, by rw [HC.out]; rfl, HT.out.symm, ?_⟩
  exact hbw1.trans (HB3.out.mono hbw1.size)
end Go.Proofs.YtfhfedcamcpceaaDoor
