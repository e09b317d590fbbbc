/- Some of the walks, in one text. -/
import Derived.Test.YtfhfedcamcpceaaDoorM2
import Derived.Deep.MidRow
import Derived.Lib.SmallJoins
import Derived.Deep.SlicePairs
import Derived.WalkKit
import Derived.ProofKit
import Derived.OpenShut
import Derived.Below
import Derived.Deep.Cut
import Derived.Deep.RegionWith
import Derived.Laws.EntriesVeiled
import Derived.Lib.AppendZeros
import Derived.Lib.Overlaps
import Derived.Laws.CopyRow
import Derived.Laws.CopyOwn
import Derived.Laws.Externs
import Derived.Test.YtfhfedcamcpceaaDoorProg
import Derived.Deep.RegionHeld3
/- Walk of op.find. -/
namespace Go.Proofs.YtfhfedcamcpceaaDoor
open Go.RowKit Go.Deep

/-- the cells of the whole table -/
def shpCells : List Value := shps.flatMap Shp.cells
theorem shpCells_len : shpCells.length = 112 := by decide +kernel
theorem shpCells_at : ∀ k s, shps[k]? = some s → ∀ j, j < 7 → shpCells[7 * k + j]? = s.cells[j]? := by
  intro k s hk
  have hk16 : k < 16 := by
    rcases Nat.lt_or_ge k 16 with h | h
    · exact h
    · rw [List.getElem?_eq_none (by rw [shps_len]; exact h)] at hk; cases hk
  intro j hj
  have hall : ∀ k < 16, ∀ j < 7, shpCells[7 * k + j]? = (shps[k]?).bind fun s => s.cells[j]? := by
    intro k hk j hj
    have : k = 0 ∨ k = 1 ∨ k = 2 ∨ k = 3 ∨ k = 4 ∨ k = 5 ∨ k = 6 ∨ k = 7 ∨ k = 8 ∨ k = 9 ∨ k = 10 ∨ k = 11 ∨ k = 12 ∨ k = 13 ∨ k = 14 ∨ k = 15 := by omega
    have hj' : j = 0 ∨ j = 1 ∨ j = 2 ∨ j = 3 ∨ j = 4 ∨ j = 5 ∨ j = 6 := by omega
    rcases this with rfl | rfl | rfl | rfl | rfl | rfl | rfl | rfl | rfl | rfl | rfl | rfl | rfl | rfl | rfl | rfl <;> rcases hj' with rfl | rfl | rfl | rfl | rfl | rfl | rfl <;> rfl
  rw [hall k hk16 j hj, hk]
  rfl
theorem Shapes.on {w w' : World} (h : Shapes w) (h1 : 3 < w.heap.size) (hb : Below w.heap.size w w') : Shapes w' := fun k s hk j u hu => (hb.cell (p := ⟨3, 7 * k + j, none⟩) h1).trans (h k s hk j u hu)
theorem Shapes.all {w : World} (h : Shapes w) : ∀ i, i < 112 → w.cell? ⟨3, i, none⟩ = some (shpCells.getD i .nilIface) := by
  intro i hi
  have hk : shps[i / 7]? = some (shps[i / 7]'(by rw [shps_len]; omega)) := List.getElem?_eq_getElem _
  have hj : i % 7 < 7 := Nat.mod_lt _ (by omega)
  have he : 7 * (i / 7) + i % 7 = i := by omega
  have h1 := shpCells_at _ _ hk (i % 7) hj
  rw [he] at h1
  have hl : (shps[i / 7]'(by rw [shps_len]; omega)).cells.length = 7 := rfl
  obtain ⟨u, hu⟩ : ∃ u, (shps[i / 7]'(by rw [shps_len]; omega)).cells[i % 7]? = some u := ⟨_, List.getElem?_eq_getElem (by rw [hl]; exact hj)⟩
  have h2 := h _ _ hk _ _ hu
  rw [he] at h2
  rw [h2, List.getD_eq_getElem?_getD, h1, hu]
  rfl
theorem Shapes.range {w : World} (h : Shapes w) : w.rangeAt 3 0 shpCells := by
  intro j v hj
  have hl : j < 112 := by
    rcases Nat.lt_or_ge j 112 with h | h
    · exact h
    · rw [List.getElem?_eq_none (by rw [shpCells_len]; exact h)] at hj; cases hj
  rw [Nat.zero_add, h.all j hl, List.getD_eq_getElem?_getD, hj]
  rfl

theorem shp_index (k : Nat) (s : Shp) (hk : shps[k]? = some s) (X : World) : (Instr.index 103 (.agg shpCells.toArray) (.int .i64 (k : Int))).run Tryd.prog X = .ok s.val X := by
  have hk16 : k < 16 := by
    rcases Nat.lt_or_ge k 16 with h | h
    · exact h
    · rw [List.getElem?_eq_none (by rw [shps_len]; exact h)] at hk; cases hk
  have hc : k = 0 ∨ k = 1 ∨ k = 2 ∨ k = 3 ∨ k = 4 ∨ k = 5 ∨ k = 6 ∨ k = 7 ∨ k = 8 ∨ k = 9 ∨ k = 10 ∨ k = 11 ∨ k = 12 ∨ k = 13 ∨ k = 14 ∨ k = 15 := by omega
  rcases hc with rfl | rfl | rfl | rfl | rfl | rfl | rfl | rfl | rfl | rfl | rfl | rfl | rfl | rfl | rfl | rfl <;> (obtain rfl := Option.some.inj hk; refine Eq.trans ?_ rfl; kernel_rfl)

/-- the first shape from k on of this kind -/
def kindAt (kd : Int) : List Shp → Option Shp
  | [] => none
  | s :: r => if (s.kind : Int) = kd then some s else kindAt kd r

theorem hid_of3 {p : Prop} (h : p) : Hid p := h
theorem kindAt_drop (kd : Int) (k : Nat) (s : Shp) (h : shps[k]? = some s) : kindAt kd (shps.drop k) = if (s.kind : Int) = kd then some s else kindAt kd (shps.drop (k + 1)) := by
  obtain ⟨hk, e⟩ := List.getElem?_eq_some_iff.1 h
  rw [List.drop_eq_getElem_cons hk, e]
  rfl
/-- no shape -/
def shp0 : Shp := ⟨0, [], false, 0, 0, 0, false⟩

set_option maxHeartbeats 4000000 in
set_option maxRecDepth 100000 in
theorem kindF_any (s : Shp) (kd : Int) (b : Nat) (w : World) (hb : b < w.heap.size) (HK : w.cell? ⟨b, 0, none⟩ = some (.int .i64 kd)) (t : Bool) (HT : Hid (decide ((s.kind : Int) = kd) = t)) :
    Calls Tryd.prog 50 #[s.val, .pointer (some ⟨b, 0, none⟩)] w fun e w' => e = .returned (.bool t) ∧ Below w.heap.size w w' := by
  have HK2 := (cell_old w (.cells #[.int .i64 (s.kind : Int), .string s.bytes, .bool s.id, .int .i64 (s.nums : Int), .int .i64 s.low, .int .i64 s.high, .bool s.pic] 56) b 0 hb).trans HK
  have hbz : Below w.heap.size w (w.alloc (.cells #[.int .i64 (s.kind : Int), .string s.bytes, .bool s.id, .int .i64 (s.nums : Int), .int .i64 s.low, .int .i64 s.high, .bool s.pic] 56)) := (Below.refl _ _).alloc (Nat.le_refl _) _
  have ht : ((s.kind : Int) == kd) = t := by rw [← HT.out]; rfl
  unfold Shp.val
  go_enter Tryd.func50, Tryd.ntmps50
  go_wp2_with fail
  go_ret
  exact ⟨rfl, hbz⟩

/-- what find answers -/
def FindP (o : Option Shp) (w : World) (e : Ending) (w' : World) : Prop :=
  Below w.heap.size w w' ∧ match o with
    | some s => e = .returned (.tuple #[s.val, .bool true])
    | none => e = .returned (.tuple #[shp0.val, .bool false])

set_option maxHeartbeats 4000000 in
set_option maxRecDepth 100000 in
theorem findK_any (kd : Int) (b : Nat) (w : World) (HS : Hid (Shapes w)) (h1 : 3 < w.heap.size) (hb : b < w.heap.size) (HK : w.cell? ⟨b, 0, none⟩ = some (.int .i64 kd)) :
    Calls Tryd.prog 28 #[.func (.func 50) #[] #[.pointer (some ⟨b, 0, none⟩)]] w fun e w' => FindP (kindAt kd shps) w e w' := by
  have HS0 : Hid (Shapes (w.alloc (.cells #[.int .i64 0, .string ⟨#[]⟩, .bool false, .int .i64 0, .int .i64 0, .int .i64 0, .bool false] 56))) := HS.out.on h1 ((Below.refl _ _).alloc (Nat.le_refl _) _)
  have S0 := seven_start w (.int .i64 0) (.string ⟨#[]⟩) (.bool false) (.int .i64 0) (.int .i64 0) (.int .i64 0) (.bool false) 56 w.heap.size rfl
  have HK0 := (cell_old w (.cells #[.int .i64 0, .string ⟨#[]⟩, .bool false, .int .i64 0, .int .i64 0, .int .i64 0, .bool false] 56) b 0 hb).trans HK
  have hbz : Below w.heap.size w (w.alloc (.cells #[.int .i64 0, .string ⟨#[]⟩, .bool false, .int .i64 0, .int .i64 0, .int .i64 0, .bool false] 56)) := (Below.refl _ _).alloc (Nat.le_refl _) _
  go_enter Tryd.func28, Tryd.ntmps28
  go_wp2_with fail
  refine wp_load_mid 103 (Operand.global 3) rfl 3 0 rfl shpCells _ HS0.out.range Tryd.underlying103 rfl (by kernel_rfl) ?_
  simp only [Act.put]
  go_wp2_with fail
  obtain ⟨W0, HW0⟩ : ∃ W, Hid (w.alloc (.cells #[.int .i64 0, .string ⟨#[]⟩, .bool false, .int .i64 0, .int .i64 0, .int .i64 0, .bool false] 56) = W) := ⟨_, (rfl : _ = _)⟩
  rw [HW0.out] at HS0 S0 HK0 hbz
  rw [HW0.out]
  have HIX : Hid (∀ (k : Nat) (s : Shp), shps[k]? = some s → ∀ X, (Instr.index 103 (.agg shpCells.toArray) (.int .i64 (k : Int))).run Tryd.prog X = .ok s.val X) := shp_index
  obtain ⟨AV, HAV⟩ : ∃ A, Hid (shpCells.toArray = A) := ⟨_, (rfl : _ = _)⟩
  rw [HAV.out] at HIX
  rw [HAV.out]
  clear HS0 HS HAV
  have hbW : b < W0.heap.size := Nat.lt_of_lt_of_le hb hbz.size
  go_loopw [7] (fun kv wr => ∃ k : Nat, k ≤ 16 ∧ kv = .int .i64 (k : Int) ∧ Hid (kindAt kd shps = kindAt kd (shps.drop k)) ∧ Below W0.heap.size W0 wr) (fun kv _ => 16 - (intOf kv).toNat)
  case atStart => exact ⟨0, by omega, rfl, (rfl : _ = _), Below.refl _ _⟩
  case round =>
    obtain ⟨k, hk, rfl, HKD, hbr⟩ := hrel
    obtain ⟨d0, d1, d2, d3, d4, d5, d6, g0, g1, g2, g3, g4, g5, g6, lt2⟩ := S0.on hbr
    have hbbr := hbz.trans (hbr.mono hbz.size)
    by_cases hk2 : k < 16
    · obtain ⟨s, Hs⟩ : ∃ s, Hid (shps[k]? = some s) := ⟨_, List.getElem?_eq_getElem (by rw [shps_len]; exact hk2)⟩
      have hix := HIX.out k s Hs.out
      have HKS := hid_of3 (kindAt_drop kd k s Hs.out)
      have hbx : Below wr.heap.size wr (wr.alloc (.cells #[.int .i64 (s.kind : Int), .string s.bytes, .bool s.id, .int .i64 (s.nums : Int), .int .i64 s.low, .int .i64 s.high, .bool s.pic] 56)) := (Below.refl _ _).alloc (Nat.le_refl _) _
      have S1 := seven_start wr (.int .i64 (s.kind : Int)) (.string s.bytes) (.bool s.id) (.int .i64 (s.nums : Int)) (.int .i64 s.low) (.int .i64 s.high) (.bool s.pic) 56 wr.heap.size rfl
      have hbX := hbr.trans (hbx.mono hbr.size)
      have hbbX := hbbr.trans (hbx.mono hbbr.size)
      have hbx2 : b < (wr.alloc (.cells #[.int .i64 (s.kind : Int), .string s.bytes, .bool s.id, .int .i64 (s.nums : Int), .int .i64 s.low, .int .i64 s.high, .bool s.pic] 56)).heap.size := Nat.lt_of_lt_of_le hbW hbX.size
      have HKX : (wr.alloc (.cells #[.int .i64 (s.kind : Int), .string s.bytes, .bool s.id, .int .i64 (s.nums : Int), .int .i64 s.low, .int .i64 s.high, .bool s.pic] 56)).cell? ⟨b, 0, none⟩ = some (.int .i64 kd) := (hbX.cell (p := ⟨b, 0, none⟩) hbW).trans HK0
      have S0X := (S0.on hbr).on hbx
      clear d0 d1 d2 d3 d4 d5 d6 g0 g1 g2 g3 g4 g5 g6 lt2 hbx
      unfold Shp.val at hix
      go_wp2_with fail
      by_cases he : (s.kind : Int) = kd
      · rw [if_pos he] at HKS
        have HR : Hid (kindAt kd shps = some s) := by unfold Hid; rw [HKD.out, HKS.out]
        refine (kindF_any s kd b _ hbx2 HKX true (by unfold Hid; simpa using he)).mono ?_
        rintro e w1 ⟨rfl, hb1⟩
        have hbb1 := hbbX.trans (hb1.mono hbbX.size)
        obtain ⟨d0, d1, d2, d3, d4, d5, d6, g0, g1, g2, g3, g4, g5, g6, lt2⟩ := S0X.on hb1
        obtain ⟨e0, e1, e2, e3, e4, e5, e6, f0, f1, f2, f3, f4, f5, f6, lt3⟩ := S1.on hb1
        clear he HKS HKD hb1 hbbX
        go_wp2_with fail
        rw [HR.out]
        refine bodyPost_ret (v := .tuple #[.agg #[.int .i64 (s.kind : Int), .string s.bytes, .bool s.id, .int .i64 (s.nums : Int), .int .i64 s.low, .int .i64 s.high, .bool s.pic], .bool true]) (by simp [results, Tryd.results28, go_sem, d0, d1, d2, d3, d4, d5, d6]) rfl ⟨?_, rfl⟩
        repeat (refine Below.setCell ?_ (by simp) _)
        exact hbb1
      · rw [if_neg he] at HKS
        refine (kindF_any s kd b _ hbx2 HKX false (by unfold Hid; simpa using he)).mono ?_
        rintro e w1 ⟨rfl, hb1⟩
        have hbX1 := hbX.trans (hb1.mono hbX.size)
        clear he hb1
        go_wp2_with fail
        go_roundw
        case rel => exact ⟨k + 1, by omega, by go_num, HKD.out.trans HKS.out, hbX1⟩
        case measure => simp [intOf]; omega
    · obtain rfl : k = 16 := by omega
      have HR : Hid (kindAt kd shps = none) := by unfold Hid; rw [HKD.out]; rfl
      go_wp2_with fail
      rw [HR.out]
      refine bodyPost_ret (v := .tuple #[.agg #[.int .i64 0, .string ⟨#[]⟩, .bool false, .int .i64 0, .int .i64 0, .int .i64 0, .bool false], .bool false]) (by simp [results, Tryd.results28, go_sem, d0, d1, d2, d3, d4, d5, d6]) rfl ⟨?_, rfl⟩
      repeat (refine Below.setCell ?_ (by simp) _)
      exact hbbr

set_option maxHeartbeats 4000000 in
set_option maxRecDepth 100000 in
theorem ofKind_any (kd : Int) (w : World) (HS : Hid (Shapes w)) (h1 : 3 < w.heap.size) :
    Calls Tryd.prog 23 #[.int .i64 kd] w fun e w' => FindP (kindAt kd shps) w e w' := by
  have hbz : Below w.heap.size w ((w.alloc (.cells #[.int .i64 kd] 3)).alloc (.cells #[.int .i64 0, .string ⟨#[]⟩, .bool false, .int .i64 0, .int .i64 0, .int .i64 0, .bool false] 56)) := ((Below.refl _ _).alloc (Nat.le_refl _) _).alloc (by simp) _
  have S0 := seven_start (w.alloc (.cells #[.int .i64 kd] 3)) (.int .i64 0) (.string ⟨#[]⟩) (.bool false) (.int .i64 0) (.int .i64 0) (.int .i64 0) (.bool false) 56 (w.heap.size + 1) (by simp)
  have HS0 : Hid (Shapes _) := HS.out.on h1 hbz
  have hlt : w.heap.size < ((w.alloc (.cells #[.int .i64 kd] 3)).alloc (.cells #[.int .i64 0, .string ⟨#[]⟩, .bool false, .int .i64 0, .int .i64 0, .int .i64 0, .bool false] 56)).heap.size := by simp; omega
  have hcK : ((w.alloc (.cells #[.int .i64 kd] 3)).alloc (.cells #[.int .i64 0, .string ⟨#[]⟩, .bool false, .int .i64 0, .int .i64 0, .int .i64 0, .bool false] 56)).cell? ⟨w.heap.size, 0, none⟩ = some (.int .i64 kd) := (cell_old _ _ _ 0 (by simp)).trans (cell_fresh w _ _ _ rfl)
  have h1' := Nat.lt_of_lt_of_le h1 hbz.size
  obtain ⟨o, HO⟩ : ∃ o, Hid (kindAt kd shps = o) := ⟨_, (rfl : _ = _)⟩
  rw [HO.out]
  go_enter Tryd.func23, Tryd.ntmps23
  go_wp2_with fail
  refine (findK_any kd w.heap.size _ HS0 h1' hlt hcK).mono ?_
  rw [HO.out]
  rintro e w1 ⟨hb1, he⟩
  have hbb1 := hbz.trans (hb1.mono hbz.size)
  obtain ⟨d0, d1, d2, d3, d4, d5, d6, g0, g1, g2, g3, g4, g5, g6, lt2⟩ := S0.on hb1
  clear hb1 hbz S0 HS0 hlt hcK
  cases o with
  | none =>
    simp only at he
    subst he
    unfold shp0 Shp.val Shp.bytes
    go_wp2_with fail
    refine bodyPost_ret (v := .tuple #[.agg #[.int .i64 0, .string ⟨#[]⟩, .bool false, .int .i64 0, .int .i64 0, .int .i64 0, .bool false], .bool false]) (by simp [results, Tryd.results23, go_sem, d0, d1, d2, d3, d4, d5, d6]) rfl ⟨?_, rfl⟩
    repeat (refine Below.setCell ?_ (by simp) _)
    exact hbb1
  | some s =>
    simp only at he
    subst he
    unfold Shp.val
    go_wp2_with fail
    refine bodyPost_ret (v := .tuple #[.agg #[.int .i64 (s.kind : Int), .string s.bytes, .bool s.id, .int .i64 (s.nums : Int), .int .i64 s.low, .int .i64 s.high, .bool s.pic], .bool true]) (by simp [results, Tryd.results23, go_sem, d0, d1, d2, d3, d4, d5, d6]) rfl ⟨?_, rfl⟩
    repeat (refine Below.setCell ?_ (by simp) _)
    exact hbb1
end Go.Proofs.YtfhfedcamcpceaaDoor
/- A picture that is handed in, opened. -/
namespace Go.Proofs.YtfhfedcamcpceaaDoor
open Go.ChangeShapes Go.WideShapes Go.ChangeAt Go.RowKit Go.Joins Go.Deep

theorem Tryd.cellsPic : Tryd.prog.cellsOf 24 = 3 := by kernel_rfl
theorem Tryd.cellsPix : Tryd.prog.cellsOf 88 = 2 := by kernel_rfl
theorem Tryd.cellsInt : Tryd.prog.cellsOf 3 = 1 := by kernel_rfl

set_option maxRecDepth 100000 in
theorem view_pix {H : Type} {enc : TypeId × Value → H} {W : World} {u : Value} {x : DataW H × List MemPlace} {fuel : Nat}
    (hf : DataW.trod enc Tryd.prog W 0 (fun _ => true) true fuel 22 [u] = some x) : ∃ ps, RdP W u ps := by
  rcases open_slice_pairs Tryd.underlying22 Tryd.underlying88 Tryd.cellsPix rfl rfl Tryd.cellsInt Tryd.cellsInt hf with ⟨hc, _⟩ | ⟨a, len, cap, m, k, V0, V1, D0, D1, P0, P1, hc, _, hl, hm, hmm, hx, hall⟩
  · simp only [List.cons.injEq, and_true] at hc
    subst hc
    exact ⟨[], none, 0, rfl, by simp, by omega, fun h => absurd rfl h⟩
  · simp only [List.cons.injEq, and_true] at hc
    subst hc
    simp only [if_true] at hmm
    subst hmm
    have hint : ∀ i, i < m → ∃ n0 n1, V0 i = .int .i64 n0 ∧ V1 i = .int .i64 n1 := fun i hi => by
      obtain ⟨n0, h1, _, _⟩ := DataW.trod_int Tryd.underlying3 (hall i hi).2.2.1
      obtain ⟨n1, h2, _, _⟩ := DataW.trod_int Tryd.underlying3 (hall i hi).2.2.2
      simp only [List.cons.injEq, and_true] at h1 h2
      exact ⟨n0, n1, h1, h2⟩
    let f : Nat → Int × Int := fun i => (intOf (V0 i), intOf (V1 i))
    unfold maxLen at hm
    refine ⟨(List.range len).map f, some a, m, by simp, by simp; exact hl, by omega, fun hne => ?_⟩
    have hpos : 0 < len := by
      rcases Nat.eq_zero_or_pos len with h | h
      · subst h; simp at hne
      · exact h
    obtain ⟨sb, so, spot⟩ := a
    have hspot : spot = none := by simpa [Addr.add] using World.cell?_spot (hall 0 (by omega)).1
    subst hspot
    refine ⟨sb, so, rfl, ?_, fun j hj => ?_⟩
    · have h0 := (hall 0 (by omega)).1
      rcases Nat.lt_or_ge sb W.heap.size with h | h
      · exact h
      · simp [Addr.add, World.cell?, Array.getElem?_eq_none h] at h0
    · simp only [List.length_map, List.length_range] at hj
      obtain ⟨n0, n1, e0, e1⟩ := hint j (by omega)
      have h0 := (hall j (by omega)).1
      have h1 := (hall j (by omega)).2.1
      have hg : ((List.range len).map f).getD j (0, 0) = (n0, n1) := by
        rw [List.getD_eq_getElem?_getD, List.getElem?_map, List.getElem?_range hj]
        simp [f, e0, e1, intOf]
      rw [hg]
      rw [e0] at h0
      rw [e1] at h1
      rw [add_plain] at h0 h1
      exact ⟨h0, by rw [Nat.add_assoc]; exact h1⟩

set_option maxRecDepth 100000 in
theorem open_picture {H : Type} {enc : TypeId × Value → H} {W : World} {r : Reach} {b0 : Nat} {v : Value} {d : DataW H} {p : List MemPlace} (hv : Value.okWide Tryd.prog W r b0 24 v)
    (h : DataW.Trod enc Tryd.prog W 0 (fun _ => true) true 24 v d p) :
    ∃ (pw ph : Int) (u : Value) (ps : List (Int × Int)), v = .agg #[.int .i64 pw, .int .i64 ph, u] ∧ RdP W u ps ∧ (Lit.int .i64 pw).wf = true ∧ (Lit.int .i64 ph).wf = true := by
  obtain ⟨c0, c1, c2, y0, y1, y2, m, rfl, _, _, hy0, hy1, hy2⟩ := open_agg3 Tryd.underlying24 (by kernel_rfl) Tryd.cellsPic hv h
  obtain ⟨x, e0, _, wx⟩ := DataW.trod_int Tryd.underlying3 hy0
  obtain ⟨y, e1, _, wy⟩ := DataW.trod_int Tryd.underlying3 hy1
  simp at e0 e1
  subst e0 e1
  obtain ⟨ps, hps⟩ := view_pix hy2
  exact ⟨x, y, c2, ps, rfl, hps, wx, wy⟩
end Go.Proofs.YtfhfedcamcpceaaDoor
/- Walks of picture's isSide, isShade and Check. -/
namespace Go.Proofs.YtfhfedcamcpceaaDoor
open Go.RowKit

end Go.Proofs.YtfhfedcamcpceaaDoor
/- A picture that is handed in, opened. -/
namespace Go.Proofs.YtfhfedcamcpceaaDoor
open Go.ChangeShapes Go.WideShapes Go.ChangeAt Go.RowKit Go.Joins Go.Deep

end Go.Proofs.YtfhfedcamcpceaaDoor
/- Walks of rect: isPlace, isLength, Check, Has, overlap, Both. -/
namespace Go.Proofs.YtfhfedcamcpceaaDoor
open Go.RowKit

def placeB (n : Int) : Bool := decide (-20 ≤ n) && decide (n ≤ 20)
def lenB (n : Int) : Bool := decide (0 ≤ n) && decide (n ≤ 20)
def rectB (x y w h : Int) : Bool := placeB x && placeB y && lenB w && lenB h
def hasB (x y w h p q : Int) : Bool := decide (x ≤ p) && decide (p < x + w) && decide (y ≤ q) && decide (q < y + h)
def rectV (x y w h : Int) : Value := .agg #[.int .i64 x, .int .i64 y, .int .i64 w, .int .i64 h]
/-- what is in two -/
def bothL (a b c d a' b' c' d' : Int) : Int × Int × Int × Int :=
  if min (a + c) (a' + c') - max a a' ≤ 0 ∨ min (b + d) (b' + d') - max b b' ≤ 0 then (0, 0, 0, 0)
  else (max a a', max b b', min (a + c) (a' + c') - max a a', min (b + d) (b' + d') - max b b')

theorem place_any (n : Int) (w : World) (b : Bool) (HB : Hid (placeB n = b)) : Calls Tryd.prog 75 #[.int .i64 n] w fun e w' => e = .returned (.bool b) ∧ w = w' := by
  by_cases h1 : -20 ≤ n
  · by_cases h2 : n ≤ 20
    · have hb : b = true := by rw [← HB.out]; unfold placeB; simp [h1, h2]
      subst hb
      go_enter Tryd.func75, Tryd.ntmps75
      go_wp2
      go_ret
      exact ⟨by simp, rfl⟩
    · have hb : b = false := by rw [← HB.out]; unfold placeB; simp [h2]
      subst hb
      go_enter Tryd.func75, Tryd.ntmps75
      go_wp2
      go_ret
      exact ⟨by simp, rfl⟩
  · have hb : b = false := by rw [← HB.out]; unfold placeB; simp [h1]
    subst hb
    go_enter Tryd.func75, Tryd.ntmps75
    go_wp2
    go_ret
    exact ⟨rfl, rfl⟩

theorem length_any (n : Int) (w : World) (b : Bool) (HB : Hid (lenB n = b)) : Calls Tryd.prog 76 #[.int .i64 n] w fun e w' => e = .returned (.bool b) ∧ w = w' := by
  by_cases h1 : 0 ≤ n
  · by_cases h2 : n ≤ 20
    · have hb : b = true := by rw [← HB.out]; unfold lenB; simp [h1, h2]
      subst hb
      go_enter Tryd.func76, Tryd.ntmps76
      go_wp2
      go_ret
      exact ⟨by simp, rfl⟩
    · have hb : b = false := by rw [← HB.out]; unfold lenB; simp [h2]
      subst hb
      go_enter Tryd.func76, Tryd.ntmps76
      go_wp2
      go_ret
      exact ⟨by simp, rfl⟩
  · have hb : b = false := by rw [← HB.out]; unfold lenB; simp [h1]
    subst hb
    go_enter Tryd.func76, Tryd.ntmps76
    go_wp2
    go_ret
    exact ⟨rfl, rfl⟩

theorem hasB_iff (x y w h p q : Int) : hasB x y w h p q = true ↔ x ≤ p ∧ p < x + w ∧ y ≤ q ∧ q < y + h := by unfold hasB; simp [and_assoc]
theorem hasB_no (x y w h p q : Int) : hasB x y w h p q = false ↔ ¬ (x ≤ p ∧ p < x + w ∧ y ≤ q ∧ q < y + h) := by rw [← hasB_iff]; simp

def ratV (r : Int × Int × Int × Int) : Value := rectV r.1 r.2.1 r.2.2.1 r.2.2.2

end Go.Proofs.YtfhfedcamcpceaaDoor
/- Walks of rect.Check. -/
namespace Go.Proofs.YtfhfedcamcpceaaDoor
open Go.RowKit

/-- Check's answer of a rect -/
def rectC (x y w h : Int) : Nat := if rectB x y w h then 0 else 1

theorem rectB_iff (x y w h : Int) : rectB x y w h = true ↔ -20 ≤ x ∧ x ≤ 20 ∧ -20 ≤ y ∧ y ≤ 20 ∧ 0 ≤ w ∧ w ≤ 20 ∧ 0 ≤ h ∧ h ≤ 20 := by unfold rectB placeB lenB; simp [and_assoc]
theorem rectC_zero (x y w h : Int) : rectC x y w h = 0 ↔ -20 ≤ x ∧ x ≤ 20 ∧ -20 ≤ y ∧ y ≤ 20 ∧ 0 ≤ w ∧ w ≤ 20 ∧ 0 ≤ h ∧ h ≤ 20 := by
  rw [← rectB_iff]; unfold rectC; by_cases h : rectB x y w h = true <;> simp [h]
theorem rectC_le (x y w h : Int) : rectC x y w h ≤ 1 := by unfold rectC; split <;> omega
theorem rectC_one (x y w h : Int) (hn : ¬ (-20 ≤ x ∧ x ≤ 20 ∧ -20 ≤ y ∧ y ≤ 20 ∧ 0 ≤ w ∧ w ≤ 20 ∧ 0 ≤ h ∧ h ≤ 20)) : rectC x y w h = 1 := by
  rw [← rectC_zero] at hn; have := rectC_le x y w h; omega

set_option maxHeartbeats 1000000 in
set_option maxRecDepth 100000 in
theorem rcheck_any (x y w h : Int) (W : World) (c : Nat) (HC : Hid (rectC x y w h = c)) :
    Calls Tryd.prog 63 #[rectV x y w h] W fun e w' => e = .returned (errV c) ∧ Below W.heap.size W w' := by
  unfold rectV
  cases h0 : placeB x with
  | false =>
    have H0 : Hid (placeB x = false) := h0
    have hc : c = 1 := by rw [← HC.out]; unfold rectC rectB; simp [h0]
    subst hc
    clear h0
    go_enter Tryd.func63, Tryd.ntmps63
    go_wp2_with fail
    refine (place_any x _ false H0).mono ?_
    rintro e w1 ⟨rfl, rfl⟩
    go_wp2_with fail
    go_ret
    exact ⟨rfl, (Below.refl _ _).alloc (Nat.le_refl _) _⟩
  | true =>
    have H0 : Hid (placeB x = true) := h0
    cases h1 : placeB y with
    | false =>
      have H1 : Hid (placeB y = false) := h1
      have hc : c = 1 := by rw [← HC.out]; unfold rectC rectB; simp [h1]
      subst hc
      clear h0 h1
      go_enter Tryd.func63, Tryd.ntmps63
      go_wp2_with fail
      refine (place_any x _ true H0).mono ?_
      rintro e w1 ⟨rfl, rfl⟩
      go_wp2_with fail
      refine (place_any y _ false H1).mono ?_
      rintro e w1 ⟨rfl, rfl⟩
      go_wp2_with fail
      go_ret
      exact ⟨rfl, (Below.refl _ _).alloc (Nat.le_refl _) _⟩
    | true =>
      have H1 : Hid (placeB y = true) := h1
      cases h2 : lenB w with
      | false =>
        have H2 : Hid (lenB w = false) := h2
        have hc : c = 1 := by rw [← HC.out]; unfold rectC rectB; simp [h2]
        subst hc
        clear h0 h1 h2
        go_enter Tryd.func63, Tryd.ntmps63
        go_wp2_with fail
        refine (place_any x _ true H0).mono ?_
        rintro e w1 ⟨rfl, rfl⟩
        go_wp2_with fail
        refine (place_any y _ true H1).mono ?_
        rintro e w1 ⟨rfl, rfl⟩
        go_wp2_with fail
        refine (length_any w _ false H2).mono ?_
        rintro e w1 ⟨rfl, rfl⟩
        go_wp2_with fail
        go_ret
        exact ⟨rfl, (Below.refl _ _).alloc (Nat.le_refl _) _⟩
      | true =>
        have H2 : Hid (lenB w = true) := h2
        cases h3 : lenB h with
        | false =>
          have H3 : Hid (lenB h = false) := h3
          have hc : c = 1 := by rw [← HC.out]; unfold rectC rectB; simp [h3]
          subst hc
          clear h0 h1 h2 h3
          go_enter Tryd.func63, Tryd.ntmps63
          go_wp2_with fail
          refine (place_any x _ true H0).mono ?_
          rintro e w1 ⟨rfl, rfl⟩
          go_wp2_with fail
          refine (place_any y _ true H1).mono ?_
          rintro e w1 ⟨rfl, rfl⟩
          go_wp2_with fail
          refine (length_any w _ true H2).mono ?_
          rintro e w1 ⟨rfl, rfl⟩
          go_wp2_with fail
          refine (length_any h _ false H3).mono ?_
          rintro e w1 ⟨rfl, rfl⟩
          go_wp2_with fail
          go_ret
          exact ⟨rfl, (Below.refl _ _).alloc (Nat.le_refl _) _⟩
        | true =>
          have H3 : Hid (lenB h = true) := h3
          have hc : c = 0 := by rw [← HC.out]; unfold rectC rectB; simp [h0, h1, h2, h3]
          subst hc
          clear h0 h1 h2 h3
          go_enter Tryd.func63, Tryd.ntmps63
          go_wp2_with fail
          refine (place_any x _ true H0).mono ?_
          rintro e w1 ⟨rfl, rfl⟩
          go_wp2_with fail
          refine (place_any y _ true H1).mono ?_
          rintro e w1 ⟨rfl, rfl⟩
          go_wp2_with fail
          refine (length_any w _ true H2).mono ?_
          rintro e w1 ⟨rfl, rfl⟩
          go_wp2_with fail
          refine (length_any h _ true H3).mono ?_
          rintro e w1 ⟨rfl, rfl⟩
          go_wp2_with fail
          go_ret
          exact ⟨rfl, (Below.refl _ _).alloc (Nat.le_refl _) _⟩
end Go.Proofs.YtfhfedcamcpceaaDoor
/- Arithmetic of two rects. -/
namespace Go.Proofs.YtfhfedcamcpceaaDoor

theorem both_has (a b c d a' b' c' d' i j : Int) (r : Int × Int × Int × Int) (hr : bothL a b c d a' b' c' d' = r) :
    hasB r.1 r.2.1 r.2.2.1 r.2.2.2 i j = (hasB a b c d i j && hasB a' b' c' d' i j) := by
  rw [Bool.eq_iff_iff, Bool.and_eq_true, hasB_iff, hasB_iff, hasB_iff]
  subst hr
  unfold bothL
  split
  · simp only; omega
  · simp only; omega

theorem both_empty (a b c d a' b' c' d' : Int) (r : Int × Int × Int × Int) (hr : bothL a b c d a' b' c' d' = r) (h : r ≠ (0, 0, 0, 0)) :
    hasB a b c d r.1 r.2.1 = true ∧ hasB a' b' c' d' r.1 r.2.1 = true := by
  rw [hasB_iff, hasB_iff]
  subst hr
  unfold bothL at h ⊢
  split
  · rename_i h1; rw [if_pos h1] at h; exact absurd rfl h
  · simp only; omega

set_option linter.unusedVariables false in
theorem both_bounds (a b c d a' b' c' d' M : Int) (h0 : -M ≤ a) (h1 : a ≤ M) (h2 : -M ≤ b) (h3 : b ≤ M) (h4 : 0 ≤ c) (h5 : c ≤ M) (h6 : 0 ≤ d) (h7 : d ≤ M)
    (k0 : -M ≤ a') (k1 : a' ≤ M) (k2 : -M ≤ b') (k3 : b' ≤ M) (k4 : 0 ≤ c') (k5 : c' ≤ M) (k6 : 0 ≤ d') (k7 : d' ≤ M) (r : Int × Int × Int × Int) (hr : bothL a b c d a' b' c' d' = r) :
    -M ≤ r.1 ∧ r.1 ≤ M ∧ -M ≤ r.2.1 ∧ r.2.1 ≤ M ∧ 0 ≤ r.2.2.1 ∧ r.2.2.1 ≤ M ∧ 0 ≤ r.2.2.2 ∧ r.2.2.2 ≤ M := by
  subst hr
  unfold bothL
  split
  · simp only; omega
  · simp only; omega
theorem both_comm (a b c d a' b' c' d' : Int) : bothL a' b' c' d' a b c d = bothL a b c d a' b' c' d' := by
  unfold bothL
  rw [Int.max_comm a' a, Int.max_comm b' b, Int.min_comm (a' + c'), Int.min_comm (b' + d')]
theorem both_self (a b c d : Int) : bothL a b c d a b c d = if c ≤ 0 ∨ d ≤ 0 then (0, 0, 0, 0) else (a, b, c, d) := by
  unfold bothL
  rw [Int.max_self, Int.max_self, Int.min_self, Int.min_self, Int.add_comm a c, Int.add_comm b d, Int.add_sub_cancel, Int.add_sub_cancel]
end Go.Proofs.YtfhfedcamcpceaaDoor
/- Two rects, and a third one, where they were laid. -/
namespace Go.Proofs.YtfhfedcamcpceaaDoor
open Go.RowKit

/-- what holds on the road: the two rects lie where they were laid -/
def Gr (W : World) (a b c d a' b' c' d' : Int) (w : World) : Prop :=
  Four w W.heap.size (.int .i64 a) (.int .i64 b) (.int .i64 c) (.int .i64 d) ∧ Four w (W.heap.size + 1) (.int .i64 a') (.int .i64 b') (.int .i64 c') (.int .i64 d') ∧ Below W.heap.size W w
theorem Gr.on {W : World} {a b c d a' b' c' d' : Int} {w w' : World} (h : Gr W a b c d a' b' c' d' w) (hb : Below w.heap.size w w') : Gr W a b c d a' b' c' d' w' :=
  ⟨h.1.on hb, h.2.1.on hb, h.2.2.trans (hb.mono h.2.2.size)⟩
theorem Gr.drew {W : World} {a b c d a' b' c' d' : Int} {w : World} (h : Gr W a b c d a' b' c' d' w) : Gr W a b c d a' b' c' d' w.drew := ⟨h.1.drew, h.2.1.drew, h.2.2.drew⟩

/-- and the third rect -/
def Gs (W : World) (a b c d a' b' c' d' : Int) (B : Nat) (x y z t : Int) (w : World) : Prop :=
  Gr W a b c d a' b' c' d' w ∧ Four w B (.int .i64 x) (.int .i64 y) (.int .i64 z) (.int .i64 t)
theorem Gs.on {W : World} {a b c d a' b' c' d' : Int} {B : Nat} {x y z t : Int} {w w' : World} (h : Gs W a b c d a' b' c' d' B x y z t w) (hb : Below w.heap.size w w') : Gs W a b c d a' b' c' d' B x y z t w' := ⟨h.1.on hb, h.2.on hb⟩
theorem Gs.drew {W : World} {a b c d a' b' c' d' : Int} {B : Nat} {x y z t : Int} {w : World} (h : Gs W a b c d a' b' c' d' B x y z t w) : Gs W a b c d a' b' c' d' B x y z t w.drew := ⟨h.1.drew, h.2.drew⟩
/-- no place ahead of this one is in both -/
def None2 (a b c d a' b' c' d' j i : Int) : Prop := ∀ p q, -21 ≤ q → -21 ≤ p → p < 41 → (q < j ∨ q = j ∧ p < i) → (hasB a b c d p q && hasB a' b' c' d' p q) = false

theorem rcheck_at (x y w h : Int) (W : World) (c : Nat) (HC : Hid (rectC x y w h = c)) (v : Value) (HV : Hid (errV c = v)) :
    Calls Tryd.prog 63 #[.agg #[.int .i64 x, .int .i64 y, .int .i64 w, .int .i64 h]] W fun e w' => e = .returned v ∧ Below W.heap.size W w' := by
  rw [← HV.out]; exact rcheck_any x y w h W c HC

end Go.Proofs.YtfhfedcamcpceaaDoor
/- A pixel or a rect that is handed in, opened. -/
namespace Go.Proofs.YtfhfedcamcpceaaDoor
open Go.ChangeShapes Go.WideShapes Go.ChangeAt Go.RowKit Go.Joins Go.Deep

set_option maxRecDepth 100000 in
theorem open_pixel {H : Type} {enc : TypeId × Value → H} {W : World} {r : Reach} {b0 : Nat} {v : Value} {d : DataW H} {p : List MemPlace} (hv : Value.okWide Tryd.prog W r b0 88 v)
    (h : DataW.Trod enc Tryd.prog W 0 (fun _ => true) true 88 v d p) :
    ∃ (x y : Int), v = .agg #[.int .i64 x, .int .i64 y] ∧ True := by
  obtain ⟨c0, c1, y0, y1, m, rfl, _, _, hy0, hy1⟩ := open_agg2 Tryd.underlying88 (by kernel_rfl) (by kernel_rfl) hv h
  obtain ⟨x, e0, _, wx⟩ := DataW.trod_int Tryd.underlying3 hy0
  obtain ⟨y, e1, _, wy⟩ := DataW.trod_int Tryd.underlying3 hy1
  simp at e0 e1
  subst e0 e1
  exact ⟨x, y, rfl, trivial⟩
set_option maxRecDepth 100000 in
theorem open_rect {H : Type} {enc : TypeId × Value → H} {W : World} {r : Reach} {b0 : Nat} {v : Value} {d : DataW H} {p : List MemPlace} (hv : Value.okWide Tryd.prog W r b0 112 v)
    (h : DataW.Trod enc Tryd.prog W 0 (fun _ => true) true 112 v d p) :
    ∃ (x y z t : Int), v = .agg #[.int .i64 x, .int .i64 y, .int .i64 z, .int .i64 t] ∧ True := by
  obtain ⟨c0, c1, c2, c3, y0, y1, y2, y3, m, rfl, _, _, hy0, hy1, hy2, hy3⟩ := open_agg4 Tryd.underlying112 (by kernel_rfl) (by kernel_rfl) hv h
  obtain ⟨x, e0, _, wx⟩ := DataW.trod_int Tryd.underlying3 hy0
  obtain ⟨y, e1, _, wy⟩ := DataW.trod_int Tryd.underlying3 hy1
  obtain ⟨z, e2, _, wz⟩ := DataW.trod_int Tryd.underlying3 hy2
  obtain ⟨t, e3, _, wt⟩ := DataW.trod_int Tryd.underlying3 hy3
  simp at e0 e1 e2 e3
  subst e0 e1 e2 e3
  exact ⟨x, y, z, t, rfl, trivial⟩
end Go.Proofs.YtfhfedcamcpceaaDoor
/- An object: opened; the walk of objects.Check. -/
namespace Go.Proofs.YtfhfedcamcpceaaDoor
open Go.ChangeShapes Go.WideShapes Go.ChangeAt Go.RowKit Go.Joins Go.Deep

@[reducible] def objV (id x y pw ph : Int) (u : Value) (cx cy cw ch : Int) (sh : Bool) : Value := .agg #[.int .i64 id, .int .i64 x, .int .i64 y, .int .i64 pw, .int .i64 ph, u, .int .i64 cx, .int .i64 cy, .int .i64 cw, .int .i64 ch, .bool sh]

theorem Tryd.cellsSl : Tryd.prog.cellsOf 22 = 1 := by kernel_rfl
theorem Tryd.cellsRect : Tryd.prog.cellsOf 112 = 4 := by kernel_rfl
theorem Tryd.cellsBool : Tryd.prog.cellsOf 4 = 1 := by kernel_rfl

theorem array11 {α : Type} {cs : Array α} (h : cs.size = 11) : ∃ c0 c1 c2 c3 c4 c5 c6 c7 c8 c9 c10, cs = #[c0, c1, c2, c3, c4, c5, c6, c7, c8, c9, c10] := by
  obtain ⟨l⟩ := cs
  match l, h with
  | [c0, c1, c2, c3, c4, c5, c6, c7, c8, c9, c10], _ => exact ⟨c0, c1, c2, c3, c4, c5, c6, c7, c8, c9, c10, rfl⟩

end Go.Proofs.YtfhfedcamcpceaaDoor
/- Objects: what lies in memory, a list of them opened. -/
namespace Go.Proofs.YtfhfedcamcpceaaDoor
open Go.ChangeShapes Go.WideShapes Go.ChangeAt Go.RowKit Go.Joins Go.Deep

/-- an object -/
structure Po where
  id : Int
  x : Int
  y : Int
  pw : Int
  ph : Int
  ps : List (Int × Int)
  cx : Int
  cy : Int
  cw : Int
  ch : Int
  sh : Bool

@[reducible] def po0 : Po := ⟨0, 0, 0, 0, 0, [], 0, 0, 0, 0, false⟩
instance : Inhabited Po := ⟨po0⟩

/-- an object's eleven cells -/
structure Oc (w : World) (g o : Nat) (x : Po) (u : Value) : Prop where
  c0 : w.cell? ⟨g, o, none⟩ = some (.int .i64 x.id)
  c1 : w.cell? ⟨g, o + 1, none⟩ = some (.int .i64 x.x)
  c2 : w.cell? ⟨g, o + 2, none⟩ = some (.int .i64 x.y)
  c3 : w.cell? ⟨g, o + 3, none⟩ = some (.int .i64 x.pw)
  c4 : w.cell? ⟨g, o + 4, none⟩ = some (.int .i64 x.ph)
  c5 : w.cell? ⟨g, o + 5, none⟩ = some (u)
  c6 : w.cell? ⟨g, o + 6, none⟩ = some (.int .i64 x.cx)
  c7 : w.cell? ⟨g, o + 7, none⟩ = some (.int .i64 x.cy)
  c8 : w.cell? ⟨g, o + 8, none⟩ = some (.int .i64 x.cw)
  c9 : w.cell? ⟨g, o + 9, none⟩ = some (.int .i64 x.ch)
  c10 : w.cell? ⟨g, o + 10, none⟩ = some (.bool x.sh)

theorem Oc.on {w w' : World} {g o : Nat} {x : Po} {u : Value} (h : Oc w g o x u) (hg : g < w.heap.size) (hb : Below w.heap.size w w') : Oc w' g o x u :=
  ⟨by rw [hb.cell (p := ⟨g, o, none⟩) hg]; exact h.c0, by rw [hb.cell (p := ⟨g, o + 1, none⟩) hg]; exact h.c1, by rw [hb.cell (p := ⟨g, o + 2, none⟩) hg]; exact h.c2, by rw [hb.cell (p := ⟨g, o + 3, none⟩) hg]; exact h.c3, by rw [hb.cell (p := ⟨g, o + 4, none⟩) hg]; exact h.c4, by rw [hb.cell (p := ⟨g, o + 5, none⟩) hg]; exact h.c5, by rw [hb.cell (p := ⟨g, o + 6, none⟩) hg]; exact h.c6, by rw [hb.cell (p := ⟨g, o + 7, none⟩) hg]; exact h.c7, by rw [hb.cell (p := ⟨g, o + 8, none⟩) hg]; exact h.c8, by rw [hb.cell (p := ⟨g, o + 9, none⟩) hg]; exact h.c9, by rw [hb.cell (p := ⟨g, o + 10, none⟩) hg]; exact h.c10⟩

/-- a list of objects -/
def RdO (w : World) (v : Value) (os : List Po) : Prop :=
  ∃ a cap, v = .slice a os.length cap ∧ os.length ≤ cap ∧ cap ≤ 9223372036854775807 ∧ (os ≠ [] → ∃ g off, a = some ⟨g, off, none⟩ ∧ g < w.heap.size ∧
    ∀ j, j < os.length → ∃ u, Oc w g (off + j * 11) (os.getD j po0) u ∧ RdP w u (os.getD j po0).ps)

theorem RdO.on {w w' : World} {v : Value} {os : List Po} (h : RdO w v os) (hb : Below w.heap.size w w') : RdO w' v os := by
  obtain ⟨a, cap, hv, hl, hc, hh⟩ := h
  refine ⟨a, cap, hv, hl, hc, fun hne => ?_⟩
  obtain ⟨g, off, ha, hg, hcell⟩ := hh hne
  refine ⟨g, off, ha, Nat.lt_of_lt_of_le hg hb.size, fun j hj => ?_⟩
  obtain ⟨u, h0, hr⟩ := hcell j hj
  exact ⟨u, h0.on hg hb, hr.on hb⟩

theorem RdO.at {w : World} {a : Option Addr} {n cap : Nat} {os : List Po} (h : RdO w (.slice a n cap) os) {k : Nat} (hk : k < n) {x : Po} (HX : Hid (os.getD k po0 = x)) :
    ∃ g o ua m uc, a = some ⟨g, o, none⟩ ∧ g < w.heap.size ∧ Oc w g (o + k * 11) x (.slice ua m uc) ∧ Hid (RdP w (.slice ua m uc) x.ps) ∧ Hid (x.ps.length = m) := by
  obtain ⟨a', cap', hv, hl, hc, hh⟩ := h
  simp only [Value.slice.injEq] at hv
  obtain ⟨rfl, rfl, rfl⟩ := hv
  obtain ⟨g, o, ha, hg, hcell⟩ := hh (by intro e; rw [e] at hk; simp at hk)
  obtain ⟨u, h0, h4⟩ := hcell k hk
  rw [HX.out] at h0 h4
  have h5 := h4
  obtain ⟨ua, uc, rfl, _⟩ := h5
  exact ⟨g, o, ua, _, uc, ha, hg, h0, h4, (rfl : _ = _)⟩
theorem RdO.shape {w : World} {v : Value} {os : List Po} (h : RdO w v os) : ∃ a cap, v = .slice a os.length cap ∧ os.length ≤ cap ∧ cap ≤ 9223372036854775807 := by
  obtain ⟨a, cap, h1, h2, h3, _⟩ := h
  exact ⟨a, cap, h1, h2, h3⟩
end Go.Proofs.YtfhfedcamcpceaaDoor
/- Walks: cmp.Compare, objects.search. -/
namespace Go.Proofs.YtfhfedcamcpceaaDoor
open Go.RowKit

def cmpC (x y : Int) : Int := if x < y then -1 else if y < x then 1 else 0

def SortO (os : List Po) : Prop := ∀ i j, i < j → j < os.length → (os.getD i po0).id < (os.getD j po0).id

/-- where a number stands, or would -/
structure SrchR (os : List Po) (t : Int) (i : Nat) : Prop where
  le : i ≤ os.length
  lo : ∀ j, j < i → (os.getD j po0).id < t
  hi : ∀ j, i ≤ j → j < os.length → t ≤ (os.getD j po0).id

def SrchP (os : List Po) (t : Int) (w : World) (e : Ending) (w' : World) : Prop :=
  ∃ i b, e = .returned (.tuple #[.int .i64 ((i : Nat) : Int), .bool b]) ∧ SrchR os t i ∧ (b = true ↔ i < os.length ∧ (os.getD i po0).id = t) ∧ Below w.heap.size w w'

theorem wp_shr {P : Program} {o : Oper} {a : Act} {w : World} {K : Act → World → Prop} {Q : Exit → Act → World → Prop} (t : TypeId) (x y : Operand) (u : TypeId) (ho : o.op = .binOp .shr t x y u) (vx vy v : Value)
    (hx : a.eval x = vx) (hy : a.eval y = vy) (hr : (binOp .shr t vx vy).run P w = .ok v w) (hK : K (a.put o.dst v) w) : Oper.wp P o a w K Q := by
  unfold Oper.wp execOp
  simp only [ho, hx, hy, eqGuard_shr, Sem.run_bind, Sem.run_pure, Result.andThen_ok, hr]
  exact hK

end Go.Proofs.YtfhfedcamcpceaaDoor
/- Walks of the law's LightPicture and of the reference's SamePicture. -/
namespace Go.Proofs.YtfhfedcamcpceaaDoor
open Go.RowKit

set_option maxRecDepth 100000 in
theorem light_any (W H : Int) (a : Option Addr) (n cap : Nat) (w : World) (hn : n ≤ 9223372036854775807) (b : Bool) (HB : Hid (decide (n ≤ 80) = b)) :
    Calls Tryd.prog 8 #[.agg #[.int .i64 W, .int .i64 H, .slice a n cap]] w fun e w' => e = .returned (.bool b) ∧ Below w.heap.size w w' := by
  by_cases h : n ≤ 80
  · have hb : b = true := by rw [← HB.out]; simp [h]
    subst hb
    go_enter Tryd.func8, Tryd.ntmps8
    go_wp2
    go_ret
    exact ⟨by simp; omega, (Below.refl _ _).alloc (Nat.le_refl _) _⟩
  · have hb : b = false := by rw [← HB.out]; simp [h]
    subst hb
    go_enter Tryd.func8, Tryd.ntmps8
    go_wp2
    go_ret
    exact ⟨by simp; omega, (Below.refl _ _).alloc (Nat.le_refl _) _⟩

set_option maxRecDepth 100000 in
theorem eq_pix (X : World) (a b : Int) : (binOp .neq 88 (.agg #[.int .i64 a, .int .i64 b]) (.agg #[.int .i64 a, .int .i64 b])).run Tryd.prog X = .ok (.bool false) X := by
  have h : (Op.equalIn 10000 88 (.agg #[.int .i64 a, .int .i64 b]) (.agg #[.int .i64 a, .int .i64 b])).run Tryd.prog X = .ok true X := by
    have u3 := Tryd.underlying3
    rw [run_equalIn_agg X 9999 88 _ _ (by kernel_rfl) (by kernel_rfl)]
    simp only [Program.fieldsOf, Tryd.underlying88]
    go_simp
  rw [run_neq_struct, h]
  rfl

set_option maxHeartbeats 2000000 in
set_option maxRecDepth 100000 in
theorem samePic_any (W H : Int) (v0 v1 : Value) (ps : List (Int × Int)) (w : World) (hps : ps.length ≤ 1000) (H0 : Hid (RdP w v0 ps)) (H1 : Hid (RdP w v1 ps)) :
    Calls Tryd.prog 40 #[.agg #[.int .i64 W, .int .i64 H, v0], .agg #[.int .i64 W, .int .i64 H, v1]] w fun e w' => e = .returned (.bool true) ∧ Below w.heap.size w w' := by
  obtain ⟨a0, c0, hv0, hl0, hm0, hh0⟩ := H0.out
  obtain ⟨a1, c1, hv1, hl1, hm1, hh1⟩ := H1.out
  obtain ⟨n, HN⟩ : ∃ n, Hid (ps.length = n) := ⟨_, (rfl : _ = _)⟩
  rw [HN.out] at hv0 hv1 hl0 hl1 hps
  clear hh0 hh1
  subst hv0 hv1
  have hw : (W != W) = false := by simp
  have hh : (H != H) = false := by simp
  have hnn : ((n : Int) != (n : Int)) = false := by simp
  have HT0 := (three_start w (.int .i64 W) (.int .i64 H) (.slice a0 n c0) 24).alloc (.cells #[.int .i64 W, .int .i64 H, .slice a1 n c1] 24)
  have HT1 := three_start (w.alloc (.cells #[.int .i64 W, .int .i64 H, .slice a0 n c0] 24)) (.int .i64 W) (.int .i64 H) (.slice a1 n c1) 24
  obtain ⟨x0, x1, x2, _, _, _, _⟩ := HT0
  obtain ⟨y0, y1, y2, _, _, _, _⟩ := HT1
  have es : (w.alloc (.cells #[.int .i64 W, .int .i64 H, .slice a0 n c0] 24)).heap.size = w.heap.size + 1 := by simp
  rw [es] at y0 y1 y2
  clear es
  obtain ⟨wz, HWZ⟩ : ∃ wz, Hid ((w.alloc (.cells #[.int .i64 W, .int .i64 H, .slice a0 n c0] 24)).alloc (.cells #[.int .i64 W, .int .i64 H, .slice a1 n c1] 24) = wz) := ⟨_, (rfl : _ = _)⟩
  have hbz : Below w.heap.size w wz := by rw [← HWZ.out]; exact ((Below.refl _ _).alloc (Nat.le_refl _) _).alloc (by simp) _
  go_enter Tryd.func40, Tryd.ntmps40
  go_wp2_with fail
  rw [HWZ.out] at x0 x1 x2 y0 y1 y2 ⊢
  go_loopw [5] (fun i wr => ∃ k q : Nat, k ≤ n ∧ i = .int .i64 k ∧ wr = wz.drewN q) (fun i _ => n - (intOf i).toNat)
  case atStart => exact ⟨0, 0, by omega, rfl, rfl⟩
  case round =>
    obtain ⟨k, q, hk, rfl, rfl⟩ := hrel
    by_cases hlt : k < n
    · have hne : ps ≠ [] := by intro e; have h := HN.out; rw [e] at h; simp at h; omega
      obtain ⟨_, _, hv0, _, _, hh0⟩ := H0.out
      obtain ⟨_, _, hv1, _, _, hh1⟩ := H1.out
      obtain ⟨g0, o0, ha0, hg0, hc0⟩ := hh0 hne
      obtain ⟨g1, o1, ha1, hg1, hc1⟩ := hh1 hne
      simp only [Value.slice.injEq] at hv0 hv1
      have e0 : a0 = some ⟨g0, o0, none⟩ := hv0.1.trans ha0
      have e1 : a1 = some ⟨g1, o1, none⟩ := hv1.1.trans ha1
      subst e0 e1
      obtain ⟨p, HP⟩ : ∃ p, Hid (ps.getD k (0, 0) = p) := ⟨_, (rfl : _ = _)⟩
      have d0 := hc0 k (by rw [HN.out]; exact hlt)
      have d1 := hc1 k (by rw [HN.out]; exact hlt)
      rw [HP.out] at d0 d1
      obtain ⟨pv, pa⟩ := p
      have f0 : wz.cell? ⟨g0, o0 + k * 2, none⟩ = some (.int .i64 pv) := by rw [hbz.cell (p := ⟨g0, o0 + k * 2, none⟩) hg0]; exact d0.1
      have f1 : wz.cell? ⟨g0, o0 + k * 2 + 1, none⟩ = some (.int .i64 pa) := by rw [hbz.cell (p := ⟨g0, o0 + k * 2 + 1, none⟩) hg0]; exact d0.2
      have f2 : wz.cell? ⟨g1, o1 + k * 2, none⟩ = some (.int .i64 pv) := by rw [hbz.cell (p := ⟨g1, o1 + k * 2, none⟩) hg1]; exact d1.1
      have f3 : wz.cell? ⟨g1, o1 + k * 2 + 1, none⟩ = some (.int .i64 pa) := by rw [hbz.cell (p := ⟨g1, o1 + k * 2 + 1, none⟩) hg1]; exact d1.2
      have heq := fun X => eq_pix X pv pa
      clear d0 d1 hc0 hc1 hh0 hh1 hv0 hv1 ha0 ha1
      go_wp2_with fail
      go_quiet (fail)
      go_wp2_with fail
      go_roundw
      case rel => exact ⟨k + 1, q + nq, by omega, by go_num, rfl⟩
      case measure => simp [intOf]; omega
    · go_wp2_with fail
      go_ret
      exact ⟨rfl, below_drewN hbz q⟩
end Go.Proofs.YtfhfedcamcpceaaDoor
/- Walks of the law's LightPicture and of the reference's SamePicture. -/
namespace Go.Proofs.YtfhfedcamcpceaaDoor
open Go.RowKit

end Go.Proofs.YtfhfedcamcpceaaDoor
/- Walk of slices.Clone of pixels. -/
namespace Go.Proofs.YtfhfedcamcpceaaDoor
open Go.RowKit

theorem pixCells_length : ∀ ps : List (Int × Int), (pixCells ps).length = ps.length * 2
  | [] => rfl
  | (a, b) :: r => by simp [pixCells, pixCells_length r]; omega
theorem pixCells_at : ∀ (ps : List (Int × Int)) (j : Nat), j < ps.length → (pixCells ps)[j * 2]? = some (.int .i64 (ps.getD j (0, 0)).1) ∧ (pixCells ps)[j * 2 + 1]? = some (.int .i64 (ps.getD j (0, 0)).2)
  | [], j, h => by simp at h
  | (a, b) :: r, 0, h => by simp [pixCells]
  | (a, b) :: r, j + 1, h => by
    have := pixCells_at r j (by simpa using h)
    rw [show (j + 1) * 2 = j * 2 + 2 by omega]
    simpa [pixCells] using this
theorem pixCells_one : ∀ (ps : List (Int × Int)), ∀ u ∈ pixCells ps, u.oneCell' = true
  | [], u, h => by simp [pixCells] at h
  | (a, b) :: r, u, h => by
    simp only [pixCells, List.mem_cons] at h
    rcases h with rfl | rfl | h
    · rfl
    · rfl
    · exact pixCells_one r u h
theorem add_pl (b o i : Nat) : (⟨b, o, none⟩ : Addr).add i = ⟨b, o + i, none⟩ := by unfold Addr.add; split <;> simp_all
theorem rd_cells {w : World} {g off n cap : Nat} {ps : List (Int × Int)} (h : RdP w (.slice (some ⟨g, off, none⟩) n cap) ps) (hne : ps ≠ []) : ∀ j u, (pixCells ps)[j]? = some u → w.cell? ((⟨g, off, none⟩ : Addr).add j) = some u := by
  obtain ⟨a, c, hv, hl, hc, hh⟩ := h
  obtain ⟨g2, o2, ha, hg, hcell⟩ := hh hne
  simp only [Value.slice.injEq] at hv
  rw [ha] at hv
  simp only [Option.some.injEq, Addr.mk.injEq] at hv
  obtain ⟨⟨rfl, rfl, _⟩, rfl, rfl⟩ := hv
  intro j u hj
  have hlt : j < ps.length * 2 := by
    have := (List.getElem?_eq_some_iff.1 hj).1
    rw [pixCells_length] at this
    exact this
  have hd := hcell (j / 2) (by omega)
  have hp := pixCells_at ps (j / 2) (by omega)
  rw [add_pl]
  obtain ⟨q, hq⟩ : ∃ q, q = j / 2 := ⟨_, rfl⟩
  rw [← hq] at hd hp
  rcases (show j = q * 2 ∨ j = q * 2 + 1 by omega) with e | e
  · subst e
    rw [hp.1] at hj
    rw [← hj]; exact hd.1
  · subst e
    rw [hp.2] at hj
    rw [← hj, ← Nat.add_assoc]; exact hd.2

theorem hide_own {W : World} {B : Nat} {e : TypeId} {size n : Nat} {v : Value} {xs : List Value} (h : W.ownsRow B e size v n xs) : Hid (W.ownsRow B e size v n xs) := h
theorem run_eql_nil {P : Program} (w : World) {t e : TypeId} (a : Addr) (l c : Nat) (h : P.underlying t = some (.slice e)) : (binOp .eql t (.slice (some a) l c) (.slice none 0 0)).run P w = .ok (.bool false) w := by
  have h : ∀ d : Nat, (Op.equalIn (d + 1) t (.slice (some a) l c) (.slice none 0 0)).run P w = .ok false w := fun d => by
    simp [Op.equalIn, run_underlying h]
  simp only [binOp]
  simp [Op.equal, Op.maxDepth, h 9999]

theorem own_empty (w : World) (T : TypeId) (size : Nat) : (w.alloc (.cells #[] T)).ownsRow w.heap.size T size (.slice (some ⟨w.heap.size, 0, none⟩) 0 0) 0 [] := by
  refine ⟨by simp, .inr ⟨w.heap.size, 0, #[], rfl, Nat.le_refl _, by show (w.heap.push _)[w.heap.size]? = _; simp, Nat.le_refl _, by simp [maxLen], by simp, by simp⟩⟩

end Go.Proofs.YtfhfedcamcpceaaDoor
/- Walks: slices.Clone of any pixels (also none), picture.Own. -/
namespace Go.Proofs.YtfhfedcamcpceaaDoor
open Go.RowKit

end Go.Proofs.YtfhfedcamcpceaaDoor
/- Rows of objects of one's own. -/
namespace Go.Proofs.YtfhfedcamcpceaaDoor
open Go.RowKit

/-- an object's cells, its pixels at u -/
def oCells (x : Po) (u : Value) : List Value := [.int .i64 x.id, .int .i64 x.x, .int .i64 x.y, .int .i64 x.pw, .int .i64 x.ph, u, .int .i64 x.cx, .int .i64 x.cy, .int .i64 x.cw, .int .i64 x.ch, .bool x.sh]
def obCells : List (Po × Value) → List Value
  | [] => []
  | (x, u) :: r => oCells x u ++ obCells r
theorem obCells_app (a b : List (Po × Value)) : obCells (a ++ b) = obCells a ++ obCells b := by
  induction a with
  | nil => rfl
  | cons p a ih => obtain ⟨f, u⟩ := p; simp [obCells, ih]
theorem obCells_length : ∀ a : List (Po × Value), (obCells a).length = a.length * 11
  | [] => rfl
  | (f, u) :: r => by simp [obCells, oCells, obCells_length r]; omega
@[reducible] def qo0 : Po × Value := (po0, .slice none 0 0)
theorem obCells_at : ∀ (a : List (Po × Value)) (j c : Nat), j < a.length → c < 11 → (obCells a)[j * 11 + c]? = (oCells (a.getD j qo0).1 (a.getD j qo0).2)[c]?
  | (f, u) :: r, 0, c, _, hc => by
    simp only [obCells, Nat.zero_mul, Nat.zero_add]
    rw [List.getElem?_append_left (by simpa [oCells] using hc)]
    simp
  | (f, u) :: r, j + 1, c, h, hc => by
    have := obCells_at r j c (by simpa using h) hc
    rw [show (j + 1) * 11 + c = 11 + (j * 11 + c) by omega]
    simp only [obCells]
    rw [List.getElem?_append_right (by simp [oCells])]
    simpa [oCells] using this

theorem apartO {w : World} {B B' : Nat} {e e' : TypeId} {s s' : Nat} {v v' : Value} {n n' : Nat} {xs xs' : List Value} (h : w.ownsRow B e s v n xs) (h' : w.ownsRow B' e' s' v' n' xs') (hne : e ≠ e') :
    v.ownBlock = none ∨ v.ownBlock ≠ v'.ownBlock := by
  rcases h.2 with ⟨rfl, _⟩ | ⟨g, cap, cur, rfl, _, hg, _⟩
  · exact .inl rfl
  · refine .inr fun e1 => ?_
    rcases h'.2 with ⟨rfl, _⟩ | ⟨g', cap', cur', rfl, _, hg', _⟩
    · simp [Value.ownBlock] at e1
    · simp [Value.ownBlock] at e1
      subst e1
      rw [hg] at hg'
      simp at hg'
      exact hne hg'.2

end Go.Proofs.YtfhfedcamcpceaaDoor
/- objects.Own walked. -/
namespace Go.Proofs.YtfhfedcamcpceaaDoor
open Go.RowKit

/-- append where there is room: in place -/
theorem run_append_cap {P : Program} (w : World) (base : Nat) (t ty e : TypeId) (i : TypeInfo) (z : Value) (size bytes : Nat) (ht : P.underlying t = some (.slice e)) (hi : P.info? e = some i) (hz : i.zero = some z)
    (hsize : i.size = size) (hby : i.bytes = bytes) (hzs : z.cells.size = size) (hsz : 0 < size)
    (g n cap : Nat) (xs : List Value) (hown : w.ownsRow base e size (.slice (some ⟨g, 0, none⟩) n cap) n xs)
    (a : Addr) (m c : Nat) (news : List Value) (hl : news.length = m * size) (hnews : ∀ j u, news[j]? = some u → w.cell? (a.add j) = some u) (h1 : ∀ u ∈ news, u.oneCell' = true)
    (h63 : n + m ≤ maxLen) (hbytes : (n + m) * bytes ≤ 140737488355328) (hbase : base ≤ w.heap.size) (hroom : n + m ≤ cap) :
    ∃ w', (Builtin.append_ #[t, t] ty #[.slice (some ⟨g, 0, none⟩) n cap, .slice (some a) m c]).run P w = .ok (.slice (some ⟨g, 0, none⟩) (n + m) cap) w' ∧
      w'.ownsRow base e size (.slice (some ⟨g, 0, none⟩) (n + m) cap) (n + m) (xs ++ news) ∧ w.grownBy w' (some g) := by
  obtain ⟨v', w', hr, h2, h3, _⟩ := run_append_own (P := P) w base t ty e i z size bytes ht hi hz hsize hby hzs hsz _ n xs hown a m c news hl hnews h1 h63 hbytes hbase
  rcases hown.2 with ⟨h0, _⟩ | ⟨g', cap', cur, hv, _, hg, _, _, hcs, _⟩
  · simp at h0
  · simp only [Value.slice.injEq, Option.some.injEq, Addr.mk.injEq, and_true, true_and] at hv
    obtain ⟨rfl, rfl⟩ := hv
    have hr2 := run_append_room (P := P) w t ty e i ht hi g n cap cur hg a m c news (by rw [hsize]; exact hl) hnews h1 hroom (by rw [hl, hcs, hsize, ← Nat.add_mul]; exact Nat.mul_le_mul_right _ hroom)
    rw [hr] at hr2
    have e1 := (Result.ok.inj hr2).1
    subst e1
    exact ⟨w', hr, h2, h3⟩

theorem pix_oneB (x : Po) (u : Value) (hu : u.oneCell' = true) : ∀ v ∈ oCells x u, v.oneCell' = true := by
  intro v hv
  simp only [oCells, List.mem_cons, List.not_mem_nil, or_false] at hv
  rcases hv with rfl | rfl | rfl | rfl | rfl | rfl | rfl | rfl | rfl | rfl | rfl <;> first | rfl | exact hu
/-- eleven cells of a new block -/
theorem new_cells (W : World) (L : List Value) (T : TypeId) (j : Nat) (u : Value) (h : L[j]? = some u) : (W.alloc (.cells L.toArray T)).cell? ((⟨W.heap.size, 0, none⟩ : Addr).add j) = some u := by
  have e : (⟨W.heap.size, 0, none⟩ : Addr).add j = ⟨W.heap.size, j, none⟩ := by unfold Addr.add; split <;> simp_all
  rw [e]
  simpa using h
end Go.Proofs.YtfhfedcamcpceaaDoor
/- slices.Insert of one object, where there is room for it. -/
namespace Go.Proofs.YtfhfedcamcpceaaDoor
open Go.RowKit

theorem run_copy_k {P : Program} (k : Nat) (w : World) (dT sT ty elem : TypeId) (g o dLen dCap : Nat) (a : Addr) (sLen sCap : Nat) (cur : Array Value) (t : TypeId) (cs : List Value)
    (hu : P.underlying dT = some (.slice elem)) (hs : (P.info? elem).map (·.size) = some k)
    (hg : w.heap[g]? = some (.cells cur t (0, 0))) (hn : cs.length = Nat.min sLen dLen * k)
    (hsrc : ∀ j v, cs[j]? = some v → w.cell? (a.add j) = some v) (hfit : o + cs.length ≤ cur.size) (h1 : ∀ v ∈ cs, v.oneCell' = true) :
    (Builtin.copy_ #[dT, sT] ty #[.slice (some ⟨g, o, none⟩) dLen dCap, .slice (some a) sLen sCap]).run P w =
      .ok (goInt (Nat.min sLen dLen)) (w.setRow g (cur.toList.take o ++ cs ++ cur.toList.drop (o + cs.length)).toArray) := by
  have hl := run_loadCells_list (P := P) w a cs hsrc
  have hst := run_storeCells_at P g o t cs 0 cur w hg (by simpa using hfit) h1
  rw [hn] at hl
  cases hq : P.info? elem with
  | none => simp [hq] at hs
  | some i =>
    have hi : i.size = k := by simpa [hq] using hs
    simp [Builtin.copy_, run_underlying hu, Builtin.lenOf, Builtin.firstCells, sizeOf, typeInfo, hq, hi, hl, hst]

theorem grown_setRow (w : World) (g : Nat) (cs : Array Value) : w.grownBy (w.setRow g cs) (some g) :=
  ⟨rfl, rfl, rfl, by simp [World.setRow], fun k _ hk => setRow_other w g k cs (fun e => hk (by rw [e]))⟩

/-- copy, what is then in the block named by the prover -/
theorem wpList_copy_k {P : Program} (k : Nat) {w : World} {ops : Array Oper} {rest : List Oper} {o : Oper} {a : Act} {Q : Exit → Act → World → Prop} (hgd : o.guard = none) (d s : Operand) (dT sT : TypeId)
    (ho : o.op = .call { callee := .builtin .copy, args := #[d, s], argTypes := #[dT, sT] }) (elem : TypeId) (hu : P.underlying dT = some (.slice elem)) (hsz : (P.info? elem).map (·.size) = some k)
    (g off dLen dCap : Nat) (ad : Addr) (sLen sCap : Nat) (hd : a.eval d = .slice (some ⟨g, off, none⟩) dLen dCap) (hs : a.eval s = .slice (some ad) sLen sCap)
    (cur : List Value) (t : TypeId) (hg : w.heap[g]? = some (.cells cur.toArray t (0, 0))) (cs : List Value) (m : Nat) (hm : Nat.min sLen dLen = m) (hn : cs.length = m * k)
    (hsrc : ∀ j v, cs[j]? = some v → w.cell? (ad.add j) = some v) (hfit : off + cs.length ≤ cur.length) (h1 : ∀ v ∈ cs, v.oneCell' = true) (new : List Value) (hnew : cur.take off ++ cs ++ cur.drop (off + cs.length) = new)
    (h : ∀ w', Hid (w'.heap[g]? = some (.cells new.toArray t (0, 0))) → Hid (w.grownBy w' (some g)) → wpList P ops Q rest (a.put o.dst (goInt m)) w') : wpList P ops Q (o :: rest) a w := by
  subst hm
  refine wpList_plain hgd fun K hK => ?_
  have hrun := run_copy_k (P := P) k w dT sT o.type elem g off dLen dCap ad sLen sCap cur.toArray t cs hu hsz hg hn hsrc (by simpa using hfit) h1
  unfold Oper.wp
  simp only [execOp, ho, resolve, invoke, builtin, Sem.run_bind, Sem.run_pure, Result.andThen_ok, List.map_toArray, List.map_cons, List.map_nil, hd, hs, hrun]
  exact hK _ _ (h _ (show _ = _ by rw [← hnew]; simpa using setRow_heap w g _ _ t _ hg) (grown_setRow w g _))
theorem step_copy_k {P : Program} (k : Nat) {w : World} {ops : Array Oper} {o : Oper} {a : Act} {K : Act → World → Prop} {Q : Exit → Act → World → Prop} {E : Prop} (hgd : o.guard = none) (d s : Operand) (dT sT : TypeId)
    (ho : o.op = .call { callee := .builtin .copy, args := #[d, s], argTypes := #[dT, sT] }) (elem : TypeId) (hu : P.underlying dT = some (.slice elem)) (hsz : (P.info? elem).map (·.size) = some k)
    (g off dLen dCap : Nat) (ad : Addr) (sLen sCap : Nat) (hd : a.eval d = .slice (some ⟨g, off, none⟩) dLen dCap) (hs : a.eval s = .slice (some ad) sLen sCap)
    (cur : List Value) (t : TypeId) (hg : w.heap[g]? = some (.cells cur.toArray t (0, 0))) (cs : List Value) (m : Nat) (hm : Nat.min sLen dLen = m) (hn : cs.length = m * k)
    (hsrc : ∀ j v, cs[j]? = some v → w.cell? (ad.add j) = some v) (hfit : off + cs.length ≤ cur.length) (h1 : ∀ v ∈ cs, v.oneCell' = true) (new : List Value) (hnew : cur.take off ++ cs ++ cur.drop (off + cs.length) = new)
    (h : ∀ w', Hid (w'.heap[g]? = some (.cells new.toArray t (0, 0))) → Hid (w.grownBy w' (some g)) → K (a.put o.dst (goInt m)) w') : if Region.wanted o (yielded ops a.tmps) = true then Oper.wp P o a w K Q else E := by
  have hw : Region.wanted o (yielded ops a.tmps) = true := by simp [Region.wanted, hgd]
  rw [if_pos hw]
  subst hm
  have hrun := run_copy_k (P := P) k w dT sT o.type elem g off dLen dCap ad sLen sCap cur.toArray t cs hu hsz hg hn hsrc (by simpa using hfit) h1
  unfold Oper.wp
  simp only [execOp, ho, resolve, invoke, builtin, Sem.run_bind, Sem.run_pure, Result.andThen_ok, List.map_toArray, List.map_cons, List.map_nil, hd, hs, hrun]
  exact h _ (show _ = _ by rw [← hnew]; simpa using setRow_heap w g _ _ t _ hg) (grown_setRow w g _)

theorem own_one {w : World} {B : Nat} {v : Value} {n : Nat} {xs : List Value} {e : TypeId} {size : Nat} (h : w.ownsRow B e size v n xs) : v.oneCell' = true := by
  obtain ⟨a, c, rfl⟩ := own_any h
  rfl
theorem ob_one {w : World} {B : Nat} : ∀ {qs : List (Po × Value)}, (∀ q ∈ qs, w.ownsRow B 88 2 q.2 q.1.ps.length (pixCells q.1.ps)) → ∀ v ∈ obCells qs, v.oneCell' = true
  | [], _, v, hv => by simp [obCells] at hv
  | (x, u) :: r, h, v, hv => by
    simp only [obCells, List.mem_append] at hv
    rcases hv with hv | hv
    · exact pix_oneB x u (own_one (h (x, u) (by simp))) v hv
    · exact ob_one (fun q hq => h q (by simp [hq])) v hv
theorem full_own {W : World} {B g n : Nat} {e : TypeId} {size : Nat} {xs : List Value} (h : W.heap[g]? = some (.cells xs.toArray e (0, 0))) (hB : B ≤ g) (hn : n ≤ maxLen) (hl : xs.length = n * size) : W.ownsRow B e size (.slice (some ⟨g, 0, none⟩) n n) n xs :=
  ⟨hl, .inr ⟨g, n, xs.toArray, rfl, hB, h, Nat.le_refl _, hn, by simp [hl], by rw [List.take_of_length_le (by simp [hl])]⟩⟩
theorem grownBy_trans {a b c : World} {r : Option Nat} (h : a.grownBy b r) (h' : b.grownBy c r) : a.grownBy c r :=
  ⟨h'.os.trans h.os, h'.tape.trans h.tape, h'.output.trans h.output, Nat.le_trans h.size h'.size, fun k hk hne => (h'.block k (Nat.lt_of_lt_of_le hk h.size) hne).trans (h.block k hk hne)⟩

end Go.Proofs.YtfhfedcamcpceaaDoor
/- Arithmetic of one pixel in front of another. -/
namespace Fb

/-- what comes through -/
def thru (aa ba : Int) : Int := (255 - aa) * ba / 255

/-- a pixel (av, aa) in front of (bv, ba) -/
def overL (av aa bv ba : Int) : Int × Int :=
  if aa + thru aa ba = 0 then (0, 0) else ((av * aa + bv * thru aa ba) / (aa + thru aa ba), aa + thru aa ba)

theorem mul_bounds (x y a b : Int) (hx : 0 ≤ x) (hxa : x ≤ a) (hy : 0 ≤ y) (hyb : y ≤ b) : 0 ≤ x * y ∧ x * y ≤ a * b :=
  ⟨Int.mul_nonneg hx hy, Int.mul_le_mul hxa hyb hy (by omega)⟩

theorem thru_bounds (aa ba : Int) (h0 : 0 ≤ aa) (h1 : aa ≤ 255) (h2 : 0 ≤ ba) (h3 : ba ≤ 255) :
    0 ≤ (255 - aa) * ba ∧ (255 - aa) * ba ≤ 65025 ∧ 0 ≤ thru aa ba ∧ thru aa ba ≤ 255 - aa ∧ thru aa ba ≤ ba ∧ ba - aa ≤ thru aa ba := by
  have a := mul_bounds (255 - aa) ba (255 - aa) 255 (by omega) (by omega) h2 h3
  have b := mul_bounds (255 - aa) ba 255 ba (by omega) (by omega) h2 (by omega)
  have c : (255 - aa) * ba = 255 * ba - aa * ba := Int.sub_mul ..
  have d := mul_bounds aa ba aa 255 h0 (by omega) h2 h3
  unfold thru
  generalize (255 - aa) * ba = m at *
  generalize aa * ba = k at *
  omega

theorem over_bounds (av aa bv ba : Int) (p0 : 0 ≤ av) (p1 : av ≤ 255) (h0 : 0 ≤ aa) (h1 : aa ≤ 255) (q0 : 0 ≤ bv) (q1 : bv ≤ 255) (h2 : 0 ≤ ba) (h3 : ba ≤ 255) :
    aa ≤ (overL av aa bv ba).2 ∧ ba ≤ (overL av aa bv ba).2 ∧ (overL av aa bv ba).2 ≤ 255 ∧ 0 ≤ (overL av aa bv ba).2 ∧ 0 ≤ (overL av aa bv ba).1 ∧ (overL av aa bv ba).1 ≤ 255 ∧
    (0 < (overL av aa bv ba).2 → min av bv ≤ (overL av aa bv ba).1 ∧ (overL av aa bv ba).1 ≤ max av bv) ∧ (aa = 255 → overL av aa bv ba = (av, aa)) ∧ (aa = 0 → overL av aa bv ba = (bv, ba) ∨ ba = 0 ∧ overL av aa bv ba = (0, 0)) := by
  obtain ⟨_, _, t0, t1, t2, t3⟩ := thru_bounds aa ba h0 h1 h2 h3
  have z1 : aa = 255 → thru aa ba = 0 := by intro e; omega
  have z0 : aa = 0 → thru aa ba = ba := by intro e; omega
  unfold overL
  generalize thru aa ba = t at *
  by_cases hc : aa + t = 0
  · simp only [hc, if_true]
    refine ⟨by omega, by omega, by omega, by omega, by omega, by omega, by omega, by omega, fun h => .inr ⟨by omega, trivial⟩⟩
  · simp only [hc, if_false]
    have hp : 0 < aa + t := by omega
    have hlo : min av bv * (aa + t) ≤ av * aa + bv * t := by
      rw [Int.mul_add]
      have := Int.mul_le_mul_of_nonneg_right (show min av bv ≤ av by omega) h0
      have := Int.mul_le_mul_of_nonneg_right (show min av bv ≤ bv by omega) t0
      omega
    have hhi : av * aa + bv * t ≤ max av bv * (aa + t) := by
      rw [Int.mul_add]
      have := Int.mul_le_mul_of_nonneg_right (show av ≤ max av bv by omega) h0
      have := Int.mul_le_mul_of_nonneg_right (show bv ≤ max av bv by omega) t0
      omega
    have k0 := Int.le_ediv_of_mul_le hp hlo
    have k1 := Int.ediv_le_of_le_mul hp hhi
    refine ⟨by omega, by omega, by omega, by omega, by omega, by omega, fun _ => ⟨k0, k1⟩, fun h => ?_, fun h => .inl ?_⟩
    · have := z1 h
      subst this h
      simp only [Int.mul_zero, Int.add_zero]
      rw [Int.mul_ediv_cancel _ (by omega)]
    · have := z0 h
      subst this h
      simp only [Int.mul_zero, Int.zero_add]
      rw [Int.mul_ediv_cancel _ (by omega)]

theorem over_sum (av aa bv t : Int) (p0 : 0 ≤ av) (p1 : av ≤ 255) (h0 : 0 ≤ aa) (h1 : aa ≤ 255) (q0 : 0 ≤ bv) (q1 : bv ≤ 255) (t0 : 0 ≤ t) (t1 : t ≤ 255) :
    0 ≤ av * aa ∧ av * aa ≤ 65025 ∧ 0 ≤ bv * t ∧ bv * t ≤ 65025 := by
  have a := mul_bounds av aa 255 255 p0 p1 h0 h1
  have b := mul_bounds bv t 255 255 q0 q1 t0 t1
  omega
end Fb
/- Walk of blend.Over. -/
namespace Go.Proofs.YtfhfedcamcpceaaDoor
open Go.RowKit

def pixV (v a : Int) : Value := .agg #[.int .i64 v, .int .i64 a]

end Go.Proofs.YtfhfedcamcpceaaDoor
/- Walks of blend: own, whole, and what becomes of a pixel. -/
namespace Go.Proofs.YtfhfedcamcpceaaDoor
open Go.RowKit

def picV (W H : Int) (v : Value) : Value := .agg #[.int .i64 W, .int .i64 H, v]

def pixOk (p : Int × Int) : Prop := 0 ≤ p.1 ∧ p.1 ≤ 255 ∧ 0 ≤ p.2 ∧ p.2 ≤ 255

/-- two pixels added -/
def addP (p q : Int × Int) : Int × Int := ((p.1 + q.1) % 256, (p.2 + q.2) % 256)

end Go.Proofs.YtfhfedcamcpceaaDoor
/- Walks: objects.Fresh, objects.Get. -/
namespace Go.Proofs.YtfhfedcamcpceaaDoor
open Go.RowKit

/-- an object, its pixels at u -/
theorem hid_of2 {p : Prop} (h : p) : Hid p := h
def poV (x : Po) (u : Value) : Value := objV x.id x.x x.y x.pw x.ph u x.cx x.cy x.cw x.ch x.sh

/-- what Get answers -/
def GetP (os : List Po) (t : Int) (w : World) (e : Ending) (w' : World) : Prop :=
  Below w.heap.size w w' ∧ ((∃ i u, i < os.length ∧ (os.getD i po0).id = t ∧ e = .returned (.tuple #[poV (os.getD i po0) u, .bool true]) ∧ w'.ownsRow (w.heap.size + 1) 88 2 u (os.getD i po0).ps.length (pixCells (os.getD i po0).ps)) ∨
    ((∀ j, j < os.length → (os.getD j po0).id ≠ t) ∧ e = .returned (.tuple #[poV po0 (.slice none 0 0), .bool false])))

end Go.Proofs.YtfhfedcamcpceaaDoor
/- Walk: objects.Set. -/
namespace Go.Proofs.YtfhfedcamcpceaaDoor
open Go.RowKit

/-- an object more, or instead of another one -/
def setO : List Po → Po → List Po
  | [], x => [x]
  | a :: r, x => if x.id < a.id then x :: a :: r else if a.id = x.id then x :: r else a :: setO r x

theorem getD_zero (a : Po) (r : List Po) : (a :: r).getD 0 po0 = a := rfl
theorem getD_succ (a : Po) (r : List Po) (j : Nat) : (a :: r).getD (j + 1) po0 = r.getD j po0 := rfl
theorem setO_put (x : Po) : ∀ (os : List Po) (i : Nat), i < os.length → (∀ j, j < i → (os.getD j po0).id < x.id) → (os.getD i po0).id = x.id → setO os x = os.set i x := by
  intro os
  induction os with
  | nil => intro i h; simp at h
  | cons a r ih =>
    intro i hl hlo h
    cases i with
    | zero =>
      rw [getD_zero] at h
      simp [setO, h]
    | succ i =>
      have h0 := hlo 0 (by omega)
      rw [getD_zero] at h0
      rw [getD_succ] at h
      have ih' := ih i (by simpa using hl) (fun j hj => by have := hlo (j + 1) (by omega); rw [getD_succ] at this; exact this) h
      simp only [setO, List.set_cons_succ]
      rw [if_neg (by omega), if_neg (by omega), ih']
theorem setO_ins (x : Po) : ∀ (os : List Po) (i : Nat), i ≤ os.length → (∀ j, j < i → (os.getD j po0).id < x.id) → (∀ j, i ≤ j → j < os.length → x.id < (os.getD j po0).id) → setO os x = os.take i ++ x :: os.drop i := by
  intro os
  induction os with
  | nil =>
    intro i hi _ _
    simp [setO]
  | cons a r ih =>
    intro i hl hlo hhi
    cases i with
    | zero =>
      have h0 := hhi 0 (by omega) (by simp)
      rw [getD_zero] at h0
      simp [setO, h0]
    | succ i =>
      have h0 := hlo 0 (by omega)
      rw [getD_zero] at h0
      have ih' := ih i (by simpa using hl) (fun j hj => by have := hlo (j + 1) (by omega); rw [getD_succ] at this; exact this) (fun j h1 h2 => by have := hhi (j + 1) (by omega) (by simpa using h2); rw [getD_succ] at this; exact this)
      simp only [setO, List.take_succ_cons, List.drop_succ_cons, List.cons_append]
      rw [if_neg (by omega), if_neg (by omega), ih']

theorem set_app {α : Type} (a b : List α) (k n : Nat) (v : α) (h : a.length = n) : (a ++ b).set (n + k) v = a ++ b.set k v := by
  subst h
  rw [List.set_append_right _ _ (by omega)]
  simp
/-- eleven cells from a place on -/
def put11 (L : List Value) (p : Nat) (a0 a1 a2 a3 a4 a5 a6 a7 a8 a9 a10 : Value) : List Value :=
  ((((((((((L.set p a0).set (p + 1) a1).set (p + 2) a2).set (p + 3) a3).set (p + 4) a4).set (p + 5) a5).set (p + 6) a6).set (p + 7) a7).set (p + 8) a8).set (p + 9) a9).set (p + 10) a10
theorem put11_zero (b0 b1 b2 b3 b4 b5 b6 b7 b8 b9 b10 : Value) (r : List Value) (a0 a1 a2 a3 a4 a5 a6 a7 a8 a9 a10 : Value) : put11 (b0 :: b1 :: b2 :: b3 :: b4 :: b5 :: b6 :: b7 :: b8 :: b9 :: b10 :: r) 0 a0 a1 a2 a3 a4 a5 a6 a7 a8 a9 a10 = a0 :: a1 :: a2 :: a3 :: a4 :: a5 :: a6 :: a7 :: a8 :: a9 :: a10 :: r := rfl
theorem put11_app (a b : List Value) (n k : Nat) (h : a.length = n) (a0 a1 a2 a3 a4 a5 a6 a7 a8 a9 a10 : Value) : put11 (a ++ b) (n + k) a0 a1 a2 a3 a4 a5 a6 a7 a8 a9 a10 = a ++ put11 b k a0 a1 a2 a3 a4 a5 a6 a7 a8 a9 a10 := by
  unfold put11
  simp only [Nat.add_assoc]
  rw [set_app a b k n _ h, set_app a _ (k + 1) n _ h, set_app a _ (k + 2) n _ h, set_app a _ (k + 3) n _ h, set_app a _ (k + 4) n _ h, set_app a _ (k + 5) n _ h, set_app a _ (k + 6) n _ h, set_app a _ (k + 7) n _ h, set_app a _ (k + 8) n _ h, set_app a _ (k + 9) n _ h, set_app a _ (k + 10) n _ h]
theorem obCells_set (x : Po) (u : Value) : ∀ (qs : List (Po × Value)) (j : Nat), j < qs.length →
    put11 (obCells qs) (j * 11) (.int .i64 x.id) (.int .i64 x.x) (.int .i64 x.y) (.int .i64 x.pw) (.int .i64 x.ph) u (.int .i64 x.cx) (.int .i64 x.cy) (.int .i64 x.cw) (.int .i64 x.ch) (.bool x.sh) = obCells (qs.set j (x, u)) := by
  intro qs
  induction qs with
  | nil => intro j h; simp at h
  | cons q r ih =>
    obtain ⟨f, z⟩ := q
    intro j h
    cases j with
    | zero => exact put11_zero _ _ _ _ _ _ _ _ _ _ _ _ _ _ _ _ _ _ _ _ _ _ _
    | succ j =>
      have ih' := ih j (by simpa using h)
      simp only [obCells, List.set_cons_succ]
      rw [show (j + 1) * 11 = 11 + j * 11 by omega, put11_app (oCells f z) _ 11 (j * 11) rfl, ih']

end Go.Proofs.YtfhfedcamcpceaaDoor
/- Walks: slices.Delete of one object, objects.drop. -/
namespace Go.Proofs.YtfhfedcamcpceaaDoor
open Go.RowKit

theorem ready_app {P : Program} {o : Oper} {a : Act} {w w' : World} {K' : Act → World → Prop} {Q : Exit → Act → World → Prop} {ys : Nat → Option Bool} (hg : o.guard = none) (s x : Operand) (t : TypeId)
    (ho : o.op = .call { callee := .builtin .append, args := #[s, x], argTypes := #[t, t] }) (v1 v2 v' : Value) (hs : a.eval s = v1) (hx : a.eval x = v2) (hr : (Builtin.append_ #[t, t] o.type #[v1, v2]).run P w = .ok v' w')
    (hK : K' (a.put o.dst v') w') : if Region.wanted o ys = true then Oper.wp P o a w K' Q else K' (a.put o.dst undef) w := by
  simp only [Region.wanted, hg, if_true]
  unfold Oper.wp execOp
  simp only [ho, resolve, invoke, builtin, Sem.run_bind, Sem.run_pure, Result.andThen_ok, List.map_toArray, List.map_cons, List.map_nil, hs, hx, hr]
  exact hK

/-- clear of one element, in a row that is known -/
theorem run_clear_one {P : Program} (w : World) (t e ty : TypeId) (i : TypeInfo) (z : Value) (Z : List Value) (ht : P.underlying t = some (.slice e)) (hi : P.info? e = some i) (hz0 : i.zero = some z) (hzc : (Builtin.zeroCells z.cells 1).toList = Z) (h1 : ∀ v ∈ Z, v.oneCell' = true) (g o c : Nat) (cur : Array Value) (T : TypeId)
    (hg : w.heap[g]? = some (.cells cur T (0, 0))) (hfit : o + Z.length ≤ cur.size) :
    (Builtin.clear_ #[t] ty #[.slice (some ⟨g, o, none⟩) 1 c]).run P w = .ok (.tuple #[]) (w.setRow g (cur.toList.take o ++ Z ++ cur.toList.drop (o + Z.length)).toArray) := by
  have hst := run_storeCells_at P g o T Z 0 cur w hg (by simpa using hfit) h1
  simp only [Nat.add_zero] at hst
  have hv : ∀ w, (zeroValue e).run P w = .ok z w := fun w => by simp [zeroValue, typeInfo, hi, hz0]
  simp [Builtin.clear_, run_underlying ht, hv, hzc, hst]
theorem wpList_clear {P : Program} {w : World} {ops : Array Oper} {rest : List Oper} {o : Oper} {a : Act} {Q : Exit → Act → World → Prop} (hgd : o.guard = none) (x : Operand) (t : TypeId)
    (ho : o.op = .call { callee := .builtin .clear, args := #[x], argTypes := #[t] }) (v : Value) (hx : a.eval x = v) {v' : Value} {w' : World}
    (hr : (Builtin.clear_ #[t] o.type #[v]).run P w = .ok v' w') (h : wpList P ops Q rest (a.put o.dst v') w') : wpList P ops Q (o :: rest) a w := by
  refine wpList_plain hgd fun K hK => ?_
  unfold Oper.wp execOp
  simp only [ho, resolve, invoke, builtin, Sem.run_bind, Sem.run_pure, Result.andThen_ok, List.map_toArray, List.map_cons, List.map_nil, hx, hr]
  exact hK _ _ h

/-- without the object of a number -/
def dropO (os : List Po) (t : Int) : List Po := os.filter (fun o => decide (o.id ≠ t))
theorem dropO_at : ∀ (os : List Po) (t : Int) (i : Nat), SortO os → i < os.length → (os.getD i po0).id = t → os.take i ++ os.drop (i + 1) = dropO os t := by
  intro os t
  unfold dropO
  induction os with
  | nil => intro i _ h; simp at h
  | cons a r ih =>
    intro i hs hl h
    have hs2 : SortO r := fun i j hij hj => by
      have := hs (i + 1) (j + 1) (by omega) (by simpa using hj)
      rw [getD_succ, getD_succ] at this
      exact this
    cases i with
    | zero =>
      rw [getD_zero] at h
      rw [List.filter_cons_of_neg (by simp [h])]
      simp only [List.take_zero, List.nil_append, Nat.zero_add, List.drop_succ_cons, List.drop_zero]
      refine (List.filter_eq_self.2 fun o ho => ?_).symm
      obtain ⟨j, hj, e⟩ := List.mem_iff_getElem.1 ho
      have h2 := hs 0 (j + 1) (by omega) (by simpa using hj)
      rw [getD_zero, getD_succ, List.getD_eq_getElem?_getD, List.getElem?_eq_getElem hj] at h2
      simp only [Option.getD_some] at h2
      rw [e] at h2
      simp
      omega
    | succ i =>
      rw [getD_succ] at h
      have hi : i < r.length := by simpa using hl
      have h2 := hs 0 (i + 1) (by omega) hl
      rw [getD_zero, getD_succ] at h2
      rw [List.filter_cons_of_pos (by simp; omega)]
      have := ih i hs2 hi h
      simp only [List.take_succ_cons, List.drop_succ_cons, List.cons_append]
      rw [this]

end Go.Proofs.YtfhfedcamcpceaaDoor
/- One step of a drawn region: what reads. -/
namespace Go.Proofs.YtfhfedcamcpceaaDoor
open Go.RowKit

section
variable {P : Program} {ops : Array Oper} {Q : Exit → Act → World → Prop} {md : Region.Mode} {S : World → Prop}
theorem tk {v : Value} {oi : Oper} {fuel : Nat} {listed : Array Bool} {a : Act} {w : World} (i : Nat) (hi : ops[i]? = some oi)
    (hk : (Region.noSelect ops && (Region.free md ops listed i && (Region.ready md ops listed).contains i)) = true) (hw : Region.wanted oi (yielded ops a.tmps) = true)
    (hy : ∀ w, S w → (execOp a.eval oi).run P w = .ok (.value v) w)
    (h : wpAnyH P md ops Q S fuel (listed.setIfInBounds i true) (a.put oi.dst v) w)
    (hQ : ∀ c a w, Q (.panic c) (a.put oi.dst v) w → Q (.panic c) a w := by exact fun _ _ _ h => h) (hS : S w := by assumption) : wpAnyH P md ops Q S (fuel + 1) listed a w := by
  rw [Bool.and_eq_true, Bool.and_eq_true] at hk
  exact wpAnyH_take hi hk.1 hk.2.1 hk.2.2 hQ (.inl ⟨hw, hy⟩) hS h
theorem sk {oi : Oper} {fuel : Nat} {listed : Array Bool} {a : Act} {w : World} (i : Nat) (hi : ops[i]? = some oi)
    (hk : (Region.noSelect ops && (Region.free md ops listed i && (Region.ready md ops listed).contains i)) = true) (hw : Region.wanted oi (yielded ops a.tmps) = false)
    (h : wpAnyH P md ops Q S fuel (listed.setIfInBounds i true) (a.put oi.dst undef) w)
    (hQ : ∀ c a w, Q (.panic c) (a.put oi.dst undef) w → Q (.panic c) a w := by exact fun _ _ _ h => h) (hS : S w := by assumption) : wpAnyH P md ops Q S (fuel + 1) listed a w := by
  rw [Bool.and_eq_true, Bool.and_eq_true] at hk
  exact wpAnyH_take hi hk.1 hk.2.1 hk.2.2 hQ (.inr ⟨hw, rfl⟩) hS h
end
end Go.Proofs.YtfhfedcamcpceaaDoor
/- Pictures as lists: some of the places are other ones. -/
namespace Go.Proofs.YtfhfedcamcpceaaDoor

/-- of n pixels, row by row, those where cond is are others -/
def gridL (W n : Nat) (cond : Nat → Nat → Bool) (g : Nat → Int × Int) (ps : List (Int × Int)) : List (Int × Int) :=
  (List.range n).map fun k => if cond (k % W) (k / W) then g k else ps.getD k (0, 0)

theorem grid_len (W n : Nat) (cond : Nat → Nat → Bool) (g : Nat → Int × Int) (ps : List (Int × Int)) : (gridL W n cond g ps).length = n := by simp [gridL]
theorem grid_at (W n : Nat) (cond : Nat → Nat → Bool) (g : Nat → Int × Int) (ps : List (Int × Int)) (k : Nat) (hk : k < n) : (gridL W n cond g ps)[k]? = some (if cond (k % W) (k / W) then g k else ps.getD k (0, 0)) := by
  simp [gridL, hk]
theorem grid_getD (W n : Nat) (cond : Nat → Nat → Bool) (g : Nat → Int × Int) (ps : List (Int × Int)) (k : Nat) (hk : k < n) : (gridL W n cond g ps).getD k (0, 0) = if cond (k % W) (k / W) then g k else ps.getD k (0, 0) := by
  rw [List.getD_eq_getElem?_getD, grid_at _ _ _ _ _ _ hk]; rfl
theorem grid_congr (W n : Nat) (c1 c2 : Nat → Nat → Bool) (g : Nat → Int × Int) (ps : List (Int × Int)) (h : ∀ k, k < n → c1 (k % W) (k / W) = c2 (k % W) (k / W)) : gridL W n c1 g ps = gridL W n c2 g ps := by
  unfold gridL
  apply List.map_congr_left
  intro k hk
  rw [h k (by simpa using hk)]
theorem grid_start (W n : Nat) (cond : Nat → Nat → Bool) (g : Nat → Int × Int) (ps : List (Int × Int)) (hl : ps.length = n) (h : ∀ k, k < n → cond (k % W) (k / W) = false) : gridL W n cond g ps = ps := by
  apply List.ext_getElem?
  intro k
  by_cases hk : k < n
  · rw [grid_at _ _ _ _ _ _ hk, h k hk]
    simp [List.getD_eq_getElem?_getD, List.getElem?_eq_getElem (show k < ps.length by omega)]
  · rw [List.getElem?_eq_none (by rw [grid_len]; omega), List.getElem?_eq_none (by omega)]
theorem grid_set (W n C R : Nat) (cond : Nat → Nat → Bool) (g : Nat → Int × Int) (ps : List (Int × Int)) (hC : C < W) (hk : R * W + C < n) :
    (gridL W n cond g ps).set (R * W + C) (g (R * W + C)) = gridL W n (fun c r => cond c r || (c == C && r == R)) g ps := by
  apply List.ext_getElem?
  intro k
  have h1 : (R * W + C) % W = C := by rw [Nat.add_comm, Nat.add_mul_mod_self_right, Nat.mod_eq_of_lt hC]
  have h2 : (R * W + C) / W = R := by rw [Nat.add_comm, Nat.add_mul_div_right _ _ (by omega), Nat.div_eq_of_lt hC, Nat.zero_add]
  by_cases hkn : k < n
  · rw [grid_at _ _ _ _ _ _ hkn]
    by_cases he : k = R * W + C
    · subst he
      rw [List.getElem?_set_self (by rw [grid_len]; exact hk), h1, h2]
      simp
    · rw [List.getElem?_set_ne (by omega), grid_at _ _ _ _ _ _ hkn]
      have hne : (k % W == C && k / W == R) = false := by
        rw [Bool.eq_false_iff]
        intro h
        simp only [Bool.and_eq_true, beq_iff_eq] at h
        apply he
        have := Nat.div_add_mod k W
        rw [h.1, h.2, Nat.mul_comm] at this
        omega
      simp only [hne, Bool.or_false]
  · rw [List.getElem?_eq_none (by simp [grid_len]; omega), List.getElem?_eq_none (by rw [grid_len]; omega)]

theorem pixCells_set : ∀ (ps : List (Int × Int)) (k : Nat) (v a : Int), ((pixCells ps).set (k * 2) (.int .i64 v)).set (k * 2 + 1) (.int .i64 a) = pixCells (ps.set k (v, a))
  | [], k, v, a => by simp [pixCells]
  | (x, y) :: r, 0, v, a => by simp [pixCells]
  | (x, y) :: r, k + 1, v, a => by
    rw [show (k + 1) * 2 = k * 2 + 1 + 1 by omega]
    simp only [pixCells, List.set_cons_succ]
    rw [pixCells_set r k v a]

/-- the places that are done, where the row R is under way, its columns up to C -/
def upto (x y w h R C : Int) (c r : Nat) : Bool := hasB x y w h (c : Int) (r : Int) && (decide ((r : Int) < R) || decide ((r : Int) = R) && decide ((c : Int) < C))
theorem upto_iff (x y w h R C : Int) (c r : Nat) : upto x y w h R C c r = true ↔ (x ≤ c ∧ (c : Int) < x + w ∧ y ≤ r ∧ (r : Int) < y + h) ∧ ((r : Int) < R ∨ (r : Int) = R ∧ (c : Int) < C) := by
  unfold upto; rw [Bool.and_eq_true, hasB_iff]; simp

/-- the new pixel at a place -/
def gq (f : Int × Int → Int × Int → Int × Int) (PW : Nat) (ps : List (Int × Int)) (QW : Nat) (qs : List (Int × Int)) (x y : Int) (k : Nat) : Int × Int :=
  f (ps.getD k (0, 0)) (qs.getD ((((k / PW : Nat) : Int) - y) * (QW : Int) + ((k % PW : Nat) : Int) - x).toNat (0, 0))
/-- what change answers -/
def chL (f : Int × Int → Int × Int → Int × Int) (PW : Nat) (ps : List (Int × Int)) (QW QH : Nat) (qs : List (Int × Int)) (x y a b c d : Int) : List (Int × Int) :=
  gridL PW ps.length (fun cc rr => hasB a b c d (cc : Int) (rr : Int) && hasB x y (QW : Int) (QH : Int) (cc : Int) (rr : Int)) (gq f PW ps QW qs x y) ps

theorem mod_div_lt (PW PH k : Nat) (h : k < PW * PH) (hP : 0 < PW) : k % PW < PW ∧ k / PW < PH := ⟨Nat.mod_lt _ hP, Nat.div_lt_of_lt_mul h⟩
theorem upto_start (PW PH : Nat) (g : Nat → Int × Int) (ps : List (Int × Int)) (x y w h : Int) (hl : ps.length = PW * PH) : gridL PW (PW * PH) (upto x y w h y x) g ps = ps := by
  apply grid_start _ _ _ _ _ hl
  intro k _
  rw [Bool.eq_false_iff]
  intro hh
  rw [upto_iff] at hh
  omega
theorem upto_step (PW PH R C : Nat) (g : Nat → Int × Int) (ps : List (Int × Int)) (x y w h : Int) (hC : C < PW) (hR : R < PH) (h0 : x ≤ C) (h1 : (C : Int) < x + w) (h2 : y ≤ R) (h3 : (R : Int) < y + h) :
    (gridL PW (PW * PH) (upto x y w h R C) g ps).set (R * PW + C) (g (R * PW + C)) = gridL PW (PW * PH) (upto x y w h R ((C : Int) + 1)) g ps := by
  rw [grid_set _ _ _ _ _ _ _ hC (by
    have : (R + 1) * PW ≤ PH * PW := Nat.mul_le_mul_right _ hR
    rw [Nat.mul_comm PW PH]; rw [Nat.add_mul] at this; omega)]
  apply grid_congr
  intro k _
  rw [Bool.eq_iff_iff, Bool.or_eq_true, upto_iff, upto_iff]
  simp only [Bool.and_eq_true, beq_iff_eq]
  omega
theorem upto_row (PW PH : Nat) (g : Nat → Int × Int) (ps : List (Int × Int)) (x y w h R : Int) : gridL PW (PW * PH) (upto x y w h R (x + w)) g ps = gridL PW (PW * PH) (upto x y w h (R + 1) x) g ps := by
  apply grid_congr
  intro k _
  rw [Bool.eq_iff_iff, upto_iff, upto_iff]
  omega
/-- all is done -/
theorem upto_end (f : Int × Int → Int × Int → Int × Int) (PW PH : Nat) (ps : List (Int × Int)) (QW QH : Nat) (qs : List (Int × Int)) (x y a b c d : Int) (r1 r2 : Int × Int × Int × Int) (hP : 0 < PW) (hl : ps.length = PW * PH)
    (h1 : bothL 0 0 PW PH x y QW QH = r1) (h2 : bothL a b c d r1.1 r1.2.1 r1.2.2.1 r1.2.2.2 = r2) :
    gridL PW (PW * PH) (upto r2.1 r2.2.1 r2.2.2.1 r2.2.2.2 (r2.2.1 + r2.2.2.2) r2.1) (gq f PW ps QW qs x y) ps = chL f PW ps QW QH qs x y a b c d := by
  unfold chL
  rw [hl]
  apply grid_congr
  intro k hk
  obtain ⟨hm, hd⟩ := mod_div_lt PW PH k hk hP
  have e2 := both_has a b c d r1.1 r1.2.1 r1.2.2.1 r1.2.2.2 ((k % PW : Nat) : Int) ((k / PW : Nat) : Int) r2 h2
  have e1 := both_has 0 0 PW PH x y QW QH ((k % PW : Nat) : Int) ((k / PW : Nat) : Int) r1 h1
  have e00 : ∀ m d : Nat, m < PW → d < PH → hasB 0 0 PW PH (m : Int) (d : Int) = true := by intro m d h1 h2; rw [hasB_iff]; omega
  have e0 := e00 _ _ hm hd
  rw [e1, e0, Bool.true_and] at e2
  rw [← e2, Bool.eq_iff_iff, upto_iff, hasB_iff]
  omega
end Go.Proofs.YtfhfedcamcpceaaDoor
/- For the walk of blend.change. -/
namespace Go.Proofs.YtfhfedcamcpceaaDoor
open Go.RowKit

theorem check_zero (W H : Int) (ps : List (Int × Int)) (h : checkL W H ps = 0) : ∃ PW PH : Nat, W = (PW : Int) ∧ H = (PH : Int) ∧ 1 ≤ PW ∧ PW ≤ 8 ∧ 1 ≤ PH ∧ PH ≤ 8 ∧ ps.length = PW * PH ∧ ∀ k, k < ps.length → pixOk (ps.getD k (0, 0)) := by
  unfold checkL at h
  split at h
  · simp at h
  · rename_i hs
    split at h
    · simp at h
    · rename_i hl
      split at h
      · rename_i ha
        have hw : sideB W = true := by cases e : sideB W <;> simp_all
        have hh : sideB H = true := by cases e : sideB H <;> simp_all
        unfold sideB at hw hh
        simp only [Bool.and_eq_true, decide_eq_true_eq] at hw hh
        refine ⟨W.toNat, H.toNat, by omega, by omega, by omega, by omega, by omega, by omega, ?_, fun k hk => ?_⟩
        · have e1 : ((W.toNat : Nat) : Int) = W := by omega
          have e2 : ((H.toNat : Nat) : Int) = H := by omega
          have : ((W.toNat * H.toNat : Nat) : Int) = W * H := by rw [Int.natCast_mul, e1, e2]
          omega
        · have hm : ps.getD k (0, 0) ∈ ps := by
            rw [List.getD_eq_getElem?_getD, List.getElem?_eq_getElem hk]; exact List.getElem_mem hk
          have := List.all_eq_true.1 ha _ hm
          unfold okPix shadeB at this
          simp only [Bool.and_eq_true, decide_eq_true_eq] at this
          unfold pixOk
          omega
      · simp at h

theorem check_nil (W H : Int) (v : Value) (ps : List (Int × Int)) (w : World) (hps : ps.length ≤ 1000000000) (HR : Hid (RdP w v ps)) (HC : Hid (checkL W H ps = 0)) :
    Calls Tryd.prog 38 #[.agg #[.int .i64 W, .int .i64 H, v]] w fun e w' => e = .returned .nilIface ∧ Below w.heap.size w w' := check_any W H v ps w hps HR 0 HC

/-- what holds on the road: the pictures p and q, the rect, what is under way -/
structure Gch (w : World) (vp vq vo : Value) (PW PH QW QH : Nat) (bo : Nat) (ps qs cur : List (Int × Int)) (w' : World) : Prop where
  tp : Three w' w.heap.size (.int .i64 (PW : Int)) (.int .i64 (PH : Int)) vp
  tq : Three w' (w.heap.size + 1) (.int .i64 (QW : Int)) (.int .i64 (QH : Int)) vq
  tr : Three w' (w.heap.size + 1 + 1 + 1) (.int .i64 0) (.int .i64 0) (.slice none 0 0)
  to : Three w' bo (.int .i64 (PW : Int)) (.int .i64 (PH : Int)) vo
  rp : RdP w' vp ps
  rq : RdP w' vq qs
  bel : Below w.heap.size w w'
  own : w'.ownsRow (w.heap.size + 4) 88 2 vo cur.length (pixCells cur)

theorem Gch.on {w : World} {vp vq vo : Value} {PW PH QW QH bo : Nat} {ps qs cur : List (Int × Int)} {w1 w2 : World} (h : Gch w vp vq vo PW PH QW QH bo ps qs cur w1) (hb : Below w1.heap.size w1 w2) : Gch w vp vq vo PW PH QW QH bo ps qs cur w2 :=
  ⟨h.tp.on hb, h.tq.on hb, h.tr.on hb, h.to.on hb, h.rp.on hb, h.rq.on hb, h.bel.trans (hb.mono h.bel.size), own_on2 h.own hb⟩
theorem Gch.drew {w : World} {vp vq vo : Value} {PW PH QW QH bo : Nat} {ps qs cur : List (Int × Int)} {w1 : World} (h : Gch w vp vq vo PW PH QW QH bo ps qs cur w1) : Gch w vp vq vo PW PH QW QH bo ps qs cur w1.drew :=
  ⟨h.tp.drew, h.tq.drew, h.tr.drew, h.to.drew, h.rp, h.rq, h.bel.drew, h.own.drew⟩

theorem rd_some {w : World} {a : Option Addr} {n cap : Nat} {ps : List (Int × Int)} (h : RdP w (.slice a n cap) ps) (hne : ps ≠ []) : ∃ g off, a = some ⟨g, off, none⟩ ∧ g < w.heap.size ∧ ∀ w' : World, Below w.heap.size w w' → ∀ j, j < ps.length → w'.cell? ⟨g, off + j * 2, none⟩ = some (.int .i64 (ps.getD j (0, 0)).1) ∧ w'.cell? ⟨g, off + j * 2 + 1, none⟩ = some (.int .i64 (ps.getD j (0, 0)).2) := by
  obtain ⟨a', c', hv, hl, hc, hh⟩ := h
  obtain ⟨g, off, ha, hg, hcell⟩ := hh hne
  simp only [Value.slice.injEq] at hv
  refine ⟨g, off, hv.1.trans ha, hg, fun w' hb j hj => ?_⟩
  rw [hb.cell (p := ⟨g, off + j * 2, none⟩) hg, hb.cell (p := ⟨g, off + j * 2 + 1, none⟩) hg]
  exact hcell j hj
theorem hid_of {p : Prop} (h : p) : Hid p := h
theorem Gch.store {w : World} {vp vq : Value} {g np co PW PH QW QH bo K : Nat} {ps qs cur : List (Int × Int)} {w1 : World} (h : Gch w vp vq (.slice (some ⟨g, 0, none⟩) np co) PW PH QW QH bo ps qs cur w1) (hp : RdP w vp ps) (hq : RdP w vq qs) (hg : w.heap.size + 4 ≤ g) (hgb : g < bo) (hl : cur.length = np) (v a : Int) :
    Gch w vp vq (.slice (some ⟨g, 0, none⟩) np co) PW PH QW QH bo ps qs (cur.set K (v, a)) ((w1.setCell ⟨g, K * 2, none⟩ (.int .i64 v)).setCell ⟨g, K * 2 + 1, none⟩ (.int .i64 a)) := by
  have hb : Below w.heap.size w ((w1.setCell ⟨g, K * 2, none⟩ (.int .i64 v)).setCell ⟨g, K * 2 + 1, none⟩ (.int .i64 a)) := (h.bel.setCell (show w.heap.size ≤ g by omega) _).setCell (show w.heap.size ≤ g by omega) _
  refine ⟨(h.tp.other (by omega)).other (by omega), (h.tq.other (by omega)).other (by omega), (h.tr.other (by omega)).other (by omega), (h.to.other (by omega)).other (by omega), hp.on hb, hq.on hb, hb, ?_⟩
  have ho := h.own
  rw [hl] at ho
  have h1 := (ho.stored (K * 2) (.int .i64 v)).1
  have h2 := (h1.stored (K * 2 + 1) (.int .i64 a)).1
  rw [pixCells_set] at h2
  rw [List.length_set, hl]
  exact h2

end Go.Proofs.YtfhfedcamcpceaaDoor
/- Walk of blend.change, with the closure of Add. -/
namespace Go.Proofs.YtfhfedcamcpceaaDoor
open Go.RowKit

end Go.Proofs.YtfhfedcamcpceaaDoor
/- Walk of blend.change, with the closure of Put. -/
namespace Go.Proofs.YtfhfedcamcpceaaDoor
open Go.RowKit

end Go.Proofs.YtfhfedcamcpceaaDoor
/- Walks of blend.Add and blend.Put. -/
namespace Go.Proofs.YtfhfedcamcpceaaDoor
open Go.RowKit

/-- what holds on the road: the pictures p and q, what is answered -/
structure Gad (w : World) (vp vq : Value) (PW PH QW QH : Nat) (ps qs : List (Int × Int)) (w' : World) : Prop where
  tp : Three w' w.heap.size (.int .i64 (PW : Int)) (.int .i64 (PH : Int)) vp
  tq : Three w' (w.heap.size + 1) (.int .i64 (QW : Int)) (.int .i64 (QH : Int)) vq
  tr : Three w' (w.heap.size + 1 + 1) (.int .i64 0) (.int .i64 0) (.slice none 0 0)
  rp : RdP w' vp ps
  rq : RdP w' vq qs
  bel : Below w.heap.size w w'
theorem Gad.on {w : World} {vp vq : Value} {PW PH QW QH : Nat} {ps qs : List (Int × Int)} {w1 w2 : World} (h : Gad w vp vq PW PH QW QH ps qs w1) (hb : Below w1.heap.size w1 w2) : Gad w vp vq PW PH QW QH ps qs w2 :=
  ⟨h.tp.on hb, h.tq.on hb, h.tr.on hb, h.rp.on hb, h.rq.on hb, h.bel.trans (hb.mono h.bel.size)⟩
theorem Gad.drew {w : World} {vp vq : Value} {PW PH QW QH : Nat} {ps qs : List (Int × Int)} {w1 : World} (h : Gad w vp vq PW PH QW QH ps qs w1) : Gad w vp vq PW PH QW QH ps qs w1.drew :=
  ⟨h.tp.drew, h.tq.drew, h.tr.drew, h.rp, h.rq, h.bel.drew⟩
end Go.Proofs.YtfhfedcamcpceaaDoor
/- Walk: objects.Do. -/
namespace Go.Proofs.YtfhfedcamcpceaaDoor
open Go.RowKit

/-- an op -/
structure Pq where
  kind : Int
  id : Int
  a : Int
  b : Int
  c : Int
  d : Int
  pw : Int
  ph : Int
  ps : List (Int × Int)
@[reducible] def opV (q : Pq) (u : Value) : Value := .agg #[.int .i64 q.kind, .int .i64 q.id, .int .i64 q.a, .int .i64 q.b, .int .i64 q.c, .int .i64 q.d, .int .i64 q.pw, .int .i64 q.ph, u]
/-- a new object of a picture -/
def freshO (q : Pq) : Po := ⟨q.id, 0, 0, q.pw, q.ph, q.ps, 0, 0, 20, 20, true⟩
/-- what an op makes of its object; none: no such kind -/
def actO (q : Pq) (o : Po) : Option Po :=
  if q.kind = 3 then some { o with x := q.a, y := q.b }
  else if q.kind = 4 then some { o with cx := q.a, cy := q.b, cw := q.c, ch := q.d }
  else if q.kind = 5 then some { o with sh := decide (q.a = 1) }
  else if q.kind = 6 then some { o with id := q.a }
  else if q.kind = 8 then some { o with ps := chL addP o.pw.toNat o.ps q.pw.toNat q.ph.toNat q.ps q.a q.b 0 0 o.pw o.ph }
  else if q.kind = 9 then some { o with ps := chL (fun _ z => z) o.pw.toNat o.ps q.pw.toNat q.ph.toNat q.ps q.a q.b 0 0 o.pw o.ph }
  else none
/-- what Do answers: objects, or the number of an error -/
def doO (os : List Po) (q : Pq) : List Po ⊕ Nat :=
  if q.kind = 2 then .inl (setO os (freshO q))
  else match os.find? (fun o => decide (o.id = q.id)) with
    | none => .inr 5
    | some o => if q.kind = 7 then .inl (dropO os q.id) else match actO q o with
      | none => .inr 3
      | some x => .inl (setO os x)
/-- what Do wants -/
structure DoPre (os : List Po) (q : Pq) : Prop where
  few : os.length ≤ 100
  pix : ∀ j, j < os.length → (os.getD j po0).ps.length ≤ 100
  sort : SortO os
  ok : ∀ j, j < os.length → checkL (os.getD j po0).pw (os.getD j po0).ph (os.getD j po0).ps = 0
  qpix : q.ps.length ≤ 100
  pic : q.kind = 8 ∨ q.kind = 9 → checkL q.pw q.ph q.ps = 0 ∧ -20 ≤ q.a ∧ q.a ≤ 20 ∧ -20 ≤ q.b ∧ q.b ≤ 20
theorem find_at (os : List Po) (t : Int) (hs : SortO os) (i : Nat) (hi : i < os.length) (h : (os.getD i po0).id = t) : os.find? (fun o => decide (o.id = t)) = some (os.getD i po0) := by
  have e : ∀ k (hk : k < os.length), os.getD k po0 = os[k] := fun k hk => by rw [List.getD_eq_getElem?_getD, List.getElem?_eq_getElem hk]; rfl
  rw [List.find?_eq_some_iff_getElem]
  refine ⟨by simpa using h, i, hi, (e i hi).symm, fun j hj => ?_⟩
  have := hs j i hj hi
  rw [e j (by omega)] at this
  simp
  omega
theorem find_no (os : List Po) (t : Int) (h : ∀ j, j < os.length → (os.getD j po0).id ≠ t) : os.find? (fun o => decide (o.id = t)) = none := by
  rw [List.find?_eq_none]
  intro o ho
  obtain ⟨j, hj, e⟩ := List.mem_iff_getElem.1 ho
  have := h j hj
  rw [List.getD_eq_getElem?_getD, List.getElem?_eq_getElem hj] at this
  simp only [Option.getD_some] at this
  rw [e] at this
  simpa using this

end Go.Proofs.YtfhfedcamcpceaaDoor
/- Lists of numbers; op.numbers; slices.ContainsFunc over numbers. -/
namespace Go.Proofs.YtfhfedcamcpceaaDoor
open Go.RowKit

/-- a list of numbers -/
def RdI (w : World) (v : Value) (ns : List Int) : Prop :=
  ∃ a cap, v = .slice a ns.length cap ∧ ns.length ≤ cap ∧ cap ≤ 9223372036854775807 ∧ (ns ≠ [] → ∃ g off, a = some ⟨g, off, none⟩ ∧ g < w.heap.size ∧ ∀ j, j < ns.length → w.cell? ⟨g, off + j, none⟩ = some (.int .i64 (ns.getD j 0)))
theorem RdI.on {w w' : World} {v : Value} {ns : List Int} (h : RdI w v ns) (hb : Below w.heap.size w w') : RdI w' v ns := by
  obtain ⟨a, cap, hv, hl, hc, hh⟩ := h
  refine ⟨a, cap, hv, hl, hc, fun hne => ?_⟩
  obtain ⟨g, off, ha, hg, hcell⟩ := hh hne
  refine ⟨g, off, ha, Nat.lt_of_lt_of_le hg hb.size, fun j hj => ?_⟩
  rw [hb.cell (p := ⟨g, off + j, none⟩) hg]
  exact hcell j hj
theorem RdI.at {w : World} {a : Option Addr} {n cap : Nat} {ns : List Int} (h : RdI w (.slice a n cap) ns) {k : Nat} (hk : k < n) (HN : Hid (ns.length = n)) {x : Int} (HX : Hid (ns.getD k 0 = x)) :
    ∃ g o, a = some ⟨g, o, none⟩ ∧ g < w.heap.size ∧ w.cell? ⟨g, o + k, none⟩ = some (.int .i64 x) := by
  obtain ⟨a', cap', hv, hl, hc, hh⟩ := h
  simp only [Value.slice.injEq] at hv
  obtain ⟨rfl, _, rfl⟩ := hv
  obtain ⟨g, o, ha, hg, hcell⟩ := hh (by intro e; rw [e] at HN; have := HN.out; simp at this; omega)
  have := hcell k (by rw [HN.out]; exact hk)
  rw [HX.out] at this
  exact ⟨g, o, ha, hg, this⟩

set_option maxRecDepth 100000 in
theorem isNot0_any (n : Int) (w : World) (t : Bool) (HT : Hid (decide (n ≠ 0) = t)) : Calls Tryd.prog 36 #[.int .i64 n] w fun e w' => e = .returned (.bool t) ∧ Below w.heap.size w w' := by
  have hbz : Below w.heap.size w w := Below.refl _ _
  have ht : (n != 0) = t := by rw [← HT.out]; by_cases h : n = 0 <;> simp [h]
  go_enter Tryd.func36, Tryd.ntmps36
  go_wp2_with fail
  go_ret
  exact ⟨rfl, hbz⟩

set_option maxRecDepth 100000 in
theorem isOut_any (n lo hi : Int) (b : Nat) (w : World) (h4 : w.cell? ⟨b, 4, none⟩ = some (.int .i64 lo)) (h5 : w.cell? ⟨b, 5, none⟩ = some (.int .i64 hi)) (t : Bool) (HT : Hid ((decide (n < lo) || decide (hi < n)) = t)) : Calls Tryd.prog 64 #[.int .i64 n, .pointer (some ⟨b, 0, none⟩)] w fun e w' => e = .returned (.bool t) ∧ Below w.heap.size w w' := by
  have hbz : Below w.heap.size w w := Below.refl _ _
  have ht := HT.out
  clear HT
  by_cases h1 : n < lo
  · have : t = true := by rw [← ht]; simp [h1]
    subst this
    clear ht
    go_enter Tryd.func64, Tryd.ntmps64
    go_wp2_with fail
    go_ret
    exact ⟨rfl, hbz⟩
  · by_cases h2 : hi < n
    · have : t = true := by rw [← ht]; simp [h2]
      subst this
      clear ht
      go_enter Tryd.func64, Tryd.ntmps64
      go_wp2_with fail
      go_ret
      exact ⟨rfl, hbz⟩
    · have : t = false := by rw [← ht]; simp [h1, h2]
      subst this
      clear ht
      go_enter Tryd.func64, Tryd.ntmps64
      go_wp2_with fail
      go_ret
      exact ⟨rfl, hbz⟩

set_option maxRecDepth 100000 in
theorem numbers_any (q : Pq) (u : Value) (w : World) : Calls Tryd.prog 24 #[opV q u] w fun e w' => ∃ g, e = .returned (.slice (some ⟨g, 0, none⟩) 4 4) ∧ w.heap.size ≤ g ∧ w'.heap[g]? = some (.cells #[.int .i64 q.a, .int .i64 q.b, .int .i64 q.c, .int .i64 q.d] 3 (0, 0)) ∧ Below w.heap.size w w' := by
  have hbz : Below w.heap.size w ((w.alloc (.cells #[.int .i64 q.kind, .int .i64 q.id, .int .i64 q.a, .int .i64 q.b, .int .i64 q.c, .int .i64 q.d, .int .i64 q.pw, .int .i64 q.ph, u] 26)).alloc (.cells #[.int .i64 q.a, .int .i64 q.b, .int .i64 q.c, .int .i64 q.d] 3)) := ((Below.refl _ _).alloc (Nat.le_refl _) _).alloc (by simp) _
  have hn := heap_alloc_new (w.alloc (.cells #[.int .i64 q.kind, .int .i64 q.id, .int .i64 q.a, .int .i64 q.b, .int .i64 q.c, .int .i64 q.d, .int .i64 q.pw, .int .i64 q.ph, u] 26)) (.cells #[.int .i64 q.a, .int .i64 q.b, .int .i64 q.c, .int .i64 q.d] 3)
  unfold opV
  go_enter Tryd.func24, Tryd.ntmps24
  go_wp2_with fail
  go_ret
  exact ⟨_, rfl, by simp, by simpa using hn, hbz⟩

set_option maxHeartbeats 2000000 in
set_option maxRecDepth 100000 in
theorem indexN_any (v : Value) (ns : List Int)  (w : World) (hns : ns.length ≤ 1000) (HR : Hid (RdI w v ns))  :
    Calls Tryd.prog 62 #[v, .func (.func 36) #[] #[]] w fun e w' => ∃ r : Int, e = .returned (.int .i64 r) ∧ Hid (decide (0 ≤ r) = ns.any (fun n => decide (n ≠ 0))) ∧ Below w.heap.size w w' := by
  obtain ⟨a, cap, hv, hl, hcap, hh⟩ := HR.out
  obtain ⟨n, HN⟩ : ∃ n, Hid (ns.length = n) := ⟨_, (rfl : _ = _)⟩
  rw [HN.out] at hv hl hns
  clear hh
  subst hv
  have hbz : Below w.heap.size w w := Below.refl _ _
  go_enter Tryd.func62, Tryd.ntmps62
  go_wp2_with fail
  go_loopw [8] (fun i wr => ∃ k : Nat, k ≤ n ∧ i = .int .i64 k ∧ Hid (ns.any (fun n => decide (n ≠ 0)) = (ns.drop k).any (fun n => decide (n ≠ 0))) ∧ Below w.heap.size w wr) (fun i _ => n - (intOf i).toNat)
  case atStart => exact ⟨0, by omega, rfl, (rfl : _ = _), hbz⟩
  case round =>
    obtain ⟨k, hk, rfl, HA, hbr⟩ := hrel
    by_cases hlt : k < n
    · have hlt' : k < ns.length := by rw [HN.out]; exact hlt
      obtain ⟨m, HM⟩ : ∃ m, Hid (ns.getD k 0 = m) := ⟨_, (rfl : _ = _)⟩
      have HD : Hid ((ns.drop k).any (fun n => decide (n ≠ 0)) = ((fun n : Int => decide (n ≠ 0)) m || (ns.drop (k + 1)).any (fun n => decide (n ≠ 0)))) := by
        unfold Hid
        rw [List.drop_eq_getElem_cons hlt', List.any_cons, ← HM.out, List.getD_eq_getElem?_getD, List.getElem?_eq_getElem hlt']
        rfl
      obtain ⟨g, p, ha, hg, hc⟩ := HR.out.at hlt HN HM
      subst ha
      have hc2 := (hbr.cell (p := ⟨g, p + k, none⟩) hg).trans hc
      have hki0 : (0 : Int) ≤ (k : Int) := by omega
      have hki1 : (k : Int) < (n : Int) := by omega
      clear hlt' hc HM
      go_wp2_with fail
      cases hp : (decide (m ≠ 0)) with
      | true =>
        rw [hp] at HD
        refine (isNot0_any m _ true hp).mono ?_
        rintro e w1 ⟨rfl, hb1⟩
        have hbw1 := hbr.trans (hb1.mono hbr.size)
        clear hb1
        go_wp2_with fail
        go_ret
        exact ⟨(k : Int), rfl, by unfold Hid; rw [HA.out, HD.out]; simp, hbw1⟩
      | false =>
        rw [hp] at HD
        refine (isNot0_any m _ false hp).mono ?_
        rintro e w1 ⟨rfl, hb1⟩
        have hbw1 := hbr.trans (hb1.mono hbr.size)
        clear hb1
        go_wp2_with fail
        go_roundw
        case rel => exact ⟨k + 1, by omega, by go_num, by unfold Hid; rw [HA.out, HD.out]; simp, hbw1⟩
        case measure => simp [intOf]; omega
    · obtain rfl : k = n := by omega
      have HE : Hid (ns.any (fun n => decide (n ≠ 0)) = false) := by unfold Hid; rw [HA.out, List.drop_of_length_le (by rw [HN.out]; exact Nat.le_refl _)]; rfl
      go_wp2_with fail
      go_ret
      exact ⟨-1, rfl, by unfold Hid; rw [HE.out]; rfl, hbr⟩

set_option maxRecDepth 100000 in
theorem containsN_any (v : Value) (ns : List Int)  (w : World) (hns : ns.length ≤ 1000) (HR : Hid (RdI w v ns))  (t : Bool) (HT : Hid (ns.any (fun n => decide (n ≠ 0)) = t)) :
    Calls Tryd.prog 34 #[v, .func (.func 36) #[] #[]] w fun e w' => e = .returned (.bool t) ∧ Below w.heap.size w w' := by
  have HR2 := HR
  obtain ⟨a, cap, hv, _, _, hh⟩ := HR.out
  clear hh
  subst hv
  go_enter Tryd.func34, Tryd.ntmps34
  go_wp2_with fail
  refine (indexN_any _ ns  _ hns HR2 ).mono ?_
  rintro e w1 ⟨r, rfl, HB, hb1⟩
  rw [HT.out] at HB
  have hd : decide (0 ≤ r) = t := HB.out
  clear HB
  go_wp2_with fail
  go_ret
  exact ⟨rfl, hb1⟩

set_option maxHeartbeats 2000000 in
set_option maxRecDepth 100000 in
theorem indexB_any (v : Value) (ns : List Int) (lo hi : Int) (b : Nat) (w : World) (hns : ns.length ≤ 1000) (HR : Hid (RdI w v ns)) (hb : b < w.heap.size) (h4 : w.cell? ⟨b, 4, none⟩ = some (.int .i64 lo)) (h5 : w.cell? ⟨b, 5, none⟩ = some (.int .i64 hi)) :
    Calls Tryd.prog 62 #[v, .func (.func 64) #[] #[.pointer (some ⟨b, 0, none⟩)]] w fun e w' => ∃ r : Int, e = .returned (.int .i64 r) ∧ Hid (decide (0 ≤ r) = ns.any (fun n => (decide (n < lo) || decide (hi < n)))) ∧ Below w.heap.size w w' := by
  obtain ⟨a, cap, hv, hl, hcap, hh⟩ := HR.out
  obtain ⟨n, HN⟩ : ∃ n, Hid (ns.length = n) := ⟨_, (rfl : _ = _)⟩
  rw [HN.out] at hv hl hns
  clear hh
  subst hv
  have hbz : Below w.heap.size w w := Below.refl _ _
  go_enter Tryd.func62, Tryd.ntmps62
  go_wp2_with fail
  go_loopw [8] (fun i wr => ∃ k : Nat, k ≤ n ∧ i = .int .i64 k ∧ Hid (ns.any (fun n => (decide (n < lo) || decide (hi < n))) = (ns.drop k).any (fun n => (decide (n < lo) || decide (hi < n)))) ∧ Below w.heap.size w wr) (fun i _ => n - (intOf i).toNat)
  case atStart => exact ⟨0, by omega, rfl, (rfl : _ = _), hbz⟩
  case round =>
    obtain ⟨k, hk, rfl, HA, hbr⟩ := hrel
    by_cases hlt : k < n
    · have hlt' : k < ns.length := by rw [HN.out]; exact hlt
      obtain ⟨m, HM⟩ : ∃ m, Hid (ns.getD k 0 = m) := ⟨_, (rfl : _ = _)⟩
      have HD : Hid ((ns.drop k).any (fun n => (decide (n < lo) || decide (hi < n))) = ((fun n : Int => (decide (n < lo) || decide (hi < n))) m || (ns.drop (k + 1)).any (fun n => (decide (n < lo) || decide (hi < n))))) := by
        unfold Hid
        rw [List.drop_eq_getElem_cons hlt', List.any_cons, ← HM.out, List.getD_eq_getElem?_getD, List.getElem?_eq_getElem hlt']
        rfl
      obtain ⟨g, p, ha, hg, hc⟩ := HR.out.at hlt HN HM
      subst ha
      have hc2 := (hbr.cell (p := ⟨g, p + k, none⟩) hg).trans hc
      have hki0 : (0 : Int) ≤ (k : Int) := by omega
      have hki1 : (k : Int) < (n : Int) := by omega
      clear hlt' hc HM
      go_wp2_with fail
      cases hp : ((decide (m < lo) || decide (hi < m))) with
      | true =>
        rw [hp] at HD
        refine (isOut_any m lo hi b _ ((hbr.cell (p := ⟨b, 4, none⟩) hb).trans h4) ((hbr.cell (p := ⟨b, 5, none⟩) hb).trans h5) true hp).mono ?_
        rintro e w1 ⟨rfl, hb1⟩
        have hbw1 := hbr.trans (hb1.mono hbr.size)
        clear hb1
        go_wp2_with fail
        go_ret
        exact ⟨(k : Int), rfl, by unfold Hid; rw [HA.out, HD.out]; simp, hbw1⟩
      | false =>
        rw [hp] at HD
        refine (isOut_any m lo hi b _ ((hbr.cell (p := ⟨b, 4, none⟩) hb).trans h4) ((hbr.cell (p := ⟨b, 5, none⟩) hb).trans h5) false hp).mono ?_
        rintro e w1 ⟨rfl, hb1⟩
        have hbw1 := hbr.trans (hb1.mono hbr.size)
        clear hb1
        go_wp2_with fail
        go_roundw
        case rel => exact ⟨k + 1, by omega, by go_num, by unfold Hid; rw [HA.out, HD.out]; simp, hbw1⟩
        case measure => simp [intOf]; omega
    · obtain rfl : k = n := by omega
      have HE : Hid (ns.any (fun n => (decide (n < lo) || decide (hi < n))) = false) := by unfold Hid; rw [HA.out, List.drop_of_length_le (by rw [HN.out]; exact Nat.le_refl _)]; rfl
      go_wp2_with fail
      go_ret
      exact ⟨-1, rfl, by unfold Hid; rw [HE.out]; rfl, hbr⟩

set_option maxRecDepth 100000 in
theorem containsB_any (v : Value) (ns : List Int) (lo hi : Int) (b : Nat) (w : World) (hns : ns.length ≤ 1000) (HR : Hid (RdI w v ns)) (hb : b < w.heap.size) (h4 : w.cell? ⟨b, 4, none⟩ = some (.int .i64 lo)) (h5 : w.cell? ⟨b, 5, none⟩ = some (.int .i64 hi)) (t : Bool) (HT : Hid (ns.any (fun n => (decide (n < lo) || decide (hi < n))) = t)) :
    Calls Tryd.prog 34 #[v, .func (.func 64) #[] #[.pointer (some ⟨b, 0, none⟩)]] w fun e w' => e = .returned (.bool t) ∧ Below w.heap.size w w' := by
  have HR2 := HR
  obtain ⟨a, cap, hv, _, _, hh⟩ := HR.out
  clear hh
  subst hv
  go_enter Tryd.func34, Tryd.ntmps34
  go_wp2_with fail
  refine (indexB_any _ ns lo hi b _ hns HR2 hb h4 h5).mono ?_
  rintro e w1 ⟨r, rfl, HB, hb1⟩
  rw [HT.out] at HB
  have hd : decide (0 ≤ r) = t := HB.out
  clear HB
  go_wp2_with fail
  go_ret
  exact ⟨rfl, hb1⟩
end Go.Proofs.YtfhfedcamcpceaaDoor
/- Walks of the reference's RectFault and Has. -/
namespace Go.Proofs.YtfhfedcamcpceaaDoor
open Go.RowKit

end Go.Proofs.YtfhfedcamcpceaaDoor
/- Walk of objects.Check. -/
namespace Go.Proofs.YtfhfedcamcpceaaDoor
open Go.RowKit

/-- the number of the error of an object -/
def objC (id x y pw ph : Int) (ps : List (Int × Int)) (cx cy cw ch : Int) : Nat :=
  if id < 1 ∨ 6 < id then 1 else if rectC x y 0 0 = 1 then 1 else if rectC cx cy cw ch = 1 then 1 else checkL pw ph ps

theorem rectC_cases (x y w h : Int) : rectC x y w h = 0 ∨ rectC x y w h = 1 := by unfold rectC; split <;> simp

theorem objC_zero (id x y pw ph : Int) (ps : List (Int × Int)) (cx cy cw ch : Int) (h : objC id x y pw ph ps cx cy cw ch = 0) :
    1 ≤ id ∧ id ≤ 6 ∧ -20 ≤ x ∧ x ≤ 20 ∧ -20 ≤ y ∧ y ≤ 20 ∧ -20 ≤ cx ∧ cx ≤ 20 ∧ -20 ≤ cy ∧ cy ≤ 20 ∧ 0 ≤ cw ∧ cw ≤ 20 ∧ 0 ≤ ch ∧ ch ≤ 20 ∧ checkL pw ph ps = 0 := by
  unfold objC at h
  split at h
  · omega
  split at h
  · omega
  split at h
  · omega
  have r1 : rectC x y 0 0 = 0 := by rcases rectC_cases x y 0 0 with h | h <;> omega
  have r2 : rectC cx cy cw ch = 0 := by rcases rectC_cases cx cy cw ch with h | h <;> omega
  rw [rectC_zero] at r1 r2
  omega

end Go.Proofs.YtfhfedcamcpceaaDoor
