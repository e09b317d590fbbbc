/- Some of the walks, in one text. -/
import Derived.Test.YtceabiodelfdoaaGreatDoorM2
import Derived.Deep.MidRow
import Derived.Lib.SmallJoins
import Derived.Deep.SlicePairs
import Derived.WalkKit
import Derived.ProofKit
import Derived.OpenShut
import Derived.Below
import Derived.Deep.Cut
import Derived.Deep.RegionWith
import Derived.Laws.EntriesVeiled
import Derived.Lib.AppendZeros
/- Walk of op.find. -/
namespace Go.Proofs.YtceabiodelfdoaaGreatDoor
open Go.RowKit Go.Deep

/-- the cells of the whole table -/
def shpCells : List Value := shps.flatMap Shp.cells
theorem shpCells_len : shpCells.length = 112 := by decide +kernel
theorem shpCells_at : ∀ k s, shps[k]? = some s → ∀ j, j < 7 → shpCells[7 * k + j]? = s.cells[j]? := by
  intro k s hk
  have hk16 : k < 16 := by
    rcases Nat.lt_or_ge k 16 with h | h
    · exact h
    · rw [List.getElem?_eq_none (by rw [shps_len]; exact h)] at hk; cases hk
  intro j hj
  have hall : ∀ k < 16, ∀ j < 7, shpCells[7 * k + j]? = (shps[k]?).bind fun s => s.cells[j]? := by
    intro k hk j hj
    have : k = 0 ∨ k = 1 ∨ k = 2 ∨ k = 3 ∨ k = 4 ∨ k = 5 ∨ k = 6 ∨ k = 7 ∨ k = 8 ∨ k = 9 ∨ k = 10 ∨ k = 11 ∨ k = 12 ∨ k = 13 ∨ k = 14 ∨ k = 15 := by omega
    have hj' : j = 0 ∨ j = 1 ∨ j = 2 ∨ j = 3 ∨ j = 4 ∨ j = 5 ∨ j = 6 := by omega
    rcases this with rfl | rfl | rfl | rfl | rfl | rfl | rfl | rfl | rfl | rfl | rfl | rfl | rfl | rfl | rfl | rfl <;> rcases hj' with rfl | rfl | rfl | rfl | rfl | rfl | rfl <;> rfl
  rw [hall k hk16 j hj, hk]
  rfl
theorem Shapes.on {w w' : World} (h : Shapes w) (h1 : 0 < w.heap.size) (hb : Below w.heap.size w w') : Shapes w' := fun k s hk j u hu => (hb.cell (p := ⟨0, 7 * k + j, none⟩) h1).trans (h k s hk j u hu)
theorem Shapes.all {w : World} (h : Shapes w) : ∀ i, i < 112 → w.cell? ⟨0, i, none⟩ = some (shpCells.getD i .nilIface) := by
  intro i hi
  have hk : shps[i / 7]? = some (shps[i / 7]'(by rw [shps_len]; omega)) := List.getElem?_eq_getElem _
  have hj : i % 7 < 7 := Nat.mod_lt _ (by omega)
  have he : 7 * (i / 7) + i % 7 = i := by omega
  have h1 := shpCells_at _ _ hk (i % 7) hj
  rw [he] at h1
  have hl : (shps[i / 7]'(by rw [shps_len]; omega)).cells.length = 7 := rfl
  obtain ⟨u, hu⟩ : ∃ u, (shps[i / 7]'(by rw [shps_len]; omega)).cells[i % 7]? = some u := ⟨_, List.getElem?_eq_getElem (by rw [hl]; exact hj)⟩
  have h2 := h _ _ hk _ _ hu
  rw [he] at h2
  rw [h2, List.getD_eq_getElem?_getD, h1, hu]
  rfl
theorem Shapes.range {w : World} (h : Shapes w) : w.rangeAt 0 0 shpCells := by
  intro j v hj
  have hl : j < 112 := by
    rcases Nat.lt_or_ge j 112 with h | h
    · exact h
    · rw [List.getElem?_eq_none (by rw [shpCells_len]; exact h)] at hj; cases hj
  rw [Nat.zero_add, h.all j hl, List.getD_eq_getElem?_getD, hj]
  rfl

theorem shp_index (k : Nat) (s : Shp) (hk : shps[k]? = some s) (X : World) : (Instr.index 118 (.agg shpCells.toArray) (.int .i64 (k : Int))).run Tryz.prog X = .ok s.val X := by
  have hk16 : k < 16 := by
    rcases Nat.lt_or_ge k 16 with h | h
    · exact h
    · rw [List.getElem?_eq_none (by rw [shps_len]; exact h)] at hk; cases hk
  have hc : k = 0 ∨ k = 1 ∨ k = 2 ∨ k = 3 ∨ k = 4 ∨ k = 5 ∨ k = 6 ∨ k = 7 ∨ k = 8 ∨ k = 9 ∨ k = 10 ∨ k = 11 ∨ k = 12 ∨ k = 13 ∨ k = 14 ∨ k = 15 := by omega
  rcases hc with rfl | rfl | rfl | rfl | rfl | rfl | rfl | rfl | rfl | rfl | rfl | rfl | rfl | rfl | rfl | rfl <;> (obtain rfl := Option.some.inj hk; refine Eq.trans ?_ rfl; kernel_rfl)

/-- the first shape from k on of this kind -/
def kindAt (kd : Int) : List Shp → Option Shp
  | [] => none
  | s :: r => if (s.kind : Int) = kd then some s else kindAt kd r

theorem hid_of3 {p : Prop} (h : p) : Hid p := h
theorem kindAt_drop (kd : Int) (k : Nat) (s : Shp) (h : shps[k]? = some s) : kindAt kd (shps.drop k) = if (s.kind : Int) = kd then some s else kindAt kd (shps.drop (k + 1)) := by
  obtain ⟨hk, e⟩ := List.getElem?_eq_some_iff.1 h
  rw [List.drop_eq_getElem_cons hk, e]
  rfl
/-- no shape -/
def shp0 : Shp := ⟨0, [], false, 0, 0, 0, false⟩

set_option maxHeartbeats 4000000 in
set_option maxRecDepth 100000 in
theorem kindF_any (s : Shp) (kd : Int) (b : Nat) (w : World) (hb : b < w.heap.size) (HK : w.cell? ⟨b, 0, none⟩ = some (.int .i64 kd)) (t : Bool) (HT : Hid (decide ((s.kind : Int) = kd) = t)) :
    Calls Tryz.prog 57 #[s.val, .pointer (some ⟨b, 0, none⟩)] w fun e w' => e = .returned (.bool t) ∧ Below w.heap.size w w' := by
  have HK2 := (cell_old w (.cells #[.int .i64 (s.kind : Int), .string s.bytes, .bool s.id, .int .i64 (s.nums : Int), .int .i64 s.low, .int .i64 s.high, .bool s.pic] 92) b 0 hb).trans HK
  have hbz : Below w.heap.size w (w.alloc (.cells #[.int .i64 (s.kind : Int), .string s.bytes, .bool s.id, .int .i64 (s.nums : Int), .int .i64 s.low, .int .i64 s.high, .bool s.pic] 92)) := (Below.refl _ _).alloc (Nat.le_refl _) _
  have ht : ((s.kind : Int) == kd) = t := by rw [← HT.out]; rfl
  unfold Shp.val
  go_enter Tryz.func57, Tryz.ntmps57
  go_wp2_with fail
  go_ret
  exact ⟨rfl, hbz⟩

/-- what find answers -/
def FindP (o : Option Shp) (w : World) (e : Ending) (w' : World) : Prop :=
  Below w.heap.size w w' ∧ match o with
    | some s => e = .returned (.tuple #[s.val, .bool true])
    | none => e = .returned (.tuple #[shp0.val, .bool false])

set_option maxHeartbeats 4000000 in
set_option maxRecDepth 100000 in
theorem findK_any (kd : Int) (b : Nat) (w : World) (HS : Hid (Shapes w)) (h1 : 0 < w.heap.size) (hb : b < w.heap.size) (HK : w.cell? ⟨b, 0, none⟩ = some (.int .i64 kd)) :
    Calls Tryz.prog 44 #[.func (.func 57) #[] #[.pointer (some ⟨b, 0, none⟩)]] w fun e w' => FindP (kindAt kd shps) w e w' := by
  have HS0 : Hid (Shapes (w.alloc (.cells #[.int .i64 0, .string ⟨#[]⟩, .bool false, .int .i64 0, .int .i64 0, .int .i64 0, .bool false] 92))) := HS.out.on h1 ((Below.refl _ _).alloc (Nat.le_refl _) _)
  have S0 := seven_start w (.int .i64 0) (.string ⟨#[]⟩) (.bool false) (.int .i64 0) (.int .i64 0) (.int .i64 0) (.bool false) 92 w.heap.size rfl
  have HK0 := (cell_old w (.cells #[.int .i64 0, .string ⟨#[]⟩, .bool false, .int .i64 0, .int .i64 0, .int .i64 0, .bool false] 92) b 0 hb).trans HK
  have hbz : Below w.heap.size w (w.alloc (.cells #[.int .i64 0, .string ⟨#[]⟩, .bool false, .int .i64 0, .int .i64 0, .int .i64 0, .bool false] 92)) := (Below.refl _ _).alloc (Nat.le_refl _) _
  go_enter Tryz.func44, Tryz.ntmps44
  go_wp2_with fail
  refine wp_load_mid 118 (Operand.global 0) rfl 0 0 rfl shpCells _ HS0.out.range Tryz.underlying118 rfl (by kernel_rfl) ?_
  simp only [Act.put]
  go_wp2_with fail
  obtain ⟨W0, HW0⟩ : ∃ W, Hid (w.alloc (.cells #[.int .i64 0, .string ⟨#[]⟩, .bool false, .int .i64 0, .int .i64 0, .int .i64 0, .bool false] 92) = W) := ⟨_, (rfl : _ = _)⟩
  rw [HW0.out] at HS0 S0 HK0 hbz
  rw [HW0.out]
  have HIX : Hid (∀ (k : Nat) (s : Shp), shps[k]? = some s → ∀ X, (Instr.index 118 (.agg shpCells.toArray) (.int .i64 (k : Int))).run Tryz.prog X = .ok s.val X) := shp_index
  obtain ⟨AV, HAV⟩ : ∃ A, Hid (shpCells.toArray = A) := ⟨_, (rfl : _ = _)⟩
  rw [HAV.out] at HIX
  rw [HAV.out]
  clear HS0 HS HAV
  have hbW : b < W0.heap.size := Nat.lt_of_lt_of_le hb hbz.size
  go_loopw [7] (fun kv wr => ∃ k : Nat, k ≤ 16 ∧ kv = .int .i64 (k : Int) ∧ Hid (kindAt kd shps = kindAt kd (shps.drop k)) ∧ Below W0.heap.size W0 wr) (fun kv _ => 16 - (intOf kv).toNat)
  case atStart => exact ⟨0, by omega, rfl, (rfl : _ = _), Below.refl _ _⟩
  case round =>
    obtain ⟨k, hk, rfl, HKD, hbr⟩ := hrel
    obtain ⟨d0, d1, d2, d3, d4, d5, d6, g0, g1, g2, g3, g4, g5, g6, lt2⟩ := S0.on hbr
    have hbbr := hbz.trans (hbr.mono hbz.size)
    by_cases hk2 : k < 16
    · obtain ⟨s, Hs⟩ : ∃ s, Hid (shps[k]? = some s) := ⟨_, List.getElem?_eq_getElem (by rw [shps_len]; exact hk2)⟩
      have hix := HIX.out k s Hs.out
      have HKS := hid_of3 (kindAt_drop kd k s Hs.out)
      have hbx : Below wr.heap.size wr (wr.alloc (.cells #[.int .i64 (s.kind : Int), .string s.bytes, .bool s.id, .int .i64 (s.nums : Int), .int .i64 s.low, .int .i64 s.high, .bool s.pic] 92)) := (Below.refl _ _).alloc (Nat.le_refl _) _
      have S1 := seven_start wr (.int .i64 (s.kind : Int)) (.string s.bytes) (.bool s.id) (.int .i64 (s.nums : Int)) (.int .i64 s.low) (.int .i64 s.high) (.bool s.pic) 92 wr.heap.size rfl
      have hbX := hbr.trans (hbx.mono hbr.size)
      have hbbX := hbbr.trans (hbx.mono hbbr.size)
      have hbx2 : b < (wr.alloc (.cells #[.int .i64 (s.kind : Int), .string s.bytes, .bool s.id, .int .i64 (s.nums : Int), .int .i64 s.low, .int .i64 s.high, .bool s.pic] 92)).heap.size := Nat.lt_of_lt_of_le hbW hbX.size
      have HKX : (wr.alloc (.cells #[.int .i64 (s.kind : Int), .string s.bytes, .bool s.id, .int .i64 (s.nums : Int), .int .i64 s.low, .int .i64 s.high, .bool s.pic] 92)).cell? ⟨b, 0, none⟩ = some (.int .i64 kd) := (hbX.cell (p := ⟨b, 0, none⟩) hbW).trans HK0
      have S0X := (S0.on hbr).on hbx
      clear d0 d1 d2 d3 d4 d5 d6 g0 g1 g2 g3 g4 g5 g6 lt2 hbx
      unfold Shp.val at hix
      go_wp2_with fail
      by_cases he : (s.kind : Int) = kd
      · rw [if_pos he] at HKS
        have HR : Hid (kindAt kd shps = some s) := by unfold Hid; rw [HKD.out, HKS.out]
        refine (kindF_any s kd b _ hbx2 HKX true (by unfold Hid; simpa using he)).mono ?_
        rintro e w1 ⟨rfl, hb1⟩
        have hbb1 := hbbX.trans (hb1.mono hbbX.size)
        obtain ⟨d0, d1, d2, d3, d4, d5, d6, g0, g1, g2, g3, g4, g5, g6, lt2⟩ := S0X.on hb1
        obtain ⟨e0, e1, e2, e3, e4, e5, e6, f0, f1, f2, f3, f4, f5, f6, lt3⟩ := S1.on hb1
        clear he HKS HKD hb1 hbbX
        go_wp2_with fail
        rw [HR.out]
        refine bodyPost_ret (v := .tuple #[.agg #[.int .i64 (s.kind : Int), .string s.bytes, .bool s.id, .int .i64 (s.nums : Int), .int .i64 s.low, .int .i64 s.high, .bool s.pic], .bool true]) (by simp [results, Tryz.results44, go_sem, d0, d1, d2, d3, d4, d5, d6]) rfl ⟨?_, rfl⟩
        repeat (refine Below.setCell ?_ (by simp) _)
        exact hbb1
      · rw [if_neg he] at HKS
        refine (kindF_any s kd b _ hbx2 HKX false (by unfold Hid; simpa using he)).mono ?_
        rintro e w1 ⟨rfl, hb1⟩
        have hbX1 := hbX.trans (hb1.mono hbX.size)
        clear he hb1
        go_wp2_with fail
        go_roundw
        case rel => exact ⟨k + 1, by omega, by go_num, HKD.out.trans HKS.out, hbX1⟩
        case measure => simp [intOf]; omega
    · obtain rfl : k = 16 := by omega
      have HR : Hid (kindAt kd shps = none) := by unfold Hid; rw [HKD.out]; rfl
      go_wp2_with fail
      rw [HR.out]
      refine bodyPost_ret (v := .tuple #[.agg #[.int .i64 0, .string ⟨#[]⟩, .bool false, .int .i64 0, .int .i64 0, .int .i64 0, .bool false], .bool false]) (by simp [results, Tryz.results44, go_sem, d0, d1, d2, d3, d4, d5, d6]) rfl ⟨?_, rfl⟩
      repeat (refine Below.setCell ?_ (by simp) _)
      exact hbbr

set_option maxHeartbeats 4000000 in
set_option maxRecDepth 100000 in
theorem ofKind_any (kd : Int) (w : World) (HS : Hid (Shapes w)) (h1 : 0 < w.heap.size) :
    Calls Tryz.prog 37 #[.int .i64 kd] w fun e w' => FindP (kindAt kd shps) w e w' := by
  have hbz : Below w.heap.size w ((w.alloc (.cells #[.int .i64 kd] 3)).alloc (.cells #[.int .i64 0, .string ⟨#[]⟩, .bool false, .int .i64 0, .int .i64 0, .int .i64 0, .bool false] 92)) := ((Below.refl _ _).alloc (Nat.le_refl _) _).alloc (by simp) _
  have S0 := seven_start (w.alloc (.cells #[.int .i64 kd] 3)) (.int .i64 0) (.string ⟨#[]⟩) (.bool false) (.int .i64 0) (.int .i64 0) (.int .i64 0) (.bool false) 92 (w.heap.size + 1) (by simp)
  have HS0 : Hid (Shapes _) := HS.out.on h1 hbz
  have hlt : w.heap.size < ((w.alloc (.cells #[.int .i64 kd] 3)).alloc (.cells #[.int .i64 0, .string ⟨#[]⟩, .bool false, .int .i64 0, .int .i64 0, .int .i64 0, .bool false] 92)).heap.size := by simp; omega
  have hcK : ((w.alloc (.cells #[.int .i64 kd] 3)).alloc (.cells #[.int .i64 0, .string ⟨#[]⟩, .bool false, .int .i64 0, .int .i64 0, .int .i64 0, .bool false] 92)).cell? ⟨w.heap.size, 0, none⟩ = some (.int .i64 kd) := (cell_old _ _ _ 0 (by simp)).trans (cell_fresh w _ _ _ rfl)
  have h1' := Nat.lt_of_lt_of_le h1 hbz.size
  obtain ⟨o, HO⟩ : ∃ o, Hid (kindAt kd shps = o) := ⟨_, (rfl : _ = _)⟩
  rw [HO.out]
  go_enter Tryz.func37, Tryz.ntmps37
  go_wp2_with fail
  refine (findK_any kd w.heap.size _ HS0 h1' hlt hcK).mono ?_
  rw [HO.out]
  rintro e w1 ⟨hb1, he⟩
  have hbb1 := hbz.trans (hb1.mono hbz.size)
  obtain ⟨d0, d1, d2, d3, d4, d5, d6, g0, g1, g2, g3, g4, g5, g6, lt2⟩ := S0.on hb1
  clear hb1 hbz S0 HS0 hlt hcK
  cases o with
  | none =>
    simp only at he
    subst he
    unfold shp0 Shp.val Shp.bytes
    go_wp2_with fail
    refine bodyPost_ret (v := .tuple #[.agg #[.int .i64 0, .string ⟨#[]⟩, .bool false, .int .i64 0, .int .i64 0, .int .i64 0, .bool false], .bool false]) (by simp [results, Tryz.results37, go_sem, d0, d1, d2, d3, d4, d5, d6]) rfl ⟨?_, rfl⟩
    repeat (refine Below.setCell ?_ (by simp) _)
    exact hbb1
  | some s =>
    simp only at he
    subst he
    unfold Shp.val
    go_wp2_with fail
    refine bodyPost_ret (v := .tuple #[.agg #[.int .i64 (s.kind : Int), .string s.bytes, .bool s.id, .int .i64 (s.nums : Int), .int .i64 s.low, .int .i64 s.high, .bool s.pic], .bool true]) (by simp [results, Tryz.results37, go_sem, d0, d1, d2, d3, d4, d5, d6]) rfl ⟨?_, rfl⟩
    repeat (refine Below.setCell ?_ (by simp) _)
    exact hbb1
end Go.Proofs.YtceabiodelfdoaaGreatDoor
/- A picture that is handed in, opened. -/
namespace Go.Proofs.YtceabiodelfdoaaGreatDoor
open Go.ChangeShapes Go.WideShapes Go.ChangeAt Go.RowKit Go.Joins Go.Deep

theorem Tryz.cellsPic : Tryz.prog.cellsOf 46 = 3 := by kernel_rfl
theorem Tryz.cellsPix : Tryz.prog.cellsOf 52 = 2 := by kernel_rfl
theorem Tryz.cellsInt : Tryz.prog.cellsOf 3 = 1 := by kernel_rfl

set_option maxRecDepth 100000 in
theorem view_pix {H : Type} {enc : TypeId × Value → H} {W : World} {u : Value} {x : DataW H × List MemPlace} {fuel : Nat}
    (hf : DataW.trod enc Tryz.prog W 0 (fun _ => true) true fuel 44 [u] = some x) : ∃ ps, RdP W u ps := by
  rcases open_slice_pairs Tryz.underlying44 Tryz.underlying52 Tryz.cellsPix rfl rfl Tryz.cellsInt Tryz.cellsInt hf with ⟨hc, _⟩ | ⟨a, len, cap, m, k, V0, V1, D0, D1, P0, P1, hc, _, hl, hm, hmm, hx, hall⟩
  · simp only [List.cons.injEq, and_true] at hc
    subst hc
    exact ⟨[], none, 0, rfl, by simp, by omega, fun h => absurd rfl h⟩
  · simp only [List.cons.injEq, and_true] at hc
    subst hc
    simp only [if_true] at hmm
    subst hmm
    have hint : ∀ i, i < m → ∃ n0 n1, V0 i = .int .i64 n0 ∧ V1 i = .int .i64 n1 := fun i hi => by
      obtain ⟨n0, h1, _, _⟩ := DataW.trod_int Tryz.underlying3 (hall i hi).2.2.1
      obtain ⟨n1, h2, _, _⟩ := DataW.trod_int Tryz.underlying3 (hall i hi).2.2.2
      simp only [List.cons.injEq, and_true] at h1 h2
      exact ⟨n0, n1, h1, h2⟩
    let f : Nat → Int × Int := fun i => (intOf (V0 i), intOf (V1 i))
    unfold maxLen at hm
    refine ⟨(List.range len).map f, some a, m, by simp, by simp; exact hl, by omega, fun hne => ?_⟩
    have hpos : 0 < len := by
      rcases Nat.eq_zero_or_pos len with h | h
      · subst h; simp at hne
      · exact h
    obtain ⟨sb, so, spot⟩ := a
    have hspot : spot = none := by simpa [Addr.add] using World.cell?_spot (hall 0 (by omega)).1
    subst hspot
    refine ⟨sb, so, rfl, ?_, fun j hj => ?_⟩
    · have h0 := (hall 0 (by omega)).1
      rcases Nat.lt_or_ge sb W.heap.size with h | h
      · exact h
      · simp [Addr.add, World.cell?, Array.getElem?_eq_none h] at h0
    · simp only [List.length_map, List.length_range] at hj
      obtain ⟨n0, n1, e0, e1⟩ := hint j (by omega)
      have h0 := (hall j (by omega)).1
      have h1 := (hall j (by omega)).2.1
      have hg : ((List.range len).map f).getD j (0, 0) = (n0, n1) := by
        rw [List.getD_eq_getElem?_getD, List.getElem?_map, List.getElem?_range hj]
        simp [f, e0, e1, intOf]
      rw [hg]
      rw [e0] at h0
      rw [e1] at h1
      rw [add_plain] at h0 h1
      exact ⟨h0, by rw [Nat.add_assoc]; exact h1⟩

set_option maxRecDepth 100000 in
theorem open_picture {H : Type} {enc : TypeId × Value → H} {W : World} {r : Reach} {b0 : Nat} {v : Value} {d : DataW H} {p : List MemPlace} (hv : Value.okWide Tryz.prog W r b0 46 v)
    (h : DataW.Trod enc Tryz.prog W 0 (fun _ => true) true 46 v d p) :
    ∃ (pw ph : Int) (u : Value) (ps : List (Int × Int)), v = .agg #[.int .i64 pw, .int .i64 ph, u] ∧ RdP W u ps ∧ (Lit.int .i64 pw).wf = true ∧ (Lit.int .i64 ph).wf = true := by
  obtain ⟨c0, c1, c2, y0, y1, y2, m, rfl, _, _, hy0, hy1, hy2⟩ := open_agg3 Tryz.underlying46 (by kernel_rfl) Tryz.cellsPic hv h
  obtain ⟨x, e0, _, wx⟩ := DataW.trod_int Tryz.underlying3 hy0
  obtain ⟨y, e1, _, wy⟩ := DataW.trod_int Tryz.underlying3 hy1
  simp at e0 e1
  subst e0 e1
  obtain ⟨ps, hps⟩ := view_pix hy2
  exact ⟨x, y, c2, ps, rfl, hps, wx, wy⟩
end Go.Proofs.YtceabiodelfdoaaGreatDoor
/- Walks of picture's isSide, isShade and Check. -/
namespace Go.Proofs.YtceabiodelfdoaaGreatDoor
open Go.RowKit

end Go.Proofs.YtceabiodelfdoaaGreatDoor
/- A picture that is handed in, opened. -/
namespace Go.Proofs.YtceabiodelfdoaaGreatDoor
open Go.ChangeShapes Go.WideShapes Go.ChangeAt Go.RowKit Go.Joins Go.Deep

end Go.Proofs.YtceabiodelfdoaaGreatDoor
/- Walks of rect: isPlace, isLength, Check, Has, overlap, Both. -/
namespace Go.Proofs.YtceabiodelfdoaaGreatDoor
open Go.RowKit

def placeB (n : Int) : Bool := decide (-20 ≤ n) && decide (n ≤ 20)
def lenB (n : Int) : Bool := decide (0 ≤ n) && decide (n ≤ 20)
def rectB (x y w h : Int) : Bool := placeB x && placeB y && lenB w && lenB h
def hasB (x y w h p q : Int) : Bool := decide (x ≤ p) && decide (p < x + w) && decide (y ≤ q) && decide (q < y + h)
def rectV (x y w h : Int) : Value := .agg #[.int .i64 x, .int .i64 y, .int .i64 w, .int .i64 h]
/-- what is in two -/
def bothL (a b c d a' b' c' d' : Int) : Int × Int × Int × Int :=
  if min (a + c) (a' + c') - max a a' ≤ 0 ∨ min (b + d) (b' + d') - max b b' ≤ 0 then (0, 0, 0, 0)
  else (max a a', max b b', min (a + c) (a' + c') - max a a', min (b + d) (b' + d') - max b b')

theorem place_any (n : Int) (w : World) (b : Bool) (HB : Hid (placeB n = b)) : Calls Tryz.prog 74 #[.int .i64 n] w fun e w' => e = .returned (.bool b) ∧ w = w' := by
  by_cases h1 : -20 ≤ n
  · by_cases h2 : n ≤ 20
    · have hb : b = true := by rw [← HB.out]; unfold placeB; simp [h1, h2]
      subst hb
      go_enter Tryz.func74, Tryz.ntmps74
      go_wp2
      go_ret
      exact ⟨by simp, rfl⟩
    · have hb : b = false := by rw [← HB.out]; unfold placeB; simp [h2]
      subst hb
      go_enter Tryz.func74, Tryz.ntmps74
      go_wp2
      go_ret
      exact ⟨by simp, rfl⟩
  · have hb : b = false := by rw [← HB.out]; unfold placeB; simp [h1]
    subst hb
    go_enter Tryz.func74, Tryz.ntmps74
    go_wp2
    go_ret
    exact ⟨rfl, rfl⟩

theorem length_any (n : Int) (w : World) (b : Bool) (HB : Hid (lenB n = b)) : Calls Tryz.prog 75 #[.int .i64 n] w fun e w' => e = .returned (.bool b) ∧ w = w' := by
  by_cases h1 : 0 ≤ n
  · by_cases h2 : n ≤ 20
    · have hb : b = true := by rw [← HB.out]; unfold lenB; simp [h1, h2]
      subst hb
      go_enter Tryz.func75, Tryz.ntmps75
      go_wp2
      go_ret
      exact ⟨by simp, rfl⟩
    · have hb : b = false := by rw [← HB.out]; unfold lenB; simp [h2]
      subst hb
      go_enter Tryz.func75, Tryz.ntmps75
      go_wp2
      go_ret
      exact ⟨by simp, rfl⟩
  · have hb : b = false := by rw [← HB.out]; unfold lenB; simp [h1]
    subst hb
    go_enter Tryz.func75, Tryz.ntmps75
    go_wp2
    go_ret
    exact ⟨rfl, rfl⟩

theorem hasB_iff (x y w h p q : Int) : hasB x y w h p q = true ↔ x ≤ p ∧ p < x + w ∧ y ≤ q ∧ q < y + h := by unfold hasB; simp [and_assoc]
theorem hasB_no (x y w h p q : Int) : hasB x y w h p q = false ↔ ¬ (x ≤ p ∧ p < x + w ∧ y ≤ q ∧ q < y + h) := by rw [← hasB_iff]; simp

set_option maxRecDepth 100000 in
theorem overlap_any (a c b d : Int) (W : World) (h0 : -10000 ≤ a) (h1 : a ≤ 10000) (h2 : -10000 ≤ c) (h3 : c ≤ 10000) (h4 : -10000 ≤ b) (h5 : b ≤ 10000) (h6 : -10000 ≤ d) (h7 : d ≤ 10000) (m n : Int) (HM : Hid (max a b = m)) (HN : Hid (min (a + c) (b + d) - max a b = n)) :
    Calls Tryz.prog 119 #[.int .i64 a, .int .i64 c, .int .i64 b, .int .i64 d] W fun e w' => e = .returned (.tuple #[.int .i64 m, .int .i64 n]) ∧ W = w' := by
  have hM := HM.out
  have hN := HN.out
  clear HM HN
  by_cases ha : a < b
  · by_cases hc : a + c ≤ b + d
    · have e1 : m = b := by omega
      have e2 : n = a + c - b := by omega
      subst e1 e2
      clear hM hN
      go_enter Tryz.func119, Tryz.ntmps119
      go_wp2
      exact bodyPost_ret (v := .tuple #[_, _]) (by simp [results, Tryz.results119, go_sem]; first | done | exact ⟨rfl, rfl⟩ | rfl) rfl ⟨rfl, rfl⟩
    · have hc' : b + d < a + c := by omega
      have e1 : m = b := by omega
      have e2 : n = b + d - b := by omega
      subst e1 e2
      clear hM hN hc
      go_enter Tryz.func119, Tryz.ntmps119
      go_wp2
      exact bodyPost_ret (v := .tuple #[_, _]) (by simp [results, Tryz.results119, go_sem]; first | done | exact ⟨rfl, rfl⟩ | rfl) rfl ⟨rfl, rfl⟩
  · have ha' : b ≤ a := by omega
    by_cases hc : a + c ≤ b + d
    · have e1 : m = a := by omega
      have e2 : n = a + c - a := by omega
      subst e1 e2
      clear hM hN ha
      go_enter Tryz.func119, Tryz.ntmps119
      go_wp2
      exact bodyPost_ret (v := .tuple #[_, _]) (by simp [results, Tryz.results119, go_sem]; first | done | exact ⟨rfl, rfl⟩ | rfl) rfl ⟨rfl, rfl⟩
    · have hc' : b + d < a + c := by omega
      have e1 : m = a := by omega
      have e2 : n = b + d - a := by omega
      subst e1 e2
      clear hM hN ha hc
      go_enter Tryz.func119, Tryz.ntmps119
      go_wp2
      exact bodyPost_ret (v := .tuple #[_, _]) (by simp [results, Tryz.results119, go_sem]; first | done | exact ⟨rfl, rfl⟩ | rfl) rfl ⟨rfl, rfl⟩

def ratV (r : Int × Int × Int × Int) : Value := rectV r.1 r.2.1 r.2.2.1 r.2.2.2

set_option maxRecDepth 100000 in
theorem both_any (a b c d a' b' c' d' : Int) (W : World) (h0 : -1000 ≤ a) (h1 : a ≤ 1000) (h2 : -1000 ≤ b) (h3 : b ≤ 1000) (h4 : 0 ≤ c) (h5 : c ≤ 1000) (h6 : 0 ≤ d) (h7 : d ≤ 1000)
    (k0 : -1000 ≤ a') (k1 : a' ≤ 1000) (k2 : -1000 ≤ b') (k3 : b' ≤ 1000) (k4 : 0 ≤ c') (k5 : c' ≤ 1000) (k6 : 0 ≤ d') (k7 : d' ≤ 1000) (r : Int × Int × Int × Int) (HR : Hid (bothL a b c d a' b' c' d' = r)) :
    Calls Tryz.prog 111 #[rectV a b c d, rectV a' b' c' d'] W fun e w' => e = .returned (ratV r) ∧ Below W.heap.size W w' := by
  have hR := HR.out
  clear HR
  unfold bothL at hR
  obtain ⟨m, HM⟩ : ∃ m, Hid (max a a' = m) := ⟨_, (rfl : _ = _)⟩
  obtain ⟨n, HN⟩ : ∃ m, Hid (min (a + c) (a' + c') - max a a' = m) := ⟨_, (rfl : _ = _)⟩
  obtain ⟨p, HP⟩ : ∃ m, Hid (max b b' = m) := ⟨_, (rfl : _ = _)⟩
  obtain ⟨q, HQ⟩ : ∃ m, Hid (min (b + d) (b' + d') - max b b' = m) := ⟨_, (rfl : _ = _)⟩
  rw [HN.out, HQ.out, HM.out, HP.out] at hR
  unfold rectV
  have hbel : Below W.heap.size W (((W.alloc (.cells #[.int .i64 a, .int .i64 b, .int .i64 c, .int .i64 d] 117)).alloc (.cells #[.int .i64 a', .int .i64 b', .int .i64 c', .int .i64 d'] 117)).alloc (.cells #[.int .i64 0, .int .i64 0, .int .i64 0, .int .i64 0] 117)) :=
    ((((Below.refl _ _).alloc (Nat.le_refl _) _).alloc (by simp) _).alloc (by simp; omega) _)
  have HBEL : Hid (Below W.heap.size W (((W.alloc (.cells #[.int .i64 a, .int .i64 b, .int .i64 c, .int .i64 d] 117)).alloc (.cells #[.int .i64 a', .int .i64 b', .int .i64 c', .int .i64 d'] 117)).alloc (.cells #[.int .i64 0, .int .i64 0, .int .i64 0, .int .i64 0] 117))) := hbel
  clear hbel
  by_cases hn : n ≤ 0
  · rw [if_pos (.inl hn)] at hR
    subst hR
    go_enter Tryz.func111, Tryz.ntmps111
    go_wp2_with fail
    refine (overlap_any a c a' c' _ (by omega) (by omega) (by omega) (by omega) (by omega) (by omega) (by omega) (by omega) m n HM HN).mono ?_
    rintro e w1 ⟨rfl, rfl⟩
    go_wp2_with fail
    refine (overlap_any b d b' d' _ (by omega) (by omega) (by omega) (by omega) (by omega) (by omega) (by omega) (by omega) p q HP HQ).mono ?_
    rintro e w1 ⟨rfl, rfl⟩
    go_wp2_with fail
    exact bodyPost_ret (v := .agg #[.int .i64 0, .int .i64 0, .int .i64 0, .int .i64 0]) (by simp [results, Tryz.results111, go_sem]) rfl ⟨rfl, HBEL.out⟩
  · by_cases hq : q ≤ 0
    · rw [if_pos (.inr hq)] at hR
      subst hR
      go_enter Tryz.func111, Tryz.ntmps111
      go_wp2_with fail
      refine (overlap_any a c a' c' _ (by omega) (by omega) (by omega) (by omega) (by omega) (by omega) (by omega) (by omega) m n HM HN).mono ?_
      rintro e w1 ⟨rfl, rfl⟩
      go_wp2_with fail
      refine (overlap_any b d b' d' _ (by omega) (by omega) (by omega) (by omega) (by omega) (by omega) (by omega) (by omega) p q HP HQ).mono ?_
      rintro e w1 ⟨rfl, rfl⟩
      go_wp2_with fail
      exact bodyPost_ret (v := .agg #[.int .i64 0, .int .i64 0, .int .i64 0, .int .i64 0]) (by simp [results, Tryz.results111, go_sem]) rfl ⟨rfl, HBEL.out⟩
    · rw [if_neg (by omega)] at hR
      subst hR
      go_enter Tryz.func111, Tryz.ntmps111
      go_wp2_with fail
      refine (overlap_any a c a' c' _ (by omega) (by omega) (by omega) (by omega) (by omega) (by omega) (by omega) (by omega) m n HM HN).mono ?_
      rintro e w1 ⟨rfl, rfl⟩
      go_wp2_with fail
      refine (overlap_any b d b' d' _ (by omega) (by omega) (by omega) (by omega) (by omega) (by omega) (by omega) (by omega) p q HP HQ).mono ?_
      rintro e w1 ⟨rfl, rfl⟩
      go_wp2_with fail
      refine bodyPost_ret (v := .agg #[.int .i64 m, .int .i64 p, .int .i64 n, .int .i64 q]) (by simp [results, Tryz.results111, go_sem]) rfl ⟨rfl, ?_⟩
      exact ((((Below.refl _ _).alloc (Nat.le_refl _) _).alloc (by simp) _).alloc (by simp; omega) _)
end Go.Proofs.YtceabiodelfdoaaGreatDoor
/- Walks of rect.Check. -/
namespace Go.Proofs.YtceabiodelfdoaaGreatDoor
open Go.RowKit

/-- Check's answer of a rect -/
def rectC (x y w h : Int) : Nat := if rectB x y w h then 0 else 1

theorem rectB_iff (x y w h : Int) : rectB x y w h = true ↔ -20 ≤ x ∧ x ≤ 20 ∧ -20 ≤ y ∧ y ≤ 20 ∧ 0 ≤ w ∧ w ≤ 20 ∧ 0 ≤ h ∧ h ≤ 20 := by unfold rectB placeB lenB; simp [and_assoc]
theorem rectC_zero (x y w h : Int) : rectC x y w h = 0 ↔ -20 ≤ x ∧ x ≤ 20 ∧ -20 ≤ y ∧ y ≤ 20 ∧ 0 ≤ w ∧ w ≤ 20 ∧ 0 ≤ h ∧ h ≤ 20 := by
  rw [← rectB_iff]; unfold rectC; by_cases h : rectB x y w h = true <;> simp [h]
theorem rectC_le (x y w h : Int) : rectC x y w h ≤ 1 := by unfold rectC; split <;> omega
theorem rectC_one (x y w h : Int) (hn : ¬ (-20 ≤ x ∧ x ≤ 20 ∧ -20 ≤ y ∧ y ≤ 20 ∧ 0 ≤ w ∧ w ≤ 20 ∧ 0 ≤ h ∧ h ≤ 20)) : rectC x y w h = 1 := by
  rw [← rectC_zero] at hn; have := rectC_le x y w h; omega

set_option maxHeartbeats 1000000 in
set_option maxRecDepth 100000 in
theorem rcheck_any (x y w h : Int) (W : World) (c : Nat) (HC : Hid (rectC x y w h = c)) :
    Calls Tryz.prog 59 #[rectV x y w h] W fun e w' => e = .returned (errV c) ∧ Below W.heap.size W w' := by
  unfold rectV
  cases h0 : placeB x with
  | false =>
    have H0 : Hid (placeB x = false) := h0
    have hc : c = 1 := by rw [← HC.out]; unfold rectC rectB; simp [h0]
    subst hc
    clear h0
    go_enter Tryz.func59, Tryz.ntmps59
    go_wp2_with fail
    refine (place_any x _ false H0).mono ?_
    rintro e w1 ⟨rfl, rfl⟩
    go_wp2_with fail
    go_ret
    exact ⟨rfl, (Below.refl _ _).alloc (Nat.le_refl _) _⟩
  | true =>
    have H0 : Hid (placeB x = true) := h0
    cases h1 : placeB y with
    | false =>
      have H1 : Hid (placeB y = false) := h1
      have hc : c = 1 := by rw [← HC.out]; unfold rectC rectB; simp [h1]
      subst hc
      clear h0 h1
      go_enter Tryz.func59, Tryz.ntmps59
      go_wp2_with fail
      refine (place_any x _ true H0).mono ?_
      rintro e w1 ⟨rfl, rfl⟩
      go_wp2_with fail
      refine (place_any y _ false H1).mono ?_
      rintro e w1 ⟨rfl, rfl⟩
      go_wp2_with fail
      go_ret
      exact ⟨rfl, (Below.refl _ _).alloc (Nat.le_refl _) _⟩
    | true =>
      have H1 : Hid (placeB y = true) := h1
      cases h2 : lenB w with
      | false =>
        have H2 : Hid (lenB w = false) := h2
        have hc : c = 1 := by rw [← HC.out]; unfold rectC rectB; simp [h2]
        subst hc
        clear h0 h1 h2
        go_enter Tryz.func59, Tryz.ntmps59
        go_wp2_with fail
        refine (place_any x _ true H0).mono ?_
        rintro e w1 ⟨rfl, rfl⟩
        go_wp2_with fail
        refine (place_any y _ true H1).mono ?_
        rintro e w1 ⟨rfl, rfl⟩
        go_wp2_with fail
        refine (length_any w _ false H2).mono ?_
        rintro e w1 ⟨rfl, rfl⟩
        go_wp2_with fail
        go_ret
        exact ⟨rfl, (Below.refl _ _).alloc (Nat.le_refl _) _⟩
      | true =>
        have H2 : Hid (lenB w = true) := h2
        cases h3 : lenB h with
        | false =>
          have H3 : Hid (lenB h = false) := h3
          have hc : c = 1 := by rw [← HC.out]; unfold rectC rectB; simp [h3]
          subst hc
          clear h0 h1 h2 h3
          go_enter Tryz.func59, Tryz.ntmps59
          go_wp2_with fail
          refine (place_any x _ true H0).mono ?_
          rintro e w1 ⟨rfl, rfl⟩
          go_wp2_with fail
          refine (place_any y _ true H1).mono ?_
          rintro e w1 ⟨rfl, rfl⟩
          go_wp2_with fail
          refine (length_any w _ true H2).mono ?_
          rintro e w1 ⟨rfl, rfl⟩
          go_wp2_with fail
          refine (length_any h _ false H3).mono ?_
          rintro e w1 ⟨rfl, rfl⟩
          go_wp2_with fail
          go_ret
          exact ⟨rfl, (Below.refl _ _).alloc (Nat.le_refl _) _⟩
        | true =>
          have H3 : Hid (lenB h = true) := h3
          have hc : c = 0 := by rw [← HC.out]; unfold rectC rectB; simp [h0, h1, h2, h3]
          subst hc
          clear h0 h1 h2 h3
          go_enter Tryz.func59, Tryz.ntmps59
          go_wp2_with fail
          refine (place_any x _ true H0).mono ?_
          rintro e w1 ⟨rfl, rfl⟩
          go_wp2_with fail
          refine (place_any y _ true H1).mono ?_
          rintro e w1 ⟨rfl, rfl⟩
          go_wp2_with fail
          refine (length_any w _ true H2).mono ?_
          rintro e w1 ⟨rfl, rfl⟩
          go_wp2_with fail
          refine (length_any h _ true H3).mono ?_
          rintro e w1 ⟨rfl, rfl⟩
          go_wp2_with fail
          go_ret
          exact ⟨rfl, (Below.refl _ _).alloc (Nat.le_refl _) _⟩
end Go.Proofs.YtceabiodelfdoaaGreatDoor
/- Arithmetic of two rects. -/
namespace Go.Proofs.YtceabiodelfdoaaGreatDoor

theorem both_has (a b c d a' b' c' d' i j : Int) (r : Int × Int × Int × Int) (hr : bothL a b c d a' b' c' d' = r) :
    hasB r.1 r.2.1 r.2.2.1 r.2.2.2 i j = (hasB a b c d i j && hasB a' b' c' d' i j) := by
  rw [Bool.eq_iff_iff, Bool.and_eq_true, hasB_iff, hasB_iff, hasB_iff]
  subst hr
  unfold bothL
  split
  · simp only; omega
  · simp only; omega

theorem both_empty (a b c d a' b' c' d' : Int) (r : Int × Int × Int × Int) (hr : bothL a b c d a' b' c' d' = r) (h : r ≠ (0, 0, 0, 0)) :
    hasB a b c d r.1 r.2.1 = true ∧ hasB a' b' c' d' r.1 r.2.1 = true := by
  rw [hasB_iff, hasB_iff]
  subst hr
  unfold bothL at h ⊢
  split
  · rename_i h1; rw [if_pos h1] at h; exact absurd rfl h
  · simp only; omega

set_option linter.unusedVariables false in
theorem both_bounds (a b c d a' b' c' d' M : Int) (h0 : -M ≤ a) (h1 : a ≤ M) (h2 : -M ≤ b) (h3 : b ≤ M) (h4 : 0 ≤ c) (h5 : c ≤ M) (h6 : 0 ≤ d) (h7 : d ≤ M)
    (k0 : -M ≤ a') (k1 : a' ≤ M) (k2 : -M ≤ b') (k3 : b' ≤ M) (k4 : 0 ≤ c') (k5 : c' ≤ M) (k6 : 0 ≤ d') (k7 : d' ≤ M) (r : Int × Int × Int × Int) (hr : bothL a b c d a' b' c' d' = r) :
    -M ≤ r.1 ∧ r.1 ≤ M ∧ -M ≤ r.2.1 ∧ r.2.1 ≤ M ∧ 0 ≤ r.2.2.1 ∧ r.2.2.1 ≤ M ∧ 0 ≤ r.2.2.2 ∧ r.2.2.2 ≤ M := by
  subst hr
  unfold bothL
  split
  · simp only; omega
  · simp only; omega
theorem both_comm (a b c d a' b' c' d' : Int) : bothL a' b' c' d' a b c d = bothL a b c d a' b' c' d' := by
  unfold bothL
  rw [Int.max_comm a' a, Int.max_comm b' b, Int.min_comm (a' + c'), Int.min_comm (b' + d')]
theorem both_self (a b c d : Int) : bothL a b c d a b c d = if c ≤ 0 ∨ d ≤ 0 then (0, 0, 0, 0) else (a, b, c, d) := by
  unfold bothL
  rw [Int.max_self, Int.max_self, Int.min_self, Int.min_self, Int.add_comm a c, Int.add_comm b d, Int.add_sub_cancel, Int.add_sub_cancel]
end Go.Proofs.YtceabiodelfdoaaGreatDoor
/- Two rects, and a third one, where they were laid. -/
namespace Go.Proofs.YtceabiodelfdoaaGreatDoor
open Go.RowKit

/-- what holds on the road: the two rects lie where they were laid -/
def Gr (W : World) (a b c d a' b' c' d' : Int) (w : World) : Prop :=
  Four w W.heap.size (.int .i64 a) (.int .i64 b) (.int .i64 c) (.int .i64 d) ∧ Four w (W.heap.size + 1) (.int .i64 a') (.int .i64 b') (.int .i64 c') (.int .i64 d') ∧ Below W.heap.size W w
theorem Gr.on {W : World} {a b c d a' b' c' d' : Int} {w w' : World} (h : Gr W a b c d a' b' c' d' w) (hb : Below w.heap.size w w') : Gr W a b c d a' b' c' d' w' :=
  ⟨h.1.on hb, h.2.1.on hb, h.2.2.trans (hb.mono h.2.2.size)⟩
theorem Gr.drew {W : World} {a b c d a' b' c' d' : Int} {w : World} (h : Gr W a b c d a' b' c' d' w) : Gr W a b c d a' b' c' d' w.drew := ⟨h.1.drew, h.2.1.drew, h.2.2.drew⟩

/-- and the third rect -/
def Gs (W : World) (a b c d a' b' c' d' : Int) (B : Nat) (x y z t : Int) (w : World) : Prop :=
  Gr W a b c d a' b' c' d' w ∧ Four w B (.int .i64 x) (.int .i64 y) (.int .i64 z) (.int .i64 t)
theorem Gs.on {W : World} {a b c d a' b' c' d' : Int} {B : Nat} {x y z t : Int} {w w' : World} (h : Gs W a b c d a' b' c' d' B x y z t w) (hb : Below w.heap.size w w') : Gs W a b c d a' b' c' d' B x y z t w' := ⟨h.1.on hb, h.2.on hb⟩
theorem Gs.drew {W : World} {a b c d a' b' c' d' : Int} {B : Nat} {x y z t : Int} {w : World} (h : Gs W a b c d a' b' c' d' B x y z t w) : Gs W a b c d a' b' c' d' B x y z t w.drew := ⟨h.1.drew, h.2.drew⟩
/-- no place ahead of this one is in both -/
def None2 (a b c d a' b' c' d' j i : Int) : Prop := ∀ p q, -21 ≤ q → -21 ≤ p → p < 41 → (q < j ∨ q = j ∧ p < i) → (hasB a b c d p q && hasB a' b' c' d' p q) = false

theorem rcheck_at (x y w h : Int) (W : World) (c : Nat) (HC : Hid (rectC x y w h = c)) (v : Value) (HV : Hid (errV c = v)) :
    Calls Tryz.prog 59 #[.agg #[.int .i64 x, .int .i64 y, .int .i64 w, .int .i64 h]] W fun e w' => e = .returned v ∧ Below W.heap.size W w' := by
  rw [← HV.out]; exact rcheck_any x y w h W c HC

end Go.Proofs.YtceabiodelfdoaaGreatDoor
/- A pixel or a rect that is handed in, opened. -/
namespace Go.Proofs.YtceabiodelfdoaaGreatDoor
open Go.ChangeShapes Go.WideShapes Go.ChangeAt Go.RowKit Go.Joins Go.Deep

set_option maxRecDepth 100000 in
theorem open_pixel {H : Type} {enc : TypeId × Value → H} {W : World} {r : Reach} {b0 : Nat} {v : Value} {d : DataW H} {p : List MemPlace} (hv : Value.okWide Tryz.prog W r b0 52 v)
    (h : DataW.Trod enc Tryz.prog W 0 (fun _ => true) true 52 v d p) :
    ∃ (x y : Int), v = .agg #[.int .i64 x, .int .i64 y] ∧ True := by
  obtain ⟨c0, c1, y0, y1, m, rfl, _, _, hy0, hy1⟩ := open_agg2 Tryz.underlying52 (by kernel_rfl) (by kernel_rfl) hv h
  obtain ⟨x, e0, _, wx⟩ := DataW.trod_int Tryz.underlying3 hy0
  obtain ⟨y, e1, _, wy⟩ := DataW.trod_int Tryz.underlying3 hy1
  simp at e0 e1
  subst e0 e1
  exact ⟨x, y, rfl, trivial⟩
set_option maxRecDepth 100000 in
theorem open_rect {H : Type} {enc : TypeId × Value → H} {W : World} {r : Reach} {b0 : Nat} {v : Value} {d : DataW H} {p : List MemPlace} (hv : Value.okWide Tryz.prog W r b0 117 v)
    (h : DataW.Trod enc Tryz.prog W 0 (fun _ => true) true 117 v d p) :
    ∃ (x y z t : Int), v = .agg #[.int .i64 x, .int .i64 y, .int .i64 z, .int .i64 t] ∧ True := by
  obtain ⟨c0, c1, c2, c3, y0, y1, y2, y3, m, rfl, _, _, hy0, hy1, hy2, hy3⟩ := open_agg4 Tryz.underlying117 (by kernel_rfl) (by kernel_rfl) hv h
  obtain ⟨x, e0, _, wx⟩ := DataW.trod_int Tryz.underlying3 hy0
  obtain ⟨y, e1, _, wy⟩ := DataW.trod_int Tryz.underlying3 hy1
  obtain ⟨z, e2, _, wz⟩ := DataW.trod_int Tryz.underlying3 hy2
  obtain ⟨t, e3, _, wt⟩ := DataW.trod_int Tryz.underlying3 hy3
  simp at e0 e1 e2 e3
  subst e0 e1 e2 e3
  exact ⟨x, y, z, t, rfl, trivial⟩
end Go.Proofs.YtceabiodelfdoaaGreatDoor
/- An object: opened; the walk of objects.Check. -/
namespace Go.Proofs.YtceabiodelfdoaaGreatDoor
open Go.ChangeShapes Go.WideShapes Go.ChangeAt Go.RowKit Go.Joins Go.Deep

@[reducible] def objV (id x y pw ph : Int) (u : Value) (cx cy cw ch : Int) (sh : Bool) : Value := .agg #[.int .i64 id, .int .i64 x, .int .i64 y, .int .i64 pw, .int .i64 ph, u, .int .i64 cx, .int .i64 cy, .int .i64 cw, .int .i64 ch, .bool sh]

theorem Tryz.cellsObj : Tryz.prog.cellsOf 141 = 11 := by kernel_rfl
theorem Tryz.cellsSl : Tryz.prog.cellsOf 44 = 1 := by kernel_rfl
theorem Tryz.cellsRect : Tryz.prog.cellsOf 117 = 4 := by kernel_rfl
theorem Tryz.cellsBool : Tryz.prog.cellsOf 4 = 1 := by kernel_rfl

theorem array11 {α : Type} {cs : Array α} (h : cs.size = 11) : ∃ c0 c1 c2 c3 c4 c5 c6 c7 c8 c9 c10, cs = #[c0, c1, c2, c3, c4, c5, c6, c7, c8, c9, c10] := by
  obtain ⟨l⟩ := cs
  match l, h with
  | [c0, c1, c2, c3, c4, c5, c6, c7, c8, c9, c10], _ => exact ⟨c0, c1, c2, c3, c4, c5, c6, c7, c8, c9, c10, rfl⟩

set_option maxRecDepth 100000 in
theorem cells_object {H : Type} {enc : TypeId × Value → H} {W : World} {cs : List Value} {fuel : Nat} {z : DataW H × List MemPlace} (hl : cs.length = 11)
    (h : DataW.trod enc Tryz.prog W 0 (fun _ => true) true fuel 141 cs = some z) :
    ∃ (id x y pw ph : Int) (u : Value) (ps : List (Int × Int)) (cx cy cw ch : Int) (sh : Bool), cs = [.int .i64 id, .int .i64 x, .int .i64 y, .int .i64 pw, .int .i64 ph, u, .int .i64 cx, .int .i64 cy, .int .i64 cw, .int .i64 ch, .bool sh] ∧ RdP W u ps := by
  obtain ⟨xs, n, _, rfl, hl', hlen, hf⟩ := DataW.trod_struct Tryz.underlying141 h
  match cs, hl with
  | [c0, c1, c2, c3, c4, c5, c6, c7, c8, c9, c10], _ =>
    match xs, hlen with
    | [y0, y1, y2, y3, y4, y5], _ =>
      have h0 : DataW.trod enc Tryz.prog W 0 (fun _ => true) true n 3 [c0] = some y0 := by have := hf 0 _ rfl; simpa [Tryz.cellsInt] using this
      have h1 : DataW.trod enc Tryz.prog W 0 (fun _ => true) true n 3 [c1] = some y1 := by have := hf 1 _ rfl; simpa [Tryz.cellsInt] using this
      have h2 : DataW.trod enc Tryz.prog W 0 (fun _ => true) true n 3 [c2] = some y2 := by have := hf 2 _ rfl; simpa [Tryz.cellsInt] using this
      have h3 : DataW.trod enc Tryz.prog W 0 (fun _ => true) true n 46 [c3, c4, c5] = some y3 := by have := hf 3 _ rfl; simpa [Tryz.cellsPic] using this
      have h4 : DataW.trod enc Tryz.prog W 0 (fun _ => true) true n 117 [c6, c7, c8, c9] = some y4 := by have := hf 4 _ rfl; simpa [Tryz.cellsRect] using this
      have h5 : DataW.trod enc Tryz.prog W 0 (fun _ => true) true n 4 [c10] = some y5 := by have := hf 5 _ rfl; simpa [Tryz.cellsBool] using this
      obtain ⟨z0, z1, z2, m, _, _, p0, p1, p2⟩ := trod_struct3 Tryz.underlying46 h3
      obtain ⟨r0, r1, r2, r3, m', _, _, q0, q1, q2, q3⟩ := trod_struct4 Tryz.underlying117 h4
      simp only [Tryz.cellsInt] at p0 p1 q0 q1 q2 q3
      have p2' : DataW.trod enc Tryz.prog W 0 (fun _ => true) true m 44 [c5] = some z2 := by simpa [Tryz.cellsSl] using p2
      obtain ⟨ps, hps⟩ := view_pix p2'
      obtain ⟨i0, e0, _, _⟩ := DataW.trod_int Tryz.underlying3 h0
      obtain ⟨i1, e1, _, _⟩ := DataW.trod_int Tryz.underlying3 h1
      obtain ⟨i2, e2, _, _⟩ := DataW.trod_int Tryz.underlying3 h2
      obtain ⟨i3, e3, _, _⟩ := DataW.trod_int Tryz.underlying3 p0
      obtain ⟨i4, e4, _, _⟩ := DataW.trod_int Tryz.underlying3 p1
      obtain ⟨i5, e5, _, _⟩ := DataW.trod_int Tryz.underlying3 q0
      obtain ⟨i6, e6, _, _⟩ := DataW.trod_int Tryz.underlying3 q1
      obtain ⟨i7, e7, _, _⟩ := DataW.trod_int Tryz.underlying3 q2
      obtain ⟨i8, e8, _, _⟩ := DataW.trod_int Tryz.underlying3 q3
      obtain ⟨b, e9, _⟩ := DataW.trod_bool Tryz.underlying4 h5
      simp at e0 e1 e2 e3 e4 e5 e6 e7 e8 e9
      subst e0 e1 e2 e3 e4 e5 e6 e7 e8 e9
      exact ⟨i0, i1, i2, i3, i4, c5, ps, i5, i6, i7, i8, b, rfl, hps⟩

set_option maxRecDepth 100000 in
theorem open_object {H : Type} {enc : TypeId × Value → H} {W : World} {r : Reach} {b0 : Nat} {v : Value} {d : DataW H} {p : List MemPlace} (hv : Value.okWide Tryz.prog W r b0 141 v)
    (h : DataW.Trod enc Tryz.prog W 0 (fun _ => true) true 141 v d p) :
    ∃ (id x y pw ph : Int) (u : Value) (ps : List (Int × Int)) (cx cy cw ch : Int) (sh : Bool), v = objV id x y pw ph u cx cy cw ch sh ∧ RdP W u ps ∧ True := by
  obtain ⟨cs, rfl, hsz⟩ := okWide_struct Tryz.underlying141 hv
  obtain ⟨fuel, hf⟩ := h
  obtain ⟨i0, i1, i2, i3, i4, u, ps, i5, i6, i7, i8, b, e, hps⟩ := cells_object (cs := cs.toList) (by rw [Array.length_toList]; exact hsz.trans Tryz.cellsObj) hf
  obtain ⟨l⟩ := cs
  simp at e
  subst e
  exact ⟨i0, i1, i2, i3, i4, u, ps, i5, i6, i7, i8, b, rfl, hps, trivial⟩
end Go.Proofs.YtceabiodelfdoaaGreatDoor
/- Objects: what lies in memory, a list of them opened. -/
namespace Go.Proofs.YtceabiodelfdoaaGreatDoor
open Go.ChangeShapes Go.WideShapes Go.ChangeAt Go.RowKit Go.Joins Go.Deep

/-- an object -/
structure Po where
  id : Int
  x : Int
  y : Int
  pw : Int
  ph : Int
  ps : List (Int × Int)
  cx : Int
  cy : Int
  cw : Int
  ch : Int
  sh : Bool

@[reducible] def po0 : Po := ⟨0, 0, 0, 0, 0, [], 0, 0, 0, 0, false⟩
instance : Inhabited Po := ⟨po0⟩

/-- an object's eleven cells -/
structure Oc (w : World) (g o : Nat) (x : Po) (u : Value) : Prop where
  c0 : w.cell? ⟨g, o, none⟩ = some (.int .i64 x.id)
  c1 : w.cell? ⟨g, o + 1, none⟩ = some (.int .i64 x.x)
  c2 : w.cell? ⟨g, o + 2, none⟩ = some (.int .i64 x.y)
  c3 : w.cell? ⟨g, o + 3, none⟩ = some (.int .i64 x.pw)
  c4 : w.cell? ⟨g, o + 4, none⟩ = some (.int .i64 x.ph)
  c5 : w.cell? ⟨g, o + 5, none⟩ = some (u)
  c6 : w.cell? ⟨g, o + 6, none⟩ = some (.int .i64 x.cx)
  c7 : w.cell? ⟨g, o + 7, none⟩ = some (.int .i64 x.cy)
  c8 : w.cell? ⟨g, o + 8, none⟩ = some (.int .i64 x.cw)
  c9 : w.cell? ⟨g, o + 9, none⟩ = some (.int .i64 x.ch)
  c10 : w.cell? ⟨g, o + 10, none⟩ = some (.bool x.sh)

theorem Oc.on {w w' : World} {g o : Nat} {x : Po} {u : Value} (h : Oc w g o x u) (hg : g < w.heap.size) (hb : Below w.heap.size w w') : Oc w' g o x u :=
  ⟨by rw [hb.cell (p := ⟨g, o, none⟩) hg]; exact h.c0, by rw [hb.cell (p := ⟨g, o + 1, none⟩) hg]; exact h.c1, by rw [hb.cell (p := ⟨g, o + 2, none⟩) hg]; exact h.c2, by rw [hb.cell (p := ⟨g, o + 3, none⟩) hg]; exact h.c3, by rw [hb.cell (p := ⟨g, o + 4, none⟩) hg]; exact h.c4, by rw [hb.cell (p := ⟨g, o + 5, none⟩) hg]; exact h.c5, by rw [hb.cell (p := ⟨g, o + 6, none⟩) hg]; exact h.c6, by rw [hb.cell (p := ⟨g, o + 7, none⟩) hg]; exact h.c7, by rw [hb.cell (p := ⟨g, o + 8, none⟩) hg]; exact h.c8, by rw [hb.cell (p := ⟨g, o + 9, none⟩) hg]; exact h.c9, by rw [hb.cell (p := ⟨g, o + 10, none⟩) hg]; exact h.c10⟩

/-- a list of objects -/
def RdO (w : World) (v : Value) (os : List Po) : Prop :=
  ∃ a cap, v = .slice a os.length cap ∧ os.length ≤ cap ∧ cap ≤ 9223372036854775807 ∧ (os ≠ [] → ∃ g off, a = some ⟨g, off, none⟩ ∧ g < w.heap.size ∧
    ∀ j, j < os.length → ∃ u, Oc w g (off + j * 11) (os.getD j po0) u ∧ RdP w u (os.getD j po0).ps)

theorem RdO.on {w w' : World} {v : Value} {os : List Po} (h : RdO w v os) (hb : Below w.heap.size w w') : RdO w' v os := by
  obtain ⟨a, cap, hv, hl, hc, hh⟩ := h
  refine ⟨a, cap, hv, hl, hc, fun hne => ?_⟩
  obtain ⟨g, off, ha, hg, hcell⟩ := hh hne
  refine ⟨g, off, ha, Nat.lt_of_lt_of_le hg hb.size, fun j hj => ?_⟩
  obtain ⟨u, h0, hr⟩ := hcell j hj
  exact ⟨u, h0.on hg hb, hr.on hb⟩

/-- a list of objects that is handed in -/
theorem open_objects {H : Type} {enc : TypeId × Value → H} {W : World} {u : Value} {x : DataW H × List MemPlace} {fuel : Nat}
    (hf : DataW.trod enc Tryz.prog W 0 (fun _ => true) true fuel 85 [u] = some x) : ∃ os, RdO W u os := by
  rcases open_slice Tryz.underlying85 hf with ⟨hc, _⟩ | ⟨a, len, cap, m, n, D, Pl, hc, hb, hl, hm, hmm, hx, hall⟩
  · simp only [List.cons.injEq, and_true] at hc
    subst hc
    exact ⟨[], none, 0, rfl, by simp, by omega, fun h => absurd rfl h⟩
  · simp only [List.cons.injEq, and_true] at hc
    subst hc
    simp only [if_true] at hmm
    subst hmm
    have each : ∀ i, i < m → ∃ q : Po × Value, (∀ k, k < 11 → W.cell? (a.add (i * 11 + k)) = [Value.int .i64 q.1.id, .int .i64 q.1.x, .int .i64 q.1.y, .int .i64 q.1.pw, .int .i64 q.1.ph, q.2, .int .i64 q.1.cx, .int .i64 q.1.cy, .int .i64 q.1.cw, .int .i64 q.1.ch, .bool q.1.sh][k]?) ∧ RdP W q.2 q.1.ps := by
      intro i hi
      obtain ⟨cs', h1, h2⟩ := hall i hi
      rw [Tryz.cellsObj] at h1
      obtain ⟨_, hlen, hcell⟩ := World.cells?_some h1
      obtain ⟨i0, i1, i2, i3, i4, v, ps, i5, i6, i7, i8, b, rfl, hr⟩ := cells_object hlen h2
      refine ⟨(⟨i0, i1, i2, i3, i4, ps, i5, i6, i7, i8, b⟩, v), fun k hk => ?_, hr⟩
      have e := hcell k (by omega)
      rw [add_add] at e
      exact e
    obtain ⟨q, hq⟩ := choose_lt each
    unfold maxLen at hm
    refine ⟨(List.range len).map fun i => (q i).1, some a, m, by simp, by simpa using hl, by omega, fun hne => ?_⟩
    have hpos : 0 < len := by
      rcases Nat.eq_zero_or_pos len with h | h
      · subst h; simp at hne
      · exact h
    obtain ⟨sb, so, spot⟩ := a
    have hz := (hq 0 (by omega)).1 0 (by omega)
    have hspot : spot = none := by
      have hz' : W.cell? ((⟨sb, so, spot⟩ : Addr).add (0 * 11 + 0)) = some (.int .i64 (q 0).1.id) := hz
      simpa [Addr.add] using World.cell?_spot hz'
    subst hspot
    refine ⟨sb, so, rfl, ?_, fun j hj => ?_⟩
    · rcases Nat.lt_or_ge sb W.heap.size with h | h
      · exact h
      · simp [Addr.add, World.cell?, Array.getElem?_eq_none h] at hz
    · simp only [List.length_map, List.length_range] at hj
      have hg : ((List.range len).map fun i => (q i).1).getD j po0 = (q j).1 := by
        rw [List.getD_eq_getElem?_getD, List.getElem?_map, List.getElem?_range hj]
        simp
      rw [hg]
      obtain ⟨h0, h4⟩ := hq j (by omega)
      have h1 := fun k hk => h0 k hk
      simp only [add_plain, ← Nat.add_assoc] at h1
      exact ⟨(q j).2, ⟨h1 0 (by omega), h1 1 (by omega), h1 2 (by omega), h1 3 (by omega), h1 4 (by omega), h1 5 (by omega), h1 6 (by omega), h1 7 (by omega), h1 8 (by omega), h1 9 (by omega), h1 10 (by omega)⟩, h4⟩

theorem RdO.at {w : World} {a : Option Addr} {n cap : Nat} {os : List Po} (h : RdO w (.slice a n cap) os) {k : Nat} (hk : k < n) {x : Po} (HX : Hid (os.getD k po0 = x)) :
    ∃ g o ua m uc, a = some ⟨g, o, none⟩ ∧ g < w.heap.size ∧ Oc w g (o + k * 11) x (.slice ua m uc) ∧ Hid (RdP w (.slice ua m uc) x.ps) ∧ Hid (x.ps.length = m) := by
  obtain ⟨a', cap', hv, hl, hc, hh⟩ := h
  simp only [Value.slice.injEq] at hv
  obtain ⟨rfl, rfl, rfl⟩ := hv
  obtain ⟨g, o, ha, hg, hcell⟩ := hh (by intro e; rw [e] at hk; simp at hk)
  obtain ⟨u, h0, h4⟩ := hcell k hk
  rw [HX.out] at h0 h4
  have h5 := h4
  obtain ⟨ua, uc, rfl, _⟩ := h5
  exact ⟨g, o, ua, _, uc, ha, hg, h0, h4, (rfl : _ = _)⟩
theorem RdO.shape {w : World} {v : Value} {os : List Po} (h : RdO w v os) : ∃ a cap, v = .slice a os.length cap ∧ os.length ≤ cap ∧ cap ≤ 9223372036854775807 := by
  obtain ⟨a, cap, h1, h2, h3, _⟩ := h
  exact ⟨a, cap, h1, h2, h3⟩
end Go.Proofs.YtceabiodelfdoaaGreatDoor
/- Walks: cmp.Compare, objects.search. -/
namespace Go.Proofs.YtceabiodelfdoaaGreatDoor
open Go.RowKit

def cmpC (x y : Int) : Int := if x < y then -1 else if y < x then 1 else 0

set_option maxRecDepth 100000 in
theorem nan_any (x : Int) (w : World) : Calls Tryz.prog 120 #[.int .i64 x] w fun e w' => e = .returned (.bool false) ∧ w' = w := by
  have hx : (x != x) = false := by simp
  go_enter Tryz.func120, Tryz.ntmps120
  go_wp2_with fail
  go_ret
  exact ⟨rfl, rfl⟩

set_option maxRecDepth 100000 in
theorem compare_any (x y : Int) (w : World) (c : Int) (HC : Hid (cmpC x y = c)) : Calls Tryz.prog 114 #[.int .i64 x, .int .i64 y] w fun e w' => e = .returned (.int .i64 c) ∧ w' = w := by
  go_enter Tryz.func114, Tryz.ntmps114
  go_wp2_with fail
  refine (nan_any x w).mono ?_
  rintro e w1 ⟨rfl, rfl⟩
  go_wp2_with fail
  refine (nan_any y w1).mono ?_
  rintro e w2 ⟨rfl, rfl⟩
  have hc := HC.out
  unfold cmpC at hc
  by_cases h1 : x < y
  · rw [if_pos h1] at hc
    subst hc
    go_wp2_with fail
    go_ret
    exact ⟨rfl, rfl⟩
  · rw [if_neg h1] at hc
    by_cases h2 : y < x
    · rw [if_pos h2] at hc
      subst hc
      go_wp2_with fail
      go_ret
      exact ⟨rfl, rfl⟩
    · rw [if_neg h2] at hc
      subst hc
      go_wp2_with fail
      go_ret
      exact ⟨rfl, rfl⟩

set_option maxRecDepth 100000 in
theorem scmp_any (id x y pw ph : Int) (u : Value) (cx cy cw ch : Int) (sh : Bool) (t : Int) (w : World) (c : Int) (HC : Hid (cmpC id t = c)) :
    Calls Tryz.prog 113 #[objV id x y pw ph u cx cy cw ch sh, .int .i64 t] w fun e w' => e = .returned (.int .i64 c) ∧ Below w.heap.size w w' := by
  have hbz : Below w.heap.size w w := Below.refl _ _
  go_enter Tryz.func113, Tryz.ntmps113
  go_wp2_with fail
  refine (compare_any id t _ c HC).mono ?_
  rintro e w1 ⟨rfl, rfl⟩
  go_wp2_with fail
  go_ret
  exact ⟨rfl, hbz.alloc hbz.size _⟩

def SortO (os : List Po) : Prop := ∀ i j, i < j → j < os.length → (os.getD i po0).id < (os.getD j po0).id

/-- where a number stands, or would -/
structure SrchR (os : List Po) (t : Int) (i : Nat) : Prop where
  le : i ≤ os.length
  lo : ∀ j, j < i → (os.getD j po0).id < t
  hi : ∀ j, i ≤ j → j < os.length → t ≤ (os.getD j po0).id

def SrchP (os : List Po) (t : Int) (w : World) (e : Ending) (w' : World) : Prop :=
  ∃ i b, e = .returned (.tuple #[.int .i64 ((i : Nat) : Int), .bool b]) ∧ SrchR os t i ∧ (b = true ↔ i < os.length ∧ (os.getD i po0).id = t) ∧ Below w.heap.size w w'

theorem wp_shr {P : Program} {o : Oper} {a : Act} {w : World} {K : Act → World → Prop} {Q : Exit → Act → World → Prop} (t : TypeId) (x y : Operand) (u : TypeId) (ho : o.op = .binOp .shr t x y u) (vx vy v : Value)
    (hx : a.eval x = vx) (hy : a.eval y = vy) (hr : (binOp .shr t vx vy).run P w = .ok v w) (hK : K (a.put o.dst v) w) : Oper.wp P o a w K Q := by
  unfold Oper.wp execOp
  simp only [ho, hx, hy, eqGuard_shr, Sem.run_bind, Sem.run_pure, Result.andThen_ok, hr]
  exact hK

set_option maxHeartbeats 2000000 in
set_option maxRecDepth 100000 in
theorem bsearch_any (v : Value) (os : List Po) (t : Int) (w : World) (hos : os.length ≤ 1000) (HS : Hid (SortO os)) (HR : Hid (RdO w v os)) :
    Calls Tryz.prog 112 #[v, .int .i64 t, .func (.func 113) #[] #[]] w fun e w' => SrchP os t w e w' := by
  obtain ⟨a, cap, hv, hl, hcap⟩ := HR.out.shape
  obtain ⟨n, HN⟩ : ∃ n, Hid (os.length = n) := ⟨_, (rfl : _ = _)⟩
  rw [HN.out] at hv hl hos
  subst hv
  have hbz : Below w.heap.size w w := Below.refl _ _
  go_enter Tryz.func112, Tryz.ntmps112
  go_wp2_with fail
  go_loopw [9, 10] (fun x y wr => ∃ i j : Nat, x = .int .i64 (i : Int) ∧ y = .int .i64 (j : Int) ∧ i ≤ j ∧ j ≤ n ∧ Hid (∀ k, k < i → (os.getD k po0).id < t) ∧ Hid (∀ k, j ≤ k → k < os.length → t ≤ (os.getD k po0).id) ∧ Below w.heap.size w wr) (fun x y _ => (intOf y).toNat - (intOf x).toNat)
  case atStart => exact ⟨0, n, rfl, rfl, by omega, by omega, fun k hk => by omega, fun k h1 h2 => by rw [HN.out] at h2; omega, hbz⟩
  case round =>
    obtain ⟨i, j, rfl, rfl, hij, hjn, LO, HI, hbr⟩ := hrel
    by_cases hlt : i < j
    · obtain ⟨h, hh⟩ : ∃ h, h = (i + j) / 2 := ⟨_, rfl⟩
      have h1 : i ≤ h := by omega
      have h2 : h < j := by omega
      have hhn : h < n := by omega
      have hmid : ((i : Int) + (j : Int)) / 2 = (h : Int) := by omega
      have hshr : Op.shift .shr .u64 ((i : Int) + (j : Int)) .u64 1 = pure (.int .u64 (h : Int)) := by
        rw [shift_shr .u64 .u64 ((i : Int) + (j : Int)) 1 (by decide) (by decide), show (1 : Int).toNat = 1 from rfl, Int.pow_succ, Int.pow_zero, Int.one_mul, hmid]
      have hshr2 : ∀ X, (binOp .shr 162 (.int .u64 ((i : Int) + (j : Int))) (.int .u64 1)).run Tryz.prog X = .ok (.int .u64 (h : Int)) X := by
        intro X
        rw [binOp_shr, hshr]
        rfl
      obtain ⟨o, HX⟩ : ∃ o, Hid (os.getD h po0 = o) := ⟨_, (rfl : _ = _)⟩
      obtain ⟨g, p, ua, q, uc, rfl, hg, OC, HU, HM⟩ := (HR.out.on hbr).at hhn HX
      obtain ⟨c0, c1, c2, c3, c4, c5, c6, c7, c8, c9, c10⟩ := OC
      obtain ⟨id, x, y, pw, ph, ps, cx, cy, cw, ch, sh⟩ := o
      simp only at c0 c1 c2 c3 c4 c5 c6 c7 c8 c9 c10 HU HM
      obtain ⟨c, HC⟩ : ∃ c, Hid (cmpC id t = c) := ⟨_, (rfl : _ = _)⟩
      go_wp2_with fail
      refine wp_shr _ _ _ _ rfl _ _ _ rfl rfl (hshr2 _) ?_
      clear hshr hshr2 hmid hh
      have hh0 : (0 : Int) ≤ (h : Int) := by omega
      have hh1 : (h : Int) < (n : Int) := by omega
      go_wp2_with fail
      refine (scmp_any id x y pw ph _ cx cy cw ch sh t _ c HC).mono ?_
      rintro e w1 ⟨rfl, hb1⟩
      have hbb1 : Below w.heap.size w w1 := hbr.trans (hb1.mono hbr.size)
      by_cases hc : id < t
      · have : c = -1 := by rw [← HC.out]; unfold cmpC; rw [if_pos hc]
        subst this
        have LO2 : Hid (∀ k, k < h + 1 → (os.getD k po0).id < t) := by
          intro k hk
          rcases Nat.lt_or_ge k h with h3 | h3
          · have := HS.out k h h3 (by rw [HN.out]; exact hhn)
            rw [HX.out] at this
            simp only at this
            omega
          · have : k = h := by omega
            subst this
            rw [HX.out]
            exact hc
        go_wp2_with fail
        go_roundw
        case rel => exact ⟨h + 1, j, by go_num, rfl, by omega, hjn, LO2, HI, hbb1⟩
        case measure => simp [intOf]; omega
      · have hc0 : 0 ≤ c := by rw [← HC.out]; unfold cmpC; rw [if_neg hc]; split <;> omega
        have hc1 : ¬ c < 0 := by omega
        have HI2 : Hid (∀ k, h ≤ k → k < os.length → t ≤ (os.getD k po0).id) := by
          intro k h3 h4
          rcases Nat.lt_or_ge h k with h5 | h5
          · have := HS.out h k h5 h4
            rw [HX.out] at this
            simp only at this
            omega
          · have : k = h := by omega
            subst this
            rw [HX.out]
            simp only
            omega
        go_wp2_with fail
        go_roundw
        case rel => exact ⟨i, h, rfl, rfl, by omega, by omega, LO, HI2, hbb1⟩
        case measure => simp [intOf]; omega
    · have hij2 : i = j := by omega
      subst hij2
      have HSR : Hid (SrchR os t i) := ⟨by rw [HN.out]; exact hjn, LO.out, HI.out⟩
      by_cases hin : i < n
      · obtain ⟨o, HX⟩ : ∃ o, Hid (os.getD i po0 = o) := ⟨_, (rfl : _ = _)⟩
        obtain ⟨g, p, ua, q, uc, rfl, hg, OC, HU, HM⟩ := (HR.out.on hbr).at hin HX
        obtain ⟨id, x, y, pw, ph, ps, cx, cy, cw, ch, sh⟩ := o
        obtain ⟨c, HC⟩ : ∃ c, Hid (cmpC id t = c) := ⟨_, (rfl : _ = _)⟩
        have HBB : Hid ((c == 0) = true ↔ i < os.length ∧ (os.getD i po0).id = t) := by
          unfold Hid
          rw [HX.out, HN.out, ← HC.out]
          unfold cmpC
          simp only [beq_iff_eq]
          constructor
          · intro e
            refine ⟨hin, ?_⟩
            split at e
            · omega
            · split at e <;> omega
          · rintro ⟨_, e⟩
            rw [if_neg (by omega), if_neg (by omega)]
        obtain ⟨c0, c1, c2, c3, c4, c5, c6, c7, c8, c9, c10⟩ := OC
        simp only at c0 c1 c2 c3 c4 c5 c6 c7 c8 c9 c10
        have hi0 : (0 : Int) ≤ (i : Int) := by omega
        have hi1 : (i : Int) < (n : Int) := by omega
        go_wp2_with fail
        refine (scmp_any id x y pw ph _ cx cy cw ch sh t _ c HC).mono ?_
        rintro e w1 ⟨rfl, hb1⟩
        have hbb1 : Below w.heap.size w w1 := hbr.trans (hb1.mono hbr.size)
        go_wp2_with fail
        go_ret2
        exact ⟨i, c == 0, rfl, HSR.out, HBB.out, hbb1⟩
      · have hin2 : ¬ (i : Int) < (n : Int) := by omega
        go_wp2_with fail
        go_ret2
        exact ⟨i, false, rfl, HSR.out, by rw [HN.out]; simp; intro h; omega, hbr⟩

set_option maxRecDepth 100000 in
theorem search_any (v : Value) (os : List Po) (t : Int) (w : World) (hos : os.length ≤ 1000) (HS : Hid (SortO os)) (HR : Hid (RdO w v os)) :
    Calls Tryz.prog 102 #[v, .int .i64 t] w fun e w' => SrchP os t w e w' := by
  obtain ⟨a, cap, hv, _, _⟩ := HR.out.shape
  subst hv
  go_enter Tryz.func102, Tryz.ntmps102
  go_wp2_with fail
  refine (bsearch_any _ os t _ hos HS HR).mono ?_
  rintro e w1 ⟨i, b, rfl, h1, h2, h3⟩
  go_wp2_with fail
  go_ret2
  exact ⟨i, b, rfl, h1, h2, h3⟩
end Go.Proofs.YtceabiodelfdoaaGreatDoor
/- Walks of the law's LightPicture and of the reference's SamePicture. -/
namespace Go.Proofs.YtceabiodelfdoaaGreatDoor
open Go.RowKit

set_option maxRecDepth 100000 in
theorem light_any (W H : Int) (a : Option Addr) (n cap : Nat) (w : World) (hn : n ≤ 9223372036854775807) (b : Bool) (HB : Hid (decide (n ≤ 80) = b)) :
    Calls Tryz.prog 16 #[.agg #[.int .i64 W, .int .i64 H, .slice a n cap]] w fun e w' => e = .returned (.bool b) ∧ Below w.heap.size w w' := by
  by_cases h : n ≤ 80
  · have hb : b = true := by rw [← HB.out]; simp [h]
    subst hb
    go_enter Tryz.func16, Tryz.ntmps16
    go_wp2
    go_ret
    exact ⟨by simp; omega, (Below.refl _ _).alloc (Nat.le_refl _) _⟩
  · have hb : b = false := by rw [← HB.out]; simp [h]
    subst hb
    go_enter Tryz.func16, Tryz.ntmps16
    go_wp2
    go_ret
    exact ⟨by simp; omega, (Below.refl _ _).alloc (Nat.le_refl _) _⟩

set_option maxRecDepth 100000 in
theorem eq_pix (X : World) (a b : Int) : (binOp .neq 52 (.agg #[.int .i64 a, .int .i64 b]) (.agg #[.int .i64 a, .int .i64 b])).run Tryz.prog X = .ok (.bool false) X := by
  have h : (Op.equalIn 10000 52 (.agg #[.int .i64 a, .int .i64 b]) (.agg #[.int .i64 a, .int .i64 b])).run Tryz.prog X = .ok true X := by
    have u3 := Tryz.underlying3
    rw [run_equalIn_agg X 9999 52 _ _ (by kernel_rfl) (by kernel_rfl)]
    simp only [Program.fieldsOf, Tryz.underlying52]
    go_simp
  rw [run_neq_struct, h]
  rfl

set_option maxHeartbeats 2000000 in
set_option maxRecDepth 100000 in
theorem samePic_any (W H : Int) (v0 v1 : Value) (ps : List (Int × Int)) (w : World) (hps : ps.length ≤ 1000) (H0 : Hid (RdP w v0 ps)) (H1 : Hid (RdP w v1 ps)) :
    Calls Tryz.prog 49 #[.agg #[.int .i64 W, .int .i64 H, v0], .agg #[.int .i64 W, .int .i64 H, v1]] w fun e w' => e = .returned (.bool true) ∧ Below w.heap.size w w' := by
  obtain ⟨a0, c0, hv0, hl0, hm0, hh0⟩ := H0.out
  obtain ⟨a1, c1, hv1, hl1, hm1, hh1⟩ := H1.out
  obtain ⟨n, HN⟩ : ∃ n, Hid (ps.length = n) := ⟨_, (rfl : _ = _)⟩
  rw [HN.out] at hv0 hv1 hl0 hl1 hps
  clear hh0 hh1
  subst hv0 hv1
  have hw : (W != W) = false := by simp
  have hh : (H != H) = false := by simp
  have hnn : ((n : Int) != (n : Int)) = false := by simp
  have HT0 := (three_start w (.int .i64 W) (.int .i64 H) (.slice a0 n c0) 46).alloc (.cells #[.int .i64 W, .int .i64 H, .slice a1 n c1] 46)
  have HT1 := three_start (w.alloc (.cells #[.int .i64 W, .int .i64 H, .slice a0 n c0] 46)) (.int .i64 W) (.int .i64 H) (.slice a1 n c1) 46
  obtain ⟨x0, x1, x2, _, _, _, _⟩ := HT0
  obtain ⟨y0, y1, y2, _, _, _, _⟩ := HT1
  have es : (w.alloc (.cells #[.int .i64 W, .int .i64 H, .slice a0 n c0] 46)).heap.size = w.heap.size + 1 := by simp
  rw [es] at y0 y1 y2
  clear es
  obtain ⟨wz, HWZ⟩ : ∃ wz, Hid ((w.alloc (.cells #[.int .i64 W, .int .i64 H, .slice a0 n c0] 46)).alloc (.cells #[.int .i64 W, .int .i64 H, .slice a1 n c1] 46) = wz) := ⟨_, (rfl : _ = _)⟩
  have hbz : Below w.heap.size w wz := by rw [← HWZ.out]; exact ((Below.refl _ _).alloc (Nat.le_refl _) _).alloc (by simp) _
  go_enter Tryz.func49, Tryz.ntmps49
  go_wp2_with fail
  rw [HWZ.out] at x0 x1 x2 y0 y1 y2 ⊢
  go_loopw [5] (fun i wr => ∃ k q : Nat, k ≤ n ∧ i = .int .i64 k ∧ wr = wz.drewN q) (fun i _ => n - (intOf i).toNat)
  case atStart => exact ⟨0, 0, by omega, rfl, rfl⟩
  case round =>
    obtain ⟨k, q, hk, rfl, rfl⟩ := hrel
    by_cases hlt : k < n
    · have hne : ps ≠ [] := by intro e; have h := HN.out; rw [e] at h; simp at h; omega
      obtain ⟨_, _, hv0, _, _, hh0⟩ := H0.out
      obtain ⟨_, _, hv1, _, _, hh1⟩ := H1.out
      obtain ⟨g0, o0, ha0, hg0, hc0⟩ := hh0 hne
      obtain ⟨g1, o1, ha1, hg1, hc1⟩ := hh1 hne
      simp only [Value.slice.injEq] at hv0 hv1
      have e0 : a0 = some ⟨g0, o0, none⟩ := hv0.1.trans ha0
      have e1 : a1 = some ⟨g1, o1, none⟩ := hv1.1.trans ha1
      subst e0 e1
      obtain ⟨p, HP⟩ : ∃ p, Hid (ps.getD k (0, 0) = p) := ⟨_, (rfl : _ = _)⟩
      have d0 := hc0 k (by rw [HN.out]; exact hlt)
      have d1 := hc1 k (by rw [HN.out]; exact hlt)
      rw [HP.out] at d0 d1
      obtain ⟨pv, pa⟩ := p
      have f0 : wz.cell? ⟨g0, o0 + k * 2, none⟩ = some (.int .i64 pv) := by rw [hbz.cell (p := ⟨g0, o0 + k * 2, none⟩) hg0]; exact d0.1
      have f1 : wz.cell? ⟨g0, o0 + k * 2 + 1, none⟩ = some (.int .i64 pa) := by rw [hbz.cell (p := ⟨g0, o0 + k * 2 + 1, none⟩) hg0]; exact d0.2
      have f2 : wz.cell? ⟨g1, o1 + k * 2, none⟩ = some (.int .i64 pv) := by rw [hbz.cell (p := ⟨g1, o1 + k * 2, none⟩) hg1]; exact d1.1
      have f3 : wz.cell? ⟨g1, o1 + k * 2 + 1, none⟩ = some (.int .i64 pa) := by rw [hbz.cell (p := ⟨g1, o1 + k * 2 + 1, none⟩) hg1]; exact d1.2
      have heq := fun X => eq_pix X pv pa
      clear d0 d1 hc0 hc1 hh0 hh1 hv0 hv1 ha0 ha1
      go_wp2_with fail
      go_quiet (fail)
      go_wp2_with fail
      go_roundw
      case rel => exact ⟨k + 1, q + nq, by omega, by go_num, rfl⟩
      case measure => simp [intOf]; omega
    · go_wp2_with fail
      go_ret
      exact ⟨rfl, below_drewN hbz q⟩
end Go.Proofs.YtceabiodelfdoaaGreatDoor
/- Walks of the law's LightPicture and of the reference's SamePicture. -/
namespace Go.Proofs.YtceabiodelfdoaaGreatDoor
open Go.RowKit

end Go.Proofs.YtceabiodelfdoaaGreatDoor
/- Walk of slices.Clone of pixels. -/
namespace Go.Proofs.YtceabiodelfdoaaGreatDoor
open Go.RowKit

theorem pixCells_length : ∀ ps : List (Int × Int), (pixCells ps).length = ps.length * 2
  | [] => rfl
  | (a, b) :: r => by simp [pixCells, pixCells_length r]; omega
theorem pixCells_at : ∀ (ps : List (Int × Int)) (j : Nat), j < ps.length → (pixCells ps)[j * 2]? = some (.int .i64 (ps.getD j (0, 0)).1) ∧ (pixCells ps)[j * 2 + 1]? = some (.int .i64 (ps.getD j (0, 0)).2)
  | [], j, h => by simp at h
  | (a, b) :: r, 0, h => by simp [pixCells]
  | (a, b) :: r, j + 1, h => by
    have := pixCells_at r j (by simpa using h)
    rw [show (j + 1) * 2 = j * 2 + 2 by omega]
    simpa [pixCells] using this
theorem pixCells_one : ∀ (ps : List (Int × Int)), ∀ u ∈ pixCells ps, u.oneCell' = true
  | [], u, h => by simp [pixCells] at h
  | (a, b) :: r, u, h => by
    simp only [pixCells, List.mem_cons] at h
    rcases h with rfl | rfl | h
    · rfl
    · rfl
    · exact pixCells_one r u h
theorem add_pl (b o i : Nat) : (⟨b, o, none⟩ : Addr).add i = ⟨b, o + i, none⟩ := by unfold Addr.add; split <;> simp_all
theorem rd_cells {w : World} {g off n cap : Nat} {ps : List (Int × Int)} (h : RdP w (.slice (some ⟨g, off, none⟩) n cap) ps) (hne : ps ≠ []) : ∀ j u, (pixCells ps)[j]? = some u → w.cell? ((⟨g, off, none⟩ : Addr).add j) = some u := by
  obtain ⟨a, c, hv, hl, hc, hh⟩ := h
  obtain ⟨g2, o2, ha, hg, hcell⟩ := hh hne
  simp only [Value.slice.injEq] at hv
  rw [ha] at hv
  simp only [Option.some.injEq, Addr.mk.injEq] at hv
  obtain ⟨⟨rfl, rfl, _⟩, rfl, rfl⟩ := hv
  intro j u hj
  have hlt : j < ps.length * 2 := by
    have := (List.getElem?_eq_some_iff.1 hj).1
    rw [pixCells_length] at this
    exact this
  have hd := hcell (j / 2) (by omega)
  have hp := pixCells_at ps (j / 2) (by omega)
  rw [add_pl]
  obtain ⟨q, hq⟩ : ∃ q, q = j / 2 := ⟨_, rfl⟩
  rw [← hq] at hd hp
  rcases (show j = q * 2 ∨ j = q * 2 + 1 by omega) with e | e
  · subst e
    rw [hp.1] at hj
    rw [← hj]; exact hd.1
  · subst e
    rw [hp.2] at hj
    rw [← hj, ← Nat.add_assoc]; exact hd.2

theorem hide_own {W : World} {B : Nat} {e : TypeId} {size n : Nat} {v : Value} {xs : List Value} (h : W.ownsRow B e size v n xs) : Hid (W.ownsRow B e size v n xs) := h
theorem run_eql_nil {P : Program} (w : World) {t e : TypeId} (a : Addr) (l c : Nat) (h : P.underlying t = some (.slice e)) : (binOp .eql t (.slice (some a) l c) (.slice none 0 0)).run P w = .ok (.bool false) w := by
  have h : ∀ d : Nat, (Op.equalIn (d + 1) t (.slice (some a) l c) (.slice none 0 0)).run P w = .ok false w := fun d => by
    simp [Op.equalIn, run_underlying h]
  simp only [binOp]
  simp [Op.equal, Op.maxDepth, h 9999]

theorem own_empty (w : World) (T : TypeId) (size : Nat) : (w.alloc (.cells #[] T)).ownsRow w.heap.size T size (.slice (some ⟨w.heap.size, 0, none⟩) 0 0) 0 [] := by
  refine ⟨by simp, .inr ⟨w.heap.size, 0, #[], rfl, Nat.le_refl _, by show (w.heap.push _)[w.heap.size]? = _; simp, Nat.le_refl _, by simp [maxLen], by simp, by simp⟩⟩

set_option maxHeartbeats 2000000 in
set_option maxRecDepth 100000 in
theorem clone_anyB (v : Value) (ps : List (Int × Int)) (w : World) (hps : ps.length ≤ 100) (hne : ps ≠ []) (HR : Hid (RdP w v ps)) :
    Calls Tryz.prog 78 #[v] w fun e w' => ∃ v', e = .returned v' ∧ w'.ownsRow w.heap.size 52 2 v' ps.length (pixCells ps) ∧ Below w.heap.size w w' := by
  obtain ⟨i0, hi, hz0, hz1, hz2⟩ := info_parts Tryz.infoPix
  obtain ⟨a, cap, hv, hlc, hcap, hh⟩ := HR.out
  obtain ⟨g, off, rfl, hg, _⟩ := hh hne
  subst hv
  have hcells := rd_cells HR.out hne
  obtain ⟨n, HN⟩ : ∃ n, Hid (ps.length = n) := ⟨_, (rfl : _ = _)⟩
  clear hh
  have hnil : ∀ X, (binOp .eql 44 (.slice (some ⟨g, off, none⟩) ps.length cap) (.slice none 0 0)).run Tryz.prog X = .ok (.bool false) X := fun X => run_eql_nil X _ _ _ Tryz.underlying44
  go_enter Tryz.func78, Tryz.ntmps78
  have hcells1 : ∀ j u, (pixCells ps)[j]? = some u → (w.alloc (.cells #[] 52)).cell? ((⟨g, off, none⟩ : Addr).add j) = some u := by
    intro j u hj
    rw [add_pl, cell_old _ _ _ _ hg, ← add_pl]
    exact hcells j u hj
  clear hcells
  go_wp2_with (at_builtin; refine wpList_append_own _ rfl _ _ 44 rfl w.heap.size 52 i0 (.agg #[.int .i64 0, .int .i64 0]) 2 16 Tryz.underlying44 hi hz0 hz1 hz2 rfl (by decide) _ _ _ rfl (own_empty w 52 2) ⟨g, off, none⟩ ps.length cap (pixCells ps) rfl (pixCells_length ps) ?c1 ?c2 ?c3 ?c4 ?c5 ?_)
  case c1 => exact hcells1
  case c2 => exact pixCells_one ps
  case c3 => unfold maxLen; omega
  case c4 => omega
  case c5 => simp
  · intro v' w3 hown' hgrow _
    have hb3 : Below w.heap.size w w3 := ((Below.refl _ _).alloc (Nat.le_refl _) _).grown hgrow (by simp) (by intro k hk; simp [Value.ownBlock] at hk; omega)
    have HO := hide_own hown'
    clear hown' hgrow
    obtain ⟨a', c', hv'⟩ := own_any HO.out
    subst hv'
    go_wp2
    go_ret
    exact ⟨_, rfl, HO.out, hb3⟩
end Go.Proofs.YtceabiodelfdoaaGreatDoor
/- Walks: slices.Clone of any pixels (also none), picture.Own. -/
namespace Go.Proofs.YtceabiodelfdoaaGreatDoor
open Go.RowKit

set_option maxHeartbeats 2000000 in
set_option maxRecDepth 100000 in
theorem cloneG_any (v : Value) (ps : List (Int × Int)) (w : World) (hps : ps.length ≤ 100) (HR : Hid (RdP w v ps)) :
    Calls Tryz.prog 78 #[v] w fun e w' => ∃ v', e = .returned v' ∧ w'.ownsRow w.heap.size 52 2 v' ps.length (pixCells ps) ∧ Below w.heap.size w w' := by
  by_cases hne : ps = []
  · subst hne
    obtain ⟨a, cap, hv, hlc, hcap, hh⟩ := HR.out
    clear hh
    simp only [List.length_nil] at hv
    subst hv
    obtain ⟨i0, hi, hz0, hz1, hz2⟩ := info_parts Tryz.infoPix
    cases a with
    | none =>
      have hnil : ∀ X, (binOp .eql 44 (.slice none 0 cap) (.slice none 0 0)).run Tryz.prog X = .ok (.bool true) X := fun X => run_eql_nil_slice X _ _ none 0 cap 0 0 Tryz.underlying44
      have hbr : Below w.heap.size w w := Below.refl _ _
      go_enter Tryz.func78, Tryz.ntmps78
      go_wp2_with fail
      go_ret
      exact ⟨_, rfl, World.ownsRow_nil _ _ _ _, hbr⟩
    | some a =>
      have hnil : ∀ X, (binOp .eql 44 (.slice (some a) 0 cap) (.slice none 0 0)).run Tryz.prog X = .ok (.bool false) X := fun X => run_eql_nil X _ _ _ Tryz.underlying44
      go_enter Tryz.func78, Tryz.ntmps78
      go_wp2_with (at_builtin; refine wpList_append_own _ rfl _ _ 44 rfl w.heap.size 52 i0 (.agg #[.int .i64 0, .int .i64 0]) 2 16 Tryz.underlying44 hi hz0 hz1 hz2 rfl (by decide) _ _ _ rfl (own_empty w 52 2) a 0 cap [] rfl (by simp) ?c1 ?c2 ?c3 ?c4 ?c5 ?_)
      case c1 => intro j u hj; simp at hj
      case c2 => intro u hu; simp at hu
      case c3 => unfold maxLen; omega
      case c4 => omega
      case c5 => simp
      · intro v' w3 hown' hgrow _
        have hb3 : Below w.heap.size w w3 := ((Below.refl _ _).alloc (Nat.le_refl _) _).grown hgrow (by simp) (by intro k hk; simp [Value.ownBlock] at hk; omega)
        have HO := hide_own hown'
        clear hown' hgrow
        obtain ⟨a', c', hv'⟩ := own_any HO.out
        subst hv'
        go_wp2
        go_ret
        exact ⟨_, rfl, HO.out, hb3⟩
  · exact clone_anyB v ps w hps hne HR

set_option maxHeartbeats 2000000 in
set_option maxRecDepth 100000 in
theorem pown_any (W H : Int) (v : Value) (ps : List (Int × Int)) (w : World) (hps : ps.length ≤ 100) (HR : Hid (RdP w v ps)) :
    Calls Tryz.prog 66 #[.agg #[.int .i64 W, .int .i64 H, v]] w fun e w' => ∃ v', e = .returned (.agg #[.int .i64 W, .int .i64 H, v']) ∧ w'.ownsRow (w.heap.size + 2) 52 2 v' ps.length (pixCells ps) ∧ Below w.heap.size w w' := by
  obtain ⟨a, cap, hv, hlc, hcap, _⟩ := HR.out
  obtain ⟨n, HN⟩ : ∃ n, Hid (ps.length = n) := ⟨_, (rfl : _ = _)⟩
  rw [HN.out] at hv
  subst hv
  have T0 := (three_start w (.int .i64 W) (.int .i64 H) (.slice a n cap) 46).alloc (.cells #[.int .i64 0, .int .i64 0, .slice none 0 0] 46)
  have T1 := three_begin (w.alloc (.cells #[.int .i64 W, .int .i64 H, .slice a n cap] 46)) (.int .i64 0) (.int .i64 0) (.slice none 0 0) 46 (w.heap.size + 1) (by simp)
  have hb0 : Below w.heap.size w ((w.alloc (.cells #[.int .i64 W, .int .i64 H, .slice a n cap] 46)).alloc (.cells #[.int .i64 0, .int .i64 0, .slice none 0 0] 46)) := ((Below.refl _ _).alloc (Nat.le_refl _) _).alloc (by simp) _
  have HR0 : Hid (RdP ((w.alloc (.cells #[.int .i64 W, .int .i64 H, .slice a n cap] 46)).alloc (.cells #[.int .i64 0, .int .i64 0, .slice none 0 0] 46)) (.slice a n cap) ps) := HR.out.on hb0
  go_enter Tryz.func66, Tryz.ntmps66
  go_wp2_with fail
  refine (cloneG_any _ ps _ hps HR0).mono ?_
  rintro e w1 ⟨v', rfl, ho, hb1⟩
  have HO : Hid (w1.ownsRow (w.heap.size + 2) 52 2 v' ps.length (pixCells ps)) := by unfold Hid; simpa using ho
  rw [HN.out] at HO
  obtain ⟨a', c', hv'⟩ := own_any HO.out
  subst hv'
  obtain ⟨c0, c1, c2, f0, f1, f2, lt⟩ := T0.on hb1
  obtain ⟨d0, d1, d2, g0, g1, g2, lt2⟩ := T1.on hb1
  have hbb := hb0.trans (hb1.mono hb0.size)
  clear ho hb0 hb1 T0 T1 HR0
  go_wp2_with fail
  refine bodyPost_ret (v := .agg #[.int .i64 W, .int .i64 H, .slice a' n c']) (by simp [results, Tryz.results66, go_sem, d0, d1, d2]) rfl ⟨_, rfl, ?_, ?_⟩
  · rw [HN.out]
    refine ownsRow_setCell_below (ownsRow_setCell_below (ownsRow_setCell_below (ownsRow_setCell_below (own_mono HO.out (Nat.le_refl _)) ?_ _) ?_ _) ?_ _) ?_ _
    all_goals (simp; try omega)
  · exact (((hbb.setCell (by simp) _).setCell (by simp) _).setCell (by simp) _).setCell (by simp) _
end Go.Proofs.YtceabiodelfdoaaGreatDoor
/- Rows of objects of one's own. -/
namespace Go.Proofs.YtceabiodelfdoaaGreatDoor
open Go.RowKit

/-- an object's cells, its pixels at u -/
def oCells (x : Po) (u : Value) : List Value := [.int .i64 x.id, .int .i64 x.x, .int .i64 x.y, .int .i64 x.pw, .int .i64 x.ph, u, .int .i64 x.cx, .int .i64 x.cy, .int .i64 x.cw, .int .i64 x.ch, .bool x.sh]
def obCells : List (Po × Value) → List Value
  | [] => []
  | (x, u) :: r => oCells x u ++ obCells r
theorem obCells_app (a b : List (Po × Value)) : obCells (a ++ b) = obCells a ++ obCells b := by
  induction a with
  | nil => rfl
  | cons p a ih => obtain ⟨f, u⟩ := p; simp [obCells, ih]
theorem obCells_length : ∀ a : List (Po × Value), (obCells a).length = a.length * 11
  | [] => rfl
  | (f, u) :: r => by simp [obCells, oCells, obCells_length r]; omega
@[reducible] def qo0 : Po × Value := (po0, .slice none 0 0)
theorem obCells_at : ∀ (a : List (Po × Value)) (j c : Nat), j < a.length → c < 11 → (obCells a)[j * 11 + c]? = (oCells (a.getD j qo0).1 (a.getD j qo0).2)[c]?
  | (f, u) :: r, 0, c, _, hc => by
    simp only [obCells, Nat.zero_mul, Nat.zero_add]
    rw [List.getElem?_append_left (by simpa [oCells] using hc)]
    simp
  | (f, u) :: r, j + 1, c, h, hc => by
    have := obCells_at r j c (by simpa using h) hc
    rw [show (j + 1) * 11 + c = 11 + (j * 11 + c) by omega]
    simp only [obCells]
    rw [List.getElem?_append_right (by simp [oCells])]
    simpa [oCells] using this

/-- a row of objects of one's own, each with a row of pixels of its own -/
def OwnOb (w : World) (B : Nat) (v : Value) (qs : List (Po × Value)) : Prop :=
  w.ownsRow B 141 11 v qs.length (obCells qs) ∧ ∀ q ∈ qs, w.ownsRow B 52 2 q.2 q.1.ps.length (pixCells q.1.ps)

theorem apartO {w : World} {B B' : Nat} {e e' : TypeId} {s s' : Nat} {v v' : Value} {n n' : Nat} {xs xs' : List Value} (h : w.ownsRow B e s v n xs) (h' : w.ownsRow B' e' s' v' n' xs') (hne : e ≠ e') :
    v.ownBlock = none ∨ v.ownBlock ≠ v'.ownBlock := by
  rcases h.2 with ⟨rfl, _⟩ | ⟨g, cap, cur, rfl, _, hg, _⟩
  · exact .inl rfl
  · refine .inr fun e1 => ?_
    rcases h'.2 with ⟨rfl, _⟩ | ⟨g', cap', cur', rfl, _, hg', _⟩
    · simp [Value.ownBlock] at e1
    · simp [Value.ownBlock] at e1
      subst e1
      rw [hg] at hg'
      simp at hg'
      exact hne hg'.2

theorem OwnOb.on {w w' : World} {B : Nat} {v : Value} {qs : List (Po × Value)} (h : OwnOb w B v qs) (hb : Below w.heap.size w w') : OwnOb w' B v qs :=
  ⟨own_on2 h.1 hb, fun q hq => own_on2 (h.2 q hq) hb⟩

theorem OwnOb.rd {w : World} {B : Nat} {v : Value} {qs : List (Po × Value)} (h : OwnOb w B v qs) : RdO w v (qs.map Prod.fst) := by
  rcases h.1.2 with ⟨rfl, h0⟩ | ⟨g, cap, cur, rfl, hb, hg, hn, hm, hs, ht⟩
  · have : qs = [] := List.length_eq_zero_iff.1 h0
    subst this
    exact ⟨none, 0, rfl, by simp, by omega, fun h => absurd rfl h⟩
  · unfold maxLen at hm
    refine ⟨some ⟨g, 0, none⟩, cap, by simp, by simpa using hn, by omega, fun hne => ⟨g, 0, rfl, ?_, fun j hj => ?_⟩⟩
    · rcases Nat.lt_or_ge g w.heap.size with h1 | h1
      · exact h1
      · rw [Array.getElem?_eq_none h1] at hg; cases hg
    · rw [List.length_map] at hj
      have e : (qs.map Prod.fst).getD j po0 = (qs.getD j qo0).1 := by
        simp [List.getD_eq_getElem?_getD, List.getElem?_eq_getElem hj]
      have hmem : qs.getD j qo0 ∈ qs := by
        rw [List.getD_eq_getElem?_getD, List.getElem?_eq_getElem hj]
        simp
      rw [e]
      have hc : ∀ x, x < 11 → w.cell? ⟨g, 0 + j * 11 + x, none⟩ = (oCells (qs.getD j qo0).1 (qs.getD j qo0).2)[x]? := fun x hx => by
        rw [Nat.zero_add, h.1.cellAt (j * 11 + x) (by omega)]
        exact obCells_at qs j x hj hx
      exact ⟨(qs.getD j qo0).2, ⟨hc 0 (by omega), hc 1 (by omega), hc 2 (by omega), hc 3 (by omega), hc 4 (by omega), hc 5 (by omega), hc 6 (by omega), hc 7 (by omega), hc 8 (by omega), hc 9 (by omega), hc 10 (by omega)⟩, rdP_own (h.2 _ hmem)⟩

theorem OwnOb.app {w w' : World} {B : Nat} {v v' : Value} {qs : List (Po × Value)} (h : OwnOb w B v qs) {x : Po} {u : Value} (hu : w.ownsRow B 52 2 u x.ps.length (pixCells x.ps))
    (h1 : w'.ownsRow B 141 11 v' (qs.length + 1) (obCells qs ++ oCells x u)) (h2 : w.grownBy w' v.ownBlock) : OwnOb w' B v' (qs ++ [(x, u)]) := by
  refine ⟨?_, fun q hq => ?_⟩
  · rw [obCells_app, List.length_append]
    simpa [obCells] using h1
  · rcases List.mem_append.1 hq with hq | hq
    · exact (h.2 q hq).kept h2 (apartO (h.2 q hq) h.1 (by decide))
    · simp at hq
      subst hq
      exact hu.kept h2 (apartO hu h.1 (by decide))

set_option maxHeartbeats 2000000 in
set_option maxRecDepth 100000 in
theorem oown_any (id x y pw ph : Int) (u : Value) (ps : List (Int × Int)) (cx cy cw ch : Int) (sh : Bool) (w : World) (hps : ps.length ≤ 100) (HR : Hid (RdP w u ps)) :
    Calls Tryz.prog 104 #[objV id x y pw ph u cx cy cw ch sh] w fun e w' => ∃ u', e = .returned (objV id x y pw ph u' cx cy cw ch sh) ∧ w'.ownsRow (w.heap.size + 2) 52 2 u' ps.length (pixCells ps) ∧ Below w.heap.size w w' := by
  unfold objV
  obtain ⟨au, cu, hvu, hlu, hcu, _⟩ := HR.out
  obtain ⟨nu, HNU⟩ : ∃ n, Hid (ps.length = n) := ⟨_, (rfl : _ = _)⟩
  rw [HNU.out] at hvu
  subst hvu
  clear hlu hcu
  have E0 := (eleven_start w (.int .i64 id) (.int .i64 x) (.int .i64 y) (.int .i64 pw) (.int .i64 ph) (.slice au nu cu) (.int .i64 cx) (.int .i64 cy) (.int .i64 cw) (.int .i64 ch) (.bool sh) 141 w.heap.size rfl).alloc (.cells #[.int .i64 0, .int .i64 0, .int .i64 0, .int .i64 0, .int .i64 0, .slice none 0 0, .int .i64 0, .int .i64 0, .int .i64 0, .int .i64 0, .bool false] 141)
  have E1 := eleven_start (w.alloc (.cells #[.int .i64 id, .int .i64 x, .int .i64 y, .int .i64 pw, .int .i64 ph, .slice au nu cu, .int .i64 cx, .int .i64 cy, .int .i64 cw, .int .i64 ch, .bool sh] 141)) (.int .i64 0) (.int .i64 0) (.int .i64 0) (.int .i64 0) (.int .i64 0) (.slice none 0 0) (.int .i64 0) (.int .i64 0) (.int .i64 0) (.int .i64 0) (.bool false) 141 (w.heap.size + 1) (by simp)
  have hb0 : Below w.heap.size w ((w.alloc (.cells #[.int .i64 id, .int .i64 x, .int .i64 y, .int .i64 pw, .int .i64 ph, .slice au nu cu, .int .i64 cx, .int .i64 cy, .int .i64 cw, .int .i64 ch, .bool sh] 141)).alloc (.cells #[.int .i64 0, .int .i64 0, .int .i64 0, .int .i64 0, .int .i64 0, .slice none 0 0, .int .i64 0, .int .i64 0, .int .i64 0, .int .i64 0, .bool false] 141)) := ((Below.refl _ _).alloc (Nat.le_refl _) _).alloc (by simp) _
  have HR0 : Hid (RdP ((w.alloc (.cells #[.int .i64 id, .int .i64 x, .int .i64 y, .int .i64 pw, .int .i64 ph, .slice au nu cu, .int .i64 cx, .int .i64 cy, .int .i64 cw, .int .i64 ch, .bool sh] 141)).alloc (.cells #[.int .i64 0, .int .i64 0, .int .i64 0, .int .i64 0, .int .i64 0, .slice none 0 0, .int .i64 0, .int .i64 0, .int .i64 0, .int .i64 0, .bool false] 141)) (.slice au nu cu) ps) := HR.out.on hb0
  go_enter Tryz.func104, Tryz.ntmps104
  go_wp2_with fail
  refine (pown_any pw ph _ ps _ hps HR0).mono ?_
  rintro e w1 ⟨v', rfl, ho, hb1⟩
  have HO : Hid (w1.ownsRow (w.heap.size + 2) 52 2 v' ps.length (pixCells ps)) := own_mono ho (by simp)
  rw [HNU.out] at HO
  obtain ⟨a', c', hv'⟩ := own_any HO.out
  subst hv'
  obtain ⟨c0, c1, c2, c3, c4, c5, c6, c7, c8, c9, c10, f0, f1, f2, f3, f4, f5, f6, f7, f8, f9, f10, lt⟩ := E0.on hb1
  obtain ⟨d0, d1, d2, d3, d4, d5, d6, d7, d8, d9, d10, g0, g1, g2, g3, g4, g5, g6, g7, g8, g9, g10, lt2⟩ := E1.on hb1
  have hbb := hb0.trans (hb1.mono hb0.size)
  clear ho hb0 hb1 E0 E1 HR0
  go_wp2_with fail
  refine bodyPost_ret (v := .agg #[.int .i64 id, .int .i64 x, .int .i64 y, .int .i64 pw, .int .i64 ph, .slice a' nu c', .int .i64 cx, .int .i64 cy, .int .i64 cw, .int .i64 ch, .bool sh]) (by simp [results, Tryz.results104, go_sem, d0, d1, d2, d3, d4, d5, d6, d7, d8, d9, d10]) rfl ⟨_, rfl, ?_, ?_⟩
  · rw [HNU.out]
    repeat (refine ownsRow_setCell_below ?_ (by simp; try omega) _)
    exact HO.out
  · repeat (refine Below.setCell ?_ (by simp) _)
    exact hbb
end Go.Proofs.YtceabiodelfdoaaGreatDoor
/- objects.Own walked. -/
namespace Go.Proofs.YtceabiodelfdoaaGreatDoor
open Go.RowKit

theorem Tryz.infoOb : (Tryz.prog.info? 141).map (fun i => (i.zero, i.size, i.bytes)) = some (some (.agg #[.int .i64 0, .int .i64 0, .int .i64 0, .int .i64 0, .int .i64 0, .slice none 0 0, .int .i64 0, .int .i64 0, .int .i64 0, .int .i64 0, .bool false]), 11, 104) := by kernel_rfl

/-- append where there is room: in place -/
theorem run_append_cap {P : Program} (w : World) (base : Nat) (t ty e : TypeId) (i : TypeInfo) (z : Value) (size bytes : Nat) (ht : P.underlying t = some (.slice e)) (hi : P.info? e = some i) (hz : i.zero = some z)
    (hsize : i.size = size) (hby : i.bytes = bytes) (hzs : z.cells.size = size) (hsz : 0 < size)
    (g n cap : Nat) (xs : List Value) (hown : w.ownsRow base e size (.slice (some ⟨g, 0, none⟩) n cap) n xs)
    (a : Addr) (m c : Nat) (news : List Value) (hl : news.length = m * size) (hnews : ∀ j u, news[j]? = some u → w.cell? (a.add j) = some u) (h1 : ∀ u ∈ news, u.oneCell' = true)
    (h63 : n + m ≤ maxLen) (hbytes : (n + m) * bytes ≤ 140737488355328) (hbase : base ≤ w.heap.size) (hroom : n + m ≤ cap) :
    ∃ w', (Builtin.append_ #[t, t] ty #[.slice (some ⟨g, 0, none⟩) n cap, .slice (some a) m c]).run P w = .ok (.slice (some ⟨g, 0, none⟩) (n + m) cap) w' ∧
      w'.ownsRow base e size (.slice (some ⟨g, 0, none⟩) (n + m) cap) (n + m) (xs ++ news) ∧ w.grownBy w' (some g) := by
  obtain ⟨v', w', hr, h2, h3, _⟩ := run_append_own (P := P) w base t ty e i z size bytes ht hi hz hsize hby hzs hsz _ n xs hown a m c news hl hnews h1 h63 hbytes hbase
  rcases hown.2 with ⟨h0, _⟩ | ⟨g', cap', cur, hv, _, hg, _, _, hcs, _⟩
  · simp at h0
  · simp only [Value.slice.injEq, Option.some.injEq, Addr.mk.injEq, and_true, true_and] at hv
    obtain ⟨rfl, rfl⟩ := hv
    have hr2 := run_append_room (P := P) w t ty e i ht hi g n cap cur hg a m c news (by rw [hsize]; exact hl) hnews h1 hroom (by rw [hl, hcs, hsize, ← Nat.add_mul]; exact Nat.mul_le_mul_right _ hroom)
    rw [hr] at hr2
    have e1 := (Result.ok.inj hr2).1
    subst e1
    exact ⟨w', hr, h2, h3⟩

theorem pix_oneB (x : Po) (u : Value) (hu : u.oneCell' = true) : ∀ v ∈ oCells x u, v.oneCell' = true := by
  intro v hv
  simp only [oCells, List.mem_cons, List.not_mem_nil, or_false] at hv
  rcases hv with rfl | rfl | rfl | rfl | rfl | rfl | rfl | rfl | rfl | rfl | rfl <;> first | rfl | exact hu
/-- eleven cells of a new block -/
theorem new_cells (W : World) (L : List Value) (T : TypeId) (j : Nat) (u : Value) (h : L[j]? = some u) : (W.alloc (.cells L.toArray T)).cell? ((⟨W.heap.size, 0, none⟩ : Addr).add j) = some u := by
  have e : (⟨W.heap.size, 0, none⟩ : Addr).add j = ⟨W.heap.size, j, none⟩ := by unfold Addr.add; split <;> simp_all
  rw [e]
  simpa using h
theorem hide_ob {w : World} {B : Nat} {v : Value} {qs : List (Po × Value)} (h : OwnOb w B v qs) : Hid (OwnOb w B v qs) := h

set_option maxHeartbeats 2000000 in
set_option maxRecDepth 100000 in
theorem ownO_any (v : Value) (os : List Po) (w : World) (hos : os.length ≤ 100) (hps : ∀ j, j < os.length → (os.getD j po0).ps.length ≤ 100) (HR : Hid (RdO w v os)) :
    Calls Tryz.prog 103 #[v] w fun e w' => ∃ g qs, e = .returned (.slice (some ⟨g, 0, none⟩) os.length (os.length + 1)) ∧ OwnOb w' w.heap.size (.slice (some ⟨g, 0, none⟩) os.length (os.length + 1)) qs ∧ qs.map Prod.fst = os ∧ Below w.heap.size w w' := by
  obtain ⟨i0, hi, hz0, hz1, hz2⟩ := info_parts Tryz.infoOb
  obtain ⟨a, cap, hv, hl, hcap⟩ := HR.out.shape
  have HPS : Hid (∀ j, j < os.length → (os.getD j po0).ps.length ≤ 100) := hps
  obtain ⟨n, HN⟩ : ∃ n, Hid (os.length = n) := ⟨_, (rfl : _ = _)⟩
  rw [HN.out] at hv hl hos ⊢
  clear hps
  subst hv
  have hbz : Below w.heap.size w w := Below.refl _ _
  go_enter Tryz.func103, Tryz.ntmps103
  go_wp2_with (at_make; refine wpList_make_own _ rfl _ _ 85 rfl w.heap.size 141 i0 (.agg #[.int .i64 0, .int .i64 0, .int .i64 0, .int .i64 0, .int .i64 0, .slice none 0 0, .int .i64 0, .int .i64 0, .int .i64 0, .int .i64 0, .bool false]) 11 Tryz.underlying85 hi hz0 hz1 _ _ _ (n + 1) rfl rfl ?a1 ?b1 ?b2 ?b3 ?_)
  case a1 => first | rfl | omega
  case b1 => rw [hz2]; omega
  case b2 => unfold maxLen; omega
  case b3 => exact Nat.le_refl _
  intro W0 hown0 hgrow0
  have hb0 : Below w.heap.size w W0 := (Below.refl _ _).grown hgrow0 (Nat.le_refl _) (by intro k hk; cases hk)
  have HO0 : Hid (OwnOb W0 w.heap.size (.slice (some ⟨w.heap.size, 0, none⟩) 0 (n + 1)) []) := ⟨hown0, by simp⟩
  clear hown0 hgrow0
  go_wp2_with fail
  go_loopw [3, 12] (fun o i wr => ∃ (k : Nat) (qs : List (Po × Value)), k ≤ n ∧ i = .int .i64 k ∧ o = .slice (some ⟨w.heap.size, 0, none⟩) k (n + 1) ∧ Hid (OwnOb wr w.heap.size (.slice (some ⟨w.heap.size, 0, none⟩) k (n + 1)) qs) ∧ Hid (qs.map Prod.fst = os.take k) ∧ Below w.heap.size w wr) (fun _ i _ => n - (intOf i).toNat)
  case atStart => exact ⟨0, [], by omega, rfl, rfl, HO0, (rfl : _ = _), hb0⟩
  case round =>
    obtain ⟨k, qs, hk, rfl, rfl, HO, HQ, hbr⟩ := hrel
    by_cases hlt : k < n
    · have hlt' : k < os.length := by rw [HN.out]; exact hlt
      obtain ⟨o, HX⟩ : ∃ o, Hid (os.getD k po0 = o) := ⟨_, (rfl : _ = _)⟩
      have hpl : o.ps.length ≤ 100 := by rw [← HX.out]; exact HPS.out k hlt'
      have HLQ : Hid (qs.length = k) := by
        have := congrArg List.length HQ.out
        unfold Hid
        simpa [Nat.min_eq_left (Nat.le_of_lt hlt')] using this
      have HQ2 : Hid (∀ u, (qs ++ [(o, u)]).map Prod.fst = os.take (k + 1)) := by
        intro u
        rw [List.map_append, HQ.out, List.take_succ_eq_append_getElem hlt', ← HX.out, List.getD_eq_getElem?_getD, List.getElem?_eq_getElem hlt']
        rfl
      obtain ⟨g, p, ua, q, uc, rfl, hg, OC, HU, HM⟩ := (HR.out.on hbr).at hlt HX
      obtain ⟨c0, c1, c2, c3, c4, c5, c6, c7, c8, c9, c10⟩ := OC
      obtain ⟨id, x, y, pw, ph, ps, cx, cy, cw, ch, sh⟩ := o
      simp only at c0 c1 c2 c3 c4 c5 c6 c7 c8 c9 c10 HU HM hpl
      clear hlt' HX
      have hki0 : (0 : Int) ≤ (k : Int) := by omega
      have hki1 : (k : Int) < (n : Int) := by omega
      have hbx : Below wr.heap.size wr (wr.alloc (.cells #[.int .i64 id, .int .i64 x, .int .i64 y, .int .i64 pw, .int .i64 ph, .slice ua q uc, .int .i64 cx, .int .i64 cy, .int .i64 cw, .int .i64 ch, .bool sh] 141)) := (Below.refl _ _).alloc (Nat.le_refl _) _
      have HUX := HU.out.on hbx
      have HOX := hide_ob (HO.out.on hbx)
      have hbX : Below w.heap.size w (wr.alloc (.cells #[.int .i64 id, .int .i64 x, .int .i64 y, .int .i64 pw, .int .i64 ph, .slice ua q uc, .int .i64 cx, .int .i64 cy, .int .i64 cw, .int .i64 ch, .bool sh] 141)) := hbr.alloc hbr.size _
      have HUY : Hid (RdP _ _ _) := HUX
      clear HUX HU hbx HO
      go_wp2_with fail
      refine (oown_any id x y pw ph _ ps cx cy cw ch sh _ hpl HUY).mono ?_
      unfold objV
      rintro e w1 ⟨u', rfl, hu, hb1⟩
      have HU1 : Hid (w1.ownsRow w.heap.size 52 2 u' ps.length (pixCells ps)) := own_mono hu (by have := hbX.size; omega)
      rw [HM.out] at HU1
      obtain ⟨va, vc, hu'⟩ := own_any HU1.out
      subst hu'
      have HO1 := hide_ob (HOX.out.on hb1)
      have hbw1 : Below w.heap.size w w1 := hbX.trans (hb1.mono hbX.size)
      clear hu hb1 HOX HUY hbX
      have hbx2 : Below w1.heap.size w1 (w1.alloc (.cells #[.int .i64 id, .int .i64 x, .int .i64 y, .int .i64 pw, .int .i64 ph, .slice va q vc, .int .i64 cx, .int .i64 cy, .int .i64 cw, .int .i64 ch, .bool sh] 141)) := (Below.refl _ _).alloc (Nat.le_refl _) _
      have HO2 := hide_ob (HO1.out.on hbx2)
      have HU2 := hide_own (own_on2 HU1.out hbx2)
      have hbw2 : Below w.heap.size w (w1.alloc (.cells #[.int .i64 id, .int .i64 x, .int .i64 y, .int .i64 pw, .int .i64 ph, .slice va q vc, .int .i64 cx, .int .i64 cy, .int .i64 cw, .int .i64 ch, .bool sh] 141)) := hbw1.alloc hbw1.size _
      have HO3 := HO2.out.1
      rw [HLQ.out] at HO3
      obtain ⟨w3, hr, h1, h2⟩ := run_append_cap (P := Tryz.prog) _ w.heap.size 85 85 141 i0 (.agg #[.int .i64 0, .int .i64 0, .int .i64 0, .int .i64 0, .int .i64 0, .slice none 0 0, .int .i64 0, .int .i64 0, .int .i64 0, .int .i64 0, .bool false]) 11 104 Tryz.underlying85 hi hz0 hz1 hz2 rfl (by decide) w.heap.size k (n + 1) _ HO3 ⟨w1.heap.size, 0, none⟩ 1 1 (oCells ⟨id, x, y, pw, ph, ps, cx, cy, cw, ch, sh⟩ (.slice va q vc)) rfl (new_cells w1 _ 141) (pix_oneB _ _ rfl) (by unfold maxLen; omega) (by omega) hbw2.size (by omega)
      have HO4 : Hid (OwnOb w3 w.heap.size (.slice (some ⟨w.heap.size, 0, none⟩) (k + 1) (n + 1)) (qs ++ [(⟨id, x, y, pw, ph, ps, cx, cy, cw, ch, sh⟩, .slice va q vc)])) := HO2.out.app (x := ⟨id, x, y, pw, ph, ps, cx, cy, cw, ch, sh⟩) (by simp only; rw [HM.out]; exact HU2.out) (by rw [HLQ.out]; exact h1) h2
      have hb3 : Below w.heap.size w w3 := hbw2.grown h2 hbw2.size (fun z hz => by simp at hz; omega)
      clear h1 h2 HO3 HO2 HO1 HU1 HU2 hbx2 hbw2
      go_wp2_with (at_builtin; refine Lib.wpList_append_run _ rfl _ _ _ _ rfl _ _ rfl rfl _ _ hr ?_)
      go_roundw
      case rel => exact ⟨k + 1, _, by omega, by go_num, rfl, HO4, HQ2.out _, hb3⟩
      case measure => simp [intOf]; omega
    · obtain rfl : k = n := by omega
      go_wp2_with fail
      go_ret
      refine ⟨_, qs, rfl, HO.out, ?_, hbr⟩
      rw [HQ.out, List.take_of_length_le (by rw [HN.out]; exact Nat.le_refl _)]
end Go.Proofs.YtceabiodelfdoaaGreatDoor
