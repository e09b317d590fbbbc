/- Walk of op.find. -/
import Derived.Test.YtkmolifgfbaboaaDoorShpA
import Derived.Test.YtkmolifgfbaboaaDoorBlkB
import Derived.Deep.MidRow
namespace Go.Proofs.YtkmolifgfbaboaaDoor
open Go.RowKit Go.Deep

/-- the cells of the whole table -/
def shpCells : List Value := shps.flatMap Shp.cells
theorem shpCells_len : shpCells.length = 112 := by decide +kernel
theorem shpCells_at : ∀ k s, shps[k]? = some s → ∀ j, j < 7 → shpCells[7 * k + j]? = s.cells[j]? := by
  intro k s hk
  have hk16 : k < 16 := by
    rcases Nat.lt_or_ge k 16 with h | h
    · exact h
    · rw [List.getElem?_eq_none (by rw [shps_len]; exact h)] at hk; cases hk
  intro j hj
  have hall : ∀ k < 16, ∀ j < 7, shpCells[7 * k + j]? = (shps[k]?).bind fun s => s.cells[j]? := by
    intro k hk j hj
    have : k = 0 ∨ k = 1 ∨ k = 2 ∨ k = 3 ∨ k = 4 ∨ k = 5 ∨ k = 6 ∨ k = 7 ∨ k = 8 ∨ k = 9 ∨ k = 10 ∨ k = 11 ∨ k = 12 ∨ k = 13 ∨ k = 14 ∨ k = 15 := by omega
    have hj' : j = 0 ∨ j = 1 ∨ j = 2 ∨ j = 3 ∨ j = 4 ∨ j = 5 ∨ j = 6 := by omega
    rcases this with rfl | rfl | rfl | rfl | rfl | rfl | rfl | rfl | rfl | rfl | rfl | rfl | rfl | rfl | rfl | rfl <;> rcases hj' with rfl | rfl | rfl | rfl | rfl | rfl | rfl <;> rfl
  rw [hall k hk16 j hj, hk]
  rfl
theorem Shapes.on {w w' : World} (h : Shapes w) (h1 : 0 < w.heap.size) (hb : Below w.heap.size w w') : Shapes w' := fun k s hk j u hu => (hb.cell (p := ⟨0, 7 * k + j, none⟩) h1).trans (h k s hk j u hu)
theorem Shapes.all {w : World} (h : Shapes w) : ∀ i, i < 112 → w.cell? ⟨0, i, none⟩ = some (shpCells.getD i .nilIface) := by
  intro i hi
  have hk : shps[i / 7]? = some (shps[i / 7]'(by rw [shps_len]; omega)) := List.getElem?_eq_getElem _
  have hj : i % 7 < 7 := Nat.mod_lt _ (by omega)
  have he : 7 * (i / 7) + i % 7 = i := by omega
  have h1 := shpCells_at _ _ hk (i % 7) hj
  rw [he] at h1
  have hl : (shps[i / 7]'(by rw [shps_len]; omega)).cells.length = 7 := rfl
  obtain ⟨u, hu⟩ : ∃ u, (shps[i / 7]'(by rw [shps_len]; omega)).cells[i % 7]? = some u := ⟨_, List.getElem?_eq_getElem (by rw [hl]; exact hj)⟩
  have h2 := h _ _ hk _ _ hu
  rw [he] at h2
  rw [h2, List.getD_eq_getElem?_getD, h1, hu]
  rfl
theorem Shapes.range {w : World} (h : Shapes w) : w.rangeAt 0 0 shpCells := by
  intro j v hj
  have hl : j < 112 := by
    rcases Nat.lt_or_ge j 112 with h | h
    · exact h
    · rw [List.getElem?_eq_none (by rw [shpCells_len]; exact h)] at hj; cases hj
  rw [Nat.zero_add, h.all j hl, List.getD_eq_getElem?_getD, hj]
  rfl

theorem shp_index (k : Nat) (s : Shp) (hk : shps[k]? = some s) (X : World) : (Instr.index 89 (.agg shpCells.toArray) (.int .i64 (k : Int))).run Tryd.prog X = .ok s.val X := by
  have hk16 : k < 16 := by
    rcases Nat.lt_or_ge k 16 with h | h
    · exact h
    · rw [List.getElem?_eq_none (by rw [shps_len]; exact h)] at hk; cases hk
  have hc : k = 0 ∨ k = 1 ∨ k = 2 ∨ k = 3 ∨ k = 4 ∨ k = 5 ∨ k = 6 ∨ k = 7 ∨ k = 8 ∨ k = 9 ∨ k = 10 ∨ k = 11 ∨ k = 12 ∨ k = 13 ∨ k = 14 ∨ k = 15 := by omega
  rcases hc with rfl | rfl | rfl | rfl | rfl | rfl | rfl | rfl | rfl | rfl | rfl | rfl | rfl | rfl | rfl | rfl <;> (obtain rfl := Option.some.inj hk; refine Eq.trans ?_ rfl; kernel_rfl)

/-- the first shape from k on of this kind -/
def kindAt (kd : Int) : List Shp → Option Shp
  | [] => none
  | s :: r => if (s.kind : Int) = kd then some s else kindAt kd r

theorem hid_of3 {p : Prop} (h : p) : Hid p := h
theorem kindAt_drop (kd : Int) (k : Nat) (s : Shp) (h : shps[k]? = some s) : kindAt kd (shps.drop k) = if (s.kind : Int) = kd then some s else kindAt kd (shps.drop (k + 1)) := by
  obtain ⟨hk, e⟩ := List.getElem?_eq_some_iff.1 h
  rw [List.drop_eq_getElem_cons hk, e]
  rfl
/-- no shape -/
def shp0 : Shp := ⟨0, [], false, 0, 0, 0, false⟩

set_option maxHeartbeats 4000000 in
set_option maxRecDepth 100000 in
theorem kindF_any (s : Shp) (kd : Int) (b : Nat) (w : World) (hb : b < w.heap.size) (HK : w.cell? ⟨b, 0, none⟩ = some (.int .i64 kd)) (t : Bool) (HT : Hid (decide ((s.kind : Int) = kd) = t)) :
    Calls Tryd.prog 39 #[s.val, .pointer (some ⟨b, 0, none⟩)] w fun e w' => e = .returned (.bool t) ∧ Below w.heap.size w w' := by
  have HK2 := (cell_old w (.cells #[.int .i64 (s.kind : Int), .string s.bytes, .bool s.id, .int .i64 (s.nums : Int), .int .i64 s.low, .int .i64 s.high, .bool s.pic] 55) b 0 hb).trans HK
  have hbz : Below w.heap.size w (w.alloc (.cells #[.int .i64 (s.kind : Int), .string s.bytes, .bool s.id, .int .i64 (s.nums : Int), .int .i64 s.low, .int .i64 s.high, .bool s.pic] 55)) := (Below.refl _ _).alloc (Nat.le_refl _) _
  have ht : ((s.kind : Int) == kd) = t := by rw [← HT.out]; rfl
  unfold Shp.val
  go_enter Tryd.func39, Tryd.ntmps39
  go_wp2_with fail
  go_ret
  exact ⟨rfl, hbz⟩

/-- what find answers -/
def FindP (o : Option Shp) (w : World) (e : Ending) (w' : World) : Prop :=
  Below w.heap.size w w' ∧ match o with
    | some s => e = .returned (.tuple #[s.val, .bool true])
    | none => e = .returned (.tuple #[shp0.val, .bool false])

set_option maxHeartbeats 4000000 in
set_option maxRecDepth 100000 in
theorem findK_any (kd : Int) (b : Nat) (w : World) (HS : Hid (Shapes w)) (h1 : 0 < w.heap.size) (hb : b < w.heap.size) (HK : w.cell? ⟨b, 0, none⟩ = some (.int .i64 kd)) :
    Calls Tryd.prog 38 #[.func (.func 39) #[] #[.pointer (some ⟨b, 0, none⟩)]] w fun e w' => FindP (kindAt kd shps) w e w' := by
  have HS0 : Hid (Shapes (w.alloc (.cells #[.int .i64 0, .string ⟨#[]⟩, .bool false, .int .i64 0, .int .i64 0, .int .i64 0, .bool false] 55))) := HS.out.on h1 ((Below.refl _ _).alloc (Nat.le_refl _) _)
  have S0 := seven_start w (.int .i64 0) (.string ⟨#[]⟩) (.bool false) (.int .i64 0) (.int .i64 0) (.int .i64 0) (.bool false) 55 w.heap.size rfl
  have HK0 := (cell_old w (.cells #[.int .i64 0, .string ⟨#[]⟩, .bool false, .int .i64 0, .int .i64 0, .int .i64 0, .bool false] 55) b 0 hb).trans HK
  have hbz : Below w.heap.size w (w.alloc (.cells #[.int .i64 0, .string ⟨#[]⟩, .bool false, .int .i64 0, .int .i64 0, .int .i64 0, .bool false] 55)) := (Below.refl _ _).alloc (Nat.le_refl _) _
  go_enter Tryd.func38, Tryd.ntmps38
  go_wp2_with fail
  refine wp_load_mid 89 (Operand.global 0) rfl 0 0 rfl shpCells _ HS0.out.range Tryd.underlying89 rfl (by kernel_rfl) ?_
  simp only [Act.put]
  go_wp2_with fail
  obtain ⟨W0, HW0⟩ : ∃ W, Hid (w.alloc (.cells #[.int .i64 0, .string ⟨#[]⟩, .bool false, .int .i64 0, .int .i64 0, .int .i64 0, .bool false] 55) = W) := ⟨_, (rfl : _ = _)⟩
  rw [HW0.out] at HS0 S0 HK0 hbz
  rw [HW0.out]
  have HIX : Hid (∀ (k : Nat) (s : Shp), shps[k]? = some s → ∀ X, (Instr.index 89 (.agg shpCells.toArray) (.int .i64 (k : Int))).run Tryd.prog X = .ok s.val X) := shp_index
  obtain ⟨AV, HAV⟩ : ∃ A, Hid (shpCells.toArray = A) := ⟨_, (rfl : _ = _)⟩
  rw [HAV.out] at HIX
  rw [HAV.out]
  clear HS0 HS HAV
  have hbW : b < W0.heap.size := Nat.lt_of_lt_of_le hb hbz.size
  go_loopw [7] (fun kv wr => ∃ k : Nat, k ≤ 16 ∧ kv = .int .i64 (k : Int) ∧ Hid (kindAt kd shps = kindAt kd (shps.drop k)) ∧ Below W0.heap.size W0 wr) (fun kv _ => 16 - (intOf kv).toNat)
  case atStart => exact ⟨0, by omega, rfl, (rfl : _ = _), Below.refl _ _⟩
  case round =>
    obtain ⟨k, hk, rfl, HKD, hbr⟩ := hrel
    obtain ⟨d0, d1, d2, d3, d4, d5, d6, g0, g1, g2, g3, g4, g5, g6, lt2⟩ := S0.on hbr
    have hbbr := hbz.trans (hbr.mono hbz.size)
    by_cases hk2 : k < 16
    · obtain ⟨s, Hs⟩ : ∃ s, Hid (shps[k]? = some s) := ⟨_, List.getElem?_eq_getElem (by rw [shps_len]; exact hk2)⟩
      have hix := HIX.out k s Hs.out
      have HKS := hid_of3 (kindAt_drop kd k s Hs.out)
      have hbx : Below wr.heap.size wr (wr.alloc (.cells #[.int .i64 (s.kind : Int), .string s.bytes, .bool s.id, .int .i64 (s.nums : Int), .int .i64 s.low, .int .i64 s.high, .bool s.pic] 55)) := (Below.refl _ _).alloc (Nat.le_refl _) _
      have S1 := seven_start wr (.int .i64 (s.kind : Int)) (.string s.bytes) (.bool s.id) (.int .i64 (s.nums : Int)) (.int .i64 s.low) (.int .i64 s.high) (.bool s.pic) 55 wr.heap.size rfl
      have hbX := hbr.trans (hbx.mono hbr.size)
      have hbbX := hbbr.trans (hbx.mono hbbr.size)
      have hbx2 : b < (wr.alloc (.cells #[.int .i64 (s.kind : Int), .string s.bytes, .bool s.id, .int .i64 (s.nums : Int), .int .i64 s.low, .int .i64 s.high, .bool s.pic] 55)).heap.size := Nat.lt_of_lt_of_le hbW hbX.size
      have HKX : (wr.alloc (.cells #[.int .i64 (s.kind : Int), .string s.bytes, .bool s.id, .int .i64 (s.nums : Int), .int .i64 s.low, .int .i64 s.high, .bool s.pic] 55)).cell? ⟨b, 0, none⟩ = some (.int .i64 kd) := (hbX.cell (p := ⟨b, 0, none⟩) hbW).trans HK0
      have S0X := (S0.on hbr).on hbx
      clear d0 d1 d2 d3 d4 d5 d6 g0 g1 g2 g3 g4 g5 g6 lt2 hbx
      unfold Shp.val at hix
      go_wp2_with fail
      by_cases he : (s.kind : Int) = kd
      · rw [if_pos he] at HKS
        have HR : Hid (kindAt kd shps = some s) := by unfold Hid; rw [HKD.out, HKS.out]
        refine (kindF_any s kd b _ hbx2 HKX true (by unfold Hid; simpa using he)).mono ?_
        rintro e w1 ⟨rfl, hb1⟩
        have hbb1 := hbbX.trans (hb1.mono hbbX.size)
        obtain ⟨d0, d1, d2, d3, d4, d5, d6, g0, g1, g2, g3, g4, g5, g6, lt2⟩ := S0X.on hb1
        obtain ⟨e0, e1, e2, e3, e4, e5, e6, f0, f1, f2, f3, f4, f5, f6, lt3⟩ := S1.on hb1
        clear he HKS HKD hb1 hbbX
        go_wp2_with fail
        rw [HR.out]
        refine bodyPost_ret (v := .tuple #[.agg #[.int .i64 (s.kind : Int), .string s.bytes, .bool s.id, .int .i64 (s.nums : Int), .int .i64 s.low, .int .i64 s.high, .bool s.pic], .bool true]) (by simp [results, Tryd.results38, go_sem, d0, d1, d2, d3, d4, d5, d6]) rfl ⟨?_, rfl⟩
        repeat (refine Below.setCell ?_ (by simp) _)
        exact hbb1
      · rw [if_neg he] at HKS
        refine (kindF_any s kd b _ hbx2 HKX false (by unfold Hid; simpa using he)).mono ?_
        rintro e w1 ⟨rfl, hb1⟩
        have hbX1 := hbX.trans (hb1.mono hbX.size)
        clear he hb1
        go_wp2_with fail
        go_roundw
        case rel => exact ⟨k + 1, by omega, by go_num, HKD.out.trans HKS.out, hbX1⟩
        case measure => simp [intOf]; omega
    · obtain rfl : k = 16 := by omega
      have HR : Hid (kindAt kd shps = none) := by unfold Hid; rw [HKD.out]; rfl
      go_wp2_with fail
      rw [HR.out]
      refine bodyPost_ret (v := .tuple #[.agg #[.int .i64 0, .string ⟨#[]⟩, .bool false, .int .i64 0, .int .i64 0, .int .i64 0, .bool false], .bool false]) (by simp [results, Tryd.results38, go_sem, d0, d1, d2, d3, d4, d5, d6]) rfl ⟨?_, rfl⟩
      repeat (refine Below.setCell ?_ (by simp) _)
      exact hbbr

set_option maxHeartbeats 4000000 in
set_option maxRecDepth 100000 in
theorem ofKind_any (kd : Int) (w : World) (HS : Hid (Shapes w)) (h1 : 0 < w.heap.size) :
    Calls Tryd.prog 19 #[.int .i64 kd] w fun e w' => FindP (kindAt kd shps) w e w' := by
  have hbz : Below w.heap.size w ((w.alloc (.cells #[.int .i64 kd] 3)).alloc (.cells #[.int .i64 0, .string ⟨#[]⟩, .bool false, .int .i64 0, .int .i64 0, .int .i64 0, .bool false] 55)) := ((Below.refl _ _).alloc (Nat.le_refl _) _).alloc (by simp) _
  have S0 := seven_start (w.alloc (.cells #[.int .i64 kd] 3)) (.int .i64 0) (.string ⟨#[]⟩) (.bool false) (.int .i64 0) (.int .i64 0) (.int .i64 0) (.bool false) 55 (w.heap.size + 1) (by simp)
  have HS0 : Hid (Shapes _) := HS.out.on h1 hbz
  have hlt : w.heap.size < ((w.alloc (.cells #[.int .i64 kd] 3)).alloc (.cells #[.int .i64 0, .string ⟨#[]⟩, .bool false, .int .i64 0, .int .i64 0, .int .i64 0, .bool false] 55)).heap.size := by simp; omega
  have hcK : ((w.alloc (.cells #[.int .i64 kd] 3)).alloc (.cells #[.int .i64 0, .string ⟨#[]⟩, .bool false, .int .i64 0, .int .i64 0, .int .i64 0, .bool false] 55)).cell? ⟨w.heap.size, 0, none⟩ = some (.int .i64 kd) := (cell_old _ _ _ 0 (by simp)).trans (cell_fresh w _ _ _ rfl)
  have h1' := Nat.lt_of_lt_of_le h1 hbz.size
  obtain ⟨o, HO⟩ : ∃ o, Hid (kindAt kd shps = o) := ⟨_, (rfl : _ = _)⟩
  rw [HO.out]
  go_enter Tryd.func19, Tryd.ntmps19
  go_wp2_with fail
  refine (findK_any kd w.heap.size _ HS0 h1' hlt hcK).mono ?_
  rw [HO.out]
  rintro e w1 ⟨hb1, he⟩
  have hbb1 := hbz.trans (hb1.mono hbz.size)
  obtain ⟨d0, d1, d2, d3, d4, d5, d6, g0, g1, g2, g3, g4, g5, g6, lt2⟩ := S0.on hb1
  clear hb1 hbz S0 HS0 hlt hcK
  cases o with
  | none =>
    simp only at he
    subst he
    unfold shp0 Shp.val Shp.bytes
    go_wp2_with fail
    refine bodyPost_ret (v := .tuple #[.agg #[.int .i64 0, .string ⟨#[]⟩, .bool false, .int .i64 0, .int .i64 0, .int .i64 0, .bool false], .bool false]) (by simp [results, Tryd.results19, go_sem, d0, d1, d2, d3, d4, d5, d6]) rfl ⟨?_, rfl⟩
    repeat (refine Below.setCell ?_ (by simp) _)
    exact hbb1
  | some s =>
    simp only at he
    subst he
    unfold Shp.val
    go_wp2_with fail
    refine bodyPost_ret (v := .tuple #[.agg #[.int .i64 (s.kind : Int), .string s.bytes, .bool s.id, .int .i64 (s.nums : Int), .int .i64 s.low, .int .i64 s.high, .bool s.pic], .bool true]) (by simp [results, Tryd.results19, go_sem, d0, d1, d2, d3, d4, d5, d6]) rfl ⟨?_, rfl⟩
    repeat (refine Below.setCell ?_ (by simp) _)
    exact hbb1
end Go.Proofs.YtkmolifgfbaboaaDoor
