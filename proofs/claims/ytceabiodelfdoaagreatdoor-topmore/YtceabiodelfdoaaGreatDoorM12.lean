/- Some of the walks, in one text. -/
import Derived.Test.YtceabiodelfdoaaGreatDoorM11
import Derived.StillTailTactics
import Derived.Lib.IndexBytes
/- Walk: a kind's shape, found by its name. -- s1 -/
namespace Go.Proofs.YtceabiodelfdoaaGreatDoor
open Go.RowKit

theorem txt_eq (a b : ByteArray) : (a.toList == b.toList) = decide (a = b) := by
  by_cases h : a = b
  · subst h; simp
  · rw [decide_eq_false h, beq_eq_false_iff_ne]
    intro e
    rw [ByteArray.toList_eq, ByteArray.toList_eq] at e
    exact h (WideShapes.bytes_inj e)
def nameAt (nm : ByteArray) : List Shp → Option Shp
  | [] => none
  | s :: r => if s.bytes = nm then some s else nameAt nm r
theorem nameAt_drop (nm : ByteArray) (k : Nat) (s : Shp) (h : shps[k]? = some s) : nameAt nm (shps.drop k) = if s.bytes = nm then some s else nameAt nm (shps.drop (k + 1)) := by
  obtain ⟨hk, e⟩ := List.getElem?_eq_some_iff.1 h
  rw [List.drop_eq_getElem_cons hk, e]
  rfl
theorem nameAt_mem (nm : ByteArray) : ∀ (l : List Shp) (s : Shp), nameAt nm l = some s → s ∈ l ∧ s.bytes = nm := by
  intro l
  induction l with
  | nil => intro s h; cases h
  | cons a r ih =>
    intro s h
    unfold nameAt at h
    split at h
    · obtain rfl := Option.some.inj h
      exact ⟨by simp, by assumption⟩
    · obtain ⟨h1, h2⟩ := ih s h
      exact ⟨by simp [h1], h2⟩
set_option maxHeartbeats 4000000 in
set_option maxRecDepth 100000 in
theorem nameF_any (s : Shp) (nm : ByteArray) (b : Nat) (w : World) (hb : b < w.heap.size) (HK : w.cell? ⟨b, 0, none⟩ = some (.string nm)) (t : Bool) (HT : Hid (decide (s.bytes = nm) = t)) :
    Calls Tryz.prog 45 #[s.val, .pointer (some ⟨b, 0, none⟩)] w fun e w' => e = .returned (.bool t) ∧ Below w.heap.size w w' := by
  have HK2 := (cell_old w (.cells #[.int .i64 (s.kind : Int), .string s.bytes, .bool s.id, .int .i64 (s.nums : Int), .int .i64 s.low, .int .i64 s.high, .bool s.pic] 92) b 0 hb).trans HK
  have hbz : Below w.heap.size w (w.alloc (.cells #[.int .i64 (s.kind : Int), .string s.bytes, .bool s.id, .int .i64 (s.nums : Int), .int .i64 s.low, .int .i64 s.high, .bool s.pic] 92)) := (Below.refl _ _).alloc (Nat.le_refl _) _
  have ht : (s.bytes.toList == nm.toList) = t := by rw [← HT.out]; exact txt_eq _ _
  unfold Shp.val
  go_enter Tryz.func45, Tryz.ntmps45
  go_wp2_with fail
  go_ret
  exact ⟨rfl, hbz⟩

set_option maxHeartbeats 4000000 in
set_option maxRecDepth 100000 in
theorem findN_any (nm : ByteArray) (b : Nat) (w : World) (HS : Hid (Shapes w)) (h1 : 0 < w.heap.size) (hb : b < w.heap.size) (HK : w.cell? ⟨b, 0, none⟩ = some (.string nm)) :
    Calls Tryz.prog 44 #[.func (.func 45) #[] #[.pointer (some ⟨b, 0, none⟩)]] w fun e w' => FindP (nameAt nm shps) w e w' := by
  have HS0 : Hid (Shapes (w.alloc (.cells #[.int .i64 0, .string ⟨#[]⟩, .bool false, .int .i64 0, .int .i64 0, .int .i64 0, .bool false] 92))) := HS.out.on h1 ((Below.refl _ _).alloc (Nat.le_refl _) _)
  have S0 := seven_start w (.int .i64 0) (.string ⟨#[]⟩) (.bool false) (.int .i64 0) (.int .i64 0) (.int .i64 0) (.bool false) 92 w.heap.size rfl
  have HK0 := (cell_old w (.cells #[.int .i64 0, .string ⟨#[]⟩, .bool false, .int .i64 0, .int .i64 0, .int .i64 0, .bool false] 92) b 0 hb).trans HK
  have hbz : Below w.heap.size w (w.alloc (.cells #[.int .i64 0, .string ⟨#[]⟩, .bool false, .int .i64 0, .int .i64 0, .int .i64 0, .bool false] 92)) := (Below.refl _ _).alloc (Nat.le_refl _) _
  go_enter Tryz.func44, Tryz.ntmps44
  go_wp2_with fail
  refine wp_load_mid 118 (Operand.global 0) rfl 0 0 rfl shpCells _ HS0.out.range Tryz.underlying118 rfl (by kernel_rfl) ?_
  simp only [Act.put]
  go_wp2_with fail
  obtain ⟨W0, HW0⟩ : ∃ W, Hid (w.alloc (.cells #[.int .i64 0, .string ⟨#[]⟩, .bool false, .int .i64 0, .int .i64 0, .int .i64 0, .bool false] 92) = W) := ⟨_, (rfl : _ = _)⟩
  rw [HW0.out] at HS0 S0 HK0 hbz
  rw [HW0.out]
  have HIX : Hid (∀ (k : Nat) (s : Shp), shps[k]? = some s → ∀ X, (Instr.index 118 (.agg shpCells.toArray) (.int .i64 (k : Int))).run Tryz.prog X = .ok s.val X) := shp_index
  obtain ⟨AV, HAV⟩ : ∃ A, Hid (shpCells.toArray = A) := ⟨_, (rfl : _ = _)⟩
  rw [HAV.out] at HIX
  rw [HAV.out]
  clear HS0 HS HAV
  have hbW : b < W0.heap.size := Nat.lt_of_lt_of_le hb hbz.size
  go_loopw [7] (fun kv wr => ∃ k : Nat, k ≤ 16 ∧ kv = .int .i64 (k : Int) ∧ Hid (nameAt nm shps = nameAt nm (shps.drop k)) ∧ Below W0.heap.size W0 wr) (fun kv _ => 16 - (intOf kv).toNat)
  case atStart => exact ⟨0, by omega, rfl, (rfl : _ = _), Below.refl _ _⟩
  case round =>
    obtain ⟨k, hk, rfl, HKD, hbr⟩ := hrel
    obtain ⟨d0, d1, d2, d3, d4, d5, d6, g0, g1, g2, g3, g4, g5, g6, lt2⟩ := S0.on hbr
    have hbbr := hbz.trans (hbr.mono hbz.size)
    by_cases hk2 : k < 16
    · obtain ⟨s, Hs⟩ : ∃ s, Hid (shps[k]? = some s) := ⟨_, List.getElem?_eq_getElem (by rw [shps_len]; exact hk2)⟩
      have hix := HIX.out k s Hs.out
      have HKS := hid_of3 (nameAt_drop nm k s Hs.out)
      have hbx : Below wr.heap.size wr (wr.alloc (.cells #[.int .i64 (s.kind : Int), .string s.bytes, .bool s.id, .int .i64 (s.nums : Int), .int .i64 s.low, .int .i64 s.high, .bool s.pic] 92)) := (Below.refl _ _).alloc (Nat.le_refl _) _
      have S1 := seven_start wr (.int .i64 (s.kind : Int)) (.string s.bytes) (.bool s.id) (.int .i64 (s.nums : Int)) (.int .i64 s.low) (.int .i64 s.high) (.bool s.pic) 92 wr.heap.size rfl
      have hbX := hbr.trans (hbx.mono hbr.size)
      have hbbX := hbbr.trans (hbx.mono hbbr.size)
      have hbx2 : b < (wr.alloc (.cells #[.int .i64 (s.kind : Int), .string s.bytes, .bool s.id, .int .i64 (s.nums : Int), .int .i64 s.low, .int .i64 s.high, .bool s.pic] 92)).heap.size := Nat.lt_of_lt_of_le hbW hbX.size
      have HKX : (wr.alloc (.cells #[.int .i64 (s.kind : Int), .string s.bytes, .bool s.id, .int .i64 (s.nums : Int), .int .i64 s.low, .int .i64 s.high, .bool s.pic] 92)).cell? ⟨b, 0, none⟩ = some (.string nm) := (hbX.cell (p := ⟨b, 0, none⟩) hbW).trans HK0
      have S0X := (S0.on hbr).on hbx
      clear d0 d1 d2 d3 d4 d5 d6 g0 g1 g2 g3 g4 g5 g6 lt2 hbx
      unfold Shp.val at hix
      go_wp2_with fail
      by_cases he : s.bytes = nm
      · rw [if_pos he] at HKS
        have HR : Hid (nameAt nm shps = some s) := by unfold Hid; rw [HKD.out, HKS.out]
        refine (nameF_any s nm b _ hbx2 HKX true (by unfold Hid; simpa using he)).mono ?_
        rintro e w1 ⟨rfl, hb1⟩
        have hbb1 := hbbX.trans (hb1.mono hbbX.size)
        obtain ⟨d0, d1, d2, d3, d4, d5, d6, g0, g1, g2, g3, g4, g5, g6, lt2⟩ := S0X.on hb1
        obtain ⟨e0, e1, e2, e3, e4, e5, e6, f0, f1, f2, f3, f4, f5, f6, lt3⟩ := S1.on hb1
        clear he HKS HKD hb1 hbbX
        go_wp2_with fail
        rw [HR.out]
        refine bodyPost_ret (v := .tuple #[.agg #[.int .i64 (s.kind : Int), .string s.bytes, .bool s.id, .int .i64 (s.nums : Int), .int .i64 s.low, .int .i64 s.high, .bool s.pic], .bool true]) (by simp [results, Tryz.results44, go_sem, d0, d1, d2, d3, d4, d5, d6]) rfl ⟨?_, rfl⟩
        repeat (refine Below.setCell ?_ (by simp) _)
        exact hbb1
      · rw [if_neg he] at HKS
        refine (nameF_any s nm b _ hbx2 HKX false (by unfold Hid; simpa using he)).mono ?_
        rintro e w1 ⟨rfl, hb1⟩
        have hbX1 := hbX.trans (hb1.mono hbX.size)
        clear he hb1
        go_wp2_with fail
        go_roundw
        case rel => exact ⟨k + 1, by omega, by go_num, HKD.out.trans HKS.out, hbX1⟩
        case measure => simp [intOf]; omega
    · obtain rfl : k = 16 := by omega
      have HR : Hid (nameAt nm shps = none) := by unfold Hid; rw [HKD.out]; rfl
      go_wp2_with fail
      rw [HR.out]
      refine bodyPost_ret (v := .tuple #[.agg #[.int .i64 0, .string ⟨#[]⟩, .bool false, .int .i64 0, .int .i64 0, .int .i64 0, .bool false], .bool false]) (by simp [results, Tryz.results44, go_sem, d0, d1, d2, d3, d4, d5, d6]) rfl ⟨?_, rfl⟩
      repeat (refine Below.setCell ?_ (by simp) _)
      exact hbbr
end Go.Proofs.YtceabiodelfdoaaGreatDoor
/- Walks: op.size, op.read. -- s1 -/
namespace Go.Proofs.YtceabiodelfdoaaGreatDoor
open Go.RowKit

def sizeS (s : Shp) : Nat := 2 * s.nums + (if s.id then 1 else 0)
/-- a number of a row of bytes -/
def numAt (bs : List UInt8) (j : Nat) : Int := ((bs.getD (2 * j) 0).toNat : Int) + 256 * ((bs.getD (2 * j + 1) 0).toNat : Int) - 128
def numK (bs : List UInt8) (n j : Nat) : Int := if j < n then numAt bs j else 0
/-- what is read of a row of bytes: all but a picture -/
def readQ (kind : Int) (id : Bool) (n : Nat) (bs : List UInt8) : Pq :=
  ⟨kind, if id then ((bs.getD 0 0).toNat : Int) else 0, numK (if id then bs.drop 1 else bs) n 0, numK (if id then bs.drop 1 else bs) n 1, numK (if id then bs.drop 1 else bs) n 2, numK (if id then bs.drop 1 else bs) n 3, 0, 0, []⟩

set_option maxHeartbeats 2000000 in
set_option maxRecDepth 100000 in
theorem sizeS_any (s : Shp) (w : World) (hn : s.nums ≤ 4) : Calls Tryz.prog 46 #[s.val] w fun e w' => e = .returned (.int .i64 (sizeS s : Nat)) ∧ Below w.heap.size w w' := by
  have hbz : Below w.heap.size w (w.alloc (.cells #[.int .i64 (s.kind : Int), .string s.bytes, .bool s.id, .int .i64 (s.nums : Int), .int .i64 s.low, .int .i64 s.high, .bool s.pic] 92)) := (Below.refl _ _).alloc (Nat.le_refl _) _
  obtain ⟨n, HN⟩ : ∃ n, Hid (s.nums = n) := ⟨_, (rfl : _ = _)⟩
  obtain ⟨b, HB⟩ : ∃ n, Hid (s.id = n) := ⟨_, (rfl : _ = _)⟩
  have hn4 : n ≤ 4 := by rw [← HN.out]; exact hn
  have e1 : IntKind.i64.wrap (2 * (n : Int)) = ((2 * n : Nat) : Int) := by rw [IntKind.wrap_i64]; omega
  have hf : sizeS s = 2 * n + (if b then 1 else 0) := by unfold sizeS; rw [HN.out, HB.out]
  rw [hf]
  unfold Shp.val
  rw [HN.out, HB.out] at hbz ⊢
  clear hf hn
  cases b with
  | true =>
    have e2 : IntKind.i64.wrap (((2 * n : Nat) : Int) + 1) = ((2 * n + 1 : Nat) : Int) := by rw [IntKind.wrap_i64]; omega
    go_enter Tryz.func46, Tryz.ntmps46
    go_wp2_with fail
    go_ret
    exact ⟨by first | rfl | (congr 2; simp; omega), hbz⟩
  | false =>
    go_enter Tryz.func46, Tryz.ntmps46
    go_wp2_with fail
    go_ret
    exact ⟨by first | rfl | (congr 2; simp; omega), hbz⟩

/-- four places -/
structure Slots (W : World) (g : Nat) (f : Nat → Int) : Prop where
  cell : ∀ j, j < 4 → W.cell? ⟨g, j, none⟩ = some (.int .i64 (f j))
  free : ∀ j, j < 4 → W.frozen? ⟨g, j, none⟩ = false
theorem Slots.set {W : World} {g : Nat} {f : Nat → Int} (h : Slots W g f) {k : Nat} (hk : k < 4) (x : Int) : Slots (W.setCell ⟨g, k, none⟩ (.int .i64 x)) g (fun j => if j = k then x else f j) := by
  refine ⟨fun j hj => ?_, fun j hj => (World.frozen?_setCell _ _ _ _).trans (h.free j hj)⟩
  by_cases e : j = k
  · subst e
    simp only [if_true]
    exact World.cell?_setCell_same _ _ _ (h.cell j hj)
  · simp only [if_neg e]
    exact (World.cell?_setCell_other _ ⟨g, k, none⟩ ⟨g, j, none⟩ _ (fun h2 => e (congrArg Addr.off h2).symm)).trans (h.cell j hj)
theorem Slots.on {W W' : World} {g : Nat} {f : Nat → Int} (h : Slots W g f) (hb : Below W.heap.size W W') (hg : g < W.heap.size) : Slots W' g f :=
  ⟨fun j hj => (hb.cell (p := ⟨g, j, none⟩) hg).trans (h.cell j hj), fun j hj => (World.frozen?_of_block (hb.block g hg)).trans (h.free j hj)⟩
theorem Slots.drew {W : World} {g : Nat} {f : Nat → Int} (h : Slots W g f) : Slots W.drew g f := ⟨h.cell, h.free⟩
theorem Slots.other {W : World} {g b : Nat} {f : Nat → Int} (h : Slots W g f) (hne : g ≠ b) (i : Nat) (v : Value) : Slots (W.setCell ⟨b, i, none⟩ v) g f :=
  ⟨fun j hj => (World.cell?_of_block (Below.heap_setCell W ⟨b, i, none⟩ v g hne)).trans (h.cell j hj), fun j hj => (World.frozen?_of_block (Below.heap_setCell W ⟨b, i, none⟩ v g hne)).trans (h.free j hj)⟩
theorem num_parts (bs : List UInt8) (j : Nat) (hj : j < 4) (m0 m1 : Nat) (h0 : (bs.getD (2 * j) 0).toNat = m0) (h1 : (bs.getD (2 * j + 1) 0).toNat = m1) (b0 : m0 ≤ 255) (b1 : m1 ≤ 255) :
    IntKind.i64.wrap (2 * (j : Int)) = ((2 * j : Nat) : Int) ∧ IntKind.i64.wrap (((2 * j : Nat) : Int) + 1) = ((2 * j + 1 : Nat) : Int) ∧ wrap64 (wrap64 (wrap64 (m0 : Int) + wrap64 (256 * wrap64 (m1 : Int))) - 128) = numAt bs j := by
  refine ⟨by rw [IntKind.wrap_i64]; omega, by rw [IntKind.wrap_i64]; omega, ?_⟩
  unfold numAt
  rw [h0, h1]
  have a1 : wrap64 (m1 : Int) = (m1 : Int) := by unfold wrap64; omega
  have a2 : wrap64 (256 * (m1 : Int)) = 256 * (m1 : Int) := by unfold wrap64; omega
  have a3 : wrap64 (m0 : Int) = (m0 : Int) := by unfold wrap64; omega
  have a4 : wrap64 ((m0 : Int) + 256 * (m1 : Int)) = (m0 : Int) + 256 * (m1 : Int) := by unfold wrap64; omega
  rw [a1, a2, a3, a4]
  unfold wrap64; omega
theorem numK_step (bs : List UInt8) (k : Nat) : (fun j => if j = k then numAt bs k else numK bs k j) = numK bs (k + 1) := by
  funext j
  unfold numK
  by_cases e : j = k
  · subst e; simp
  · rw [if_neg e]
    by_cases h : j < k
    · rw [if_pos h, if_pos (by omega)]
    · rw [if_neg h, if_neg (by omega)]
end Go.Proofs.YtceabiodelfdoaaGreatDoor
/- Walk: op.read. -- s1 -/
namespace Go.Proofs.YtceabiodelfdoaaGreatDoor
open Go.RowKit

set_option maxHeartbeats 8000000 in
set_option maxRecDepth 100000 in
theorem readS_any (s : Shp) (d : ByteArray) (w : World) (hn : s.nums ≤ 4) (hd : d.size = sizeS s) :
    Calls Tryz.prog 47 #[s.val, .string d] w fun e w' => e = .returned (opV (readQ s.kind s.id s.nums d.data.toList) (.slice none 0 0)) ∧ Below w.heap.size w w' := by
  obtain ⟨nn, HNN⟩ : ∃ n, Hid (s.nums = n) := ⟨_, (rfl : _ = _)⟩
  obtain ⟨fid, HB⟩ : ∃ n, Hid (s.id = n) := ⟨_, (rfl : _ = _)⟩
  have hn4 : nn ≤ 4 := by rw [← HNN.out]; exact hn
  have hds : d.size = 2 * nn + (if fid then 1 else 0) := by rw [hd]; unfold sizeS; rw [HNN.out, HB.out]
  have HDS := hid_of3 hds
  unfold Shp.val
  rw [HNN.out, HB.out]
  clear hd hn hds
  cases fid with
  | true =>
    have hsz : d.size = 2 * nn + 1 := HDS.out
    obtain ⟨i0, HI0⟩ : ∃ i, Hid (d.data.toList.getD 0 0 = i) := ⟨_, (rfl : _ = _)⟩
    obtain ⟨id0, HID⟩ : ∃ i, Hid (i0.toNat = i) := ⟨_, (rfl : _ = _)⟩
    have hix := nat_at d 0 i0 HI0 id0 HID
    have hwid : wrap64 (id0 : Int) = (id0 : Int) := by have := byte_le _ _ HID; unfold wrap64; omega
    have hpos : 0 < d.size := by omega
    have hpos1 : 1 ≤ d.size := by omega
    have hposI : (1 : Int) ≤ (d.size : Int) := by omega
    have HSZ0 := hid_of3 hsz
    clear hsz
    go_enter Tryz.func47, Tryz.ntmps47
    go_wp2_with fail
    obtain ⟨EE, HEE⟩ : ∃ E, Hid (d.extract 1 d.size = E) := ⟨_, (rfl : _ = _)⟩
    obtain ⟨bs, HBS0⟩ : ∃ b, Hid (EE.data.toList = b) := ⟨_, (rfl : _ = _)⟩
    have HBS : Hid (EE.data.toList = bs) := HBS0
    have HES : Hid (EE.size = 2 * nn) := by unfold Hid; rw [← HEE.out, ByteArray.size_extract]; have := HSZ0.out; omega
    have HDR : Hid (d.data.toList.drop 1 = bs) := by unfold Hid; rw [← HBS0.out, ← HEE.out]; exact (Lib.extract_to_end d 1).symm
    rw [HEE.out]
    clear hix hpos hpos1 hposI hwid
    obtain ⟨X0, HX0⟩ : ∃ W, Hid (((((w.alloc (.cells #[.int .i64 (s.kind : Int), .string s.bytes, .bool true, .int .i64 (nn : Int), .int .i64 s.low, .int .i64 s.high, .bool s.pic] 92)).alloc (.cells #[.int .i64 0, .int .i64 0, .int .i64 0, .int .i64 0, .int .i64 0, .int .i64 0, .int .i64 0, .int .i64 0, .slice none 0 0] 48)).alloc (.cells #[.int .i64 (s.kind : Int), .int .i64 (id0 : Int), .int .i64 0, .int .i64 0, .int .i64 0, .int .i64 0, .int .i64 0, .int .i64 0, .slice none 0 0] 48)).alloc (.cells #[.int .i64 0, .int .i64 0, .int .i64 0, .int .i64 0] 119)) = W) := ⟨_, (rfl : _ = _)⟩
    have hbz : Below w.heap.size w X0 := by rw [← HX0.out]; exact ((((Below.refl _ _).alloc (Nat.le_refl _) _).alloc (by simp) _).alloc (by simp; omega) _).alloc (by simp; omega) _
    have HSZ : Hid (X0.heap.size = w.heap.size + 4) := by unfold Hid; rw [← HX0.out]; simp
    have SL0 : Slots X0 (w.heap.size + 1 + 1 + 1) (numK bs 0) := by
      have F : Four X0 (w.heap.size + 1 + 1 + 1) (.int .i64 0) (.int .i64 0) (.int .i64 0) (.int .i64 0) := by rw [← HX0.out]; exact four_start _ _ _ _ _ 119 (w.heap.size + 1 + 1 + 1) (by simp)
      have e : ∀ j, numK bs 0 j = 0 := fun j => by unfold numK; rw [if_neg (by omega)]
      refine ⟨fun j hj => ?_, fun j hj => ?_⟩
      · rw [e]
        rcases (show j = 0 ∨ j = 1 ∨ j = 2 ∨ j = 3 by omega) with rfl | rfl | rfl | rfl
        · exact F.c0
        · exact F.c1
        · exact F.c2
        · exact F.c3
      · rcases (show j = 0 ∨ j = 1 ∨ j = 2 ∨ j = 3 by omega) with rfl | rfl | rfl | rfl
        · exact F.f0
        · exact F.f1
        · exact F.f2
        · exact F.f3
    have NO := hid_of3 (show Nine X0 (w.heap.size + 1 + 1) (.int .i64 (s.kind : Int)) (.int .i64 (id0 : Int)) (.int .i64 0) (.int .i64 0) (.int .i64 0) (.int .i64 0) (.int .i64 0) (.int .i64 0) (.slice none 0 0) by rw [← HX0.out]; exact (nine_start _ _ _ _ _ _ _ _ _ _ 48 (w.heap.size + 1 + 1) (by simp)).alloc _)
    have NR := hid_of3 (show Nine X0 (w.heap.size + 1) (.int .i64 0) (.int .i64 0) (.int .i64 0) (.int .i64 0) (.int .i64 0) (.int .i64 0) (.int .i64 0) (.int .i64 0) (.slice none 0 0) by rw [← HX0.out]; exact ((nine_start _ _ _ _ _ _ _ _ _ _ 48 (w.heap.size + 1) (by simp)).alloc _).alloc _)
    have HSL0 := hid_of3 SL0
    rw [HX0.out]
    clear HX0 SL0
    go_loopw [7, 21] (fun _ i wr => ∃ k : Nat, k ≤ nn ∧ i = .int .i64 k ∧ Hid (Slots wr (w.heap.size + 1 + 1 + 1) (numK bs k)) ∧ Below (w.heap.size + 1 + 1 + 1) X0 wr) (fun _ i _ => nn - (intOf i).toNat)
    case atStart => exact ⟨0, by omega, rfl, HSL0, Below.refl _ _⟩
    case round =>
      obtain ⟨k, hk, rfl, HSL, hbr⟩ := hrel
      by_cases hlt : k < nn
      · have hki : (k : Int) < (nn : Int) := by omega
        have hki0 : (0 : Int) ≤ (k : Int) := by omega
        have hki4 : (k : Int) < 4 := by omega
        have hk4 : k < 4 := by omega
        obtain ⟨d0, HD0⟩ : ∃ d, Hid (bs.getD (2 * k) 0 = d) := ⟨_, (rfl : _ = _)⟩
        obtain ⟨d1, HD1⟩ : ∃ d, Hid (bs.getD (2 * k + 1) 0 = d) := ⟨_, (rfl : _ = _)⟩
        obtain ⟨m0, HM0⟩ : ∃ d, Hid (d0.toNat = d) := ⟨_, (rfl : _ = _)⟩
        obtain ⟨m1, HM1⟩ : ∃ d, Hid (d1.toNat = d) := ⟨_, (rfl : _ = _)⟩
        obtain ⟨e1, e2, hval⟩ := num_parts bs k hk4 m0 m1 (by rw [HD0.out]; exact HM0.out) (by rw [HD1.out]; exact HM1.out) (byte_le _ _ HM0) (byte_le _ _ HM1)
        have HST := hid_of3 (numK_step bs k ▸ HSL.out.set hk4 (numAt bs k))
        obtain ⟨M, HM⟩ : ∃ M, Hid (2 * k = M) := ⟨_, (rfl : _ = _)⟩
        obtain ⟨M1, HMM1⟩ : ∃ M', Hid (M + 1 = M') := ⟨_, (rfl : _ = _)⟩
        obtain ⟨V, HV⟩ : ∃ M, Hid (numAt bs k = M) := ⟨_, (rfl : _ = _)⟩
        rw [HM.out] at e1 e2
        rw [HMM1.out] at e2
        rw [HV.out] at hval HST
        have HVAL := hid_of3 hval
        clear hval
        have hx0 := nat_at EE M d0 (by unfold Hid; rw [← HM.out, HBS.out]; exact HD0.out) m0 HM0
        have hx1 := nat_at EE M1 d1 (by unfold Hid; rw [← HMM1.out, ← HM.out, HBS.out]; exact HD1.out) m1 HM1
        have hM : M < EE.size := by have := HM.out; have := HES.out; omega
        have hM1 : M1 < EE.size := by have := HMM1.out; have := HM.out; have := HES.out; omega
        have hMi : (M : Int) < (EE.size : Int) := by omega
        have hMi1 : (M1 : Int) < (EE.size : Int) := by omega
        have c0 := HSL.out.cell k hk4
        have f0 := HSL.out.free k hk4
        clear HD0 HD1 HM0 HM1
        go_wp2_with fail
        go_still_tail 16, (by kernel_rfl)
        go_wp2_with fail
        rw [HVAL.out]
        exact ⟨⟨k + 1, by omega, by simp, HST.out.drew, (hbr.setCell (Nat.le_refl _) _).drew⟩, by simp [intOf]; omega⟩
      · have hki : ¬ (k : Int) < (nn : Int) := by omega
        obtain rfl : nn = k := by omega
        have HSD := hid_of3 HSL.out.drew
        obtain ⟨v0, HV0⟩ : ∃ v, Hid (numK bs nn 0 = v) := ⟨_, (rfl : _ = _)⟩
        obtain ⟨v1, HV1⟩ : ∃ v, Hid (numK bs nn 1 = v) := ⟨_, (rfl : _ = _)⟩
        obtain ⟨v2, HV2⟩ : ∃ v, Hid (numK bs nn 2 = v) := ⟨_, (rfl : _ = _)⟩
        obtain ⟨v3, HV3⟩ : ∃ v, Hid (numK bs nn 3 = v) := ⟨_, (rfl : _ = _)⟩
        have KS : Hid (∀ W', Slots W' (w.heap.size + 1 + 1 + 1) (numK bs nn) → (W'.cell? ⟨w.heap.size + 1 + 1 + 1, 0, none⟩ = some (.int .i64 v0) ∧ W'.cell? ⟨w.heap.size + 1 + 1 + 1, 1, none⟩ = some (.int .i64 v1) ∧ W'.cell? ⟨w.heap.size + 1 + 1 + 1, 2, none⟩ = some (.int .i64 v2) ∧ W'.cell? ⟨w.heap.size + 1 + 1 + 1, 3, none⟩ = some (.int .i64 v3))) := fun W' h => by
          rw [← HV0.out, ← HV1.out, ← HV2.out, ← HV3.out]
          exact ⟨h.cell 0 (by omega), h.cell 1 (by omega), h.cell 2 (by omega), h.cell 3 (by omega)⟩
        obtain ⟨k0, k1, k2, k3, k4, k5, k6, k7, k8, kf0, kf1, kf2, kf3, kf4, kf5, kf6, kf7, kf8, klt⟩ := NO.out.onB hbr (by omega)
        obtain ⟨r0, r1, r2, r3, r4, r5, r6, r7, r8, rf0, rf1, rf2, rf3, rf4, rf5, rf6, rf7, rf8, rlt⟩ := NR.out.onB hbr (by omega)
        have hbbr : Below w.heap.size w wr := hbz.trans (hbr.mono (by omega))
        clear HSL
        go_wp2_with fail
        refine wp_region_held_drew (S := (fun W' => W'.cell? ⟨w.heap.size + 1 + 1 + 1, 0, none⟩ = some (.int .i64 v0) ∧ W'.cell? ⟨w.heap.size + 1 + 1 + 1, 1, none⟩ = some (.int .i64 v1) ∧ W'.cell? ⟨w.heap.size + 1 + 1 + 1, 2, none⟩ = some (.int .i64 v2) ∧ W'.cell? ⟨w.heap.size + 1 + 1 + 1, 3, none⟩ = some (.int .i64 v3))) (by kernel_rfl) ?_ (fun hHeld => ?_)
        · exact KS.out _ HSD.out
        refine wpAnyH_take (i := 0) (oi := ({ dst := some 41, op := Op.indexAddr 119 (Operand.tmp 6) (Operand.const (Value.int IntKind.i64 0)), type := 0, pos := "op.go:174", after := #[], guard := none } : Oper)) (v := ?_) rfl (by kernel_rfl) (by kernel_rfl) (by kernel_rfl) (fun _ _ _ h => h) (Or.inl ⟨by rfl, ?_⟩) (by assumption) ?_
        rotate_left
        · (intro w hSw; (try dsimp only at hSw); go_simp; try with_reducible rfl)
        try simp only [Act.put, List.setIfInBounds_toArray, List.set_cons_zero, List.set_cons_succ]
        refine wpAnyH_take (i := 1) (oi := ({ dst := some 42, op := Op.load 3 (Operand.tmp 41), type := 3, pos := "op.go:174", after := #[{ on := 0, ground := Ground.data }], guard := none } : Oper)) (v := ?_) rfl (by kernel_rfl) (by kernel_rfl) (by kernel_rfl) (fun _ _ _ h => h) (Or.inl ⟨by rfl, ?_⟩) (by assumption) ?_
        rotate_left
        · (intro w hSw; (try dsimp only at hSw); go_simp; try with_reducible rfl)
        try simp only [Act.put, List.setIfInBounds_toArray, List.set_cons_zero, List.set_cons_succ]
        refine wpAnyH_take (i := 2) (oi := ({ dst := some 43, op := Op.indexAddr 119 (Operand.tmp 6) (Operand.const (Value.int IntKind.i64 1)), type := 0, pos := "op.go:174", after := #[{ on := 9, ground := Ground.gcOnly Departure.lateStores }], guard := none } : Oper)) (v := ?_) rfl (by kernel_rfl) (by kernel_rfl) (by kernel_rfl) (fun _ _ _ h => h) (Or.inl ⟨by rfl, ?_⟩) (by assumption) ?_
        rotate_left
        · (intro w hSw; (try dsimp only at hSw); go_simp; try with_reducible rfl)
        try simp only [Act.put, List.setIfInBounds_toArray, List.set_cons_zero, List.set_cons_succ]
        refine wpAnyH_take (i := 3) (oi := ({ dst := some 44, op := Op.load 3 (Operand.tmp 43), type := 3, pos := "op.go:174", after := #[{ on := 2, ground := Ground.data }, { on := 9, ground := Ground.gcOnly Departure.lateStores }], guard := none } : Oper)) (v := ?_) rfl (by kernel_rfl) (by kernel_rfl) (by kernel_rfl) (fun _ _ _ h => h) (Or.inl ⟨by rfl, ?_⟩) (by assumption) ?_
        rotate_left
        · (intro w hSw; (try dsimp only at hSw); go_simp; try with_reducible rfl)
        try simp only [Act.put, List.setIfInBounds_toArray, List.set_cons_zero, List.set_cons_succ]
        refine wpAnyH_take (i := 4) (oi := ({ dst := some 45, op := Op.indexAddr 119 (Operand.tmp 6) (Operand.const (Value.int IntKind.i64 2)), type := 0, pos := "op.go:174", after := #[{ on := 11, ground := Ground.gcOnly Departure.lateStores }], guard := none } : Oper)) (v := ?_) rfl (by kernel_rfl) (by kernel_rfl) (by kernel_rfl) (fun _ _ _ h => h) (Or.inl ⟨by rfl, ?_⟩) (by assumption) ?_
        rotate_left
        · (intro w hSw; (try dsimp only at hSw); go_simp; try with_reducible rfl)
        try simp only [Act.put, List.setIfInBounds_toArray, List.set_cons_zero, List.set_cons_succ]
        refine wpAnyH_take (i := 5) (oi := ({ dst := some 46, op := Op.load 3 (Operand.tmp 45), type := 3, pos := "op.go:174", after := #[{ on := 4, ground := Ground.data }, { on := 11, ground := Ground.gcOnly Departure.lateStores }], guard := none } : Oper)) (v := ?_) rfl (by kernel_rfl) (by kernel_rfl) (by kernel_rfl) (fun _ _ _ h => h) (Or.inl ⟨by rfl, ?_⟩) (by assumption) ?_
        rotate_left
        · (intro w hSw; (try dsimp only at hSw); go_simp; try with_reducible rfl)
        try simp only [Act.put, List.setIfInBounds_toArray, List.set_cons_zero, List.set_cons_succ]
        refine wpAnyH_take (i := 6) (oi := ({ dst := some 47, op := Op.indexAddr 119 (Operand.tmp 6) (Operand.const (Value.int IntKind.i64 3)), type := 0, pos := "op.go:174", after := #[{ on := 13, ground := Ground.gcOnly Departure.lateStores }], guard := none } : Oper)) (v := ?_) rfl (by kernel_rfl) (by kernel_rfl) (by kernel_rfl) (fun _ _ _ h => h) (Or.inl ⟨by rfl, ?_⟩) (by assumption) ?_
        rotate_left
        · (intro w hSw; (try dsimp only at hSw); go_simp; try with_reducible rfl)
        try simp only [Act.put, List.setIfInBounds_toArray, List.set_cons_zero, List.set_cons_succ]
        refine wpAnyH_take (i := 7) (oi := ({ dst := some 48, op := Op.load 3 (Operand.tmp 47), type := 3, pos := "op.go:174", after := #[{ on := 6, ground := Ground.data }, { on := 13, ground := Ground.gcOnly Departure.lateStores }], guard := none } : Oper)) (v := ?_) rfl (by kernel_rfl) (by kernel_rfl) (by kernel_rfl) (fun _ _ _ h => h) (Or.inl ⟨by rfl, ?_⟩) (by assumption) ?_
        rotate_left
        · (intro w hSw; (try dsimp only at hSw); go_simp; try with_reducible rfl)
        try simp only [Act.put, List.setIfInBounds_toArray, List.set_cons_zero, List.set_cons_succ]
        refine wpAnyH_take (i := 8) (oi := ({ dst := some 49, op := Op.fieldAddr 48 (Operand.tmp 5) 2, type := 0, pos := "op.go:174", after := #[{ on := 0, ground := Ground.phase }, { on := 1, ground := Ground.phase }, { on := 2, ground := Ground.textOnly Departure.lateStores }, { on := 3, ground := Ground.textOnly Departure.lateStores }, { on := 4, ground := Ground.textOnly Departure.lateStores }, { on := 5, ground := Ground.textOnly Departure.lateStores }, { on := 6, ground := Ground.textOnly Departure.lateStores }, { on := 7, ground := Ground.textOnly Departure.lateStores }], guard := none } : Oper)) (v := ?_) rfl (by kernel_rfl) (by kernel_rfl) (by kernel_rfl) (fun _ _ _ h => h) (Or.inl ⟨by rfl, ?_⟩) (by assumption) ?_
        rotate_left
        · (intro w hSw; (try dsimp only at hSw); go_simp; try with_reducible rfl)
        try simp only [Act.put, List.setIfInBounds_toArray, List.set_cons_zero, List.set_cons_succ]
        refine wpAnyH_ready (rs := [9]) (by kernel_rfl) (by simp) ?_
        refine AllReadyH.cons (o := ({ dst := none, op := Op.store 3 (Operand.tmp 49) (Operand.tmp 42), type := 0, pos := "op.go:174", after := #[{ on := 8, ground := Ground.data }, { on := 1, ground := Ground.data }, { on := 0, ground := Ground.phase }, { on := 1, ground := Ground.phase }, { on := 2, ground := Ground.textOnly Departure.lateStores }, { on := 3, ground := Ground.textOnly Departure.lateStores }, { on := 4, ground := Ground.textOnly Departure.lateStores }, { on := 5, ground := Ground.textOnly Departure.lateStores }, { on := 6, ground := Ground.textOnly Departure.lateStores }, { on := 7, ground := Ground.textOnly Departure.lateStores }], guard := none } : Oper)) rfl (fun K_ hK => ?_) AllReadyH.nil
        go_simp
        refine hK.out _ _ ?_ (fun hHeld => ?_)
        · exact KS.out _ (HSD.out.other (show w.heap.size + 1 + 1 + 1 ≠ w.heap.size + 1 + 1 by omega) 2 _)
        clear hK K_
        try simp only [Act.put, List.setIfInBounds_toArray, List.set_cons_zero, List.set_cons_succ]
        refine wpAnyH_take (i := 10) (oi := ({ dst := some 50, op := Op.fieldAddr 48 (Operand.tmp 5) 3, type := 0, pos := "op.go:174", after := #[{ on := 0, ground := Ground.phase }, { on := 1, ground := Ground.phase }, { on := 2, ground := Ground.phase }, { on := 3, ground := Ground.phase }, { on := 4, ground := Ground.textOnly Departure.lateStores }, { on := 5, ground := Ground.textOnly Departure.lateStores }, { on := 6, ground := Ground.textOnly Departure.lateStores }, { on := 7, ground := Ground.textOnly Departure.lateStores }, { on := 8, ground := Ground.phase }, { on := 9, ground := Ground.phase }], guard := none } : Oper)) (v := ?_) rfl (by kernel_rfl) (by kernel_rfl) (by kernel_rfl) (fun _ _ _ h => h) (Or.inl ⟨by rfl, ?_⟩) (by assumption) ?_
        rotate_left
        · (intro w hSw; (try dsimp only at hSw); go_simp; try with_reducible rfl)
        try simp only [Act.put, List.setIfInBounds_toArray, List.set_cons_zero, List.set_cons_succ]
        refine wpAnyH_ready (rs := [11]) (by kernel_rfl) (by simp) ?_
        refine AllReadyH.cons (o := ({ dst := none, op := Op.store 3 (Operand.tmp 50) (Operand.tmp 44), type := 0, pos := "op.go:174", after := #[{ on := 10, ground := Ground.data }, { on := 3, ground := Ground.data }, { on := 9, ground := Ground.chain }, { on := 0, ground := Ground.phase }, { on := 1, ground := Ground.phase }, { on := 2, ground := Ground.phase }, { on := 3, ground := Ground.phase }, { on := 4, ground := Ground.textOnly Departure.lateStores }, { on := 5, ground := Ground.textOnly Departure.lateStores }, { on := 6, ground := Ground.textOnly Departure.lateStores }, { on := 7, ground := Ground.textOnly Departure.lateStores }, { on := 8, ground := Ground.phase }, { on := 9, ground := Ground.phase }], guard := none } : Oper)) rfl (fun K_ hK => ?_) AllReadyH.nil
        go_simp
        refine hK.out _ _ ?_ (fun hHeld => ?_)
        · exact KS.out _ ((HSD.out.other (show w.heap.size + 1 + 1 + 1 ≠ w.heap.size + 1 + 1 by omega) 2 _).other (show w.heap.size + 1 + 1 + 1 ≠ w.heap.size + 1 + 1 by omega) 3 _)
        clear hK K_
        try simp only [Act.put, List.setIfInBounds_toArray, List.set_cons_zero, List.set_cons_succ]
        refine wpAnyH_take (i := 12) (oi := ({ dst := some 51, op := Op.fieldAddr 48 (Operand.tmp 5) 4, type := 0, pos := "op.go:174", after := #[{ on := 0, ground := Ground.phase }, { on := 1, ground := Ground.phase }, { on := 2, ground := Ground.phase }, { on := 3, ground := Ground.phase }, { on := 4, ground := Ground.phase }, { on := 5, ground := Ground.phase }, { on := 6, ground := Ground.textOnly Departure.lateStores }, { on := 7, ground := Ground.textOnly Departure.lateStores }, { on := 8, ground := Ground.phase }, { on := 9, ground := Ground.phase }, { on := 10, ground := Ground.phase }, { on := 11, ground := Ground.phase }], guard := none } : Oper)) (v := ?_) rfl (by kernel_rfl) (by kernel_rfl) (by kernel_rfl) (fun _ _ _ h => h) (Or.inl ⟨by rfl, ?_⟩) (by assumption) ?_
        rotate_left
        · (intro w hSw; (try dsimp only at hSw); go_simp; try with_reducible rfl)
        try simp only [Act.put, List.setIfInBounds_toArray, List.set_cons_zero, List.set_cons_succ]
        refine wpAnyH_ready (rs := [13]) (by kernel_rfl) (by simp) ?_
        refine AllReadyH.cons (o := ({ dst := none, op := Op.store 3 (Operand.tmp 51) (Operand.tmp 46), type := 0, pos := "op.go:174", after := #[{ on := 12, ground := Ground.data }, { on := 5, ground := Ground.data }, { on := 11, ground := Ground.chain }, { on := 0, ground := Ground.phase }, { on := 1, ground := Ground.phase }, { on := 2, ground := Ground.phase }, { on := 3, ground := Ground.phase }, { on := 4, ground := Ground.phase }, { on := 5, ground := Ground.phase }, { on := 6, ground := Ground.textOnly Departure.lateStores }, { on := 7, ground := Ground.textOnly Departure.lateStores }, { on := 8, ground := Ground.phase }, { on := 9, ground := Ground.phase }, { on := 10, ground := Ground.phase }, { on := 11, ground := Ground.phase }], guard := none } : Oper)) rfl (fun K_ hK => ?_) AllReadyH.nil
        go_simp
        refine hK.out _ _ ?_ (fun hHeld => ?_)
        · exact KS.out _ (((HSD.out.other (show w.heap.size + 1 + 1 + 1 ≠ w.heap.size + 1 + 1 by omega) 2 _).other (show w.heap.size + 1 + 1 + 1 ≠ w.heap.size + 1 + 1 by omega) 3 _).other (show w.heap.size + 1 + 1 + 1 ≠ w.heap.size + 1 + 1 by omega) 4 _)
        clear hK K_
        try simp only [Act.put, List.setIfInBounds_toArray, List.set_cons_zero, List.set_cons_succ]
        refine wpAnyH_take (i := 14) (oi := ({ dst := some 52, op := Op.fieldAddr 48 (Operand.tmp 5) 5, type := 0, pos := "op.go:174", after := #[{ on := 0, ground := Ground.phase }, { on := 1, ground := Ground.phase }, { on := 2, ground := Ground.phase }, { on := 3, ground := Ground.phase }, { on := 4, ground := Ground.phase }, { on := 5, ground := Ground.phase }, { on := 6, ground := Ground.phase }, { on := 7, ground := Ground.phase }, { on := 8, ground := Ground.phase }, { on := 9, ground := Ground.phase }, { on := 10, ground := Ground.phase }, { on := 11, ground := Ground.phase }, { on := 12, ground := Ground.phase }, { on := 13, ground := Ground.phase }], guard := none } : Oper)) (v := ?_) rfl (by kernel_rfl) (by kernel_rfl) (by kernel_rfl) (fun _ _ _ h => h) (Or.inl ⟨by rfl, ?_⟩) (by assumption) ?_
        rotate_left
        · (intro w hSw; (try dsimp only at hSw); go_simp; try with_reducible rfl)
        try simp only [Act.put, List.setIfInBounds_toArray, List.set_cons_zero, List.set_cons_succ]
        refine wpAnyH_ready (rs := [15]) (by kernel_rfl) (by simp) ?_
        refine AllReadyH.cons (o := ({ dst := none, op := Op.store 3 (Operand.tmp 52) (Operand.tmp 48), type := 0, pos := "op.go:174", after := #[{ on := 14, ground := Ground.data }, { on := 7, ground := Ground.data }, { on := 13, ground := Ground.chain }, { on := 0, ground := Ground.phase }, { on := 1, ground := Ground.phase }, { on := 2, ground := Ground.phase }, { on := 3, ground := Ground.phase }, { on := 4, ground := Ground.phase }, { on := 5, ground := Ground.phase }, { on := 6, ground := Ground.phase }, { on := 7, ground := Ground.phase }, { on := 8, ground := Ground.phase }, { on := 9, ground := Ground.phase }, { on := 10, ground := Ground.phase }, { on := 11, ground := Ground.phase }, { on := 12, ground := Ground.phase }, { on := 13, ground := Ground.phase }], guard := none } : Oper)) rfl (fun K_ hK => ?_) AllReadyH.nil
        go_simp
        refine hK.out _ _ ?_ (fun hHeld => ?_)
        · exact KS.out _ ((((HSD.out.other (show w.heap.size + 1 + 1 + 1 ≠ w.heap.size + 1 + 1 by omega) 2 _).other (show w.heap.size + 1 + 1 + 1 ≠ w.heap.size + 1 + 1 by omega) 3 _).other (show w.heap.size + 1 + 1 + 1 ≠ w.heap.size + 1 + 1 by omega) 4 _).other (show w.heap.size + 1 + 1 + 1 ≠ w.heap.size + 1 + 1 by omega) 5 _)
        clear hK K_
        try simp only [Act.put, List.setIfInBounds_toArray, List.set_cons_zero, List.set_cons_succ]
        refine wpAnyH_done (by kernel_rfl) ?_ _
        go_wp2_with fail
        have HRD : Hid (readQ (s.kind : Int) true nn d.data.toList = ⟨s.kind, (id0 : Int), v0, v1, v2, v3, 0, 0, []⟩) := by
          unfold Hid readQ
          rw [if_pos rfl, if_pos rfl, HI0.out, HID.out, HDR.out, HV0.out, HV1.out, HV2.out, HV3.out]
        rw [HRD.out]
        refine bodyPost_ret (v := .agg #[.int .i64 (s.kind : Int), .int .i64 (id0 : Int), .int .i64 v0, .int .i64 v1, .int .i64 v2, .int .i64 v3, .int .i64 0, .int .i64 0, .slice none 0 0]) (by simp [results, Tryz.results47, go_sem, r0, r1, r2, r3, r4, r5, r6, r7, r8]) rfl ⟨rfl, ?_⟩
        refine Below.drew ?_
        repeat (refine Below.setCell ?_ (by first | (simp; done) | (simp; omega)) _)
        exact hbbr
  | false =>
    have HSZ0 := hid_of3 HDS.out
    go_enter Tryz.func47, Tryz.ntmps47
    go_wp2_with fail
    obtain ⟨bs, HBS⟩ : ∃ b, Hid (d.data.toList = b) := ⟨_, (rfl : _ = _)⟩
    have HES : Hid (d.size = 2 * nn) := HDS.out
    obtain ⟨X0, HX0⟩ : ∃ W, Hid (((((w.alloc (.cells #[.int .i64 (s.kind : Int), .string s.bytes, .bool false, .int .i64 (nn : Int), .int .i64 s.low, .int .i64 s.high, .bool s.pic] 92)).alloc (.cells #[.int .i64 0, .int .i64 0, .int .i64 0, .int .i64 0, .int .i64 0, .int .i64 0, .int .i64 0, .int .i64 0, .slice none 0 0] 48)).alloc (.cells #[.int .i64 (s.kind : Int), .int .i64 0, .int .i64 0, .int .i64 0, .int .i64 0, .int .i64 0, .int .i64 0, .int .i64 0, .slice none 0 0] 48)).alloc (.cells #[.int .i64 0, .int .i64 0, .int .i64 0, .int .i64 0] 119)) = W) := ⟨_, (rfl : _ = _)⟩
    have hbz : Below w.heap.size w X0 := by rw [← HX0.out]; exact ((((Below.refl _ _).alloc (Nat.le_refl _) _).alloc (by simp) _).alloc (by simp; omega) _).alloc (by simp; omega) _
    have HSZ : Hid (X0.heap.size = w.heap.size + 4) := by unfold Hid; rw [← HX0.out]; simp
    have SL0 : Slots X0 (w.heap.size + 1 + 1 + 1) (numK bs 0) := by
      have F : Four X0 (w.heap.size + 1 + 1 + 1) (.int .i64 0) (.int .i64 0) (.int .i64 0) (.int .i64 0) := by rw [← HX0.out]; exact four_start _ _ _ _ _ 119 (w.heap.size + 1 + 1 + 1) (by simp)
      have e : ∀ j, numK bs 0 j = 0 := fun j => by unfold numK; rw [if_neg (by omega)]
      refine ⟨fun j hj => ?_, fun j hj => ?_⟩
      · rw [e]
        rcases (show j = 0 ∨ j = 1 ∨ j = 2 ∨ j = 3 by omega) with rfl | rfl | rfl | rfl
        · exact F.c0
        · exact F.c1
        · exact F.c2
        · exact F.c3
      · rcases (show j = 0 ∨ j = 1 ∨ j = 2 ∨ j = 3 by omega) with rfl | rfl | rfl | rfl
        · exact F.f0
        · exact F.f1
        · exact F.f2
        · exact F.f3
    have NO := hid_of3 (show Nine X0 (w.heap.size + 1 + 1) (.int .i64 (s.kind : Int)) (.int .i64 0) (.int .i64 0) (.int .i64 0) (.int .i64 0) (.int .i64 0) (.int .i64 0) (.int .i64 0) (.slice none 0 0) by rw [← HX0.out]; exact (nine_start _ _ _ _ _ _ _ _ _ _ 48 (w.heap.size + 1 + 1) (by simp)).alloc _)
    have NR := hid_of3 (show Nine X0 (w.heap.size + 1) (.int .i64 0) (.int .i64 0) (.int .i64 0) (.int .i64 0) (.int .i64 0) (.int .i64 0) (.int .i64 0) (.int .i64 0) (.slice none 0 0) by rw [← HX0.out]; exact ((nine_start _ _ _ _ _ _ _ _ _ _ 48 (w.heap.size + 1) (by simp)).alloc _).alloc _)
    have HSL0 := hid_of3 SL0
    rw [HX0.out]
    clear HX0 SL0
    go_loopw [7, 21] (fun _ i wr => ∃ k : Nat, k ≤ nn ∧ i = .int .i64 k ∧ Hid (Slots wr (w.heap.size + 1 + 1 + 1) (numK bs k)) ∧ Below (w.heap.size + 1 + 1 + 1) X0 wr) (fun _ i _ => nn - (intOf i).toNat)
    case atStart => exact ⟨0, by omega, rfl, HSL0, Below.refl _ _⟩
    case round =>
      obtain ⟨k, hk, rfl, HSL, hbr⟩ := hrel
      by_cases hlt : k < nn
      · have hki : (k : Int) < (nn : Int) := by omega
        have hki0 : (0 : Int) ≤ (k : Int) := by omega
        have hki4 : (k : Int) < 4 := by omega
        have hk4 : k < 4 := by omega
        obtain ⟨d0, HD0⟩ : ∃ d, Hid (bs.getD (2 * k) 0 = d) := ⟨_, (rfl : _ = _)⟩
        obtain ⟨d1, HD1⟩ : ∃ d, Hid (bs.getD (2 * k + 1) 0 = d) := ⟨_, (rfl : _ = _)⟩
        obtain ⟨m0, HM0⟩ : ∃ d, Hid (d0.toNat = d) := ⟨_, (rfl : _ = _)⟩
        obtain ⟨m1, HM1⟩ : ∃ d, Hid (d1.toNat = d) := ⟨_, (rfl : _ = _)⟩
        obtain ⟨e1, e2, hval⟩ := num_parts bs k hk4 m0 m1 (by rw [HD0.out]; exact HM0.out) (by rw [HD1.out]; exact HM1.out) (byte_le _ _ HM0) (byte_le _ _ HM1)
        have HST := hid_of3 (numK_step bs k ▸ HSL.out.set hk4 (numAt bs k))
        obtain ⟨M, HM⟩ : ∃ M, Hid (2 * k = M) := ⟨_, (rfl : _ = _)⟩
        obtain ⟨M1, HMM1⟩ : ∃ M', Hid (M + 1 = M') := ⟨_, (rfl : _ = _)⟩
        obtain ⟨V, HV⟩ : ∃ M, Hid (numAt bs k = M) := ⟨_, (rfl : _ = _)⟩
        rw [HM.out] at e1 e2
        rw [HMM1.out] at e2
        rw [HV.out] at hval HST
        have HVAL := hid_of3 hval
        clear hval
        have hx0 := nat_at d M d0 (by unfold Hid; rw [← HM.out, HBS.out]; exact HD0.out) m0 HM0
        have hx1 := nat_at d M1 d1 (by unfold Hid; rw [← HMM1.out, ← HM.out, HBS.out]; exact HD1.out) m1 HM1
        have hM : M < d.size := by have := HM.out; have := HES.out; omega
        have hM1 : M1 < d.size := by have := HMM1.out; have := HM.out; have := HES.out; omega
        have hMi : (M : Int) < (d.size : Int) := by omega
        have hMi1 : (M1 : Int) < (d.size : Int) := by omega
        have c0 := HSL.out.cell k hk4
        have f0 := HSL.out.free k hk4
        clear HD0 HD1 HM0 HM1
        go_wp2_with fail
        go_still_tail 16, (by kernel_rfl)
        go_wp2_with fail
        rw [HVAL.out]
        exact ⟨⟨k + 1, by omega, by simp, HST.out.drew, (hbr.setCell (Nat.le_refl _) _).drew⟩, by simp [intOf]; omega⟩
      · have hki : ¬ (k : Int) < (nn : Int) := by omega
        obtain rfl : nn = k := by omega
        have HSD := hid_of3 HSL.out.drew
        obtain ⟨v0, HV0⟩ : ∃ v, Hid (numK bs nn 0 = v) := ⟨_, (rfl : _ = _)⟩
        obtain ⟨v1, HV1⟩ : ∃ v, Hid (numK bs nn 1 = v) := ⟨_, (rfl : _ = _)⟩
        obtain ⟨v2, HV2⟩ : ∃ v, Hid (numK bs nn 2 = v) := ⟨_, (rfl : _ = _)⟩
        obtain ⟨v3, HV3⟩ : ∃ v, Hid (numK bs nn 3 = v) := ⟨_, (rfl : _ = _)⟩
        have KS : Hid (∀ W', Slots W' (w.heap.size + 1 + 1 + 1) (numK bs nn) → (W'.cell? ⟨w.heap.size + 1 + 1 + 1, 0, none⟩ = some (.int .i64 v0) ∧ W'.cell? ⟨w.heap.size + 1 + 1 + 1, 1, none⟩ = some (.int .i64 v1) ∧ W'.cell? ⟨w.heap.size + 1 + 1 + 1, 2, none⟩ = some (.int .i64 v2) ∧ W'.cell? ⟨w.heap.size + 1 + 1 + 1, 3, none⟩ = some (.int .i64 v3))) := fun W' h => by
          rw [← HV0.out, ← HV1.out, ← HV2.out, ← HV3.out]
          exact ⟨h.cell 0 (by omega), h.cell 1 (by omega), h.cell 2 (by omega), h.cell 3 (by omega)⟩
        obtain ⟨k0, k1, k2, k3, k4, k5, k6, k7, k8, kf0, kf1, kf2, kf3, kf4, kf5, kf6, kf7, kf8, klt⟩ := NO.out.onB hbr (by omega)
        obtain ⟨r0, r1, r2, r3, r4, r5, r6, r7, r8, rf0, rf1, rf2, rf3, rf4, rf5, rf6, rf7, rf8, rlt⟩ := NR.out.onB hbr (by omega)
        have hbbr : Below w.heap.size w wr := hbz.trans (hbr.mono (by omega))
        clear HSL
        go_wp2_with fail
        refine wp_region_held_drew (S := (fun W' => W'.cell? ⟨w.heap.size + 1 + 1 + 1, 0, none⟩ = some (.int .i64 v0) ∧ W'.cell? ⟨w.heap.size + 1 + 1 + 1, 1, none⟩ = some (.int .i64 v1) ∧ W'.cell? ⟨w.heap.size + 1 + 1 + 1, 2, none⟩ = some (.int .i64 v2) ∧ W'.cell? ⟨w.heap.size + 1 + 1 + 1, 3, none⟩ = some (.int .i64 v3))) (by kernel_rfl) ?_ (fun hHeld => ?_)
        · exact KS.out _ HSD.out
        refine wpAnyH_take (i := 0) (oi := ({ dst := some 41, op := Op.indexAddr 119 (Operand.tmp 6) (Operand.const (Value.int IntKind.i64 0)), type := 0, pos := "op.go:174", after := #[], guard := none } : Oper)) (v := ?_) rfl (by kernel_rfl) (by kernel_rfl) (by kernel_rfl) (fun _ _ _ h => h) (Or.inl ⟨by rfl, ?_⟩) (by assumption) ?_
        rotate_left
        · (intro w hSw; (try dsimp only at hSw); go_simp; try with_reducible rfl)
        try simp only [Act.put, List.setIfInBounds_toArray, List.set_cons_zero, List.set_cons_succ]
        refine wpAnyH_take (i := 1) (oi := ({ dst := some 42, op := Op.load 3 (Operand.tmp 41), type := 3, pos := "op.go:174", after := #[{ on := 0, ground := Ground.data }], guard := none } : Oper)) (v := ?_) rfl (by kernel_rfl) (by kernel_rfl) (by kernel_rfl) (fun _ _ _ h => h) (Or.inl ⟨by rfl, ?_⟩) (by assumption) ?_
        rotate_left
        · (intro w hSw; (try dsimp only at hSw); go_simp; try with_reducible rfl)
        try simp only [Act.put, List.setIfInBounds_toArray, List.set_cons_zero, List.set_cons_succ]
        refine wpAnyH_take (i := 2) (oi := ({ dst := some 43, op := Op.indexAddr 119 (Operand.tmp 6) (Operand.const (Value.int IntKind.i64 1)), type := 0, pos := "op.go:174", after := #[{ on := 9, ground := Ground.gcOnly Departure.lateStores }], guard := none } : Oper)) (v := ?_) rfl (by kernel_rfl) (by kernel_rfl) (by kernel_rfl) (fun _ _ _ h => h) (Or.inl ⟨by rfl, ?_⟩) (by assumption) ?_
        rotate_left
        · (intro w hSw; (try dsimp only at hSw); go_simp; try with_reducible rfl)
        try simp only [Act.put, List.setIfInBounds_toArray, List.set_cons_zero, List.set_cons_succ]
        refine wpAnyH_take (i := 3) (oi := ({ dst := some 44, op := Op.load 3 (Operand.tmp 43), type := 3, pos := "op.go:174", after := #[{ on := 2, ground := Ground.data }, { on := 9, ground := Ground.gcOnly Departure.lateStores }], guard := none } : Oper)) (v := ?_) rfl (by kernel_rfl) (by kernel_rfl) (by kernel_rfl) (fun _ _ _ h => h) (Or.inl ⟨by rfl, ?_⟩) (by assumption) ?_
        rotate_left
        · (intro w hSw; (try dsimp only at hSw); go_simp; try with_reducible rfl)
        try simp only [Act.put, List.setIfInBounds_toArray, List.set_cons_zero, List.set_cons_succ]
        refine wpAnyH_take (i := 4) (oi := ({ dst := some 45, op := Op.indexAddr 119 (Operand.tmp 6) (Operand.const (Value.int IntKind.i64 2)), type := 0, pos := "op.go:174", after := #[{ on := 11, ground := Ground.gcOnly Departure.lateStores }], guard := none } : Oper)) (v := ?_) rfl (by kernel_rfl) (by kernel_rfl) (by kernel_rfl) (fun _ _ _ h => h) (Or.inl ⟨by rfl, ?_⟩) (by assumption) ?_
        rotate_left
        · (intro w hSw; (try dsimp only at hSw); go_simp; try with_reducible rfl)
        try simp only [Act.put, List.setIfInBounds_toArray, List.set_cons_zero, List.set_cons_succ]
        refine wpAnyH_take (i := 5) (oi := ({ dst := some 46, op := Op.load 3 (Operand.tmp 45), type := 3, pos := "op.go:174", after := #[{ on := 4, ground := Ground.data }, { on := 11, ground := Ground.gcOnly Departure.lateStores }], guard := none } : Oper)) (v := ?_) rfl (by kernel_rfl) (by kernel_rfl) (by kernel_rfl) (fun _ _ _ h => h) (Or.inl ⟨by rfl, ?_⟩) (by assumption) ?_
        rotate_left
        · (intro w hSw; (try dsimp only at hSw); go_simp; try with_reducible rfl)
        try simp only [Act.put, List.setIfInBounds_toArray, List.set_cons_zero, List.set_cons_succ]
        refine wpAnyH_take (i := 6) (oi := ({ dst := some 47, op := Op.indexAddr 119 (Operand.tmp 6) (Operand.const (Value.int IntKind.i64 3)), type := 0, pos := "op.go:174", after := #[{ on := 13, ground := Ground.gcOnly Departure.lateStores }], guard := none } : Oper)) (v := ?_) rfl (by kernel_rfl) (by kernel_rfl) (by kernel_rfl) (fun _ _ _ h => h) (Or.inl ⟨by rfl, ?_⟩) (by assumption) ?_
        rotate_left
        · (intro w hSw; (try dsimp only at hSw); go_simp; try with_reducible rfl)
        try simp only [Act.put, List.setIfInBounds_toArray, List.set_cons_zero, List.set_cons_succ]
        refine wpAnyH_take (i := 7) (oi := ({ dst := some 48, op := Op.load 3 (Operand.tmp 47), type := 3, pos := "op.go:174", after := #[{ on := 6, ground := Ground.data }, { on := 13, ground := Ground.gcOnly Departure.lateStores }], guard := none } : Oper)) (v := ?_) rfl (by kernel_rfl) (by kernel_rfl) (by kernel_rfl) (fun _ _ _ h => h) (Or.inl ⟨by rfl, ?_⟩) (by assumption) ?_
        rotate_left
        · (intro w hSw; (try dsimp only at hSw); go_simp; try with_reducible rfl)
        try simp only [Act.put, List.setIfInBounds_toArray, List.set_cons_zero, List.set_cons_succ]
        refine wpAnyH_take (i := 8) (oi := ({ dst := some 49, op := Op.fieldAddr 48 (Operand.tmp 5) 2, type := 0, pos := "op.go:174", after := #[{ on := 0, ground := Ground.phase }, { on := 1, ground := Ground.phase }, { on := 2, ground := Ground.textOnly Departure.lateStores }, { on := 3, ground := Ground.textOnly Departure.lateStores }, { on := 4, ground := Ground.textOnly Departure.lateStores }, { on := 5, ground := Ground.textOnly Departure.lateStores }, { on := 6, ground := Ground.textOnly Departure.lateStores }, { on := 7, ground := Ground.textOnly Departure.lateStores }], guard := none } : Oper)) (v := ?_) rfl (by kernel_rfl) (by kernel_rfl) (by kernel_rfl) (fun _ _ _ h => h) (Or.inl ⟨by rfl, ?_⟩) (by assumption) ?_
        rotate_left
        · (intro w hSw; (try dsimp only at hSw); go_simp; try with_reducible rfl)
        try simp only [Act.put, List.setIfInBounds_toArray, List.set_cons_zero, List.set_cons_succ]
        refine wpAnyH_ready (rs := [9]) (by kernel_rfl) (by simp) ?_
        refine AllReadyH.cons (o := ({ dst := none, op := Op.store 3 (Operand.tmp 49) (Operand.tmp 42), type := 0, pos := "op.go:174", after := #[{ on := 8, ground := Ground.data }, { on := 1, ground := Ground.data }, { on := 0, ground := Ground.phase }, { on := 1, ground := Ground.phase }, { on := 2, ground := Ground.textOnly Departure.lateStores }, { on := 3, ground := Ground.textOnly Departure.lateStores }, { on := 4, ground := Ground.textOnly Departure.lateStores }, { on := 5, ground := Ground.textOnly Departure.lateStores }, { on := 6, ground := Ground.textOnly Departure.lateStores }, { on := 7, ground := Ground.textOnly Departure.lateStores }], guard := none } : Oper)) rfl (fun K_ hK => ?_) AllReadyH.nil
        go_simp
        refine hK.out _ _ ?_ (fun hHeld => ?_)
        · exact KS.out _ (HSD.out.other (show w.heap.size + 1 + 1 + 1 ≠ w.heap.size + 1 + 1 by omega) 2 _)
        clear hK K_
        try simp only [Act.put, List.setIfInBounds_toArray, List.set_cons_zero, List.set_cons_succ]
        refine wpAnyH_take (i := 10) (oi := ({ dst := some 50, op := Op.fieldAddr 48 (Operand.tmp 5) 3, type := 0, pos := "op.go:174", after := #[{ on := 0, ground := Ground.phase }, { on := 1, ground := Ground.phase }, { on := 2, ground := Ground.phase }, { on := 3, ground := Ground.phase }, { on := 4, ground := Ground.textOnly Departure.lateStores }, { on := 5, ground := Ground.textOnly Departure.lateStores }, { on := 6, ground := Ground.textOnly Departure.lateStores }, { on := 7, ground := Ground.textOnly Departure.lateStores }, { on := 8, ground := Ground.phase }, { on := 9, ground := Ground.phase }], guard := none } : Oper)) (v := ?_) rfl (by kernel_rfl) (by kernel_rfl) (by kernel_rfl) (fun _ _ _ h => h) (Or.inl ⟨by rfl, ?_⟩) (by assumption) ?_
        rotate_left
        · (intro w hSw; (try dsimp only at hSw); go_simp; try with_reducible rfl)
        try simp only [Act.put, List.setIfInBounds_toArray, List.set_cons_zero, List.set_cons_succ]
        refine wpAnyH_ready (rs := [11]) (by kernel_rfl) (by simp) ?_
        refine AllReadyH.cons (o := ({ dst := none, op := Op.store 3 (Operand.tmp 50) (Operand.tmp 44), type := 0, pos := "op.go:174", after := #[{ on := 10, ground := Ground.data }, { on := 3, ground := Ground.data }, { on := 9, ground := Ground.chain }, { on := 0, ground := Ground.phase }, { on := 1, ground := Ground.phase }, { on := 2, ground := Ground.phase }, { on := 3, ground := Ground.phase }, { on := 4, ground := Ground.textOnly Departure.lateStores }, { on := 5, ground := Ground.textOnly Departure.lateStores }, { on := 6, ground := Ground.textOnly Departure.lateStores }, { on := 7, ground := Ground.textOnly Departure.lateStores }, { on := 8, ground := Ground.phase }, { on := 9, ground := Ground.phase }], guard := none } : Oper)) rfl (fun K_ hK => ?_) AllReadyH.nil
        go_simp
        refine hK.out _ _ ?_ (fun hHeld => ?_)
        · exact KS.out _ ((HSD.out.other (show w.heap.size + 1 + 1 + 1 ≠ w.heap.size + 1 + 1 by omega) 2 _).other (show w.heap.size + 1 + 1 + 1 ≠ w.heap.size + 1 + 1 by omega) 3 _)
        clear hK K_
        try simp only [Act.put, List.setIfInBounds_toArray, List.set_cons_zero, List.set_cons_succ]
        refine wpAnyH_take (i := 12) (oi := ({ dst := some 51, op := Op.fieldAddr 48 (Operand.tmp 5) 4, type := 0, pos := "op.go:174", after := #[{ on := 0, ground := Ground.phase }, { on := 1, ground := Ground.phase }, { on := 2, ground := Ground.phase }, { on := 3, ground := Ground.phase }, { on := 4, ground := Ground.phase }, { on := 5, ground := Ground.phase }, { on := 6, ground := Ground.textOnly Departure.lateStores }, { on := 7, ground := Ground.textOnly Departure.lateStores }, { on := 8, ground := Ground.phase }, { on := 9, ground := Ground.phase }, { on := 10, ground := Ground.phase }, { on := 11, ground := Ground.phase }], guard := none } : Oper)) (v := ?_) rfl (by kernel_rfl) (by kernel_rfl) (by kernel_rfl) (fun _ _ _ h => h) (Or.inl ⟨by rfl, ?_⟩) (by assumption) ?_
        rotate_left
        · (intro w hSw; (try dsimp only at hSw); go_simp; try with_reducible rfl)
        try simp only [Act.put, List.setIfInBounds_toArray, List.set_cons_zero, List.set_cons_succ]
        refine wpAnyH_ready (rs := [13]) (by kernel_rfl) (by simp) ?_
        refine AllReadyH.cons (o := ({ dst := none, op := Op.store 3 (Operand.tmp 51) (Operand.tmp 46), type := 0, pos := "op.go:174", after := #[{ on := 12, ground := Ground.data }, { on := 5, ground := Ground.data }, { on := 11, ground := Ground.chain }, { on := 0, ground := Ground.phase }, { on := 1, ground := Ground.phase }, { on := 2, ground := Ground.phase }, { on := 3, ground := Ground.phase }, { on := 4, ground := Ground.phase }, { on := 5, ground := Ground.phase }, { on := 6, ground := Ground.textOnly Departure.lateStores }, { on := 7, ground := Ground.textOnly Departure.lateStores }, { on := 8, ground := Ground.phase }, { on := 9, ground := Ground.phase }, { on := 10, ground := Ground.phase }, { on := 11, ground := Ground.phase }], guard := none } : Oper)) rfl (fun K_ hK => ?_) AllReadyH.nil
        go_simp
        refine hK.out _ _ ?_ (fun hHeld => ?_)
        · exact KS.out _ (((HSD.out.other (show w.heap.size + 1 + 1 + 1 ≠ w.heap.size + 1 + 1 by omega) 2 _).other (show w.heap.size + 1 + 1 + 1 ≠ w.heap.size + 1 + 1 by omega) 3 _).other (show w.heap.size + 1 + 1 + 1 ≠ w.heap.size + 1 + 1 by omega) 4 _)
        clear hK K_
        try simp only [Act.put, List.setIfInBounds_toArray, List.set_cons_zero, List.set_cons_succ]
        refine wpAnyH_take (i := 14) (oi := ({ dst := some 52, op := Op.fieldAddr 48 (Operand.tmp 5) 5, type := 0, pos := "op.go:174", after := #[{ on := 0, ground := Ground.phase }, { on := 1, ground := Ground.phase }, { on := 2, ground := Ground.phase }, { on := 3, ground := Ground.phase }, { on := 4, ground := Ground.phase }, { on := 5, ground := Ground.phase }, { on := 6, ground := Ground.phase }, { on := 7, ground := Ground.phase }, { on := 8, ground := Ground.phase }, { on := 9, ground := Ground.phase }, { on := 10, ground := Ground.phase }, { on := 11, ground := Ground.phase }, { on := 12, ground := Ground.phase }, { on := 13, ground := Ground.phase }], guard := none } : Oper)) (v := ?_) rfl (by kernel_rfl) (by kernel_rfl) (by kernel_rfl) (fun _ _ _ h => h) (Or.inl ⟨by rfl, ?_⟩) (by assumption) ?_
        rotate_left
        · (intro w hSw; (try dsimp only at hSw); go_simp; try with_reducible rfl)
        try simp only [Act.put, List.setIfInBounds_toArray, List.set_cons_zero, List.set_cons_succ]
        refine wpAnyH_ready (rs := [15]) (by kernel_rfl) (by simp) ?_
        refine AllReadyH.cons (o := ({ dst := none, op := Op.store 3 (Operand.tmp 52) (Operand.tmp 48), type := 0, pos := "op.go:174", after := #[{ on := 14, ground := Ground.data }, { on := 7, ground := Ground.data }, { on := 13, ground := Ground.chain }, { on := 0, ground := Ground.phase }, { on := 1, ground := Ground.phase }, { on := 2, ground := Ground.phase }, { on := 3, ground := Ground.phase }, { on := 4, ground := Ground.phase }, { on := 5, ground := Ground.phase }, { on := 6, ground := Ground.phase }, { on := 7, ground := Ground.phase }, { on := 8, ground := Ground.phase }, { on := 9, ground := Ground.phase }, { on := 10, ground := Ground.phase }, { on := 11, ground := Ground.phase }, { on := 12, ground := Ground.phase }, { on := 13, ground := Ground.phase }], guard := none } : Oper)) rfl (fun K_ hK => ?_) AllReadyH.nil
        go_simp
        refine hK.out _ _ ?_ (fun hHeld => ?_)
        · exact KS.out _ ((((HSD.out.other (show w.heap.size + 1 + 1 + 1 ≠ w.heap.size + 1 + 1 by omega) 2 _).other (show w.heap.size + 1 + 1 + 1 ≠ w.heap.size + 1 + 1 by omega) 3 _).other (show w.heap.size + 1 + 1 + 1 ≠ w.heap.size + 1 + 1 by omega) 4 _).other (show w.heap.size + 1 + 1 + 1 ≠ w.heap.size + 1 + 1 by omega) 5 _)
        clear hK K_
        try simp only [Act.put, List.setIfInBounds_toArray, List.set_cons_zero, List.set_cons_succ]
        refine wpAnyH_done (by kernel_rfl) ?_ _
        go_wp2_with fail
        have HRD : Hid (readQ (s.kind : Int) false nn d.data.toList = ⟨s.kind, 0, v0, v1, v2, v3, 0, 0, []⟩) := by
          unfold Hid readQ
          rw [if_neg (by decide), if_neg (by decide), HBS.out, HV0.out, HV1.out, HV2.out, HV3.out]
        rw [HRD.out]
        refine bodyPost_ret (v := .agg #[.int .i64 (s.kind : Int), .int .i64 0, .int .i64 v0, .int .i64 v1, .int .i64 v2, .int .i64 v3, .int .i64 0, .int .i64 0, .slice none 0 0]) (by simp [results, Tryz.results47, go_sem, r0, r1, r2, r3, r4, r5, r6, r7, r8]) rfl ⟨rfl, ?_⟩
        refine Below.drew ?_
        repeat (refine Below.setCell ?_ (by first | (simp; done) | (simp; omega)) _)
        exact hbbr
end Go.Proofs.YtceabiodelfdoaaGreatDoor
/- (as PicL, the pixels the call's own) Walk of picture.Parse, from its head on. -/
-- s1
namespace Go.Proofs.YtceabiodelfdoaaGreatDoor
open Go.RowKit

set_option maxHeartbeats 4000000 in
set_option maxRecDepth 100000 in
theorem parseO_any (s : ByteArray) (w : World) (hs : s.size ≤ 1000000) (W' H' c : Nat) (ps : List (Int × Int)) (HC : Hid (parseL s.data.toList = (W', H', ps, c))) :
    Calls Tryz.prog 48 #[.string s] w fun e w' => ∃ v, e = .returned (.tuple #[.agg #[.int .i64 (W' : Int), .int .i64 (H' : Int), v], errV c]) ∧ w'.ownsRow w.heap.size 52 2 v ps.length (pixCells ps) ∧ Below w.heap.size w w' := by
  have HL : Hid (s.data.toList.length = s.size) := by unfold Hid; simp
  have HT0 := three_start w (.int .i64 0) (.int .i64 0) (.slice none 0 0) 46
  by_cases h2 : s.size < 2
  · have hc := HC.out
    rw [parse_short _ (by rw [HL.out]; exact h2)] at hc
    simp only [Prod.mk.injEq] at hc
    obtain ⟨rfl, rfl, rfl, rfl⟩ := hc
    go_enter Tryz.func48, Tryz.ntmps48
    go_wp2_with fail
    exact bodyPost_ret (v := .tuple #[.agg #[.int .i64 0, .int .i64 0, .slice none 0 0], .iface 62 (.int .i64 4)]) (by simp [results, Tryz.results48, go_sem]) rfl ⟨_, rfl, World.ownsRow_nil _ _ _ _, (Below.refl _ _).alloc (Nat.le_refl _) _⟩
  · obtain ⟨x0, HX0⟩ : ∃ c, Hid (s.data.toList.getD 0 0 = c) := ⟨_, (rfl : _ = _)⟩
    obtain ⟨x1, HX1⟩ : ∃ c, Hid (s.data.toList.getD 1 0 = c) := ⟨_, (rfl : _ = _)⟩
    obtain ⟨W, HW⟩ : ∃ m, Hid (x0.toNat = m) := ⟨_, (rfl : _ = _)⟩
    obtain ⟨H, HH⟩ : ∃ m, Hid (x1.toNat = m) := ⟨_, (rfl : _ = _)⟩
    have hix0 := nat_at s 0 x0 HX0 W HW
    have hix1 := nat_at s 1 x1 HX1 H HH
    have hWb := byte_le x0 W HW
    have hHb := byte_le x1 H HH
    have h2' : 1 < s.size := by omega
    have h2'' : 0 < s.size := by omega
    have HWE : Hid ((s.data.toList.getD 0 0).toNat = W) := by unfold Hid; rw [HX0.out, HW.out]
    have HHE : Hid ((s.data.toList.getD 1 0).toNat = H) := by unfold Hid; rw [HX1.out, HH.out]
    have HL2 : Hid (¬ s.data.toList.length < 2) := by unfold Hid; rw [HL.out]; exact h2
    go_enter Tryz.func48, Tryz.ntmps48
    go_upto_region 3 with fail
    go_cut [4, 5] from 15 (fun s4 s5 wc => s4 = .int .i64 (W : Int) ∧ s5 = .int .i64 (H : Int) ∧ Three wc w.heap.size (.int .i64 0) (.int .i64 0) (.slice none 0 0) ∧ Below w.heap.size w wc)
    case first =>
      go_quiet (fail)
      go_wp2_with fail
      go_meet
      exact ⟨rfl, rfl, HT0.drewN _, below_drewN ((Below.refl _ _).alloc (Nat.le_refl _) _) _⟩
    case rest =>
      clear HT0 hix0 hix1
      obtain ⟨rfl, rfl, HT, hb⟩ := hcut
      cases hsw : sideB (W : Int) with
      | false =>
        have HSW : Hid (sideB (W : Int) = false) := hsw
        have hc := HC.out
        rw [parse_side _ W H HL2.out HWE.out HHE.out (.inl hsw)] at hc
        simp only [Prod.mk.injEq] at hc
        obtain ⟨rfl, rfl, rfl, rfl⟩ := hc
        clear hsw
        obtain ⟨t0, t1, t2, f0, f1, f2, tl⟩ := HT
        go_wp2_with fail
        refine (side_any _ _ false HSW).mono ?_
        rintro e w3 ⟨rfl, rfl⟩
        go_wp2_with fail
        exact bodyPost_ret (v := .tuple #[.agg #[.int .i64 0, .int .i64 0, .slice none 0 0], .iface 62 (.int .i64 1)]) (by simp [results, Tryz.results48, go_sem, t0, t1, t2]) rfl ⟨_, rfl, World.ownsRow_nil _ _ _ _, ((hb.setCell (Nat.le_refl _) _).setCell (Nat.le_refl _) _).setCell (Nat.le_refl _) _⟩
      | true =>
        have HSW : Hid (sideB (W : Int) = true) := hsw
        cases hsh : sideB (H : Int) with
        | false =>
          have HSH : Hid (sideB (H : Int) = false) := hsh
          have hc := HC.out
          rw [parse_side _ W H HL2.out HWE.out HHE.out (.inr hsh)] at hc
          simp only [Prod.mk.injEq] at hc
          obtain ⟨rfl, rfl, rfl, rfl⟩ := hc
          clear hsw hsh
          obtain ⟨t0, t1, t2, f0, f1, f2, tl⟩ := HT
          go_wp2_with fail
          refine (side_any _ _ true HSW).mono ?_
          rintro e w3 ⟨rfl, rfl⟩
          go_wp2_with fail
          refine (side_any _ _ false HSH).mono ?_
          rintro e w3 ⟨rfl, rfl⟩
          go_wp2_with fail
          exact bodyPost_ret (v := .tuple #[.agg #[.int .i64 0, .int .i64 0, .slice none 0 0], .iface 62 (.int .i64 1)]) (by simp [results, Tryz.results48, go_sem, t0, t1, t2]) rfl ⟨_, rfl, World.ownsRow_nil _ _ _ _, ((hb.setCell (Nat.le_refl _) _).setCell (Nat.le_refl _) _).setCell (Nat.le_refl _) _⟩
        | true =>
          have HSH : Hid (sideB (H : Int) = true) := hsh
          have hW1 : 1 ≤ (W : Int) ∧ (W : Int) ≤ 8 := by unfold sideB at hsw; simpa using hsw
          have hH1 : 1 ≤ (H : Int) ∧ (H : Int) ≤ 8 := by unfold sideB at hsh; simpa using hsh
          obtain ⟨hW1, hW8⟩ := hW1
          obtain ⟨hH1, hH8⟩ := hH1
          have HNS : Hid (¬ (sideB (W : Int) = false ∨ sideB (H : Int) = false)) := by unfold Hid; rw [hsw, hsh]; simp
          clear hsw hsh
          obtain ⟨L, HLN⟩ : ∃ L, Hid (1 + 2 * W = L) := ⟨_, (rfl : _ = _)⟩
          have hL1 : L ≤ 17 := by rw [← HLN.out]; omega
          have hL2 : 3 ≤ L := by rw [← HLN.out]; omega
          have hLI : 1 + 2 * (W : Int) = (L : Int) := by rw [← HLN.out]; simp
          obtain ⟨M, HM⟩ : ∃ M, Hid (H * L = M) := ⟨_, (rfl : _ = _)⟩
          have hM : M ≤ 136 := by rw [← HM.out]; have := Nat.mul_le_mul (show H ≤ 8 by omega) hL1; omega
          have hMI : (H : Int) * (L : Int) = (M : Int) := by rw [← HM.out]; simp
          obtain ⟨z, HZ⟩ : ∃ z, Hid (Fb.unpack (s.extract 2 s.size).data.toList (M : Int) = z) := ⟨_, (rfl : _ = _)⟩
          obtain ⟨us, uc⟩ := z
          have HU : Hid (Fb.unpack (s.data.toList.drop 2) ((H * (1 + 2 * W) : Nat) : Int) = (us, uc)) := by unfold Hid; rw [← ext_drop2, HLN.out, HM.out]; exact HZ.out
          have HB : Hid (parseL s.data.toList = if uc ≠ 0 then (0, 0, [], uc) else if us.length < M then (0, 0, [], 4) else if (parseRows us W H 0 []).2 ≠ 0 then (0, 0, [], (parseRows us W H 0 []).2) else (W, H, (parseRows us W H 0 []).1, 0)) := by
            unfold Hid; rw [parse_body _ W H HL2.out HWE.out HHE.out HNS.out us uc HU.out, HLN.out, HM.out]
          have hse : (s.extract 2 s.size).size ≤ 1000000 := by rw [ByteArray.size_extract]; omega
          obtain ⟨x, HX⟩ : ∃ t : ByteArray, Hid (us = t.data.toList) := ⟨⟨us.toArray⟩, by unfold Hid; simp⟩
          have HXS : Hid (x.size = us.length) := by unfold Hid; rw [HX.out]; simp
          go_wp2_with fail
          refine (side_any _ _ true HSW).mono ?_
          rintro e w3 ⟨rfl, rfl⟩
          go_wp2_with fail
          refine (side_any _ _ true HSH).mono ?_
          rintro e w3 ⟨rfl, rfl⟩
          by_cases huc : uc = 0
          · subst huc
            by_cases hshort : x.size < M
            · have hc := HC.out
              rw [HB.out, if_neg (by simp), if_pos (by rw [← HXS.out]; exact hshort)] at hc
              simp only [Prod.mk.injEq] at hc
              obtain ⟨rfl, rfl, rfl, rfl⟩ := hc
              go_wp2_with fail
              refine (unpack_at2 _ _ _ hse (by omega) (by omega) x _ us 0 HZ HX rfl).mono ?_
              rintro e w5 ⟨rfl, hb5⟩
              rw [show errV 0 = .nilIface from rfl]
              obtain ⟨t0, t1, t2, f0, f1, f2, tl⟩ := HT.on hb5
              go_wp2_with fail
              exact bodyPost_ret (v := .tuple #[.agg #[.int .i64 0, .int .i64 0, .slice none 0 0], .iface 62 (.int .i64 4)]) (by simp [results, Tryz.results48, go_sem, t0, t1, t2]) rfl ⟨_, rfl, World.ownsRow_nil _ _ _ _, (((hb.trans (hb5.mono hb.size)).setCell (Nat.le_refl _) _).setCell (Nat.le_refl _) _).setCell (Nat.le_refl _) _⟩
            · have HP : Hid ((W', H', ps, c) = if (parseRows us W H 0 []).2 ≠ 0 then (0, 0, [], (parseRows us W H 0 []).2) else (W, H, (parseRows us W H 0 []).1, 0)) := by
                unfold Hid; rw [← HC.out, HB.out, if_neg (by simp), if_neg (by rw [← HXS.out]; exact hshort)]
              go_wp2_with fail
              refine (unpack_at2 _ _ _ hse (by omega) (by omega) x _ us 0 HZ HX rfl).mono ?_
              rintro e w5 ⟨rfl, hb5⟩
              rw [show errV 0 = .nilIface from rfl]
              have HT5 := HT.on hb5
              have hbw5 : Below w.heap.size w w5 := hb.trans (hb5.mono hb.size)
              have HPB := three_start w5 (.int .i64 (W : Int)) (.int .i64 (H : Int)) (.slice none 0 0) 46
              have HRB := HT5.alloc (.cells #[.int .i64 (W : Int), .int .i64 (H : Int), .slice none 0 0] 46)
              obtain ⟨wp, HWP⟩ : ∃ wp, Hid (w5.alloc (.cells #[.int .i64 (W : Int), .int .i64 (H : Int), .slice none 0 0] 46) = wp) := ⟨_, (rfl : _ = _)⟩
              rw [HWP.out] at HPB HRB
              have hbwp : Below w.heap.size w wp := by rw [← HWP.out]; exact hbw5.alloc hbw5.size _
              have HPB' : Hid (Three wp w5.heap.size (.int .i64 (W : Int)) (.int .i64 (H : Int)) (.slice none 0 0)) := HPB
              have HRB' : Hid (Three wp w.heap.size (.int .i64 0) (.int .i64 0) (.slice none 0 0)) := HRB
              have hltp : w5.heap.size < wp.heap.size := HPB.lt
              have hltw : w.heap.size < w5.heap.size := HT5.lt
              clear HPB HRB HT5 HT
              go_wp2_with fail
              rw [HWP.out]
              go_loopw [10, 64] (fun u i wr => ∃ (k : Nat) (qs : List (Int × Int)) (ab : List UInt8) (xv : Value), k ≤ H ∧ i = .int .i64 k ∧ Hid (RdB wr u ab) ∧ Hid (Three wr w5.heap.size (.int .i64 (W : Int)) (.int .i64 (H : Int)) xv) ∧ Hid (wr.ownsRow wp.heap.size 52 2 xv qs.length (pixCells qs)) ∧ Hid (Three wr w.heap.size (.int .i64 0) (.int .i64 0) (.slice none 0 0)) ∧ Below w.heap.size w wr ∧ wp.heap.size ≤ wr.heap.size ∧ qs.length ≤ k * 8 ∧ Hid (parseRows us W H 0 [] = combP qs (parseRows us W (H - k) k ab))) (fun _ i _ => H - (intOf i).toNat)
              case atStart => exact ⟨0, [], [], .slice none 0 0, by omega, rfl, rdB_nil _, HPB', World.ownsRow_nil _ _ _ _, HRB', hbwp, Nat.le_refl _, by simp, (rows_nil _ _ _ _ _).symm⟩
              case round =>
                obtain ⟨k, qs, ab, xv, hk, rfl, HAB, H3P, HOQ, H3R, hbr, hwpr, hql, HK⟩ := hrel
                by_cases hlt : k < H
                · obtain ⟨lo, HLO⟩ : ∃ lo, Hid (k * L = lo) := ⟨_, (rfl : _ = _)⟩
                  obtain ⟨hi2, HHI⟩ : ∃ hi, Hid ((k + 1) * L = hi) := ⟨_, (rfl : _ = _)⟩
                  have hlohi : hi2 = lo + L := by rw [← HLO.out, ← HHI.out, Nat.add_mul, Nat.one_mul]
                  have hhin : hi2 ≤ M := by rw [← HHI.out, ← HM.out]; exact Nat.mul_le_mul_right L (by omega)
                  have hm1 : (k : Int) * (L : Int) = (lo : Int) := by rw [← HLO.out]; simp
                  have hm2 : ((k : Int) + 1) * (L : Int) = (hi2 : Int) := by rw [← HHI.out]; simp
                  have HHW : Hid (hi2 = lo + L) := hlohi
                  have hlt2 : lo + 1 < hi2 := by omega
                  have hlox : lo < x.size := by omega
                  have hhix : hi2 ≤ x.size := by omega
                  clear hlohi
                  obtain ⟨wb, HWB⟩ : ∃ c, Hid (x.data.toList.getD lo 0 = c) := ⟨_, (rfl : _ = _)⟩
                  obtain ⟨way, HWAY⟩ : ∃ m, Hid (wb.toNat = m) := ⟨_, (rfl : _ = _)⟩
                  have hixw := nat_at x lo wb HWB way HWAY
                  have hwyb := byte_le wb way HWAY
                  have HWE2 : Hid ((us.getD (k * (1 + 2 * W)) 0).toNat = way) := by unfold Hid; rw [HLN.out, HLO.out, HX.out, HWB.out, HWAY.out]
                  have hHk : H - k = (H - (k + 1)) + 1 := by omega
                  have HHK : Hid (H - k = (H - (k + 1)) + 1) := hHk
                  clear hHk
                  by_cases hw4 : 4 ≤ way
                  · have HPE : Hid (parseRows us W H 0 [] = ([], 4)) := by
                      unfold Hid; rw [HK.out, HHK.out, rows_err _ _ _ _ _ (by rw [HWE2.out]; exact hw4)]; rfl
                    have hc := HP.out
                    rw [HPE.out] at hc
                    simp at hc
                    obtain ⟨rfl, rfl, rfl, rfl⟩ := hc
                    obtain ⟨t0, t1, t2, f0, f1, f2, tl⟩ := H3R.out
                    go_wp2_with fail
                    go_quiet (fail)
                    go_wp2_with fail
                    exact bodyPost_ret (v := .tuple #[.agg #[.int .i64 0, .int .i64 0, .slice none 0 0], .iface 62 (.int .i64 4)]) (by simp [results, Tryz.results48, go_sem, t0, t1, t2]) rfl ⟨_, rfl, World.ownsRow_nil _ _ _ _, (((below_drewN hbr _).setCell (Nat.le_refl _) _).setCell (Nat.le_refl _) _).setCell (Nat.le_refl _) _⟩
                  · obtain ⟨t, HT2⟩ : ∃ t, Hid (x.extract (lo + 1) hi2 = t) := ⟨_, (rfl : _ = _)⟩
                    have HTS : Hid (t.size = 2 * W) := by unfold Hid; rw [← HT2.out, ByteArray.size_extract]; have h1 := HHW.out; have h2 := HLN.out; omega
                    have HTD : Hid (t.data.toList = (us.drop (k * (1 + 2 * W) + 1)).take (2 * W)) := by
                      unfold Hid
                      rw [← HT2.out, ByteArray.data_extract, Array.toList_extract, List.extract_eq_take_drop, ← HX.out, HLN.out, HLO.out]
                      rw [show hi2 - (lo + 1) = 2 * W by have h1 := HHW.out; have h2 := HLN.out; omega]
                    obtain ⟨row, HROW⟩ : ∃ row, Hid (Fb.restL way t.data.toList ab = row) := ⟨_, (rfl : _ = _)⟩
                    have HRLN : Hid (row.length = 2 * W) := by unfold Hid; rw [← HROW.out]; unfold Fb.restL; rw [Fb.restTo_len, ← HTS.out]; simp
                    have HN2 : Hid (parseRows us W H 0 [] = combP (qs ++ pixOf row) (parseRows us W (H - (k + 1)) (k + 1) row)) := by
                      unfold Hid
                      rw [HK.out, HHK.out, rows_step _ _ _ _ _ (by rw [HWE2.out]; exact hw4), combP_combP, HWE2.out, ← HTD.out, HROW.out]
                    go_wp2_with fail
                    go_quiet (fail)
                    go_wp2_with fail
                    rw [HT2.out]
                    obtain ⟨wq, HWQ⟩ : ∃ wq, Hid (wr.drewN nq = wq) := ⟨_, (rfl : _ = _)⟩
                    have hbq : Below wr.heap.size wr wq := by rw [← HWQ.out]; exact below_drewN (Below.refl _ _) _
                    have hbwq : Below w.heap.size w wq := by rw [← HWQ.out]; exact below_drewN hbr _
                    rw [HWQ.out]
                    have HPQ := H3P.out.on hbq
                    have HRQ := H3R.out.on hbq
                    have HOQ2 := own_on2 HOQ.out hbq
                    refine (restore_any way (by omega) _ t ab wq (by rw [HTS.out]; omega) (by rw [HTS.out]; omega) (HAB.out.on hbq)).mono ?_
                    rintro e w6 ⟨vrow, rfl, hrow, hb6⟩
                    rw [HROW.out] at hrow
                    have hq0 : wp.heap.size ≤ wq.heap.size := Nat.le_trans hwpr hbq.size
                    have HVR : Hid (w6.ownsRow wp.heap.size 5 1 vrow row.length (row.map bv)) := own_mono hrow hq0
                    have HO6 : Hid (w6.ownsRow wp.heap.size 52 2 xv qs.length (pixCells qs)) := own_on2 HOQ2 hb6
                    have HP6 : Hid (Three w6 w5.heap.size (.int .i64 (W : Int)) (.int .i64 (H : Int)) xv) := HPQ.on hb6
                    have HR6 : Hid (Three w6 w.heap.size (.int .i64 0) (.int .i64 0) (.slice none 0 0)) := HRQ.on hb6
                    have hw6 : wp.heap.size ≤ w6.heap.size := Nat.le_trans hq0 hb6.size
                    have hbw6 : Below w.heap.size w w6 := hbwq.trans (hb6.mono hbwq.size)
                    clear hrow hb6 HPQ HRQ HOQ2 hbwq hbq H3P H3R HOQ HAB
                    have hc2 := HP6.out.c2
                    go_wp2_with fail
                    refine (appendPixels_any wp.heap.size W xv vrow qs row w6 hw6 HO6 HVR HRLN (by omega) (by omega) (by omega)).mono ?_
                    rintro e w7 ⟨v', rfl, hown7, hrow7, hb7⟩
                    obtain ⟨n7, HN7⟩ : ∃ n, Hid ((qs ++ pixOf row).length = n) := ⟨_, (rfl : _ = _)⟩
                    obtain ⟨av7, cv7, hv7⟩ := own_any hown7
                    rw [HN7.out] at hv7
                    subst hv7
                    have HP7 := HP6.out.onB hb7 hltp
                    have HR7 := HR6.out.onB hb7 (by omega)
                    have hbw7 : Below w.heap.size w w7 := hbw6.trans (hb7.mono (by omega))
                    have hw7 : wp.heap.size ≤ w7.heap.size := Nat.le_trans hw6 hb7.size
                    have HP8 : Hid (Three (w7.setCell ⟨w5.heap.size, 2, none⟩ (.slice av7 n7 cv7)) w5.heap.size (.int .i64 (W : Int)) (.int .i64 (H : Int)) (.slice av7 n7 cv7)) := HP7.set2
                    have HR8 : Hid (Three (w7.setCell ⟨w5.heap.size, 2, none⟩ (.slice av7 n7 cv7)) w.heap.size (.int .i64 0) (.int .i64 0) (.slice none 0 0)) := HR7.other (by omega)
                    have HO8 : Hid ((w7.setCell ⟨w5.heap.size, 2, none⟩ (.slice av7 n7 cv7)).ownsRow wp.heap.size 52 2 (.slice av7 n7 cv7) (qs ++ pixOf row).length (pixCells (qs ++ pixOf row))) := ownsRow_setCell_below hown7 (a := ⟨w5.heap.size, 2, none⟩) hltp (.slice av7 n7 cv7)
                    have HB8 : Hid (RdB (w7.setCell ⟨w5.heap.size, 2, none⟩ (.slice av7 n7 cv7)) vrow row) := rdB_own (ownsRow_setCell_below hrow7 (a := ⟨w5.heap.size, 2, none⟩) hltp (.slice av7 n7 cv7))
                    have hb8 : Below w.heap.size w (w7.setCell ⟨w5.heap.size, 2, none⟩ (.slice av7 n7 cv7)) := hbw7.setCell (show w.heap.size ≤ w5.heap.size by omega) (.slice av7 n7 cv7)
                    have hw8 : wp.heap.size ≤ (w7.setCell ⟨w5.heap.size, 2, none⟩ (.slice av7 n7 cv7)).heap.size := by simpa using hw7
                    have hpl : (qs ++ pixOf row).length ≤ (k + 1) * 8 := by rw [List.length_append, pixOf_len W row HRLN.out]; omega
                    have hc3 := HP7.c2
                    have hf3 := HP7.f2
                    clear hown7 hrow7 hb7 HP7 HR7 HP6 HR6 HO6 HVR
                    go_wp2_with fail
                    go_roundw
                    case rel => exact ⟨k + 1, qs ++ pixOf row, row, (.slice av7 n7 cv7), by omega, by go_num, HB8, HP8, HO8, HR8, hb8, hw8, hpl, HN2⟩
                    case measure => simp [intOf]; omega
                · have HPE : Hid (parseRows us W H 0 [] = (qs, 0)) := by
                    unfold Hid; rw [HK.out, show H - k = 0 by omega]; simp [parseRows, combP]
                  have hc := HP.out
                  rw [HPE.out] at hc
                  simp at hc
                  obtain ⟨rfl, rfl, rfl, rfl⟩ := hc
                  obtain ⟨t0, t1, t2, f0, f1, f2, tl⟩ := H3R.out
                  obtain ⟨n7, HN7⟩ : ∃ n, Hid (ps.length = n) := ⟨_, (rfl : _ = _)⟩
                  obtain ⟨av7, cv7, hv7⟩ := own_any HOQ.out
                  rw [HN7.out] at hv7
                  subst hv7
                  obtain ⟨p0, p1, p2, q0, q1, q2, pl⟩ := H3P.out
                  go_wp2_with fail
                  exact bodyPost_ret (v := .tuple #[.agg #[.int .i64 (W' : Int), .int .i64 (H' : Int), .slice av7 n7 cv7], .nilIface]) (by simp [results, Tryz.results48, go_sem, t0, t1, t2]) rfl
                    ⟨_, rfl, own_mono (ownsRow_setCell_below (ownsRow_setCell_below (ownsRow_setCell_below HOQ.out (a := ⟨w.heap.size, 0, none⟩) (show w.heap.size < wp.heap.size by omega) _) (a := ⟨w.heap.size, 1, none⟩) (show w.heap.size < wp.heap.size by omega) _) (a := ⟨w.heap.size, 2, none⟩) (show w.heap.size < wp.heap.size by omega) _) (by omega),
                      ((hbr.setCell (Nat.le_refl _) _).setCell (Nat.le_refl _) _).setCell (Nat.le_refl _) _⟩
          · have HE : Hid (errV uc = .iface 62 (.int .i64 (uc : Int))) := by unfold Hid errV; rw [if_neg huc]
            have hc := HC.out
            rw [HB.out, if_pos huc] at hc
            simp only [Prod.mk.injEq] at hc
            obtain ⟨rfl, rfl, rfl, rfl⟩ := hc
            go_wp2_with fail
            refine (unpack_at2 _ _ _ hse (by omega) (by omega) x _ us uc HZ HX HE).mono ?_
            rintro e w5 ⟨rfl, hb5⟩
            obtain ⟨t0, t1, t2, f0, f1, f2, tl⟩ := HT.on hb5
            go_wp2_with fail
            exact bodyPost_ret (v := .tuple #[.agg #[.int .i64 0, .int .i64 0, .slice none 0 0], .iface 62 (.int .i64 (uc : Int))]) (by simp [results, Tryz.results48, go_sem, t0, t1, t2]) rfl ⟨_, by rw [HE.out]; rfl, World.ownsRow_nil _ _ _ _, (((hb.trans (hb5.mono hb.size)).setCell (Nat.le_refl _) _).setCell (Nat.le_refl _) _).setCell (Nat.le_refl _) _⟩
end Go.Proofs.YtceabiodelfdoaaGreatDoor
/- What is parsed is not too long. -- s1 -/
namespace Go.Proofs.YtceabiodelfdoaaGreatDoor
open Go.RowKit

theorem parseRows_lenP (rs : List UInt8) (W : Nat) : ∀ f k ab, (parseRows rs W f k ab).1.length ≤ f * W
  | 0, k, ab => by simp [parseRows]
  | f + 1, k, ab => by
    rw [parseRows]
    split
    · simp
    · split
      · simp
      · have ih := parseRows_lenP rs W f (k + 1) (Fb.restL (rs.getD (k * (1 + 2 * W)) 0).toNat ((rs.drop (k * (1 + 2 * W) + 1)).take (2 * W)) ab)
        have h2 : (Fb.restL (rs.getD (k * (1 + 2 * W)) 0).toNat ((rs.drop (k * (1 + 2 * W) + 1)).take (2 * W)) ab).length ≤ 2 * W := by
          unfold Fb.restL; rw [Fb.restTo_len]; exact List.length_take_le _ _
        simp only [List.length_append, pixOf_length, Nat.add_mul, Nat.one_mul]
        omega
theorem parse_lenP (l : List UInt8) (W' H' c : Nat) (ps : List (Int × Int)) (h : parseL l = (W', H', ps, c)) : ps.length ≤ 64 := by
  unfold parseL at h
  split at h
  · simp at h; obtain ⟨_, _, rfl, _⟩ := h; simp
  · split at h
    · simp at h; obtain ⟨_, _, rfl, _⟩ := h; simp
    · rename_i hs
      split at h
      · simp at h; obtain ⟨_, _, rfl, _⟩ := h; simp
      · split at h
        · simp at h; obtain ⟨_, _, rfl, _⟩ := h; simp
        · split at h
          · simp at h; obtain ⟨_, _, rfl, _⟩ := h; simp
          · simp only [Prod.mk.injEq] at h
            obtain ⟨_, _, rfl, _⟩ := h
            refine Nat.le_trans (parseRows_lenP _ _ _ _ _) ?_
            have h1 : (l.getD 0 0).toNat ≤ 8 ∧ (l.getD 1 0).toNat ≤ 8 := by
              have ha : sideB ((l.getD 0 0).toNat : Int) = true := by
                cases h : sideB ((l.getD 0 0).toNat : Int) with
                | false => exact absurd (Or.inl h) hs
                | true => rfl
              have hb : sideB ((l.getD 1 0).toNat : Int) = true := by
                cases h : sideB ((l.getD 1 0).toNat : Int) with
                | false => exact absurd (Or.inr h) hs
                | true => rfl
              unfold sideB at ha hb
              simp only [Bool.and_eq_true, decide_eq_true_eq] at ha hb
              omega
            exact Nat.mul_le_mul h1.2 h1.1
end Go.Proofs.YtceabiodelfdoaaGreatDoor
