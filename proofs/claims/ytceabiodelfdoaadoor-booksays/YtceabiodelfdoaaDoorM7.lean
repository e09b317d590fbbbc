/- Some of the walks, in one text. -/
import Derived.Test.YtceabiodelfdoaaDoorM6
import Derived.SliceStrings
import Derived.StillTailTactics
/- Walks of the reference's Packed and of the law's same. -/
namespace Go.Proofs.YtceabiodelfdoaaDoor
open Go.RowKit

set_option maxHeartbeats 1000000 in
set_option maxRecDepth 100000 in
theorem packed_any (s : ByteArray) (w : World) (hs : s.size ≤ 1000000) :
    Calls Tryd.prog 63 #[.string s] w fun e w' => e = .returned (str (Fb.packL s.data.toList)) ∧ Below w.heap.size w w' := by
  have HL : Hid (s.data.toList.length = s.size) := by unfold Hid; simp
  go_enter Tryd.func63, Tryd.ntmps63
  go_wp2
  go_loopw [3, 4, 5] (fun v c i wr => ∃ (k n : Nat) (ob : ByteArray), k ≤ s.size ∧ i = .int .i64 k ∧ c = .int .i64 n ∧ v = .string ob ∧ n < 255 ∧ ob.size ≤ 2 * k ∧ Hid (Fb.PInv s.data.toList k n ob.data.toList) ∧ Below w.heap.size w wr) (fun _ _ i _ => s.size - (intOf i).toNat)
  case atStart => exact ⟨0, 0, ⟨#[]⟩, by omega, rfl, rfl, rfl, by omega, by decide, Fb.pinv_start _, Below.refl _ _⟩
  case round =>
    obtain ⟨k, n, ob, hk, rfl, rfl, rfl, hn, hob, HI, hb⟩ := hrel
    by_cases hlt : k < s.size
    · obtain ⟨c, HC⟩ : ∃ c, Hid (s.data.toList.getD k 0 = c) := ⟨_, (rfl : _ = _)⟩
      obtain ⟨m, HM⟩ : ∃ m, Hid (c.toNat = m) := ⟨_, (rfl : _ = _)⟩
      have hix := nat_at s k c HC m HM
      have hmb := byte_le c m HM
      have HKL : Hid (k < s.data.toList.length) := by unfold Hid; rw [HL.out]; exact hlt
      obtain ⟨nb, HNB⟩ : ∃ nb, Hid (UInt8.ofNat (n + 1) = nb) := ⟨_, (rfl : _ = _)⟩
      have HA : Hid ((nb.toNat : Int) = (n : Int) + 1) := by unfold Hid; rw [← HNB.out, Fb.ofNat_toNat _ (by omega)]; simp
      have HB : Hid ((c.toNat : Int) = (m : Int)) := by unfold Hid; rw [HM.out]
      have hcv := fun nq => run_pair (wr.drewN nq) wr.heap.size rfl ((n : Int) + 1) (m : Int) nb c HA HB
      by_cases hlast : k + 1 = s.size
      · have hg1 : ((k : Int) + 1 == (s.size : Int)) = true := by rw [beq_iff_eq]; omega
        have HF : Hid (Fb.PInv s.data.toList (k + 1) 0 (ob.data.toList ++ [UInt8.ofNat (n + 1), s.data.toList.getD k 0])) := Fb.pinv_flush HI.out HKL.out (.inl (by rw [HL.out]; exact hlast))
        go_wp2
        go_quiet (fail)
        go_wp2
        go_roundw
        case rel => exact ⟨k + 1, 0, ob ++ ⟨#[nb, c]⟩, by omega, by go_num, rfl, rfl, by omega, by rw [add_two_size]; omega, by unfold Hid; rw [add_two, ← HC.out, ← HNB.out]; exact HF.out, (below_drewN hb nq).alloc (by have := hb.size; simpa using this) _⟩
        case measure => simp [intOf]; omega
      · have hg1 : ((k : Int) + 1 == (s.size : Int)) = false := by rw [beq_eq_false_iff_ne]; omega
        have hlt1 : k + 1 < s.size := by omega
        obtain ⟨c2, HC2⟩ : ∃ c, Hid (s.data.toList.getD (k + 1) 0 = c) := ⟨_, (rfl : _ = _)⟩
        obtain ⟨m2, HM2⟩ : ∃ m, Hid (c2.toNat = m) := ⟨_, (rfl : _ = _)⟩
        have hix2 := nat_at s (k + 1) c2 HC2 m2 HM2
        have hmb2 := byte_le c2 m2 HM2
        by_cases hnx : m2 = m
        · subst hnx
          have HE : Hid (s.data.toList.getD (k + 1) 0 = s.data.toList.getD k 0) := by
            unfold Hid; rw [HC.out, HC2.out]; exact UInt8.toNat_inj.1 (HM2.out.trans HM.out.symm)
          have hg2 : ((m2 : Int) != (m2 : Int)) = false := by simp
          by_cases h255 : n + 1 = 255
          · have hg3 : ((n : Int) + 1 == 255) = true := by rw [beq_iff_eq]; omega
            have HF : Hid (Fb.PInv s.data.toList (k + 1) 0 (ob.data.toList ++ [UInt8.ofNat (n + 1), s.data.toList.getD k 0])) := Fb.pinv_flush HI.out HKL.out (.inr (.inr h255))
            go_wp2
            go_quiet (fail)
            go_wp2
            go_roundw
            case rel => exact ⟨k + 1, 0, ob ++ ⟨#[nb, c]⟩, by omega, by go_num, rfl, rfl, by omega, by rw [add_two_size]; omega, by unfold Hid; rw [add_two, ← HC.out, ← HNB.out]; exact HF.out, (below_drewN hb nq).alloc (by have := hb.size; simpa using this) _⟩
            case measure => simp [intOf]; omega
          · have hg3 : ((n : Int) + 1 == 255) = false := by rw [beq_eq_false_iff_ne]; omega
            have HF : Hid (Fb.PInv s.data.toList (k + 1) (n + 1) ob.data.toList) := Fb.pinv_keep HI.out (by rw [HL.out]; exact hlt1) HE.out h255
            go_wp2
            go_quiet (fail)
            go_wp2
            go_roundw
            case rel => exact ⟨k + 1, n + 1, ob, by omega, by go_num, by go_num, rfl, by omega, by omega, HF, below_drewN hb nq⟩
            case measure => simp [intOf]; omega
        · have hg2 : ((m2 : Int) != (m : Int)) = true := by rw [bne_iff_ne]; omega
          have HF : Hid (Fb.PInv s.data.toList (k + 1) 0 (ob.data.toList ++ [UInt8.ofNat (n + 1), s.data.toList.getD k 0])) := Fb.pinv_flush HI.out HKL.out (.inr (.inl (by rw [HC.out, HC2.out]; intro e; exact hnx (by rw [← HM2.out, ← HM.out, e]))))
          go_wp2
          go_quiet (fail)
          go_wp2
          go_roundw
          case rel => exact ⟨k + 1, 0, ob ++ ⟨#[nb, c]⟩, by omega, by go_num, rfl, rfl, by omega, by rw [add_two_size]; omega, by unfold Hid; rw [add_two, ← HC.out, ← HNB.out]; exact HF.out, (below_drewN hb nq).alloc (by have := hb.size; simpa using this) _⟩
          case measure => simp [intOf]; omega
    · go_wp2
      go_ret
      exact ⟨by rw [Fb.pinv_end HI.out (by rw [HL.out]; omega)]; exact congrArg Ending.returned (str_self ob).symm, hb⟩
end Go.Proofs.YtceabiodelfdoaaDoor
/- Walk: a kind's shape, found by its name. -- s1 -/
namespace Go.Proofs.YtceabiodelfdoaaDoor
open Go.RowKit

theorem txt_eq (a b : ByteArray) : (a.toList == b.toList) = decide (a = b) := by
  by_cases h : a = b
  · subst h; simp
  · rw [decide_eq_false h, beq_eq_false_iff_ne]
    intro e
    rw [ByteArray.toList_eq, ByteArray.toList_eq] at e
    exact h (WideShapes.bytes_inj e)
def nameAt (nm : ByteArray) : List Shp → Option Shp
  | [] => none
  | s :: r => if s.bytes = nm then some s else nameAt nm r
theorem nameAt_drop (nm : ByteArray) (k : Nat) (s : Shp) (h : shps[k]? = some s) : nameAt nm (shps.drop k) = if s.bytes = nm then some s else nameAt nm (shps.drop (k + 1)) := by
  obtain ⟨hk, e⟩ := List.getElem?_eq_some_iff.1 h
  rw [List.drop_eq_getElem_cons hk, e]
  rfl
theorem nameAt_mem (nm : ByteArray) : ∀ (l : List Shp) (s : Shp), nameAt nm l = some s → s ∈ l ∧ s.bytes = nm := by
  intro l
  induction l with
  | nil => intro s h; cases h
  | cons a r ih =>
    intro s h
    unfold nameAt at h
    split at h
    · obtain rfl := Option.some.inj h
      exact ⟨by simp, by assumption⟩
    · obtain ⟨h1, h2⟩ := ih s h
      exact ⟨by simp [h1], h2⟩
set_option maxHeartbeats 4000000 in
set_option maxRecDepth 100000 in
theorem nameF_any (s : Shp) (nm : ByteArray) (b : Nat) (w : World) (hb : b < w.heap.size) (HK : w.cell? ⟨b, 0, none⟩ = some (.string nm)) (t : Bool) (HT : Hid (decide (s.bytes = nm) = t)) :
    Calls Tryd.prog 43 #[s.val, .pointer (some ⟨b, 0, none⟩)] w fun e w' => e = .returned (.bool t) ∧ Below w.heap.size w w' := by
  have HK2 := (cell_old w (.cells #[.int .i64 (s.kind : Int), .string s.bytes, .bool s.id, .int .i64 (s.nums : Int), .int .i64 s.low, .int .i64 s.high, .bool s.pic] 92) b 0 hb).trans HK
  have hbz : Below w.heap.size w (w.alloc (.cells #[.int .i64 (s.kind : Int), .string s.bytes, .bool s.id, .int .i64 (s.nums : Int), .int .i64 s.low, .int .i64 s.high, .bool s.pic] 92)) := (Below.refl _ _).alloc (Nat.le_refl _) _
  have ht : (s.bytes.toList == nm.toList) = t := by rw [← HT.out]; exact txt_eq _ _
  unfold Shp.val
  go_enter Tryd.func43, Tryd.ntmps43
  go_wp2_with fail
  go_ret
  exact ⟨rfl, hbz⟩

set_option maxHeartbeats 4000000 in
set_option maxRecDepth 100000 in
theorem findN_any (nm : ByteArray) (b : Nat) (w : World) (HS : Hid (Shapes w)) (h1 : 1 < w.heap.size) (hb : b < w.heap.size) (HK : w.cell? ⟨b, 0, none⟩ = some (.string nm)) :
    Calls Tryd.prog 42 #[.func (.func 43) #[] #[.pointer (some ⟨b, 0, none⟩)]] w fun e w' => FindP (nameAt nm shps) w e w' := by
  have HS0 : Hid (Shapes (w.alloc (.cells #[.int .i64 0, .string ⟨#[]⟩, .bool false, .int .i64 0, .int .i64 0, .int .i64 0, .bool false] 92))) := HS.out.on h1 ((Below.refl _ _).alloc (Nat.le_refl _) _)
  have S0 := seven_start w (.int .i64 0) (.string ⟨#[]⟩) (.bool false) (.int .i64 0) (.int .i64 0) (.int .i64 0) (.bool false) 92 w.heap.size rfl
  have HK0 := (cell_old w (.cells #[.int .i64 0, .string ⟨#[]⟩, .bool false, .int .i64 0, .int .i64 0, .int .i64 0, .bool false] 92) b 0 hb).trans HK
  have hbz : Below w.heap.size w (w.alloc (.cells #[.int .i64 0, .string ⟨#[]⟩, .bool false, .int .i64 0, .int .i64 0, .int .i64 0, .bool false] 92)) := (Below.refl _ _).alloc (Nat.le_refl _) _
  go_enter Tryd.func42, Tryd.ntmps42
  go_wp2_with fail
  refine wp_load_mid 119 (Operand.global 1) rfl 1 0 rfl shpCells _ HS0.out.range Tryd.underlying119 rfl (by kernel_rfl) ?_
  simp only [Act.put]
  go_wp2_with fail
  obtain ⟨W0, HW0⟩ : ∃ W, Hid (w.alloc (.cells #[.int .i64 0, .string ⟨#[]⟩, .bool false, .int .i64 0, .int .i64 0, .int .i64 0, .bool false] 92) = W) := ⟨_, (rfl : _ = _)⟩
  rw [HW0.out] at HS0 S0 HK0 hbz
  rw [HW0.out]
  have HIX : Hid (∀ (k : Nat) (s : Shp), shps[k]? = some s → ∀ X, (Instr.index 119 (.agg shpCells.toArray) (.int .i64 (k : Int))).run Tryd.prog X = .ok s.val X) := shp_index
  obtain ⟨AV, HAV⟩ : ∃ A, Hid (shpCells.toArray = A) := ⟨_, (rfl : _ = _)⟩
  rw [HAV.out] at HIX
  rw [HAV.out]
  clear HS0 HS HAV
  have hbW : b < W0.heap.size := Nat.lt_of_lt_of_le hb hbz.size
  go_loopw [7] (fun kv wr => ∃ k : Nat, k ≤ 16 ∧ kv = .int .i64 (k : Int) ∧ Hid (nameAt nm shps = nameAt nm (shps.drop k)) ∧ Below W0.heap.size W0 wr) (fun kv _ => 16 - (intOf kv).toNat)
  case atStart => exact ⟨0, by omega, rfl, (rfl : _ = _), Below.refl _ _⟩
  case round =>
    obtain ⟨k, hk, rfl, HKD, hbr⟩ := hrel
    obtain ⟨d0, d1, d2, d3, d4, d5, d6, g0, g1, g2, g3, g4, g5, g6, lt2⟩ := S0.on hbr
    have hbbr := hbz.trans (hbr.mono hbz.size)
    by_cases hk2 : k < 16
    · obtain ⟨s, Hs⟩ : ∃ s, Hid (shps[k]? = some s) := ⟨_, List.getElem?_eq_getElem (by rw [shps_len]; exact hk2)⟩
      have hix := HIX.out k s Hs.out
      have HKS := hid_of3 (nameAt_drop nm k s Hs.out)
      have hbx : Below wr.heap.size wr (wr.alloc (.cells #[.int .i64 (s.kind : Int), .string s.bytes, .bool s.id, .int .i64 (s.nums : Int), .int .i64 s.low, .int .i64 s.high, .bool s.pic] 92)) := (Below.refl _ _).alloc (Nat.le_refl _) _
      have S1 := seven_start wr (.int .i64 (s.kind : Int)) (.string s.bytes) (.bool s.id) (.int .i64 (s.nums : Int)) (.int .i64 s.low) (.int .i64 s.high) (.bool s.pic) 92 wr.heap.size rfl
      have hbX := hbr.trans (hbx.mono hbr.size)
      have hbbX := hbbr.trans (hbx.mono hbbr.size)
      have hbx2 : b < (wr.alloc (.cells #[.int .i64 (s.kind : Int), .string s.bytes, .bool s.id, .int .i64 (s.nums : Int), .int .i64 s.low, .int .i64 s.high, .bool s.pic] 92)).heap.size := Nat.lt_of_lt_of_le hbW hbX.size
      have HKX : (wr.alloc (.cells #[.int .i64 (s.kind : Int), .string s.bytes, .bool s.id, .int .i64 (s.nums : Int), .int .i64 s.low, .int .i64 s.high, .bool s.pic] 92)).cell? ⟨b, 0, none⟩ = some (.string nm) := (hbX.cell (p := ⟨b, 0, none⟩) hbW).trans HK0
      have S0X := (S0.on hbr).on hbx
      clear d0 d1 d2 d3 d4 d5 d6 g0 g1 g2 g3 g4 g5 g6 lt2 hbx
      unfold Shp.val at hix
      go_wp2_with fail
      by_cases he : s.bytes = nm
      · rw [if_pos he] at HKS
        have HR : Hid (nameAt nm shps = some s) := by unfold Hid; rw [HKD.out, HKS.out]
        refine (nameF_any s nm b _ hbx2 HKX true (by unfold Hid; simpa using he)).mono ?_
        rintro e w1 ⟨rfl, hb1⟩
        have hbb1 := hbbX.trans (hb1.mono hbbX.size)
        obtain ⟨d0, d1, d2, d3, d4, d5, d6, g0, g1, g2, g3, g4, g5, g6, lt2⟩ := S0X.on hb1
        obtain ⟨e0, e1, e2, e3, e4, e5, e6, f0, f1, f2, f3, f4, f5, f6, lt3⟩ := S1.on hb1
        clear he HKS HKD hb1 hbbX
        go_wp2_with fail
        rw [HR.out]
        refine bodyPost_ret (v := .tuple #[.agg #[.int .i64 (s.kind : Int), .string s.bytes, .bool s.id, .int .i64 (s.nums : Int), .int .i64 s.low, .int .i64 s.high, .bool s.pic], .bool true]) (by simp [results, Tryd.results42, go_sem, d0, d1, d2, d3, d4, d5, d6]) rfl ⟨?_, rfl⟩
        repeat (refine Below.setCell ?_ (by simp) _)
        exact hbb1
      · rw [if_neg he] at HKS
        refine (nameF_any s nm b _ hbx2 HKX false (by unfold Hid; simpa using he)).mono ?_
        rintro e w1 ⟨rfl, hb1⟩
        have hbX1 := hbX.trans (hb1.mono hbX.size)
        clear he hb1
        go_wp2_with fail
        go_roundw
        case rel => exact ⟨k + 1, by omega, by go_num, HKD.out.trans HKS.out, hbX1⟩
        case measure => simp [intOf]; omega
    · obtain rfl : k = 16 := by omega
      have HR : Hid (nameAt nm shps = none) := by unfold Hid; rw [HKD.out]; rfl
      go_wp2_with fail
      rw [HR.out]
      refine bodyPost_ret (v := .tuple #[.agg #[.int .i64 0, .string ⟨#[]⟩, .bool false, .int .i64 0, .int .i64 0, .int .i64 0, .bool false], .bool false]) (by simp [results, Tryd.results42, go_sem, d0, d1, d2, d3, d4, d5, d6]) rfl ⟨?_, rfl⟩
      repeat (refine Below.setCell ?_ (by simp) _)
      exact hbbr
end Go.Proofs.YtceabiodelfdoaaDoor
/- Walks: op.size, op.read. -- s1 -/
namespace Go.Proofs.YtceabiodelfdoaaDoor
open Go.RowKit

def sizeS (s : Shp) : Nat := 2 * s.nums + (if s.id then 1 else 0)
/-- a number of a row of bytes -/
def numAt (bs : List UInt8) (j : Nat) : Int := ((bs.getD (2 * j) 0).toNat : Int) + 256 * ((bs.getD (2 * j + 1) 0).toNat : Int) - 128
def numK (bs : List UInt8) (n j : Nat) : Int := if j < n then numAt bs j else 0
/-- what is read of a row of bytes: all but a picture -/
def readQ (kind : Int) (id : Bool) (n : Nat) (bs : List UInt8) : Pq :=
  ⟨kind, if id then ((bs.getD 0 0).toNat : Int) else 0, numK (if id then bs.drop 1 else bs) n 0, numK (if id then bs.drop 1 else bs) n 1, numK (if id then bs.drop 1 else bs) n 2, numK (if id then bs.drop 1 else bs) n 3, 0, 0, []⟩

set_option maxHeartbeats 2000000 in
set_option maxRecDepth 100000 in
theorem sizeS_any (s : Shp) (w : World) (hn : s.nums ≤ 4) : Calls Tryd.prog 44 #[s.val] w fun e w' => e = .returned (.int .i64 (sizeS s : Nat)) ∧ Below w.heap.size w w' := by
  have hbz : Below w.heap.size w (w.alloc (.cells #[.int .i64 (s.kind : Int), .string s.bytes, .bool s.id, .int .i64 (s.nums : Int), .int .i64 s.low, .int .i64 s.high, .bool s.pic] 92)) := (Below.refl _ _).alloc (Nat.le_refl _) _
  obtain ⟨n, HN⟩ : ∃ n, Hid (s.nums = n) := ⟨_, (rfl : _ = _)⟩
  obtain ⟨b, HB⟩ : ∃ n, Hid (s.id = n) := ⟨_, (rfl : _ = _)⟩
  have hn4 : n ≤ 4 := by rw [← HN.out]; exact hn
  have e1 : IntKind.i64.wrap (2 * (n : Int)) = ((2 * n : Nat) : Int) := by rw [IntKind.wrap_i64]; omega
  have hf : sizeS s = 2 * n + (if b then 1 else 0) := by unfold sizeS; rw [HN.out, HB.out]
  rw [hf]
  unfold Shp.val
  rw [HN.out, HB.out] at hbz ⊢
  clear hf hn
  cases b with
  | true =>
    have e2 : IntKind.i64.wrap (((2 * n : Nat) : Int) + 1) = ((2 * n + 1 : Nat) : Int) := by rw [IntKind.wrap_i64]; omega
    go_enter Tryd.func44, Tryd.ntmps44
    go_wp2_with fail
    go_ret
    exact ⟨by first | rfl | (congr 2; simp; omega), hbz⟩
  | false =>
    go_enter Tryd.func44, Tryd.ntmps44
    go_wp2_with fail
    go_ret
    exact ⟨by first | rfl | (congr 2; simp; omega), hbz⟩

/-- four places -/
structure Slots (W : World) (g : Nat) (f : Nat → Int) : Prop where
  cell : ∀ j, j < 4 → W.cell? ⟨g, j, none⟩ = some (.int .i64 (f j))
  free : ∀ j, j < 4 → W.frozen? ⟨g, j, none⟩ = false
theorem Slots.set {W : World} {g : Nat} {f : Nat → Int} (h : Slots W g f) {k : Nat} (hk : k < 4) (x : Int) : Slots (W.setCell ⟨g, k, none⟩ (.int .i64 x)) g (fun j => if j = k then x else f j) := by
  refine ⟨fun j hj => ?_, fun j hj => (World.frozen?_setCell _ _ _ _).trans (h.free j hj)⟩
  by_cases e : j = k
  · subst e
    simp only [if_true]
    exact World.cell?_setCell_same _ _ _ (h.cell j hj)
  · simp only [if_neg e]
    exact (World.cell?_setCell_other _ ⟨g, k, none⟩ ⟨g, j, none⟩ _ (fun h2 => e (congrArg Addr.off h2).symm)).trans (h.cell j hj)
theorem Slots.on {W W' : World} {g : Nat} {f : Nat → Int} (h : Slots W g f) (hb : Below W.heap.size W W') (hg : g < W.heap.size) : Slots W' g f :=
  ⟨fun j hj => (hb.cell (p := ⟨g, j, none⟩) hg).trans (h.cell j hj), fun j hj => (World.frozen?_of_block (hb.block g hg)).trans (h.free j hj)⟩
theorem Slots.drew {W : World} {g : Nat} {f : Nat → Int} (h : Slots W g f) : Slots W.drew g f := ⟨h.cell, h.free⟩
theorem Slots.other {W : World} {g b : Nat} {f : Nat → Int} (h : Slots W g f) (hne : g ≠ b) (i : Nat) (v : Value) : Slots (W.setCell ⟨b, i, none⟩ v) g f :=
  ⟨fun j hj => (World.cell?_of_block (Below.heap_setCell W ⟨b, i, none⟩ v g hne)).trans (h.cell j hj), fun j hj => (World.frozen?_of_block (Below.heap_setCell W ⟨b, i, none⟩ v g hne)).trans (h.free j hj)⟩
theorem num_parts (bs : List UInt8) (j : Nat) (hj : j < 4) (m0 m1 : Nat) (h0 : (bs.getD (2 * j) 0).toNat = m0) (h1 : (bs.getD (2 * j + 1) 0).toNat = m1) (b0 : m0 ≤ 255) (b1 : m1 ≤ 255) :
    IntKind.i64.wrap (2 * (j : Int)) = ((2 * j : Nat) : Int) ∧ IntKind.i64.wrap (((2 * j : Nat) : Int) + 1) = ((2 * j + 1 : Nat) : Int) ∧ wrap64 (wrap64 (wrap64 (m0 : Int) + wrap64 (256 * wrap64 (m1 : Int))) - 128) = numAt bs j := by
  refine ⟨by rw [IntKind.wrap_i64]; omega, by rw [IntKind.wrap_i64]; omega, ?_⟩
  unfold numAt
  rw [h0, h1]
  have a1 : wrap64 (m1 : Int) = (m1 : Int) := by unfold wrap64; omega
  have a2 : wrap64 (256 * (m1 : Int)) = 256 * (m1 : Int) := by unfold wrap64; omega
  have a3 : wrap64 (m0 : Int) = (m0 : Int) := by unfold wrap64; omega
  have a4 : wrap64 ((m0 : Int) + 256 * (m1 : Int)) = (m0 : Int) + 256 * (m1 : Int) := by unfold wrap64; omega
  rw [a1, a2, a3, a4]
  unfold wrap64; omega
theorem numK_step (bs : List UInt8) (k : Nat) : (fun j => if j = k then numAt bs k else numK bs k j) = numK bs (k + 1) := by
  funext j
  unfold numK
  by_cases e : j = k
  · subst e; simp
  · rw [if_neg e]
    by_cases h : j < k
    · rw [if_pos h, if_pos (by omega)]
    · rw [if_neg h, if_neg (by omega)]
end Go.Proofs.YtceabiodelfdoaaDoor
/- Walks of the reference's byteAt and guess. -/
namespace Go.Proofs.YtceabiodelfdoaaDoor
open Go.RowKit

def guessN (way l u : Nat) : Nat := if way = 1 then l else if way = 2 then u else if way = 3 then (l + u) / 2 else 0

set_option maxRecDepth 100000 in
theorem guess_any (way l u : Nat) (w : World) (hway : way < 4) (hl : l ≤ 255) (hu : u ≤ 255) (r : Nat) (HR : Hid (guessN way l u = r)) :
    Calls Tryd.prog 62 #[.int .i64 (way : Int), .int .i64 (l : Int), .int .i64 (u : Int)] w fun e w' => e = .returned (.int .i64 (r : Int)) ∧ w = w' := by
  have h4 : way = 0 ∨ way = 1 ∨ way = 2 ∨ way = 3 := by omega
  rcases h4 with rfl | rfl | rfl | rfl
  · have hr : r = 0 := by rw [← HR.out]; rfl
    subst hr
    go_enter Tryd.func62, Tryd.ntmps62
    go_wp2_with fail
    go_ret
    exact ⟨rfl, rfl⟩
  · have hr : r = l := by rw [← HR.out]; rfl
    subst hr
    go_enter Tryd.func62, Tryd.ntmps62
    go_wp2_with fail
    go_ret
    exact ⟨rfl, rfl⟩
  · have hr : r = u := by rw [← HR.out]; rfl
    subst hr
    go_enter Tryd.func62, Tryd.ntmps62
    go_wp2_with fail
    go_ret
    exact ⟨rfl, rfl⟩
  · have hr : r = (l + u) / 2 := by rw [← HR.out]; rfl
    clear HR
    go_enter Tryd.func62, Tryd.ntmps62
    go_wp2_with fail
    go_ret
    exact ⟨by subst hr; simp, rfl⟩

set_option maxRecDepth 100000 in
theorem byteAt_out (W H y i : Int) (a : Option Addr) (n cap : Nat) (w : World) (h : y < 0 ∨ i < 0) :
    Calls Tryd.prog 61 #[.agg #[.int .i64 W, .int .i64 H, .slice a n cap], .int .i64 y, .int .i64 i] w fun e w' => e = .returned (.int .i64 0) ∧ Below w.heap.size w w' := by
  by_cases h1 : y < 0
  · go_enter Tryd.func61, Tryd.ntmps61
    go_wp2_with fail
    go_ret
    exact ⟨rfl, (Below.refl _ _).alloc (Nat.le_refl _) _⟩
  · have h2 : i < 0 := by omega
    go_enter Tryd.func61, Tryd.ntmps61
    go_wp2_with fail
    go_ret
    exact ⟨rfl, (Below.refl _ _).alloc (Nat.le_refl _) _⟩

set_option maxRecDepth 100000 in
theorem pixOf_getD : ∀ (l : List UInt8) (j : Nat), 2 * j + 1 < l.length → (pixOf l).getD j (0, 0) = (((l.getD (2 * j) 0).toNat : Int), ((l.getD (2 * j + 1) 0).toNat : Int))
  | [], j, h => by simp at h
  | [_], j, h => by simp at h
  | a :: b :: r, 0, h => by simp [pixOf]
  | a :: b :: r, j + 1, h => by
    have := pixOf_getD r j (by simp at h; omega)
    rw [pixOf, List.getD_cons_succ, this, show 2 * (j + 1) = 2 * j + 1 + 1 by omega, List.getD_cons_succ, List.getD_cons_succ, List.getD_cons_succ, List.getD_cons_succ]

set_option maxRecDepth 100000 in
theorem pixOf_length (l : List UInt8) : (pixOf l).length = l.length / 2 := by
  match l with
  | [] => rfl
  | [_] => simp [pixOf]
  | a :: b :: r =>
    have := pixOf_length r
    simp [pixOf, this]; omega

set_option maxHeartbeats 1000000 in
set_option maxRecDepth 100000 in
theorem byteAt_in (W y i : Nat) (H : Int) (a : Option Addr) (n cap : Nat) (bs : List UInt8) (w : World) (HR : Hid (RdP w (.slice a n cap) (pixOf bs))) (hW : W ≤ 8) (hy : y ≤ 8) (hi : i < 2 * W)
    (hin : y * (2 * W) + (i / 2) * 2 + 1 < bs.length) (r : Nat) (HB : Hid ((bs.getD (y * (2 * W) + i) 0).toNat = r)) :
    Calls Tryd.prog 61 #[.agg #[.int .i64 (W : Int), .int .i64 H, .slice a n cap], .int .i64 (y : Int), .int .i64 (i : Int)] w fun e w' => e = .returned (.int .i64 (r : Int)) ∧ Below w.heap.size w w' := by
  obtain ⟨a', cap', hv, hlc, hcap, hh⟩ := HR.out
  simp only [Value.slice.injEq] at hv
  obtain ⟨rfl, hn, rfl⟩ := hv
  obtain ⟨yw, HYW⟩ : ∃ k, Hid (y * W = k) := ⟨_, (rfl : _ = _)⟩
  have hyw : yw ≤ 64 := by rw [← HYW.out]; have := Nat.mul_le_mul hy hW; omega
  have HY2 : Hid (y * (2 * W) = 2 * yw) := by unfold Hid; rw [← HYW.out]; rw [Nat.mul_left_comm]
  have hmulI : (y : Int) * (W : Int) = (yw : Int) := by rw [← HYW.out]; simp
  rw [HY2.out] at hin
  have hne : pixOf bs ≠ [] := by
    intro e
    have := pixOf_length bs
    rw [e] at this; simp at this; omega
  obtain ⟨g, off, rfl, hg, hcell⟩ := hh hne
  have hlt : yw + i / 2 < n := by rw [hn, pixOf_length]; omega
  have hc := hcell (yw + i / 2) (by rw [← hn]; exact hlt)
  rw [pixOf_getD bs (yw + i / 2) (by omega)] at hc
  obtain ⟨hc0, hc1⟩ := hc
  obtain ⟨r0, HR0⟩ : ∃ k0, Hid ((bs.getD (2 * (yw + i / 2)) 0).toNat = k0) := ⟨_, (rfl : _ = _)⟩
  obtain ⟨r1, HR1⟩ : ∃ k0, Hid ((bs.getD (2 * (yw + i / 2) + 1) 0).toNat = k0) := ⟨_, (rfl : _ = _)⟩
  rw [HR0.out] at hc0
  rw [HR1.out] at hc1
  rw [← hn] at hlc
  clear hcell hh hin hne hn
  have hd0 : (w.alloc (.cells #[.int .i64 (W : Int), .int .i64 H, .slice (some ⟨g, off, none⟩) n cap] 43)).cell? ⟨g, off + (yw + i / 2) * 2, none⟩ = some (.int .i64 (r0 : Int)) := by
    rw [((Below.refl w.heap.size w).alloc (Nat.le_refl _) _).cell (p := ⟨g, off + (yw + i / 2) * 2, none⟩) hg]; exact hc0
  have hd1 : (w.alloc (.cells #[.int .i64 (W : Int), .int .i64 H, .slice (some ⟨g, off, none⟩) n cap] 43)).cell? ⟨g, off + (yw + i / 2) * 2 + 1, none⟩ = some (.int .i64 (r1 : Int)) := by
    rw [((Below.refl w.heap.size w).alloc (Nat.le_refl _) _).cell (p := ⟨g, off + (yw + i / 2) * 2 + 1, none⟩) hg]; exact hc1
  have hmI : (i : Int) % 2 = ((i % 2 : Nat) : Int) := by simp
  by_cases hp : i % 2 = 0
  · have hr : r = r0 := by rw [← HB.out, ← HR0.out, HY2.out]; congr 2; omega
    subst hr
    rw [hp] at hmI
    have hmt : (i : Int).tmod 2 = 0 := by rw [Int.tmod_eq_emod_of_nonneg (by omega)]; exact hmI
    go_enter Tryd.func61, Tryd.ntmps61
    go_wp2_with fail
    go_ret
    exact ⟨rfl, ((Below.refl _ _).alloc (Nat.le_refl _) _).alloc (by simp) _⟩
  · have hr : r = r1 := by rw [← HB.out, ← HR1.out, HY2.out]; congr 2; omega
    subst hr
    rw [show i % 2 = 1 by omega] at hmI
    have hmt : (i : Int).tmod 2 = 1 := by rw [Int.tmod_eq_emod_of_nonneg (by omega)]; exact hmI
    go_enter Tryd.func61, Tryd.ntmps61
    go_wp2_with fail
    go_ret
    exact ⟨rfl, ((Below.refl _ _).alloc (Nat.le_refl _) _).alloc (by simp) _⟩
end Go.Proofs.YtceabiodelfdoaaDoor
/- What is parsed is not too long. -- s1 -/
namespace Go.Proofs.YtceabiodelfdoaaDoor
open Go.RowKit

theorem parseRows_lenP (rs : List UInt8) (W : Nat) : ∀ f k ab, (parseRows rs W f k ab).1.length ≤ f * W
  | 0, k, ab => by simp [parseRows]
  | f + 1, k, ab => by
    rw [parseRows]
    split
    · simp
    · split
      · simp
      · have ih := parseRows_lenP rs W f (k + 1) (Fb.restL (rs.getD (k * (1 + 2 * W)) 0).toNat ((rs.drop (k * (1 + 2 * W) + 1)).take (2 * W)) ab)
        have h2 : (Fb.restL (rs.getD (k * (1 + 2 * W)) 0).toNat ((rs.drop (k * (1 + 2 * W) + 1)).take (2 * W)) ab).length ≤ 2 * W := by
          unfold Fb.restL; rw [Fb.restTo_len]; exact List.length_take_le _ _
        simp only [List.length_append, pixOf_length, Nat.add_mul, Nat.one_mul]
        omega
theorem parse_lenP (l : List UInt8) (W' H' c : Nat) (ps : List (Int × Int)) (h : parseL l = (W', H', ps, c)) : ps.length ≤ 64 := by
  unfold parseL at h
  split at h
  · simp at h; obtain ⟨_, _, rfl, _⟩ := h; simp
  · split at h
    · simp at h; obtain ⟨_, _, rfl, _⟩ := h; simp
    · rename_i hs
      split at h
      · simp at h; obtain ⟨_, _, rfl, _⟩ := h; simp
      · split at h
        · simp at h; obtain ⟨_, _, rfl, _⟩ := h; simp
        · split at h
          · simp at h; obtain ⟨_, _, rfl, _⟩ := h; simp
          · simp only [Prod.mk.injEq] at h
            obtain ⟨_, _, rfl, _⟩ := h
            refine Nat.le_trans (parseRows_lenP _ _ _ _ _) ?_
            have h1 : (l.getD 0 0).toNat ≤ 8 ∧ (l.getD 1 0).toNat ≤ 8 := by
              have ha : sideB ((l.getD 0 0).toNat : Int) = true := by
                cases h : sideB ((l.getD 0 0).toNat : Int) with
                | false => exact absurd (Or.inl h) hs
                | true => rfl
              have hb : sideB ((l.getD 1 0).toNat : Int) = true := by
                cases h : sideB ((l.getD 1 0).toNat : Int) with
                | false => exact absurd (Or.inr h) hs
                | true => rfl
              unfold sideB at ha hb
              simp only [Bool.and_eq_true, decide_eq_true_eq] at ha hb
              omega
            exact Nat.mul_le_mul h1.2 h1.1
end Go.Proofs.YtceabiodelfdoaaDoor
/- Walks: the reference's parts of an op, and its fault. -/
namespace Go.Proofs.YtceabiodelfdoaaDoor
open Go.RowKit
set_option linter.unusedSimpArgs false

set_option maxHeartbeats 4000000 in
set_option maxRecDepth 100000 in
theorem parts_1 (w : World) : Calls Tryd.prog 31 #[.int .i64 1] w fun e w' => e = .returned (.tuple #[.bool false, .int .i64 2, .bool false]) ∧ w' = w := by
  go_enter Tryd.func31, Tryd.ntmps31
  go_wp2_with fail
  first
  | (go_ret; exact ⟨rfl, rfl⟩)
  | exact bodyPost_ret (v := .tuple #[.bool false, .int .i64 2, .bool false]) (by simp [results, Tryd.results31, go_sem]) rfl ⟨rfl, rfl⟩
theorem parts_2 (w : World) : Calls Tryd.prog 31 #[.int .i64 2] w fun e w' => e = .returned (.tuple #[.bool true, .int .i64 0, .bool true]) ∧ w' = w := by
  go_enter Tryd.func31, Tryd.ntmps31
  go_wp2_with fail
  first
  | (go_ret; exact ⟨rfl, rfl⟩)
  | exact bodyPost_ret (v := .tuple #[.bool true, .int .i64 0, .bool true]) (by simp [results, Tryd.results31, go_sem]) rfl ⟨rfl, rfl⟩
theorem parts_3 (w : World) : Calls Tryd.prog 31 #[.int .i64 3] w fun e w' => e = .returned (.tuple #[.bool true, .int .i64 2, .bool false]) ∧ w' = w := by
  go_enter Tryd.func31, Tryd.ntmps31
  go_wp2_with fail
  first
  | (go_ret; exact ⟨rfl, rfl⟩)
  | exact bodyPost_ret (v := .tuple #[.bool true, .int .i64 2, .bool false]) (by simp [results, Tryd.results31, go_sem]) rfl ⟨rfl, rfl⟩
theorem parts_4 (w : World) : Calls Tryd.prog 31 #[.int .i64 4] w fun e w' => e = .returned (.tuple #[.bool true, .int .i64 4, .bool false]) ∧ w' = w := by
  go_enter Tryd.func31, Tryd.ntmps31
  go_wp2_with fail
  first
  | (go_ret; exact ⟨rfl, rfl⟩)
  | exact bodyPost_ret (v := .tuple #[.bool true, .int .i64 4, .bool false]) (by simp [results, Tryd.results31, go_sem]) rfl ⟨rfl, rfl⟩
theorem parts_5 (w : World) : Calls Tryd.prog 31 #[.int .i64 5] w fun e w' => e = .returned (.tuple #[.bool true, .int .i64 1, .bool false]) ∧ w' = w := by
  go_enter Tryd.func31, Tryd.ntmps31
  go_wp2_with fail
  first
  | (go_ret; exact ⟨rfl, rfl⟩)
  | exact bodyPost_ret (v := .tuple #[.bool true, .int .i64 1, .bool false]) (by simp [results, Tryd.results31, go_sem]) rfl ⟨rfl, rfl⟩
theorem parts_6 (w : World) : Calls Tryd.prog 31 #[.int .i64 6] w fun e w' => e = .returned (.tuple #[.bool true, .int .i64 1, .bool false]) ∧ w' = w := by
  go_enter Tryd.func31, Tryd.ntmps31
  go_wp2_with fail
  first
  | (go_ret; exact ⟨rfl, rfl⟩)
  | exact bodyPost_ret (v := .tuple #[.bool true, .int .i64 1, .bool false]) (by simp [results, Tryd.results31, go_sem]) rfl ⟨rfl, rfl⟩
theorem parts_7 (w : World) : Calls Tryd.prog 31 #[.int .i64 7] w fun e w' => e = .returned (.tuple #[.bool true, .int .i64 0, .bool false]) ∧ w' = w := by
  go_enter Tryd.func31, Tryd.ntmps31
  go_wp2_with fail
  first
  | (go_ret; exact ⟨rfl, rfl⟩)
  | exact bodyPost_ret (v := .tuple #[.bool true, .int .i64 0, .bool false]) (by simp [results, Tryd.results31, go_sem]) rfl ⟨rfl, rfl⟩
theorem parts_8 (w : World) : Calls Tryd.prog 31 #[.int .i64 8] w fun e w' => e = .returned (.tuple #[.bool true, .int .i64 2, .bool true]) ∧ w' = w := by
  go_enter Tryd.func31, Tryd.ntmps31
  go_wp2_with fail
  first
  | (go_ret; exact ⟨rfl, rfl⟩)
  | exact bodyPost_ret (v := .tuple #[.bool true, .int .i64 2, .bool true]) (by simp [results, Tryd.results31, go_sem]) rfl ⟨rfl, rfl⟩
theorem parts_9 (w : World) : Calls Tryd.prog 31 #[.int .i64 9] w fun e w' => e = .returned (.tuple #[.bool true, .int .i64 2, .bool true]) ∧ w' = w := by
  go_enter Tryd.func31, Tryd.ntmps31
  go_wp2_with fail
  first
  | (go_ret; exact ⟨rfl, rfl⟩)
  | exact bodyPost_ret (v := .tuple #[.bool true, .int .i64 2, .bool true]) (by simp [results, Tryd.results31, go_sem]) rfl ⟨rfl, rfl⟩
theorem parts_10 (w : World) : Calls Tryd.prog 31 #[.int .i64 10] w fun e w' => e = .returned (.tuple #[.bool false, .int .i64 2, .bool false]) ∧ w' = w := by
  go_enter Tryd.func31, Tryd.ntmps31
  go_wp2_with fail
  first
  | (go_ret; exact ⟨rfl, rfl⟩)
  | exact bodyPost_ret (v := .tuple #[.bool false, .int .i64 2, .bool false]) (by simp [results, Tryd.results31, go_sem]) rfl ⟨rfl, rfl⟩
theorem parts_11 (w : World) : Calls Tryd.prog 31 #[.int .i64 11] w fun e w' => e = .returned (.tuple #[.bool false, .int .i64 1, .bool false]) ∧ w' = w := by
  go_enter Tryd.func31, Tryd.ntmps31
  go_wp2_with fail
  first
  | (go_ret; exact ⟨rfl, rfl⟩)
  | exact bodyPost_ret (v := .tuple #[.bool false, .int .i64 1, .bool false]) (by simp [results, Tryd.results31, go_sem]) rfl ⟨rfl, rfl⟩
theorem parts_12 (w : World) : Calls Tryd.prog 31 #[.int .i64 12] w fun e w' => e = .returned (.tuple #[.bool false, .int .i64 1, .bool false]) ∧ w' = w := by
  go_enter Tryd.func31, Tryd.ntmps31
  go_wp2_with fail
  first
  | (go_ret; exact ⟨rfl, rfl⟩)
  | exact bodyPost_ret (v := .tuple #[.bool false, .int .i64 1, .bool false]) (by simp [results, Tryd.results31, go_sem]) rfl ⟨rfl, rfl⟩
theorem parts_13 (w : World) : Calls Tryd.prog 31 #[.int .i64 13] w fun e w' => e = .returned (.tuple #[.bool false, .int .i64 0, .bool false]) ∧ w' = w := by
  go_enter Tryd.func31, Tryd.ntmps31
  go_wp2_with fail
  first
  | (go_ret; exact ⟨rfl, rfl⟩)
  | exact bodyPost_ret (v := .tuple #[.bool false, .int .i64 0, .bool false]) (by simp [results, Tryd.results31, go_sem]) rfl ⟨rfl, rfl⟩
theorem parts_14 (w : World) : Calls Tryd.prog 31 #[.int .i64 14] w fun e w' => e = .returned (.tuple #[.bool false, .int .i64 0, .bool false]) ∧ w' = w := by
  go_enter Tryd.func31, Tryd.ntmps31
  go_wp2_with fail
  first
  | (go_ret; exact ⟨rfl, rfl⟩)
  | exact bodyPost_ret (v := .tuple #[.bool false, .int .i64 0, .bool false]) (by simp [results, Tryd.results31, go_sem]) rfl ⟨rfl, rfl⟩
theorem parts_15 (w : World) : Calls Tryd.prog 31 #[.int .i64 15] w fun e w' => e = .returned (.tuple #[.bool false, .int .i64 0, .bool false]) ∧ w' = w := by
  go_enter Tryd.func31, Tryd.ntmps31
  go_wp2_with fail
  first
  | (go_ret; exact ⟨rfl, rfl⟩)
  | exact bodyPost_ret (v := .tuple #[.bool false, .int .i64 0, .bool false]) (by simp [results, Tryd.results31, go_sem]) rfl ⟨rfl, rfl⟩
theorem parts_16 (w : World) : Calls Tryd.prog 31 #[.int .i64 16] w fun e w' => e = .returned (.tuple #[.bool false, .int .i64 0, .bool false]) ∧ w' = w := by
  go_enter Tryd.func31, Tryd.ntmps31
  go_wp2_with fail
  first
  | (go_ret; exact ⟨rfl, rfl⟩)
  | exact bodyPost_ret (v := .tuple #[.bool false, .int .i64 0, .bool false]) (by simp [results, Tryd.results31, go_sem]) rfl ⟨rfl, rfl⟩
/-- what kind of op: has it an ID, how many numbers, a picture; the bounds -/
def rowR (k : Int) : Bool × Nat × Bool × List Int × List Int :=
  if k = 1 then (false, 2, false, [1, 1, 0, 0], [8, 8, 0, 0])
  else if k = 2 then (true, 0, true, [0, 0, 0, 0], [0, 0, 0, 0])
  else if k = 3 then (true, 2, false, [-20, -20, 0, 0], [20, 20, 0, 0])
  else if k = 4 then (true, 4, false, [-20, -20, 0, 0], [20, 20, 20, 20])
  else if k = 5 then (true, 1, false, [0, 0, 0, 0], [1, 0, 0, 0])
  else if k = 6 then (true, 1, false, [1, 0, 0, 0], [6, 0, 0, 0])
  else if k = 7 then (true, 0, false, [0, 0, 0, 0], [0, 0, 0, 0])
  else if k = 8 then (true, 2, true, [-20, -20, 0, 0], [20, 20, 0, 0])
  else if k = 9 then (true, 2, true, [-20, -20, 0, 0], [20, 20, 0, 0])
  else if k = 10 then (false, 2, false, [0, 0, 0, 0], [255, 255, 0, 0])
  else if k = 11 then (false, 1, false, [0, 0, 0, 0], [99, 0, 0, 0])
  else if k = 12 then (false, 1, false, [0, 0, 0, 0], [9, 0, 0, 0])
  else if k = 13 then (false, 0, false, [0, 0, 0, 0], [0, 0, 0, 0])
  else if k = 14 then (false, 0, false, [0, 0, 0, 0], [0, 0, 0, 0])
  else if k = 15 then (false, 0, false, [0, 0, 0, 0], [0, 0, 0, 0])
  else if k = 16 then (false, 0, false, [0, 0, 0, 0], [0, 0, 0, 0])
  else (false, 0, false, [0, 0, 0, 0], [0, 0, 0, 0])
def numR (q : Pq) : List Int := [q.a, q.b, q.c, q.d]
def rfC (q : Pq) : Nat :=
  if q.kind < 1 ∨ 16 < q.kind then 3
  else if ((numR q).drop (rowR q.kind).2.1).any (fun n => n != 0) then 3
  else if (!(rowR q.kind).1 && q.id != 0) || (!(rowR q.kind).2.2.1 && (q.pw != 0 || q.ph != 0 || decide (0 < q.ps.length))) then 3
  else if (rowR q.kind).1 && (decide (q.id < 1) || decide (6 < q.id)) then 1
  else if (((numR q).zip ((rowR q.kind).2.2.2.1.zip (rowR q.kind).2.2.2.2)).take (rowR q.kind).2.1).any (fun x => decide (x.1 < x.2.1) || decide (x.2.2 < x.1)) then 1
  else if (rowR q.kind).2.2.1 then checkL q.pw q.ph q.ps else 0
/-- what the reference's OpFault answers -/
def OpfP (q : Pq) (w : World) (e : Ending) (w' : World) : Prop := e = .returned (.int .i64 (rfC q : Nat)) ∧ Below w.heap.size w w'
end Go.Proofs.YtceabiodelfdoaaDoor
/- The reference's table of names. -- s1 -/
namespace Go.Proofs.YtceabiodelfdoaaDoor
open Go.ChangeShapes Go.WideShapes Go.ChangeAt Go.RowKit Go.Joins Go.Deep Go.Lib

/-- the names, no kind's first -/
def nmsB : List (List UInt8) := [] :: shps.map Shp.name
theorem nmsB_len : nmsB.length = 17 := rfl
theorem Tryd.cellsStr : Tryd.prog.cellsOf 9 = 1 := by kernel_rfl
theorem laid_names {H : Type} : (Rows.laid_flickerbook_flickerbookref_names : DataW H) = .slice (nmsB.map fun l => .lit (.string l)) [] := rfl
/-- the table lies where the program has it -/
def RefNames (W : World) : Prop := ∃ b off cap, W.cell? ⟨0, 0, none⟩ = some (.slice (some ⟨b, off, none⟩) 17 cap) ∧ b < W.heap.size ∧ 0 < W.heap.size ∧ ∀ k l, nmsB[k]? = some l → W.cell? ⟨b, off + k, none⟩ = some (.string ⟨l.toArray⟩)
theorem RefNames.on {w w' : World} (h : RefNames w) (hb : Below w.heap.size w w') : RefNames w' := by
  obtain ⟨b, off, cap, h1, h2, h3, h4⟩ := h
  exact ⟨b, off, cap, (hb.cell (p := ⟨_, 0, none⟩) h3).trans h1, Nat.lt_of_lt_of_le h2 hb.size, Nat.lt_of_lt_of_le h3 hb.size, fun k l hk => (hb.cell (p := ⟨b, off + k, none⟩) h2).trans (h4 k l hk)⟩
theorem laid_tail {P : Program} {W : World} {x : String × DataW Unit} {rest : List (String × DataW Unit)} (h : laidMet P (x :: rest) W) : laidMet P rest W := by
  obtain ⟨ps, ⟨g', t', cs, fuel, p, q, _, _, _, _, hq, rfl⟩, hn, hh⟩ := h
  exact ⟨q, hq, (List.nodup_append.1 hn).2.1, fun b off hm => hh b off (by simp [hm])⟩

set_option maxRecDepth 100000 in
theorem names_of_laid {W : World} {rest : List (String × DataW Unit)} (h : laidMet Tryd.prog (("flickerbook/flickerbookref.names", Rows.laid_flickerbook_flickerbookref_names) :: rest) W) : RefNames W := by
  obtain ⟨ps, ⟨g', t', cs, fuel, p, q, hg', ht', hvar, hd, _, _⟩, _⟩ := h
  obtain rfl := Option.some.inj ((show Tryd.prog.globalNamed "flickerbook/flickerbookref.names" = some 0 by kernel_rfl).symm.trans hg')
  obtain rfl := Option.some.inj ((show (Tryd.prog.globals[0]?).map (·.type) = some 70 by kernel_rfl).symm.trans ht')
  rcases open_strings Tryd.underlying70 Tryd.underlying9 Tryd.cellsStr hd with ⟨_, hx⟩ | ⟨a, len, cap, ss, hcs, _, hl, hm, hz, hx, hcell, _⟩
  · rw [laid_names] at hx
    simp at hx
  simp only [if_true] at hz
  rw [laid_names] at hx
  simp only [Prod.mk.injEq, DataW.slice.injEq] at hx
  obtain ⟨⟨hx1, hx2⟩, _⟩ := hx
  have hlen : len = 17 := by
    have h1 := congrArg List.length hx1
    simp [strs, nmsB_len] at h1
    omega
  subst hlen
  obtain ⟨sb, so, spot⟩ := a
  have hsl : 17 ≤ ss.length := by omega
  have h0 := hcell 0 (by omega)
  have hspot : spot = none := by
    have := World.cell?_spot h0
    simpa [Addr.add] using this
  subst hspot
  have hc0 : W.cell? ⟨0, 0, none⟩ = some (.slice (some ⟨sb, so, none⟩) 17 cap) := by
    have h1 := World.var?_cell hg' hvar 0
    rw [h1]
    have h2 : cs[0]? = some (.slice (some ⟨sb, so, none⟩) 17 cap) := by rw [← Array.getElem?_toList, hcs]; rfl
    exact h2
  have hlt : ∀ (g j : Nat) (u : Value), W.cell? ⟨g, j, none⟩ = some u → g < W.heap.size := fun g j u hu => World.block_lt_of_cell? W ⟨g, j, none⟩ hu
  refine ⟨sb, so, cap, hc0, hlt _ _ _ (by rw [add_plain] at h0; exact h0), hlt _ _ _ hc0, fun k l hk => ?_⟩
  have hk17 : k < 17 := by
    have := (List.getElem?_eq_some_iff.1 hk).1
    rw [nmsB_len] at this; exact this
  have h1 := hcell k (by omega)
  rw [add_plain] at h1
  rw [h1]
  have h2 := congrArg (fun l : List (DataW Unit) => l[k]?) hx1
  simp only [strs, List.getElem?_map, hk, List.getElem?_take, if_pos hk17] at h2
  rw [List.getD_eq_getElem?_getD]
  rw [List.getElem?_eq_getElem (by omega)] at h2 ⊢
  simp at h2
  simp only [Option.getD_some]
  congr 2
  exact WideShapes.bytes_inj (by simp [← h2])
end Go.Proofs.YtceabiodelfdoaaDoor
/- Walks: the reference's SumOf, NameMay, ChunkBytes. -- s1 -/
namespace Go.Proofs.YtceabiodelfdoaaDoor
open Go.RowKit

set_option maxHeartbeats 2000000 in
set_option maxRecDepth 100000 in
theorem sumR_any (s : ByteArray) (w : World) (hs : s.size ≤ 1000000) (a b : Nat) (HS : Hid (Fb.sumL s.data.toList = (a, b))) :
    Calls Tryd.prog 38 #[.string s] w fun e w' => e = .returned (.tuple #[.int .i64 (a : Int), .int .i64 (b : Int)]) ∧ w = w' := by
  have HL : Hid (s.data.toList.length = s.size) := by unfold Hid; simp
  go_enter Tryd.func38, Tryd.ntmps38
  go_wp2_with fail
  go_loopw [4, 5, 6] (fun x y i wr => ∃ k p q : Nat, k ≤ s.size ∧ i = .int .i64 k ∧ x = .int .i64 p ∧ y = .int .i64 q ∧ p < 251 ∧ q < 251 ∧ Hid (Fb.sumL s.data.toList = (s.data.toList.drop k).foldl Fb.sumStep (p, q)) ∧ wr = w) (fun _ _ i _ => s.size - (intOf i).toNat)
  case atStart => exact ⟨0, 1, 0, by omega, rfl, rfl, rfl, by omega, by omega, (rfl : _ = _), rfl⟩
  case round =>
    obtain ⟨k, p, q, hk, rfl, rfl, rfl, hp, hq, HK, rfl⟩ := hrel
    by_cases hlt : k < s.size
    · have hki : (k : Int) < (s.size : Int) := by omega
      have hki0 : (0 : Int) ≤ (k : Int) := by omega
      obtain ⟨c, HC⟩ : ∃ c, Hid (s.data.toList.getD k 0 = c) := ⟨_, (rfl : _ = _)⟩
      obtain ⟨m, HM⟩ : ∃ m, Hid (c.toNat = m) := ⟨_, (rfl : _ = _)⟩
      have hix := nat_at s k c HC m HM
      have hmb := byte_le c m HM
      have HN : Hid (Fb.sumL s.data.toList = (s.data.toList.drop (k + 1)).foldl Fb.sumStep ((p + m) % 251, (q + (p + m) % 251) % 251)) := by
        unfold Hid; rw [HK.out, drop_one _ k (by rw [HL.out]; exact hlt), HC.out, List.foldl_cons]
        unfold Fb.sumStep; rw [HM.out]
      go_wp2_with fail
      go_roundw
      case rel => exact ⟨k + 1, (p + m) % 251, (q + (p + m) % 251) % 251, by omega, by go_num, by go_num, by go_num, by omega, by omega, HN, trivial⟩
      case measure => simp [intOf]; omega
    · have hki : ¬ (k : Int) < (s.size : Int) := by omega
      have hend : (p, q) = (a, b) := by rw [← HS.out, HK.out, List.drop_eq_nil_of_le (by rw [HL.out]; omega)]; rfl
      have h1 : p = a := congrArg Prod.fst hend
      have h2 : q = b := congrArg Prod.snd hend
      subst h1 h2
      clear hend
      go_wp2_with fail
      go_ret2
      exact ⟨rfl, rfl⟩

set_option maxHeartbeats 2000000 in
set_option maxRecDepth 100000 in
theorem nameR_any (s : ByteArray) (w : World) (b : Bool) (HB : Hid (Fb.nameB s.data.toList = b)) :
    Calls Tryd.prog 37 #[.string s] w fun e w' => e = .returned (.bool b) ∧ w = w' := by
  have HL : Hid (s.data.toList.length = s.size) := by unfold Hid; simp
  by_cases h4 : s.size = 4
  · have hd : ((s.size : Int) != 4) = false := by rw [bne_eq_false_iff_eq]; omega
    have HF : Hid (s.data.toList.all Fb.letter = b) := by unfold Hid; rw [← HB.out]; unfold Fb.nameB; rw [HL.out, h4]; simp
    have HS4 := hid_of3 h4
    clear h4
    go_enter Tryd.func37, Tryd.ntmps37
    go_wp2_with fail
    go_loopw [3] (fun i wr => ∃ k : Nat, k ≤ 4 ∧ i = .int .i64 k ∧ Hid (s.data.toList.all Fb.letter = (s.data.toList.drop k).all Fb.letter) ∧ wr = w) (fun i _ => 4 - (intOf i).toNat)
    case atStart => exact ⟨0, by omega, rfl, (rfl : _ = _), rfl⟩
    case round =>
      obtain ⟨k, hk, rfl, HK, rfl⟩ := hrel
      by_cases hlt : k < 4
      · have hki : (k : Int) < 4 := by omega
        have hki0 : (0 : Int) ≤ (k : Int) := by omega
        have hkl : k < s.size := by rw [HS4.out]; exact hlt
        obtain ⟨c, HC⟩ : ∃ c, Hid (s.data.toList.getD k 0 = c) := ⟨_, (rfl : _ = _)⟩
        obtain ⟨m, HM⟩ : ∃ m, Hid (c.toNat = m) := ⟨_, (rfl : _ = _)⟩
        have hix := nat_at s k c HC m HM
        have hmb := byte_le c m HM
        have HN : Hid ((s.data.toList.drop k).all Fb.letter = (decide (65 ≤ m) && decide (m ≤ 90) && (s.data.toList.drop (k + 1)).all Fb.letter)) := name_step _ k m c HC HM (by rw [HL.out]; exact hkl)
        by_cases hlo : m < 65
        · have hb : b = false := by rw [← HF.out, HK.out, HN.out]; simp; omega
          have hloi : (m : Int) < 65 := by omega
          subst hb
          go_wp2_with fail
          go_ret
          exact ⟨rfl, rfl⟩
        · have hloi : ¬ (m : Int) < 65 := by omega
          by_cases hhi : 90 < m
          · have hb : b = false := by rw [← HF.out, HK.out, HN.out]; simp; omega
            have hhii : (90 : Int) < (m : Int) := by omega
            subst hb
            go_wp2_with fail
            go_ret
            exact ⟨rfl, rfl⟩
          · have hhii : ¬ (90 : Int) < (m : Int) := by omega
            have HN2 : Hid (s.data.toList.all Fb.letter = (s.data.toList.drop (k + 1)).all Fb.letter) := by
              unfold Hid; rw [HK.out, HN.out]; simp [show 65 ≤ m by omega, show m ≤ 90 by omega]
            go_wp2_with fail
            go_roundw
            case rel => exact ⟨k + 1, by omega, by go_num, HN2, trivial⟩
            case measure => simp [intOf]; omega
      · have hki : ¬ (k : Int) < 4 := by omega
        have hb : b = true := by rw [← HF.out, HK.out, List.drop_eq_nil_of_le (by rw [HL.out, HS4.out]; omega)]; rfl
        subst hb
        go_wp2_with fail
        go_ret
        exact ⟨rfl, rfl⟩
  · have hd : ((s.size : Int) != 4) = true := by rw [bne_iff_ne]; omega
    have hb : b = false := by rw [← HB.out]; unfold Fb.nameB; rw [HL.out]; simp [h4]
    subst hb
    clear h4
    go_enter Tryd.func37, Tryd.ntmps37
    go_wp2_with fail
    go_ret
    exact ⟨rfl, rfl⟩
end Go.Proofs.YtceabiodelfdoaaDoor
/- Walks: the reference's ChunkBytes, ChunkFirst. -- s1 -/
namespace Go.Proofs.YtceabiodelfdoaaDoor
open Go.RowKit

theorem ba_str (t : ByteArray) (l : List UInt8) (h : t.data.toList = l) : Value.string t = str l := by
  subst h; exact (str_self t).symm
set_option maxHeartbeats 8000000 in
set_option maxRecDepth 100000 in
theorem chunkBytesR_any (n d : ByteArray) (w : World) (hn : n.size ≤ 1000000) (hd : d.size ≤ 1000000) :
    Calls Tryd.prog 22 #[.string n, .string d] w fun e w' => e = .returned (.tuple #[str (Fb.chunkBytes n.data.toList d.data.toList).1, .int .i64 ((Fb.chunkBytes n.data.toList d.data.toList).2 : Nat)]) ∧ Below w.heap.size w w' := by
  have HLN : Hid (n.data.toList.length = n.size) := by unfold Hid; simp
  have HLD : Hid (d.data.toList.length = d.size) := by unfold Hid; simp
  cases hnm : Fb.nameB n.data.toList with
  | false =>
    have HN : Hid (Fb.nameB n.data.toList = false) := hnm
    have HF : Hid (Fb.chunkBytes n.data.toList d.data.toList = ([], 3)) := by unfold Hid Fb.chunkBytes; rw [if_pos hnm]
    clear hnm
    go_enter Tryd.func22, Tryd.ntmps22
    go_wp2_with fail
    refine (nameR_any n w false HN).mono ?_
    rintro e w1 ⟨rfl, rfl⟩
    go_wp2_with fail
    refine bodyPost_ret (v := .tuple #[.string ⟨#[]⟩, .int .i64 3]) (by simp [results, Tryd.results22, go_sem]) rfl ⟨by rw [HF.out]; rfl, Below.refl _ _⟩
  | true =>
    have HN : Hid (Fb.nameB n.data.toList = true) := hnm
    have hn4 : n.size ≤ 4 := by have := Fb.nameB_len hnm; rw [HLN.out] at this; omega
    clear hnm
    by_cases hbig : 65535 < d.size
    · have hbi : (65535 : Int) < (d.size : Int) := by omega
      have HF : Hid (Fb.chunkBytes n.data.toList d.data.toList = ([], 2)) := by unfold Hid Fb.chunkBytes; rw [if_neg (by rw [HN.out]; decide), if_pos (by rw [HLD.out]; exact hbig)]
      go_enter Tryd.func22, Tryd.ntmps22
      go_wp2_with fail
      refine (nameR_any n w true HN).mono ?_
      rintro e w1 ⟨rfl, rfl⟩
      go_wp2_with fail
      refine bodyPost_ret (v := .tuple #[.string ⟨#[]⟩, .int .i64 2]) (by simp [results, Tryd.results22, go_sem]) rfl ⟨by rw [HF.out]; rfl, Below.refl _ _⟩
    have hbi : ¬ (65535 : Int) < (d.size : Int) := by omega
    have HF : Hid (Fb.chunkBytes n.data.toList d.data.toList = (Fb.sealL (Fb.headL n.data.toList d.data.toList), 0)) := by unfold Hid Fb.chunkBytes; rw [if_neg (by rw [HN.out]; decide), if_neg (by rw [HLD.out]; exact hbig)]
    obtain ⟨D, HD⟩ : ∃ r, Hid (d.size = r) := ⟨_, (rfl : _ = _)⟩
    obtain ⟨r, HR⟩ : ∃ r, Hid (D % 256 = r) := ⟨_, (rfl : _ = _)⟩
    obtain ⟨q, HQ⟩ : ∃ r, Hid (D / 256 = r) := ⟨_, (rfl : _ = _)⟩
    have hr : r < 256 := by rw [← HR.out]; omega
    have hq : q < 256 := by rw [← HQ.out]; have := HD.out; omega
    have eD : (d.size : Int) = (D : Int) := by have := HD.out; omega
    have ed1 : (D : Int).tmod 256 = (r : Int) := by rw [Int.tmod_eq_emod_of_nonneg (by omega), ← HR.out]; omega
    have ed2 : (D : Int).tdiv 256 = (D : Int) / 256 := Int.tdiv_eq_ediv_of_nonneg (by omega)
    have ei1 : IntKind.i64.wrap ((D : Int) / 256) = (q : Int) := by rw [IntKind.wrap_i64, ← HQ.out]; have := HD.out; omega
    have eu0 : IntKind.u8.wrap (r : Int) = (r : Int) := by rw [IntKind.wrap_u8]; omega
    have eu1 : IntKind.u8.wrap (q : Int) = (q : Int) := by rw [IntKind.wrap_u8]; omega
    have HA : Hid (((UInt8.ofNat r).toNat : Int) = (r : Int)) := by unfold Hid; rw [u8_toNat r hr]
    have HB : Hid (((UInt8.ofNat q).toNat : Int) = (q : Int)) := by unfold Hid; rw [u8_toNat q hq]
    have hcv := run_pair w w.heap.size rfl (r : Int) (q : Int) (UInt8.ofNat r) (UInt8.ofNat q) HA HB
    have hz1 : ¬ 9223372036854775807 < n.size + 2 := by omega
    have hz2 : ¬ 9223372036854775807 < n.size + 2 + d.size := by omega
    go_enter Tryd.func22, Tryd.ntmps22
    go_wp2_with fail
    refine (nameR_any n w true HN).mono ?_
    rintro e w1 ⟨rfl, rfl⟩
    go_wp2_with fail
    obtain ⟨t, HT⟩ : ∃ t, Hid (n ++ { data := #[UInt8.ofNat r, UInt8.ofNat q] } ++ d = t) := ⟨_, (rfl : _ = _)⟩
    have HTL : Hid (t.data.toList = Fb.headL n.data.toList d.data.toList) := by
      unfold Hid Fb.headL Fb.pairL
      rw [← HT.out, HLD.out, HD.out, HR.out, HQ.out]
      simp
    have hts : t.size = n.size + 2 + d.size := by rw [← HT.out]; simp [ByteArray.size_append]; rfl
    rw [HT.out]
    obtain ⟨ab, HAB⟩ : ∃ z, Hid (Fb.sumL t.data.toList = z) := ⟨_, (rfl : _ = _)⟩
    obtain ⟨a, b⟩ := ab
    obtain ⟨ha, hb⟩ := Fb.sumL_lt t.data.toList
    rw [HAB.out] at ha hb
    simp only at ha hb
    clear hcv
    refine (sumR_any t _ (by omega) a b HAB).mono ?_
    rintro e w1 ⟨rfl, rfl⟩
    have ev0 : IntKind.u8.wrap (a : Int) = (a : Int) := by rw [IntKind.wrap_u8]; omega
    have ev1 : IntKind.u8.wrap (b : Int) = (b : Int) := by rw [IntKind.wrap_u8]; omega
    have HA2 : Hid (((UInt8.ofNat a).toNat : Int) = (a : Int)) := by unfold Hid; rw [u8_toNat a (by omega)]
    have HB2 : Hid (((UInt8.ofNat b).toNat : Int) = (b : Int)) := by unfold Hid; rw [u8_toNat b (by omega)]
    have hcv2 := run_pair (w.alloc (.cells #[.int .u8 (r : Int), .int .u8 (q : Int)] 5)) (w.heap.size + 1) (by simp) (a : Int) (b : Int) (UInt8.ofNat a) (UInt8.ofNat b) HA2 HB2
    have hz3 : ¬ 9223372036854775807 < t.size + 2 := by omega
    go_wp2_with fail
    refine bodyPost_ret (v := .tuple #[.string (t ++ { data := #[UInt8.ofNat a, UInt8.ofNat b] }), .int .i64 0]) (by simp [results, Tryd.results22, go_sem]) rfl ⟨?_, ?_⟩
    · rw [HF.out]
      have : Value.string (t ++ { data := #[UInt8.ofNat a, UInt8.ofNat b] }) = str (Fb.sealL (Fb.headL n.data.toList d.data.toList)) := ba_str _ _ (by
        unfold Fb.sealL Fb.pairL
        rw [← HTL.out, HAB.out]
        simp)
      rw [this]
      rfl
    · exact ((Below.refl _ _).alloc (Nat.le_refl _) _).alloc (by simp) _
end Go.Proofs.YtceabiodelfdoaaDoor
/- Walk: the reference's ChunkFirst. -- s1 -/
namespace Go.Proofs.YtceabiodelfdoaaDoor
open Go.RowKit

/-- what the reference reads of the first chunk -/
def firstR (l : List UInt8) : Value := .tuple #[str (Fb.firstL l).1, str (Fb.firstL l).2.1, str (Fb.firstL l).2.2.1, .int .i64 ((Fb.firstL l).2.2.2 : Nat)]
theorem first_err {l : List UInt8} {c : Nat} (h : Fb.measureL l = (0, c)) (hc : c ≠ 0) : Fb.firstL l = ([], [], [], c) := by
  unfold Fb.firstL; rw [h]; rw [if_neg hc]
theorem first_ok {l : List UInt8} {m : Nat} (h : Fb.measureL l = (m, 0)) : Fb.firstL l = (l.take 4, ((l.take m).drop 6).take (m - 8), l.drop m, 0) := by
  unfold Fb.firstL; rw [h]; rw [if_pos rfl]
set_option maxHeartbeats 8000000 in
set_option maxRecDepth 100000 in
theorem chunkFirstR_any (s : ByteArray) (w : World) (hs : s.size ≤ 1000000) :
    Calls Tryd.prog 26 #[.string s] w fun e w' => e = .returned (firstR s.data.toList) ∧ Below w.heap.size w w' := by
  have HL : Hid (s.data.toList.length = s.size) := by unfold Hid; simp
  unfold firstR
  by_cases h8 : s.size < 8
  · have h8i : (s.size : Int) < 8 := by omega
    have HF := hid_of3 (first_err (l := s.data.toList) (c := 4) (by unfold Fb.measureL; rw [if_pos (.inl (by rw [HL.out]; exact h8))]) (by decide))
    go_enter Tryd.func26, Tryd.ntmps26
    go_wp2_with fail
    refine bodyPost_ret (v := .tuple #[.string ⟨#[]⟩, .string ⟨#[]⟩, .string ⟨#[]⟩, .int .i64 4]) (by simp [results, Tryd.results26, go_sem]) rfl ⟨by rw [HF.out]; rfl, Below.refl _ _⟩
  have h8i : ¬ (s.size : Int) < 8 := by omega
  obtain ⟨nb, HNB⟩ : ∃ b, Hid (Fb.nameB (s.data.toList.take 4) = b) := ⟨_, (rfl : _ = _)⟩
  have HNE : Hid (Fb.nameB (s.extract 0 4).data.toList = nb) := by unfold Hid; rw [ext_data, List.drop_zero]; exact HNB.out
  obtain ⟨c4, HC4⟩ : ∃ c, Hid (s.data.toList.getD 4 0 = c) := ⟨_, (rfl : _ = _)⟩
  obtain ⟨m4, HM4⟩ : ∃ m, Hid (c4.toNat = m) := ⟨_, (rfl : _ = _)⟩
  have hx4 := nat_at s 4 c4 HC4 m4 HM4
  have hm4 := byte_le c4 m4 HM4
  obtain ⟨c5, HC5⟩ : ∃ c, Hid (s.data.toList.getD 5 0 = c) := ⟨_, (rfl : _ = _)⟩
  obtain ⟨m5, HM5⟩ : ∃ m, Hid (c5.toNat = m) := ⟨_, (rfl : _ = _)⟩
  have hx5 := nat_at s 5 c5 HC5 m5 HM5
  have hm5 := byte_le c5 m5 HM5
  obtain ⟨nn, HNN⟩ : ∃ n, Hid (m4 + 256 * m5 = n) := ⟨_, (rfl : _ = _)⟩
  have hnn : nn ≤ 65535 := by have := HNN.out; omega
  have HEND : Hid (Fb.endL s.data.toList = 6 + nn) := by unfold Hid Fb.endL; rw [HC4.out, HC5.out, HM4.out, HM5.out]; have := HNN.out; omega
  have wi : ∀ x : Int, 0 ≤ x → x < 1000000 → IntKind.i64.wrap x = x := fun x h1 h2 => by rw [IntKind.wrap_i64]; omega
  have hval : IntKind.i64.wrap (IntKind.i64.wrap (m4 : Int) + IntKind.i64.wrap (256 * IntKind.i64.wrap (m5 : Int))) = (nn : Int) := by
    rw [wi (m5 : Int) (by omega) (by omega), wi (256 * (m5 : Int)) (by omega) (by omega), wi (m4 : Int) (by omega) (by omega), wi ((m4 : Int) + 256 * (m5 : Int)) (by omega) (by omega)]
    have := HNN.out
    omega
  have HVAL := hid_of3 hval
  obtain ⟨P6, HP6⟩ : ∃ n, Hid (6 + nn = n) := ⟨_, (rfl : _ = _)⟩
  obtain ⟨P7, HP7⟩ : ∃ n, Hid (7 + nn = n) := ⟨_, (rfl : _ = _)⟩
  obtain ⟨P8, HP8⟩ : ∃ n, Hid (8 + nn = n) := ⟨_, (rfl : _ = _)⟩
  have e6 : IntKind.i64.wrap (6 + (nn : Int)) = (P6 : Int) := by rw [wi _ (by omega) (by omega)]; have := HP6.out; omega
  have e7 : IntKind.i64.wrap (7 + (nn : Int)) = (P7 : Int) := by rw [wi _ (by omega) (by omega)]; have := HP7.out; omega
  have e8 : IntKind.i64.wrap (8 + (nn : Int)) = (P8 : Int) := by rw [wi _ (by omega) (by omega)]; have := HP8.out; omega
  have HWI := hid_of3 wi
  clear wi
  have h4s : 4 < s.size := by omega
  have h5s : 5 < s.size := by omega
  have h4si : (4 : Int) < (s.size : Int) := by omega
  have h5si : (5 : Int) < (s.size : Int) := by omega
  have h4i : (4 : Int) ≤ (s.size : Int) := by omega
  clear hval
  go_enter Tryd.func26, Tryd.ntmps26
  go_wp2_with fail
  refine (nameR_any (s.extract 0 4) w nb HNE).mono ?_
  rintro e w1 ⟨rfl, rfl⟩
  go_wp2_with fail
  refine wp_region_held_drew (S := (fun _ => True)) (by kernel_rfl) ?_ (fun hHeld => ?_)
  · exact trivial
  refine wpAnyH_take (i := 0) (oi := ({ dst := some 16, op := Op.move (Operand.tmp 0), type := 9, pos := "parts.go:237", after := #[], guard := none } : Oper)) (v := ?_) rfl (by kernel_rfl) (by kernel_rfl) (by kernel_rfl) (fun _ _ _ h => h) (Or.inl ⟨by rfl, ?_⟩) (by assumption) ?_
  rotate_left
  · (intro w hSw; (try dsimp only at hSw); go_simp; try with_reducible rfl)
  try simp only [Act.put, List.setIfInBounds_toArray, List.set_cons_zero, List.set_cons_succ]
  refine wpAnyH_take (i := 1) (oi := ({ dst := some 17, op := Op.index 9 (Operand.tmp 16) (Operand.const (Value.int IntKind.i64 4)), type := 5, pos := "parts.go:237", after := #[{ on := 0, ground := Ground.data }], guard := none } : Oper)) (v := ?_) rfl (by kernel_rfl) (by kernel_rfl) (by kernel_rfl) (fun _ _ _ h => h) (Or.inl ⟨by rfl, ?_⟩) (by assumption) ?_
  rotate_left
  · (intro w hSw; (try dsimp only at hSw); go_simp; try with_reducible rfl)
  try simp only [Act.put, List.setIfInBounds_toArray, List.set_cons_zero, List.set_cons_succ]
  refine wpAnyH_take (i := 2) (oi := ({ dst := some 18, op := Op.convert 5 3 (Operand.tmp 17), type := 3, pos := "parts.go:237", after := #[{ on := 1, ground := Ground.data }], guard := none } : Oper)) (v := ?_) rfl (by kernel_rfl) (by kernel_rfl) (by kernel_rfl) (fun _ _ _ h => h) (Or.inl ⟨by rfl, ?_⟩) (by assumption) ?_
  rotate_left
  · (intro w hSw; (try dsimp only at hSw); go_simp; try with_reducible rfl)
  try simp only [Act.put, List.setIfInBounds_toArray, List.set_cons_zero, List.set_cons_succ]
  refine wpAnyH_take (i := 3) (oi := ({ dst := some 19, op := Op.move (Operand.tmp 0), type := 9, pos := "parts.go:237", after := #[], guard := none } : Oper)) (v := ?_) rfl (by kernel_rfl) (by kernel_rfl) (by kernel_rfl) (fun _ _ _ h => h) (Or.inl ⟨by rfl, ?_⟩) (by assumption) ?_
  rotate_left
  · (intro w hSw; (try dsimp only at hSw); go_simp; try with_reducible rfl)
  try simp only [Act.put, List.setIfInBounds_toArray, List.set_cons_zero, List.set_cons_succ]
  refine wpAnyH_take (i := 4) (oi := ({ dst := some 20, op := Op.index 9 (Operand.tmp 19) (Operand.const (Value.int IntKind.i64 5)), type := 5, pos := "parts.go:237", after := #[{ on := 3, ground := Ground.data }], guard := none } : Oper)) (v := ?_) rfl (by kernel_rfl) (by kernel_rfl) (by kernel_rfl) (fun _ _ _ h => h) (Or.inl ⟨by rfl, ?_⟩) (by assumption) ?_
  rotate_left
  · (intro w hSw; (try dsimp only at hSw); go_simp; try with_reducible rfl)
  try simp only [Act.put, List.setIfInBounds_toArray, List.set_cons_zero, List.set_cons_succ]
  refine wpAnyH_take (i := 5) (oi := ({ dst := some 21, op := Op.convert 5 3 (Operand.tmp 20), type := 3, pos := "parts.go:237", after := #[{ on := 4, ground := Ground.data }], guard := none } : Oper)) (v := ?_) rfl (by kernel_rfl) (by kernel_rfl) (by kernel_rfl) (fun _ _ _ h => h) (Or.inl ⟨by rfl, ?_⟩) (by assumption) ?_
  rotate_left
  · (intro w hSw; (try dsimp only at hSw); go_simp; try with_reducible rfl)
  try simp only [Act.put, List.setIfInBounds_toArray, List.set_cons_zero, List.set_cons_succ]
  refine wpAnyH_take (i := 6) (oi := ({ dst := some 22, op := Op.binOp BinOp.mul 3 (Operand.const (Value.int IntKind.i64 256)) (Operand.tmp 21) 3, type := 3, pos := "parts.go:237", after := #[{ on := 5, ground := Ground.data }], guard := none } : Oper)) (v := ?_) rfl (by kernel_rfl) (by kernel_rfl) (by kernel_rfl) (fun _ _ _ h => h) (Or.inl ⟨by rfl, ?_⟩) (by assumption) ?_
  rotate_left
  · (intro w hSw; (try dsimp only at hSw); go_simp; try with_reducible rfl)
  try simp only [Act.put, List.setIfInBounds_toArray, List.set_cons_zero, List.set_cons_succ]
  refine wpAnyH_take (i := 7) (oi := ({ dst := some 23, op := Op.binOp BinOp.add 3 (Operand.tmp 18) (Operand.tmp 22) 3, type := 3, pos := "parts.go:237", after := #[{ on := 2, ground := Ground.data }, { on := 6, ground := Ground.data }], guard := none } : Oper)) (v := ?_) rfl (by kernel_rfl) (by kernel_rfl) (by kernel_rfl) (fun _ _ _ h => h) (Or.inl ⟨by rfl, ?_⟩) (by assumption) ?_
  rotate_left
  · (intro w hSw; (try dsimp only at hSw); go_simp; try with_reducible rfl)
  try simp only [Act.put, List.setIfInBounds_toArray, List.set_cons_zero, List.set_cons_succ]
  refine wpAnyH_take (i := 8) (oi := ({ dst := some 7, op := Op.assign (Operand.tmp 23), type := 3, pos := "parts.go:237", after := #[{ on := 7, ground := Ground.data }, { on := 0, ground := Ground.phase }, { on := 1, ground := Ground.phase }, { on := 2, ground := Ground.phase }, { on := 3, ground := Ground.phase }, { on := 4, ground := Ground.phase }, { on := 5, ground := Ground.phase }, { on := 6, ground := Ground.phase }, { on := 7, ground := Ground.phase }], guard := none } : Oper)) (v := ?_) rfl (by kernel_rfl) (by kernel_rfl) (by kernel_rfl) (fun _ _ _ h => h) (Or.inl ⟨by rfl, ?_⟩) (by assumption) ?_
  rotate_left
  · (intro w hSw; (try dsimp only at hSw); go_simp; try with_reducible rfl)
  try simp only [Act.put, List.setIfInBounds_toArray, List.set_cons_zero, List.set_cons_succ]
  refine wpAnyH_done (by kernel_rfl) ?_ _
  simp only [HVAL.out]
  clear hx4 hx5
  cases nb with
  | false =>
    have HF := hid_of3 (first_err (l := s.data.toList) (c := 4) (by unfold Fb.measureL; rw [if_pos (.inr HNB.out)]) (by decide))
    go_wp2_with fail
    refine bodyPost_ret (v := .tuple #[.string ⟨#[]⟩, .string ⟨#[]⟩, .string ⟨#[]⟩, .int .i64 4]) (by simp [results, Tryd.results26, go_sem]) rfl ⟨by rw [HF.out]; rfl, (Below.refl _ _).drew⟩
  | true =>
  by_cases hl : s.size < P8
  · have hli : (s.size : Int) < (P8 : Int) := by omega
    have HF := hid_of3 (first_err (l := s.data.toList) (c := 4) (by
      unfold Fb.measureL
      rw [if_neg (by rw [HL.out, HNB.out]; simp; omega), HEND.out, HL.out, if_pos (by have := HP8.out; omega)]) (by decide))
    go_wp2_with fail
    refine bodyPost_ret (v := .tuple #[.string ⟨#[]⟩, .string ⟨#[]⟩, .string ⟨#[]⟩, .int .i64 4]) (by simp [results, Tryd.results26, go_sem]) rfl ⟨by rw [HF.out]; rfl, (Below.refl _ _).drew⟩
  have hli : ¬ (s.size : Int) < (P8 : Int) := by omega
  have h68 : P6 ≤ s.size := by have := HP6.out; have := HP8.out; omega
  have h6i : (P6 : Int) ≤ (s.size : Int) := by omega
  have h6i0 : (6 : Int) ≤ (P6 : Int) := by have := HP6.out; omega
  have h6s : P6 < s.size := by have := HP6.out; have := HP8.out; omega
  have h7s : P7 < s.size := by have := HP7.out; have := HP8.out; omega
  have h6si : (P6 : Int) < (s.size : Int) := by omega
  have h7si : (P7 : Int) < (s.size : Int) := by omega
  have h8si : (P8 : Int) ≤ (s.size : Int) := by omega
  obtain ⟨c6, HC6⟩ : ∃ c, Hid (s.data.toList.getD P6 0 = c) := ⟨_, (rfl : _ = _)⟩
  obtain ⟨m6, HM6⟩ : ∃ m, Hid (c6.toNat = m) := ⟨_, (rfl : _ = _)⟩
  have hx6 := nat_at s P6 c6 HC6 m6 HM6
  have hm6 := byte_le c6 m6 HM6
  obtain ⟨c7, HC7⟩ : ∃ c, Hid (s.data.toList.getD P7 0 = c) := ⟨_, (rfl : _ = _)⟩
  obtain ⟨m7, HM7⟩ : ∃ m, Hid (c7.toNat = m) := ⟨_, (rfl : _ = _)⟩
  have hx7 := nat_at s P7 c7 HC7 m7 HM7
  have hm7 := byte_le c7 m7 HM7
  have w6 := HWI.out (m6 : Int) (by omega) (by omega)
  have w7 := HWI.out (m7 : Int) (by omega) (by omega)
  obtain ⟨ab, HAB⟩ : ∃ z, Hid (Fb.sumL (s.data.toList.take P6) = z) := ⟨_, (rfl : _ = _)⟩
  obtain ⟨a, b⟩ := ab
  obtain ⟨ha, hb⟩ := Fb.sumL_lt (s.data.toList.take P6)
  rw [HAB.out] at ha hb
  simp only at ha hb
  have HABX : Hid (Fb.sumL (s.extract 0 P6).data.toList = (a, b)) := by unfold Hid; rw [ext_data, List.drop_zero]; exact HAB.out
  have HTWO : Hid ((s.data.toList.drop P6).take 2 = [c6, c7]) := by
    unfold Hid
    rw [drop_one _ P6 (by rw [HL.out]; exact h6s), show P6 + 1 = P7 by have := HP6.out; have := HP7.out; omega, drop_one _ P7 (by rw [HL.out]; exact h7s), HC6.out, HC7.out]
    rfl
  have HMS : Hid (Fb.measureL s.data.toList = if m6 = a ∧ m7 = b then (P8, 0) else (0, 6)) := by
    unfold Hid Fb.measureL
    rw [if_neg (by rw [HL.out, HNB.out]; simp; omega), HEND.out, HL.out, if_neg (by have := HP8.out; omega), HP6.out, HTWO.out, HAB.out]
    have hq : ([c6, c7] = Fb.pairL a b) ↔ (m6 = a ∧ m7 = b) := by
      unfold Fb.pairL
      rw [← HM6.out, ← HM7.out]
      constructor
      · intro h
        simp only [List.cons.injEq, and_true] at h
        rw [h.1, h.2, u8_toNat a (by omega), u8_toNat b (by omega)]
        exact ⟨rfl, rfl⟩
      · rintro ⟨h1, h2⟩
        rw [← h1, ← h2]
        simp
    by_cases hab : m6 = a ∧ m7 = b
    · rw [if_pos (hq.2 hab), if_pos hab]
      congr 1
      have := HP6.out; have := HP8.out; omega
    · rw [if_neg (fun h => hab (hq.1 h)), if_neg hab]
  have hex : (s.extract 0 P6).size ≤ 1000000 := by rw [ByteArray.size_extract]; omega
  clear HTWO HNE
  go_wp2_with fail
  refine (sumR_any (s.extract 0 P6) _ hex a b HABX).mono ?_
  rintro e w2 ⟨rfl, rfl⟩
  by_cases h6 : m6 = a
  case neg =>
    have h6b : ((m6 : Int) != (a : Int)) = true := by simp; omega
    have HF := hid_of3 (first_err (l := s.data.toList) (c := 6) (by rw [HMS.out, if_neg (fun h => h6 h.1)]) (by decide))
    go_wp2_with fail
    refine bodyPost_ret (v := .tuple #[.string ⟨#[]⟩, .string ⟨#[]⟩, .string ⟨#[]⟩, .int .i64 6]) (by simp [results, Tryd.results26, go_sem]) rfl ⟨by rw [HF.out]; rfl, (Below.refl _ _).drew⟩
  have h6b : ((m6 : Int) != (a : Int)) = false := by simp; omega
  by_cases h7 : m7 = b
  case neg =>
    have h7b : ((m7 : Int) != (b : Int)) = true := by simp; omega
    have HF := hid_of3 (first_err (l := s.data.toList) (c := 6) (by rw [HMS.out, if_neg (fun h => h7 h.2)]) (by decide))
    go_wp2_with fail
    refine bodyPost_ret (v := .tuple #[.string ⟨#[]⟩, .string ⟨#[]⟩, .string ⟨#[]⟩, .int .i64 6]) (by simp [results, Tryd.results26, go_sem]) rfl ⟨by rw [HF.out]; rfl, (Below.refl _ _).drew⟩
  have h7b : ((m7 : Int) != (b : Int)) = false := by simp; omega
  have HF := hid_of3 (first_ok (l := s.data.toList) (m := P8) (by rw [HMS.out, if_pos ⟨h6, h7⟩]))
  go_wp2_with fail
  refine wp_region_held_drew (S := (fun _ => True)) (by kernel_rfl) ?_ (fun hHeld => ?_)
  · exact trivial
  refine wpAnyH_take (i := 0) (oi := ({ dst := some 57, op := Op.move (Operand.tmp 0), type := 9, pos := "parts.go:245", after := #[], guard := none } : Oper)) (v := ?_) rfl (by kernel_rfl) (by kernel_rfl) (by kernel_rfl) (fun _ _ _ h => h) (Or.inl ⟨by rfl, ?_⟩) (by assumption) ?_
  rotate_left
  · (intro w hSw; (try dsimp only at hSw); go_simp; try with_reducible rfl)
  try simp only [Act.put, List.setIfInBounds_toArray, List.set_cons_zero, List.set_cons_succ]
  refine wpAnyH_take (i := 1) (oi := ({ dst := some 58, op := Op.slice 9 (Operand.tmp 57) none (some (Operand.const (Value.int IntKind.i64 4))) none, type := 9, pos := "parts.go:245", after := #[{ on := 0, ground := Ground.data }], guard := none } : Oper)) (v := ?_) rfl (by kernel_rfl) (by kernel_rfl) (by kernel_rfl) (fun _ _ _ h => h) (Or.inl ⟨by rfl, ?_⟩) (by assumption) ?_
  rotate_left
  · (intro w hSw; (try dsimp only at hSw); go_simp; try with_reducible rfl)
  try simp only [Act.put, List.setIfInBounds_toArray, List.set_cons_zero, List.set_cons_succ]
  refine wpAnyH_take (i := 2) (oi := ({ dst := some 59, op := Op.move (Operand.tmp 0), type := 9, pos := "parts.go:245", after := #[], guard := none } : Oper)) (v := ?_) rfl (by kernel_rfl) (by kernel_rfl) (by kernel_rfl) (fun _ _ _ h => h) (Or.inl ⟨by rfl, ?_⟩) (by assumption) ?_
  rotate_left
  · (intro w hSw; (try dsimp only at hSw); go_simp; try with_reducible rfl)
  try simp only [Act.put, List.setIfInBounds_toArray, List.set_cons_zero, List.set_cons_succ]
  refine wpAnyH_take (i := 3) (oi := ({ dst := some 60, op := Op.move (Operand.tmp 7), type := 3, pos := "parts.go:245", after := #[], guard := none } : Oper)) (v := ?_) rfl (by kernel_rfl) (by kernel_rfl) (by kernel_rfl) (fun _ _ _ h => h) (Or.inl ⟨by rfl, ?_⟩) (by assumption) ?_
  rotate_left
  · (intro w hSw; (try dsimp only at hSw); go_simp; try with_reducible rfl)
  try simp only [Act.put, List.setIfInBounds_toArray, List.set_cons_zero, List.set_cons_succ]
  refine wpAnyH_take (i := 4) (oi := ({ dst := some 61, op := Op.binOp BinOp.add 3 (Operand.const (Value.int IntKind.i64 6)) (Operand.tmp 60) 3, type := 3, pos := "parts.go:245", after := #[{ on := 3, ground := Ground.data }], guard := none } : Oper)) (v := ?_) rfl (by kernel_rfl) (by kernel_rfl) (by kernel_rfl) (fun _ _ _ h => h) (Or.inl ⟨by rfl, ?_⟩) (by assumption) ?_
  rotate_left
  · (intro w hSw; (try dsimp only at hSw); go_simp; try with_reducible rfl)
  try simp only [Act.put, List.setIfInBounds_toArray, List.set_cons_zero, List.set_cons_succ]
  refine wpAnyH_take (i := 5) (oi := ({ dst := some 62, op := Op.slice 9 (Operand.tmp 59) (some (Operand.const (Value.int IntKind.i64 6))) (some (Operand.tmp 61)) none, type := 9, pos := "parts.go:245", after := #[{ on := 2, ground := Ground.data }, { on := 4, ground := Ground.data }], guard := none } : Oper)) (v := ?_) rfl (by kernel_rfl) (by kernel_rfl) (by kernel_rfl) (fun _ _ _ h => h) (Or.inl ⟨by rfl, ?_⟩) (by assumption) ?_
  rotate_left
  · (intro w hSw; (try dsimp only at hSw); go_simp; try with_reducible rfl)
  try simp only [Act.put, List.setIfInBounds_toArray, List.set_cons_zero, List.set_cons_succ]
  refine wpAnyH_take (i := 6) (oi := ({ dst := some 63, op := Op.move (Operand.tmp 0), type := 9, pos := "parts.go:245", after := #[], guard := none } : Oper)) (v := ?_) rfl (by kernel_rfl) (by kernel_rfl) (by kernel_rfl) (fun _ _ _ h => h) (Or.inl ⟨by rfl, ?_⟩) (by assumption) ?_
  rotate_left
  · (intro w hSw; (try dsimp only at hSw); go_simp; try with_reducible rfl)
  try simp only [Act.put, List.setIfInBounds_toArray, List.set_cons_zero, List.set_cons_succ]
  refine wpAnyH_take (i := 7) (oi := ({ dst := some 64, op := Op.move (Operand.tmp 7), type := 3, pos := "parts.go:245", after := #[], guard := none } : Oper)) (v := ?_) rfl (by kernel_rfl) (by kernel_rfl) (by kernel_rfl) (fun _ _ _ h => h) (Or.inl ⟨by rfl, ?_⟩) (by assumption) ?_
  rotate_left
  · (intro w hSw; (try dsimp only at hSw); go_simp; try with_reducible rfl)
  try simp only [Act.put, List.setIfInBounds_toArray, List.set_cons_zero, List.set_cons_succ]
  refine wpAnyH_take (i := 8) (oi := ({ dst := some 65, op := Op.binOp BinOp.add 3 (Operand.const (Value.int IntKind.i64 8)) (Operand.tmp 64) 3, type := 3, pos := "parts.go:245", after := #[{ on := 7, ground := Ground.data }], guard := none } : Oper)) (v := ?_) rfl (by kernel_rfl) (by kernel_rfl) (by kernel_rfl) (fun _ _ _ h => h) (Or.inl ⟨by rfl, ?_⟩) (by assumption) ?_
  rotate_left
  · (intro w hSw; (try dsimp only at hSw); go_simp; try with_reducible rfl)
  try simp only [Act.put, List.setIfInBounds_toArray, List.set_cons_zero, List.set_cons_succ]
  refine wpAnyH_take (i := 9) (oi := ({ dst := some 66, op := Op.slice 9 (Operand.tmp 63) (some (Operand.tmp 65)) none none, type := 9, pos := "parts.go:245", after := #[{ on := 6, ground := Ground.data }, { on := 8, ground := Ground.data }], guard := none } : Oper)) (v := ?_) rfl (by kernel_rfl) (by kernel_rfl) (by kernel_rfl) (fun _ _ _ h => h) (Or.inl ⟨by rfl, ?_⟩) (by assumption) ?_
  rotate_left
  · (intro w hSw; (try dsimp only at hSw); go_simp; try with_reducible rfl)
  try simp only [Act.put, List.setIfInBounds_toArray, List.set_cons_zero, List.set_cons_succ]
  refine wpAnyH_take (i := 10) (oi := ({ dst := some 2, op := Op.assign (Operand.tmp 58), type := 9, pos := "parts.go:245", after := #[{ on := 1, ground := Ground.data }, { on := 0, ground := Ground.phase }, { on := 1, ground := Ground.phase }, { on := 2, ground := Ground.textOnly Departure.lateStores }, { on := 3, ground := Ground.textOnly Departure.lateStores }, { on := 4, ground := Ground.textOnly Departure.lateStores }, { on := 5, ground := Ground.textOnly Departure.lateStoresUnsure }, { on := 6, ground := Ground.textOnly Departure.lateStores }, { on := 7, ground := Ground.textOnly Departure.lateStores }, { on := 8, ground := Ground.textOnly Departure.lateStores }, { on := 9, ground := Ground.textOnly Departure.lateStoresUnsure }], guard := none } : Oper)) (v := ?_) rfl (by kernel_rfl) (by kernel_rfl) (by kernel_rfl) (fun _ _ _ h => h) (Or.inl ⟨by rfl, ?_⟩) (by assumption) ?_
  rotate_left
  · (intro w hSw; (try dsimp only at hSw); go_simp; try with_reducible rfl)
  try simp only [Act.put, List.setIfInBounds_toArray, List.set_cons_zero, List.set_cons_succ]
  refine wpAnyH_take (i := 11) (oi := ({ dst := some 3, op := Op.assign (Operand.tmp 62), type := 9, pos := "parts.go:245", after := #[{ on := 5, ground := Ground.data }, { on := 10, ground := Ground.chain }, { on := 0, ground := Ground.phase }, { on := 1, ground := Ground.phase }, { on := 2, ground := Ground.phase }, { on := 3, ground := Ground.phase }, { on := 4, ground := Ground.phase }, { on := 5, ground := Ground.phase }, { on := 6, ground := Ground.textOnly Departure.lateStores }, { on := 7, ground := Ground.textOnly Departure.lateStores }, { on := 8, ground := Ground.textOnly Departure.lateStores }, { on := 9, ground := Ground.textOnly Departure.lateStoresUnsure }, { on := 10, ground := Ground.phase }], guard := none } : Oper)) (v := ?_) rfl (by kernel_rfl) (by kernel_rfl) (by kernel_rfl) (fun _ _ _ h => h) (Or.inl ⟨by rfl, ?_⟩) (by assumption) ?_
  rotate_left
  · (intro w hSw; (try dsimp only at hSw); go_simp; try with_reducible rfl)
  try simp only [Act.put, List.setIfInBounds_toArray, List.set_cons_zero, List.set_cons_succ]
  refine wpAnyH_take (i := 12) (oi := ({ dst := some 4, op := Op.assign (Operand.tmp 66), type := 9, pos := "parts.go:245", after := #[{ on := 9, ground := Ground.data }, { on := 11, ground := Ground.chain }, { on := 0, ground := Ground.phase }, { on := 1, ground := Ground.phase }, { on := 2, ground := Ground.phase }, { on := 3, ground := Ground.phase }, { on := 4, ground := Ground.phase }, { on := 5, ground := Ground.phase }, { on := 6, ground := Ground.phase }, { on := 7, ground := Ground.phase }, { on := 8, ground := Ground.phase }, { on := 9, ground := Ground.phase }, { on := 10, ground := Ground.phase }, { on := 11, ground := Ground.phase }], guard := none } : Oper)) (v := ?_) rfl (by kernel_rfl) (by kernel_rfl) (by kernel_rfl) (fun _ _ _ h => h) (Or.inl ⟨by rfl, ?_⟩) (by assumption) ?_
  rotate_left
  · (intro w hSw; (try dsimp only at hSw); go_simp; try with_reducible rfl)
  try simp only [Act.put, List.setIfInBounds_toArray, List.set_cons_zero, List.set_cons_succ]
  refine wpAnyH_take (i := 13) (oi := ({ dst := some 5, op := Op.assign (Operand.const (Value.int IntKind.i64 0)), type := 3, pos := "parts.go:245", after := #[{ on := 12, ground := Ground.chain }, { on := 0, ground := Ground.phase }, { on := 1, ground := Ground.phase }, { on := 2, ground := Ground.phase }, { on := 3, ground := Ground.phase }, { on := 4, ground := Ground.phase }, { on := 5, ground := Ground.phase }, { on := 6, ground := Ground.phase }, { on := 7, ground := Ground.phase }, { on := 8, ground := Ground.phase }, { on := 9, ground := Ground.phase }, { on := 10, ground := Ground.phase }, { on := 11, ground := Ground.phase }, { on := 12, ground := Ground.phase }], guard := none } : Oper)) (v := ?_) rfl (by kernel_rfl) (by kernel_rfl) (by kernel_rfl) (fun _ _ _ h => h) (Or.inl ⟨by rfl, ?_⟩) (by assumption) ?_
  rotate_left
  · (intro w hSw; (try dsimp only at hSw); go_simp; try with_reducible rfl)
  try simp only [Act.put, List.setIfInBounds_toArray, List.set_cons_zero, List.set_cons_succ]
  refine wpAnyH_done (by kernel_rfl) ?_ _
  go_wp2_with fail
  refine bodyPost_ret (v := .tuple #[.string (s.extract 0 4), .string (s.extract 6 P6), .string (s.extract P8 s.size), .int .i64 0]) (by simp [results, Tryd.results26, go_sem]) rfl ⟨?_, (Below.refl _ _).drew.drew⟩
  rw [HF.out]
  have q1 := str_ext s 0 4
  have q2 := str_ext s 6 P6
  have q3 := str_ext s P8 s.size
  have r2 : ((s.data.toList.take P8).drop 6).take (P8 - 8) = (s.data.toList.drop 6).take (P6 - 6) := by
    rw [List.drop_take, List.take_take]
    congr 1
    have := HP6.out; have := HP8.out; omega
  have r3 : s.data.toList.drop P8 = (s.data.toList.drop P8).take (s.size - P8) := by
    rw [List.take_of_length_le]
    rw [List.length_drop, HL.out]
    exact Nat.le_refl _
  simp only
  rw [r2, r3, q2, q3, ← q1, List.drop_zero]
  rfl
end Go.Proofs.YtceabiodelfdoaaDoor
/- Walk: the reference's fault of an op, kinds 1 to 3. -/
namespace Go.Proofs.YtceabiodelfdoaaDoor
open Go.RowKit
set_option linter.unusedSimpArgs false

set_option maxHeartbeats 8000000 in
set_option maxRecDepth 100000 in
theorem opf_1 (id qa qb qc qd pw ph : Int) (u : Value) (ps : List (Int × Int)) (w : World) (hps : ps.length ≤ 1000000000) (HR : Hid (RdP w u ps)) :
    Calls Tryd.prog 17 #[opV ⟨1, id, qa, qb, qc, qd, pw, ph, ps⟩ u] w fun e w' => OpfP ⟨1, id, qa, qb, qc, qd, pw, ph, ps⟩ w e w' := by
  obtain ⟨ua, cu, hvu, _, _, _⟩ := HR.out
  obtain ⟨np, HNP⟩ : ∃ n, Hid (ps.length = n) := ⟨_, (rfl : _ = _)⟩
  rw [HNP.out] at hvu hps
  subst hvu
  unfold OpfP opV
  go_enter Tryd.func17, Tryd.ntmps17
  go_wp2_with fail
  refine (parts_1 _).mono ?_
  rintro e w1 ⟨rfl, rfl⟩
  go_wp2_with fail
  refine wp_loop_rounds 3 ?_
  by_cases hqc : qc = 0
  case neg =>
    rw [rounds_succ]
    go_wp2_with fail
    go_ret
    refine ⟨by rw [show rfC _ = 3 by (simp [rfC, rowR, numR, HNP.out, hqc]; try ((repeat' (first | intro _ | split)) <;> first | rfl | omega))]; rfl, ?_⟩
    (repeat (first | refine below_drewN ?_ _ | refine Below.alloc ?_ (by simp; try omega) _ | refine Below.setCell ?_ (by simp; try omega) _)); exact Below.refl _ _
  subst hqc
  rw [rounds_succ]
  go_wp2_with fail
  by_cases hqd : qd = 0
  case neg =>
    rw [rounds_succ]
    go_wp2_with fail
    go_ret
    refine ⟨by rw [show rfC _ = 3 by (simp [rfC, rowR, numR, HNP.out, hqd]; try ((repeat' (first | intro _ | split)) <;> first | rfl | omega))]; rfl, ?_⟩
    (repeat (first | refine below_drewN ?_ _ | refine Below.alloc ?_ (by simp; try omega) _ | refine Below.setCell ?_ (by simp; try omega) _)); exact Below.refl _ _
  subst hqd
  rw [rounds_succ]
  go_wp2_with fail
  by_cases hid : id = 0
  case neg =>
    rw [rounds_succ]
    go_wp2_with fail
    go_ret
    refine ⟨by rw [show rfC _ = 3 by (simp [rfC, rowR, numR, HNP.out, hid]; try ((repeat' (first | intro _ | split)) <;> first | rfl | omega))]; rfl, ?_⟩
    (repeat (first | refine below_drewN ?_ _ | refine Below.alloc ?_ (by simp; try omega) _ | refine Below.setCell ?_ (by simp; try omega) _)); exact Below.refl _ _
  subst hid
  by_cases hpw : pw = 0
  case neg =>
    rw [rounds_succ]
    go_wp2_with fail
    go_ret
    refine ⟨by rw [show rfC _ = 3 by (simp [rfC, rowR, numR, HNP.out, hpw]; try ((repeat' (first | intro _ | split)) <;> first | rfl | omega))]; rfl, ?_⟩
    (repeat (first | refine below_drewN ?_ _ | refine Below.alloc ?_ (by simp; try omega) _ | refine Below.setCell ?_ (by simp; try omega) _)); exact Below.refl _ _
  subst hpw
  by_cases hph : ph = 0
  case neg =>
    rw [rounds_succ]
    go_wp2_with fail
    go_ret
    refine ⟨by rw [show rfC _ = 3 by (simp [rfC, rowR, numR, HNP.out, hph]; try ((repeat' (first | intro _ | split)) <;> first | rfl | omega))]; rfl, ?_⟩
    (repeat (first | refine below_drewN ?_ _ | refine Below.alloc ?_ (by simp; try omega) _ | refine Below.setCell ?_ (by simp; try omega) _)); exact Below.refl _ _
  subst hph
  by_cases hnp : np = 0
  case neg =>
    have hnp2 : 0 < np := by omega
    have hnp3 : (0 : Int) < (np : Int) := by omega
    rw [rounds_succ]
    go_wp2_with fail
    go_ret
    refine ⟨by rw [show rfC _ = 3 by (simp [rfC, rowR, numR, HNP.out, hnp2]; try ((repeat' (first | intro _ | split)) <;> first | rfl | omega))]; rfl, ?_⟩
    (repeat (first | refine below_drewN ?_ _ | refine Below.alloc ?_ (by simp; try omega) _ | refine Below.setCell ?_ (by simp; try omega) _)); exact Below.refl _ _
  subst hnp
  rw [rounds_succ]
  go_wp2_with fail
  refine wp_loop_rounds 3 ?_
  by_cases lqa : qa < 1
  · rw [rounds_succ]
    go_wp2_with fail
    go_quiet (fail)
    go_wp2_with fail
    go_ret
    refine ⟨by rw [show rfC _ = 1 by (simp [rfC, rowR, numR, HNP.out, lqa]; try ((repeat' (first | intro _ | split)) <;> first | rfl | omega))]; rfl, ?_⟩
    (repeat (first | refine below_drewN ?_ _ | refine Below.alloc ?_ (by simp; try omega) _ | refine Below.setCell ?_ (by simp; try omega) _)); exact Below.refl _ _
  have Hlqa : Hid (¬ qa < 1) := lqa
  by_cases uqa : 8 < qa
  · rw [rounds_succ]
    go_wp2_with fail
    go_quiet (fail)
    go_wp2_with fail
    go_ret
    refine ⟨by rw [show rfC _ = 1 by (simp [rfC, rowR, numR, HNP.out, uqa]; try ((repeat' (first | intro _ | split)) <;> first | rfl | omega))]; rfl, ?_⟩
    (repeat (first | refine below_drewN ?_ _ | refine Below.alloc ?_ (by simp; try omega) _ | refine Below.setCell ?_ (by simp; try omega) _)); exact Below.refl _ _
  have Huqa : Hid (¬ 8 < qa) := uqa
  rw [rounds_succ]
  go_wp2_with fail
  go_quiet (fail)
  go_wp2_with fail
  by_cases lqb : qb < 1
  · rw [rounds_succ]
    go_wp2_with fail
    go_quiet (fail)
    go_wp2_with fail
    go_ret
    refine ⟨by rw [show rfC _ = 1 by (simp [rfC, rowR, numR, HNP.out, lqb]; try ((repeat' (first | intro _ | split)) <;> first | rfl | omega))]; rfl, ?_⟩
    (repeat (first | refine below_drewN ?_ _ | refine Below.alloc ?_ (by simp; try omega) _ | refine Below.setCell ?_ (by simp; try omega) _)); exact Below.refl _ _
  have Hlqb : Hid (¬ qb < 1) := lqb
  by_cases uqb : 8 < qb
  · rw [rounds_succ]
    go_wp2_with fail
    go_quiet (fail)
    go_wp2_with fail
    go_ret
    refine ⟨by rw [show rfC _ = 1 by (simp [rfC, rowR, numR, HNP.out, uqb]; try ((repeat' (first | intro _ | split)) <;> first | rfl | omega))]; rfl, ?_⟩
    (repeat (first | refine below_drewN ?_ _ | refine Below.alloc ?_ (by simp; try omega) _ | refine Below.setCell ?_ (by simp; try omega) _)); exact Below.refl _ _
  have Huqb : Hid (¬ 8 < qb) := uqb
  rw [rounds_succ]
  go_wp2_with fail
  go_quiet (fail)
  go_wp2_with fail
  rw [rounds_succ]
  go_wp2_with fail
  go_ret
  refine ⟨by rw [show rfC _ = 0 by (simp [rfC, rowR, numR, HNP.out]; try ((repeat' (first | intro _ | split)) <;> first | rfl | omega))]; rfl, ?_⟩
  (repeat (first | refine below_drewN ?_ _ | refine Below.alloc ?_ (by simp; try omega) _ | refine Below.setCell ?_ (by simp; try omega) _)); exact Below.refl _ _
set_option maxHeartbeats 8000000 in
set_option maxRecDepth 100000 in
theorem opf_2 (id qa qb qc qd pw ph : Int) (u : Value) (ps : List (Int × Int)) (w : World) (hps : ps.length ≤ 1000000000) (HR : Hid (RdP w u ps)) :
    Calls Tryd.prog 17 #[opV ⟨2, id, qa, qb, qc, qd, pw, ph, ps⟩ u] w fun e w' => OpfP ⟨2, id, qa, qb, qc, qd, pw, ph, ps⟩ w e w' := by
  obtain ⟨ua, cu, hvu, _, _, _⟩ := HR.out
  obtain ⟨np, HNP⟩ : ∃ n, Hid (ps.length = n) := ⟨_, (rfl : _ = _)⟩
  rw [HNP.out] at hvu hps
  subst hvu
  unfold OpfP opV
  go_enter Tryd.func17, Tryd.ntmps17
  go_wp2_with fail
  refine (parts_2 _).mono ?_
  rintro e w1 ⟨rfl, rfl⟩
  go_wp2_with fail
  refine wp_loop_rounds 5 ?_
  by_cases hqa : qa = 0
  case neg =>
    rw [rounds_succ]
    go_wp2_with fail
    go_ret
    refine ⟨by rw [show rfC _ = 3 by (simp [rfC, rowR, numR, HNP.out, hqa]; try ((repeat' (first | intro _ | split)) <;> first | rfl | omega))]; rfl, ?_⟩
    (repeat (first | refine below_drewN ?_ _ | refine Below.alloc ?_ (by simp; try omega) _ | refine Below.setCell ?_ (by simp; try omega) _)); exact Below.refl _ _
  subst hqa
  rw [rounds_succ]
  go_wp2_with fail
  by_cases hqb : qb = 0
  case neg =>
    rw [rounds_succ]
    go_wp2_with fail
    go_ret
    refine ⟨by rw [show rfC _ = 3 by (simp [rfC, rowR, numR, HNP.out, hqb]; try ((repeat' (first | intro _ | split)) <;> first | rfl | omega))]; rfl, ?_⟩
    (repeat (first | refine below_drewN ?_ _ | refine Below.alloc ?_ (by simp; try omega) _ | refine Below.setCell ?_ (by simp; try omega) _)); exact Below.refl _ _
  subst hqb
  rw [rounds_succ]
  go_wp2_with fail
  by_cases hqc : qc = 0
  case neg =>
    rw [rounds_succ]
    go_wp2_with fail
    go_ret
    refine ⟨by rw [show rfC _ = 3 by (simp [rfC, rowR, numR, HNP.out, hqc]; try ((repeat' (first | intro _ | split)) <;> first | rfl | omega))]; rfl, ?_⟩
    (repeat (first | refine below_drewN ?_ _ | refine Below.alloc ?_ (by simp; try omega) _ | refine Below.setCell ?_ (by simp; try omega) _)); exact Below.refl _ _
  subst hqc
  rw [rounds_succ]
  go_wp2_with fail
  by_cases hqd : qd = 0
  case neg =>
    rw [rounds_succ]
    go_wp2_with fail
    go_ret
    refine ⟨by rw [show rfC _ = 3 by (simp [rfC, rowR, numR, HNP.out, hqd]; try ((repeat' (first | intro _ | split)) <;> first | rfl | omega))]; rfl, ?_⟩
    (repeat (first | refine below_drewN ?_ _ | refine Below.alloc ?_ (by simp; try omega) _ | refine Below.setCell ?_ (by simp; try omega) _)); exact Below.refl _ _
  subst hqd
  rw [rounds_succ]
  go_wp2_with fail
  by_cases hi1 : id < 1
  · rw [rounds_succ]
    go_wp2_with fail
    go_ret
    refine ⟨by rw [show rfC _ = 1 by (simp [rfC, rowR, numR, HNP.out, hi1]; try ((repeat' (first | intro _ | split)) <;> first | rfl | omega))]; rfl, ?_⟩
    (repeat (first | refine below_drewN ?_ _ | refine Below.alloc ?_ (by simp; try omega) _ | refine Below.setCell ?_ (by simp; try omega) _)); exact Below.refl _ _
  have HI1 : Hid (¬ id < 1) := hi1
  by_cases hi2 : 6 < id
  · rw [rounds_succ]
    go_wp2_with fail
    go_ret
    refine ⟨by rw [show rfC _ = 1 by (simp [rfC, rowR, numR, HNP.out, hi2]; try ((repeat' (first | intro _ | split)) <;> first | rfl | omega))]; rfl, ?_⟩
    (repeat (first | refine below_drewN ?_ _ | refine Below.alloc ?_ (by simp; try omega) _ | refine Below.setCell ?_ (by simp; try omega) _)); exact Below.refl _ _
  have HI2 : Hid (¬ 6 < id) := hi2
  rw [rounds_succ]
  go_wp2_with fail
  refine wp_loop_rounds 1 ?_
  rw [rounds_succ]
  go_wp2_with fail
  refine (fault_any pw ph _ ps _ (by rw [HNP.out]; exact hps) (HR.out.on (by (repeat (first | refine below_drewN ?_ _ | refine Below.alloc ?_ (by simp; try omega) _ | refine Below.setCell ?_ (by simp; try omega) _)); exact Below.refl _ _)) _ (rfl : Hid (_ = _))).mono ?_
  rintro e w2 ⟨rfl, hb2⟩
  go_wp2_with fail
  go_ret
  refine ⟨by rw [show rfC _ = checkL pw ph ps by (simp [rfC, rowR, numR, HNP.out]; try ((repeat' (first | intro _ | split)) <;> first | rfl | omega))]; rfl, Below.trans ?_ (hb2.mono (by simp; omega))⟩
  (repeat (first | refine below_drewN ?_ _ | refine Below.alloc ?_ (by simp; try omega) _ | refine Below.setCell ?_ (by simp; try omega) _)); exact Below.refl _ _
set_option maxHeartbeats 8000000 in
set_option maxRecDepth 100000 in
theorem opf_3 (id qa qb qc qd pw ph : Int) (u : Value) (ps : List (Int × Int)) (w : World) (hps : ps.length ≤ 1000000000) (HR : Hid (RdP w u ps)) :
    Calls Tryd.prog 17 #[opV ⟨3, id, qa, qb, qc, qd, pw, ph, ps⟩ u] w fun e w' => OpfP ⟨3, id, qa, qb, qc, qd, pw, ph, ps⟩ w e w' := by
  obtain ⟨ua, cu, hvu, _, _, _⟩ := HR.out
  obtain ⟨np, HNP⟩ : ∃ n, Hid (ps.length = n) := ⟨_, (rfl : _ = _)⟩
  rw [HNP.out] at hvu hps
  subst hvu
  unfold OpfP opV
  go_enter Tryd.func17, Tryd.ntmps17
  go_wp2_with fail
  refine (parts_3 _).mono ?_
  rintro e w1 ⟨rfl, rfl⟩
  go_wp2_with fail
  refine wp_loop_rounds 3 ?_
  by_cases hqc : qc = 0
  case neg =>
    rw [rounds_succ]
    go_wp2_with fail
    go_ret
    refine ⟨by rw [show rfC _ = 3 by (simp [rfC, rowR, numR, HNP.out, hqc]; try ((repeat' (first | intro _ | split)) <;> first | rfl | omega))]; rfl, ?_⟩
    (repeat (first | refine below_drewN ?_ _ | refine Below.alloc ?_ (by simp; try omega) _ | refine Below.setCell ?_ (by simp; try omega) _)); exact Below.refl _ _
  subst hqc
  rw [rounds_succ]
  go_wp2_with fail
  by_cases hqd : qd = 0
  case neg =>
    rw [rounds_succ]
    go_wp2_with fail
    go_ret
    refine ⟨by rw [show rfC _ = 3 by (simp [rfC, rowR, numR, HNP.out, hqd]; try ((repeat' (first | intro _ | split)) <;> first | rfl | omega))]; rfl, ?_⟩
    (repeat (first | refine below_drewN ?_ _ | refine Below.alloc ?_ (by simp; try omega) _ | refine Below.setCell ?_ (by simp; try omega) _)); exact Below.refl _ _
  subst hqd
  rw [rounds_succ]
  go_wp2_with fail
  by_cases hpw : pw = 0
  case neg =>
    rw [rounds_succ]
    go_wp2_with fail
    go_ret
    refine ⟨by rw [show rfC _ = 3 by (simp [rfC, rowR, numR, HNP.out, hpw]; try ((repeat' (first | intro _ | split)) <;> first | rfl | omega))]; rfl, ?_⟩
    (repeat (first | refine below_drewN ?_ _ | refine Below.alloc ?_ (by simp; try omega) _ | refine Below.setCell ?_ (by simp; try omega) _)); exact Below.refl _ _
  subst hpw
  by_cases hph : ph = 0
  case neg =>
    rw [rounds_succ]
    go_wp2_with fail
    go_ret
    refine ⟨by rw [show rfC _ = 3 by (simp [rfC, rowR, numR, HNP.out, hph]; try ((repeat' (first | intro _ | split)) <;> first | rfl | omega))]; rfl, ?_⟩
    (repeat (first | refine below_drewN ?_ _ | refine Below.alloc ?_ (by simp; try omega) _ | refine Below.setCell ?_ (by simp; try omega) _)); exact Below.refl _ _
  subst hph
  by_cases hnp : np = 0
  case neg =>
    have hnp2 : 0 < np := by omega
    have hnp3 : (0 : Int) < (np : Int) := by omega
    rw [rounds_succ]
    go_wp2_with fail
    go_ret
    refine ⟨by rw [show rfC _ = 3 by (simp [rfC, rowR, numR, HNP.out, hnp2]; try ((repeat' (first | intro _ | split)) <;> first | rfl | omega))]; rfl, ?_⟩
    (repeat (first | refine below_drewN ?_ _ | refine Below.alloc ?_ (by simp; try omega) _ | refine Below.setCell ?_ (by simp; try omega) _)); exact Below.refl _ _
  subst hnp
  by_cases hi1 : id < 1
  · rw [rounds_succ]
    go_wp2_with fail
    go_ret
    refine ⟨by rw [show rfC _ = 1 by (simp [rfC, rowR, numR, HNP.out, hi1]; try ((repeat' (first | intro _ | split)) <;> first | rfl | omega))]; rfl, ?_⟩
    (repeat (first | refine below_drewN ?_ _ | refine Below.alloc ?_ (by simp; try omega) _ | refine Below.setCell ?_ (by simp; try omega) _)); exact Below.refl _ _
  have HI1 : Hid (¬ id < 1) := hi1
  by_cases hi2 : 6 < id
  · rw [rounds_succ]
    go_wp2_with fail
    go_ret
    refine ⟨by rw [show rfC _ = 1 by (simp [rfC, rowR, numR, HNP.out, hi2]; try ((repeat' (first | intro _ | split)) <;> first | rfl | omega))]; rfl, ?_⟩
    (repeat (first | refine below_drewN ?_ _ | refine Below.alloc ?_ (by simp; try omega) _ | refine Below.setCell ?_ (by simp; try omega) _)); exact Below.refl _ _
  have HI2 : Hid (¬ 6 < id) := hi2
  rw [rounds_succ]
  go_wp2_with fail
  refine wp_loop_rounds 3 ?_
  by_cases lqa : qa < -20
  · rw [rounds_succ]
    go_wp2_with fail
    go_quiet (fail)
    go_wp2_with fail
    go_ret
    refine ⟨by rw [show rfC _ = 1 by (simp [rfC, rowR, numR, HNP.out, lqa]; try ((repeat' (first | intro _ | split)) <;> first | rfl | omega))]; rfl, ?_⟩
    (repeat (first | refine below_drewN ?_ _ | refine Below.alloc ?_ (by simp; try omega) _ | refine Below.setCell ?_ (by simp; try omega) _)); exact Below.refl _ _
  have Hlqa : Hid (¬ qa < -20) := lqa
  by_cases uqa : 20 < qa
  · rw [rounds_succ]
    go_wp2_with fail
    go_quiet (fail)
    go_wp2_with fail
    go_ret
    refine ⟨by rw [show rfC _ = 1 by (simp [rfC, rowR, numR, HNP.out, uqa]; try ((repeat' (first | intro _ | split)) <;> first | rfl | omega))]; rfl, ?_⟩
    (repeat (first | refine below_drewN ?_ _ | refine Below.alloc ?_ (by simp; try omega) _ | refine Below.setCell ?_ (by simp; try omega) _)); exact Below.refl _ _
  have Huqa : Hid (¬ 20 < qa) := uqa
  rw [rounds_succ]
  go_wp2_with fail
  go_quiet (fail)
  go_wp2_with fail
  by_cases lqb : qb < -20
  · rw [rounds_succ]
    go_wp2_with fail
    go_quiet (fail)
    go_wp2_with fail
    go_ret
    refine ⟨by rw [show rfC _ = 1 by (simp [rfC, rowR, numR, HNP.out, lqb]; try ((repeat' (first | intro _ | split)) <;> first | rfl | omega))]; rfl, ?_⟩
    (repeat (first | refine below_drewN ?_ _ | refine Below.alloc ?_ (by simp; try omega) _ | refine Below.setCell ?_ (by simp; try omega) _)); exact Below.refl _ _
  have Hlqb : Hid (¬ qb < -20) := lqb
  by_cases uqb : 20 < qb
  · rw [rounds_succ]
    go_wp2_with fail
    go_quiet (fail)
    go_wp2_with fail
    go_ret
    refine ⟨by rw [show rfC _ = 1 by (simp [rfC, rowR, numR, HNP.out, uqb]; try ((repeat' (first | intro _ | split)) <;> first | rfl | omega))]; rfl, ?_⟩
    (repeat (first | refine below_drewN ?_ _ | refine Below.alloc ?_ (by simp; try omega) _ | refine Below.setCell ?_ (by simp; try omega) _)); exact Below.refl _ _
  have Huqb : Hid (¬ 20 < qb) := uqb
  rw [rounds_succ]
  go_wp2_with fail
  go_quiet (fail)
  go_wp2_with fail
  rw [rounds_succ]
  go_wp2_with fail
  go_ret
  refine ⟨by rw [show rfC _ = 0 by (simp [rfC, rowR, numR, HNP.out]; try ((repeat' (first | intro _ | split)) <;> first | rfl | omega))]; rfl, ?_⟩
  (repeat (first | refine below_drewN ?_ _ | refine Below.alloc ?_ (by simp; try omega) _ | refine Below.setCell ?_ (by simp; try omega) _)); exact Below.refl _ _
end Go.Proofs.YtceabiodelfdoaaDoor
