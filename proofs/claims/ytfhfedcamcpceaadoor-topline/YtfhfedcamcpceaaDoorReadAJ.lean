/- Walks: op.size, op.read. -- s1 -/
import Derived.Test.YtfhfedcamcpceaaDoorFindNJ
import Derived.Test.YtfhfedcamcpceaaDoorOcMJ
namespace Go.Proofs.YtfhfedcamcpceaaDoor
open Go.RowKit

def sizeS (s : Shp) : Nat := 2 * s.nums + (if s.id then 1 else 0)
/-- a number of a row of bytes -/
def numAt (bs : List UInt8) (j : Nat) : Int := ((bs.getD (2 * j) 0).toNat : Int) + 256 * ((bs.getD (2 * j + 1) 0).toNat : Int) - 128
def numK (bs : List UInt8) (n j : Nat) : Int := if j < n then numAt bs j else 0
/-- what is read of a row of bytes: all but a picture -/
def readQ (kind : Int) (id : Bool) (n : Nat) (bs : List UInt8) : Pq :=
  ⟨kind, if id then ((bs.getD 0 0).toNat : Int) else 0, numK (if id then bs.drop 1 else bs) n 0, numK (if id then bs.drop 1 else bs) n 1, numK (if id then bs.drop 1 else bs) n 2, numK (if id then bs.drop 1 else bs) n 3, 0, 0, []⟩

set_option maxHeartbeats 2000000 in
set_option maxRecDepth 100000 in
theorem sizeS_any (s : Shp) (w : World) (hn : s.nums ≤ 4) : Calls Tryd.prog 30 #[s.val] w fun e w' => e = .returned (.int .i64 (sizeS s : Nat)) ∧ Below w.heap.size w w' := by
  have hbz : Below w.heap.size w (w.alloc (.cells #[.int .i64 (s.kind : Int), .string s.bytes, .bool s.id, .int .i64 (s.nums : Int), .int .i64 s.low, .int .i64 s.high, .bool s.pic] 56)) := (Below.refl _ _).alloc (Nat.le_refl _) _
  obtain ⟨n, HN⟩ : ∃ n, Hid (s.nums = n) := ⟨_, (rfl : _ = _)⟩
  obtain ⟨b, HB⟩ : ∃ n, Hid (s.id = n) := ⟨_, (rfl : _ = _)⟩
  have hn4 : n ≤ 4 := by rw [← HN.out]; exact hn
  have e1 : IntKind.i64.wrap (2 * (n : Int)) = ((2 * n : Nat) : Int) := by rw [IntKind.wrap_i64]; omega
  have hf : sizeS s = 2 * n + (if b then 1 else 0) := by unfold sizeS; rw [HN.out, HB.out]
  rw [hf]
  unfold Shp.val
  rw [HN.out, HB.out] at hbz ⊢
  clear hf hn
  cases b with
  | true =>
    have e2 : IntKind.i64.wrap (((2 * n : Nat) : Int) + 1) = ((2 * n + 1 : Nat) : Int) := by rw [IntKind.wrap_i64]; omega
    go_enter Tryd.func30, Tryd.ntmps30
    go_wp2_with fail
    go_ret
    exact ⟨by first | rfl | (congr 2; simp; omega), hbz⟩
  | false =>
    go_enter Tryd.func30, Tryd.ntmps30
    go_wp2_with fail
    go_ret
    exact ⟨by first | rfl | (congr 2; simp; omega), hbz⟩

/-- four places -/
structure Slots (W : World) (g : Nat) (f : Nat → Int) : Prop where
  cell : ∀ j, j < 4 → W.cell? ⟨g, j, none⟩ = some (.int .i64 (f j))
  free : ∀ j, j < 4 → W.frozen? ⟨g, j, none⟩ = false
theorem Slots.set {W : World} {g : Nat} {f : Nat → Int} (h : Slots W g f) {k : Nat} (hk : k < 4) (x : Int) : Slots (W.setCell ⟨g, k, none⟩ (.int .i64 x)) g (fun j => if j = k then x else f j) := by
  refine ⟨fun j hj => ?_, fun j hj => (World.frozen?_setCell _ _ _ _).trans (h.free j hj)⟩
  by_cases e : j = k
  · subst e
    simp only [if_true]
    exact World.cell?_setCell_same _ _ _ (h.cell j hj)
  · simp only [if_neg e]
    exact (World.cell?_setCell_other _ ⟨g, k, none⟩ ⟨g, j, none⟩ _ (fun h2 => e (congrArg Addr.off h2).symm)).trans (h.cell j hj)
theorem Slots.on {W W' : World} {g : Nat} {f : Nat → Int} (h : Slots W g f) (hb : Below W.heap.size W W') (hg : g < W.heap.size) : Slots W' g f :=
  ⟨fun j hj => (hb.cell (p := ⟨g, j, none⟩) hg).trans (h.cell j hj), fun j hj => (World.frozen?_of_block (hb.block g hg)).trans (h.free j hj)⟩
theorem Slots.drew {W : World} {g : Nat} {f : Nat → Int} (h : Slots W g f) : Slots W.drew g f := ⟨h.cell, h.free⟩
theorem Slots.other {W : World} {g b : Nat} {f : Nat → Int} (h : Slots W g f) (hne : g ≠ b) (i : Nat) (v : Value) : Slots (W.setCell ⟨b, i, none⟩ v) g f :=
  ⟨fun j hj => (World.cell?_of_block (Below.heap_setCell W ⟨b, i, none⟩ v g hne)).trans (h.cell j hj), fun j hj => (World.frozen?_of_block (Below.heap_setCell W ⟨b, i, none⟩ v g hne)).trans (h.free j hj)⟩
theorem num_parts (bs : List UInt8) (j : Nat) (hj : j < 4) (m0 m1 : Nat) (h0 : (bs.getD (2 * j) 0).toNat = m0) (h1 : (bs.getD (2 * j + 1) 0).toNat = m1) (b0 : m0 ≤ 255) (b1 : m1 ≤ 255) :
    IntKind.i64.wrap (2 * (j : Int)) = ((2 * j : Nat) : Int) ∧ IntKind.i64.wrap (((2 * j : Nat) : Int) + 1) = ((2 * j + 1 : Nat) : Int) ∧ wrap64 (wrap64 (wrap64 (m0 : Int) + wrap64 (256 * wrap64 (m1 : Int))) - 128) = numAt bs j := by
  refine ⟨by rw [IntKind.wrap_i64]; omega, by rw [IntKind.wrap_i64]; omega, ?_⟩
  unfold numAt
  rw [h0, h1]
  have a1 : wrap64 (m1 : Int) = (m1 : Int) := by unfold wrap64; omega
  have a2 : wrap64 (256 * (m1 : Int)) = 256 * (m1 : Int) := by unfold wrap64; omega
  have a3 : wrap64 (m0 : Int) = (m0 : Int) := by unfold wrap64; omega
  have a4 : wrap64 ((m0 : Int) + 256 * (m1 : Int)) = (m0 : Int) + 256 * (m1 : Int) := by unfold wrap64; omega
  rw [a1, a2, a3, a4]
  unfold wrap64; omega
theorem numK_step (bs : List UInt8) (k : Nat) : (fun j => if j = k then numAt bs k else numK bs k j) = numK bs (k + 1) := by
  funext j
  unfold numK
  by_cases e : j = k
  · subst e; simp
  · rw [if_neg e]
    by_cases h : j < k
    · rw [if_pos h, if_pos (by omega)]
    · rw [if_neg h, if_neg (by omega)]
end Go.Proofs.YtfhfedcamcpceaaDoor
