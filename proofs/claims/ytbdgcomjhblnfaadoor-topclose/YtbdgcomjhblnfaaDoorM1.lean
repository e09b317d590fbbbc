/- Some of the walks, in one text. -/
import Derived.Test.YtbdgcomjhblnfaaDoorChecked
import Derived.WalkKit
import Derived.WalkSpells
import Derived.WalkLawsBesides
import Derived.BigQuiet
import Derived.Deep.QuietTactic
import Derived.Outline
import Derived.Deep.Cut
import Derived.Deep.RegionWith
import Derived.Deep.RegionHeld3
import Derived.Lib.AppendStr
import Derived.Test.YtbdgcomjhblnfaaDoorRows
import Derived.Lib.LaidTab
import Derived.Lib.SmallJoins
import Derived.Deep.MidRow
import Derived.Deep.SlicePairs
import Derived.ProofKit
import Derived.OpenShut
import Derived.Below
/- What the texts of stage 2 have in common: errors, worlds, cells. -/
namespace Go.Proofs.YtbdgcomjhblnfaaDoor
open Go.RowKit

def errV (c : Nat) : Value := if c = 0 then .nilIface else .iface 61 (.int .i64 (c : Int))
theorem own_any {w : World} {B : Nat} {v : Value} {n : Nat} {xs : List Value} {e : TypeId} {size : Nat} (h : w.ownsRow B e size v n xs) :
    ∃ a cap, v = .slice a n cap := by
  rcases h.2 with ⟨h1, h0⟩ | ⟨g, cap, cur, h1, _⟩
  · subst h0; exact ⟨none, 0, h1⟩
  · exact ⟨_, _, h1⟩
theorem below_drewN {B : Nat} {a w : World} (h : Below B a w) (n : Nat) : Below B a (w.drewN n) := ⟨h.os, h.tape, h.output, h.size, h.block⟩
/-- what is known of a block of three cells -/
structure Three (W : World) (b : Nat) (x y z : Value) : Prop where
  c0 : W.cell? ⟨b, 0, none⟩ = some x
  c1 : W.cell? ⟨b, 1, none⟩ = some y
  c2 : W.cell? ⟨b, 2, none⟩ = some z
  f0 : W.frozen? ⟨b, 0, none⟩ = false
  f1 : W.frozen? ⟨b, 1, none⟩ = false
  f2 : W.frozen? ⟨b, 2, none⟩ = false
  lt : b < W.heap.size
theorem three_start (w : World) (x y z : Value) (T : TypeId) : Three (w.alloc (.cells #[x, y, z] T)) w.heap.size x y z :=
  ⟨by simp, by simp, by simp, by simp, by simp, by simp, by simp⟩
theorem Three.on {W W' : World} {b : Nat} {x y z : Value} (h : Three W b x y z) (hb : Below W.heap.size W W') : Three W' b x y z :=
  ⟨(hb.cell (p := ⟨b, 0, none⟩) h.lt).trans h.c0, (hb.cell (p := ⟨b, 1, none⟩) h.lt).trans h.c1, (hb.cell (p := ⟨b, 2, none⟩) h.lt).trans h.c2,
    (hb.frozen (p := ⟨b, 0, none⟩) h.lt).trans h.f0, (hb.frozen (p := ⟨b, 1, none⟩) h.lt).trans h.f1, (hb.frozen (p := ⟨b, 2, none⟩) h.lt).trans h.f2, Nat.lt_of_lt_of_le h.lt hb.size⟩
theorem Three.drew {W : World} {b : Nat} {x y z : Value} (h : Three W b x y z) : Three W.drew b x y z := ⟨h.c0, h.c1, h.c2, h.f0, h.f1, h.f2, h.lt⟩
theorem grown_below2 {W W' : World} (h : Below W.heap.size W W') : W.grownBy W' none := ⟨h.os, h.tape, h.output, h.size, fun k hk _ => h.block k hk⟩
theorem own_on2 {W W' : World} {B : Nat} {e : TypeId} {size : Nat} {v : Value} {n : Nat} {xs : List Value} (h : W.ownsRow B e size v n xs) (hb : Below W.heap.size W W') : W'.ownsRow B e size v n xs :=
  h.kept (grown_below2 hb) (by cases hv : v.ownBlock <;> simp)
theorem Three.alloc {W : World} {b : Nat} {x y z : Value} (h : Three W b x y z) (o : Obj) : Three (W.alloc o) b x y z := h.on ((Below.refl _ _).alloc (Nat.le_refl _) o)
theorem Three.onB {W W' : World} {b B : Nat} {x y z : Value} (h : Three W b x y z) (hb : Below B W W') (hlt : b < B) : Three W' b x y z :=
  ⟨(hb.cell (p := ⟨b, 0, none⟩) hlt).trans h.c0, (hb.cell (p := ⟨b, 1, none⟩) hlt).trans h.c1, (hb.cell (p := ⟨b, 2, none⟩) hlt).trans h.c2,
    (hb.frozen (p := ⟨b, 0, none⟩) hlt).trans h.f0, (hb.frozen (p := ⟨b, 1, none⟩) hlt).trans h.f1, (hb.frozen (p := ⟨b, 2, none⟩) hlt).trans h.f2, Nat.lt_of_lt_of_le h.lt hb.size⟩
theorem Three.drewN {W : World} {b : Nat} {x y z : Value} (h : Three W b x y z) (q : Nat) : Three (W.drewN q) b x y z := ⟨h.c0, h.c1, h.c2, h.f0, h.f1, h.f2, h.lt⟩
/-- the third cell is another one -/
theorem Three.set2 {W : World} {b : Nat} {x y z u : Value} (h : Three W b x y z) : Three (W.setCell ⟨b, 2, none⟩ u) b x y u :=
  ⟨(World.cell?_setCell_other _ ⟨b, 2, none⟩ ⟨b, 0, none⟩ _ (by simp)).trans h.c0, (World.cell?_setCell_other _ ⟨b, 2, none⟩ ⟨b, 1, none⟩ _ (by simp)).trans h.c1, World.cell?_setCell_same _ _ _ h.c2, (World.frozen?_setCell _ _ _ _).trans h.f0, (World.frozen?_setCell _ _ _ _).trans h.f1, (World.frozen?_setCell _ _ _ _).trans h.f2, by simpa using h.lt⟩
/-- a store into another block -/
theorem Three.other {W : World} {b b' j : Nat} {x y z u : Value} (h : Three W b x y z) (hne : b ≠ b') : Three (W.setCell ⟨b', j, none⟩ u) b x y z :=
  ⟨(World.cell?_of_block (Below.heap_setCell W ⟨b', j, none⟩ u b (by simpa using hne))).trans h.c0, (World.cell?_of_block (Below.heap_setCell W ⟨b', j, none⟩ u b (by simpa using hne))).trans h.c1, (World.cell?_of_block (Below.heap_setCell W ⟨b', j, none⟩ u b (by simpa using hne))).trans h.c2,
    (World.frozen?_of_block (Below.heap_setCell W ⟨b', j, none⟩ u b (by simpa using hne))).trans h.f0, (World.frozen?_of_block (Below.heap_setCell W ⟨b', j, none⟩ u b (by simpa using hne))).trans h.f1, (World.frozen?_of_block (Below.heap_setCell W ⟨b', j, none⟩ u b (by simpa using hne))).trans h.f2, by simpa using h.lt⟩
theorem own_drewN {w : World} {base : Nat} {e : TypeId} {size : Nat} {v : Value} {n : Nat} {xs : List Value} (h : w.ownsRow base e size v n xs) (q : Nat) : (w.drewN q).ownsRow base e size v n xs := h
theorem own_mono {W : World} {B B' : Nat} {e : TypeId} {size : Nat} {v : Value} {n : Nat} {xs : List Value} (h : W.ownsRow B e size v n xs) (hB : B' ≤ B) : W.ownsRow B' e size v n xs := by
  refine ⟨h.1, ?_⟩
  rcases h.2 with h' | ⟨g, cap, cur, hv, hb, r⟩
  · exact .inl h'
  · exact .inr ⟨g, cap, cur, hv, Nat.le_trans hB hb, r⟩
def pixCells : List (Int × Int) → List Value
  | [] => []
  | (v, a) :: r => .int .i64 v :: .int .i64 a :: pixCells r
theorem cell_old (w : World) (o : Obj) (b j : Nat) (h : b < w.heap.size) : (w.alloc o).cell? ⟨b, j, none⟩ = w.cell? ⟨b, j, none⟩ :=
  ((Below.refl w.heap.size w).alloc (Nat.le_refl _) o).cell (p := ⟨b, j, none⟩) h
theorem cell_fresh (w : World) (x : Value) (T : TypeId) (b : Nat) (h : b = w.heap.size) : (w.alloc (.cells #[x] T)).cell? ⟨b, 0, none⟩ = some x := by subst h; simp
end Go.Proofs.YtbdgcomjhblnfaaDoor
/- Blocks of some cells: what is known of them, and how it is kept. -/
namespace Go.Proofs.YtbdgcomjhblnfaaDoor
open Go.RowKit

/-- what is known of a block of 2 cells -/
structure Two (W : World) (b : Nat) (x y : Value) : Prop where
  c0 : W.cell? ⟨b, 0, none⟩ = some x
  c1 : W.cell? ⟨b, 1, none⟩ = some y
  f0 : W.frozen? ⟨b, 0, none⟩ = false
  f1 : W.frozen? ⟨b, 1, none⟩ = false
  lt : b < W.heap.size
theorem two_start (w : World) (x y : Value) (T : TypeId) (b : Nat) (hb : b = w.heap.size) : Two (w.alloc (.cells #[x, y] T)) b x y := by
  subst hb; exact ⟨by simp, by simp, by simp, by simp, by simp⟩
theorem Two.on {W W' : World} {b : Nat} {x y : Value} (h : Two W b x y) (hb : Below W.heap.size W W') : Two W' b x y :=
  ⟨(hb.cell (p := ⟨b, 0, none⟩) h.lt).trans h.c0, (hb.cell (p := ⟨b, 1, none⟩) h.lt).trans h.c1, (hb.frozen (p := ⟨b, 0, none⟩) h.lt).trans h.f0, (hb.frozen (p := ⟨b, 1, none⟩) h.lt).trans h.f1, Nat.lt_of_lt_of_le h.lt hb.size⟩
theorem Two.onB {W W' : World} {b B : Nat} {x y : Value} (h : Two W b x y) (hb : Below B W W') (hlt : b < B) : Two W' b x y :=
  ⟨(hb.cell (p := ⟨b, 0, none⟩) hlt).trans h.c0, (hb.cell (p := ⟨b, 1, none⟩) hlt).trans h.c1, (hb.frozen (p := ⟨b, 0, none⟩) hlt).trans h.f0, (hb.frozen (p := ⟨b, 1, none⟩) hlt).trans h.f1, Nat.lt_of_lt_of_le h.lt hb.size⟩
theorem Two.drew {W : World} {b : Nat} {x y : Value} (h : Two W b x y) : Two W.drew b x y := ⟨h.c0, h.c1, h.f0, h.f1, h.lt⟩
theorem Two.drewN {W : World} {b : Nat} {x y : Value} (h : Two W b x y) (q : Nat) : Two (W.drewN q) b x y := ⟨h.c0, h.c1, h.f0, h.f1, h.lt⟩
theorem Two.alloc {W : World} {b : Nat} {x y : Value} (h : Two W b x y) (o : Obj) : Two (W.alloc o) b x y := h.on ((Below.refl _ _).alloc (Nat.le_refl _) o)
theorem Two.other {W : World} {b b' j : Nat} {x y u : Value} (h : Two W b x y) (hne : b ≠ b') : Two (W.setCell ⟨b', j, none⟩ u) b x y :=
  ⟨(World.cell?_of_block (Below.heap_setCell W ⟨b', j, none⟩ u b (by simpa using hne))).trans h.c0, (World.cell?_of_block (Below.heap_setCell W ⟨b', j, none⟩ u b (by simpa using hne))).trans h.c1, (World.frozen?_of_block (Below.heap_setCell W ⟨b', j, none⟩ u b (by simpa using hne))).trans h.f0, (World.frozen?_of_block (Below.heap_setCell W ⟨b', j, none⟩ u b (by simpa using hne))).trans h.f1, by simpa using h.lt⟩
/-- what is known of a block of 4 cells -/
structure Four (W : World) (b : Nat) (x y z t : Value) : Prop where
  c0 : W.cell? ⟨b, 0, none⟩ = some x
  c1 : W.cell? ⟨b, 1, none⟩ = some y
  c2 : W.cell? ⟨b, 2, none⟩ = some z
  c3 : W.cell? ⟨b, 3, none⟩ = some t
  f0 : W.frozen? ⟨b, 0, none⟩ = false
  f1 : W.frozen? ⟨b, 1, none⟩ = false
  f2 : W.frozen? ⟨b, 2, none⟩ = false
  f3 : W.frozen? ⟨b, 3, none⟩ = false
  lt : b < W.heap.size
theorem four_start (w : World) (x y z t : Value) (T : TypeId) (b : Nat) (hb : b = w.heap.size) : Four (w.alloc (.cells #[x, y, z, t] T)) b x y z t := by
  subst hb; exact ⟨by simp, by simp, by simp, by simp, by simp, by simp, by simp, by simp, by simp⟩
theorem Four.on {W W' : World} {b : Nat} {x y z t : Value} (h : Four W b x y z t) (hb : Below W.heap.size W W') : Four W' b x y z t :=
  ⟨(hb.cell (p := ⟨b, 0, none⟩) h.lt).trans h.c0, (hb.cell (p := ⟨b, 1, none⟩) h.lt).trans h.c1, (hb.cell (p := ⟨b, 2, none⟩) h.lt).trans h.c2, (hb.cell (p := ⟨b, 3, none⟩) h.lt).trans h.c3, (hb.frozen (p := ⟨b, 0, none⟩) h.lt).trans h.f0, (hb.frozen (p := ⟨b, 1, none⟩) h.lt).trans h.f1, (hb.frozen (p := ⟨b, 2, none⟩) h.lt).trans h.f2, (hb.frozen (p := ⟨b, 3, none⟩) h.lt).trans h.f3, Nat.lt_of_lt_of_le h.lt hb.size⟩
theorem Four.onB {W W' : World} {b B : Nat} {x y z t : Value} (h : Four W b x y z t) (hb : Below B W W') (hlt : b < B) : Four W' b x y z t :=
  ⟨(hb.cell (p := ⟨b, 0, none⟩) hlt).trans h.c0, (hb.cell (p := ⟨b, 1, none⟩) hlt).trans h.c1, (hb.cell (p := ⟨b, 2, none⟩) hlt).trans h.c2, (hb.cell (p := ⟨b, 3, none⟩) hlt).trans h.c3, (hb.frozen (p := ⟨b, 0, none⟩) hlt).trans h.f0, (hb.frozen (p := ⟨b, 1, none⟩) hlt).trans h.f1, (hb.frozen (p := ⟨b, 2, none⟩) hlt).trans h.f2, (hb.frozen (p := ⟨b, 3, none⟩) hlt).trans h.f3, Nat.lt_of_lt_of_le h.lt hb.size⟩
theorem Four.drew {W : World} {b : Nat} {x y z t : Value} (h : Four W b x y z t) : Four W.drew b x y z t := ⟨h.c0, h.c1, h.c2, h.c3, h.f0, h.f1, h.f2, h.f3, h.lt⟩
theorem Four.drewN {W : World} {b : Nat} {x y z t : Value} (h : Four W b x y z t) (q : Nat) : Four (W.drewN q) b x y z t := ⟨h.c0, h.c1, h.c2, h.c3, h.f0, h.f1, h.f2, h.f3, h.lt⟩
theorem Four.alloc {W : World} {b : Nat} {x y z t : Value} (h : Four W b x y z t) (o : Obj) : Four (W.alloc o) b x y z t := h.on ((Below.refl _ _).alloc (Nat.le_refl _) o)
theorem Four.other {W : World} {b b' j : Nat} {x y z t u : Value} (h : Four W b x y z t) (hne : b ≠ b') : Four (W.setCell ⟨b', j, none⟩ u) b x y z t :=
  ⟨(World.cell?_of_block (Below.heap_setCell W ⟨b', j, none⟩ u b (by simpa using hne))).trans h.c0, (World.cell?_of_block (Below.heap_setCell W ⟨b', j, none⟩ u b (by simpa using hne))).trans h.c1, (World.cell?_of_block (Below.heap_setCell W ⟨b', j, none⟩ u b (by simpa using hne))).trans h.c2, (World.cell?_of_block (Below.heap_setCell W ⟨b', j, none⟩ u b (by simpa using hne))).trans h.c3, (World.frozen?_of_block (Below.heap_setCell W ⟨b', j, none⟩ u b (by simpa using hne))).trans h.f0, (World.frozen?_of_block (Below.heap_setCell W ⟨b', j, none⟩ u b (by simpa using hne))).trans h.f1, (World.frozen?_of_block (Below.heap_setCell W ⟨b', j, none⟩ u b (by simpa using hne))).trans h.f2, (World.frozen?_of_block (Below.heap_setCell W ⟨b', j, none⟩ u b (by simpa using hne))).trans h.f3, by simpa using h.lt⟩
/-- what is known of a block of 11 cells -/
structure Eleven (W : World) (b : Nat) (a c d e f g h' i k l m : Value) : Prop where
  c0 : W.cell? ⟨b, 0, none⟩ = some a
  c1 : W.cell? ⟨b, 1, none⟩ = some c
  c2 : W.cell? ⟨b, 2, none⟩ = some d
  c3 : W.cell? ⟨b, 3, none⟩ = some e
  c4 : W.cell? ⟨b, 4, none⟩ = some f
  c5 : W.cell? ⟨b, 5, none⟩ = some g
  c6 : W.cell? ⟨b, 6, none⟩ = some h'
  c7 : W.cell? ⟨b, 7, none⟩ = some i
  c8 : W.cell? ⟨b, 8, none⟩ = some k
  c9 : W.cell? ⟨b, 9, none⟩ = some l
  c10 : W.cell? ⟨b, 10, none⟩ = some m
  f0 : W.frozen? ⟨b, 0, none⟩ = false
  f1 : W.frozen? ⟨b, 1, none⟩ = false
  f2 : W.frozen? ⟨b, 2, none⟩ = false
  f3 : W.frozen? ⟨b, 3, none⟩ = false
  f4 : W.frozen? ⟨b, 4, none⟩ = false
  f5 : W.frozen? ⟨b, 5, none⟩ = false
  f6 : W.frozen? ⟨b, 6, none⟩ = false
  f7 : W.frozen? ⟨b, 7, none⟩ = false
  f8 : W.frozen? ⟨b, 8, none⟩ = false
  f9 : W.frozen? ⟨b, 9, none⟩ = false
  f10 : W.frozen? ⟨b, 10, none⟩ = false
  lt : b < W.heap.size
theorem eleven_start (w : World) (a c d e f g h' i k l m : Value) (T : TypeId) (b : Nat) (hb : b = w.heap.size) : Eleven (w.alloc (.cells #[a, c, d, e, f, g, h', i, k, l, m] T)) b a c d e f g h' i k l m := by
  subst hb; exact ⟨by simp, by simp, by simp, by simp, by simp, by simp, by simp, by simp, by simp, by simp, by simp, by simp, by simp, by simp, by simp, by simp, by simp, by simp, by simp, by simp, by simp, by simp, by simp⟩
theorem Eleven.on {W W' : World} {b : Nat} {a c d e f g h' i k l m : Value} (h : Eleven W b a c d e f g h' i k l m) (hb : Below W.heap.size W W') : Eleven W' b a c d e f g h' i k l m :=
  ⟨(hb.cell (p := ⟨b, 0, none⟩) h.lt).trans h.c0, (hb.cell (p := ⟨b, 1, none⟩) h.lt).trans h.c1, (hb.cell (p := ⟨b, 2, none⟩) h.lt).trans h.c2, (hb.cell (p := ⟨b, 3, none⟩) h.lt).trans h.c3, (hb.cell (p := ⟨b, 4, none⟩) h.lt).trans h.c4, (hb.cell (p := ⟨b, 5, none⟩) h.lt).trans h.c5, (hb.cell (p := ⟨b, 6, none⟩) h.lt).trans h.c6, (hb.cell (p := ⟨b, 7, none⟩) h.lt).trans h.c7, (hb.cell (p := ⟨b, 8, none⟩) h.lt).trans h.c8, (hb.cell (p := ⟨b, 9, none⟩) h.lt).trans h.c9, (hb.cell (p := ⟨b, 10, none⟩) h.lt).trans h.c10, (hb.frozen (p := ⟨b, 0, none⟩) h.lt).trans h.f0, (hb.frozen (p := ⟨b, 1, none⟩) h.lt).trans h.f1, (hb.frozen (p := ⟨b, 2, none⟩) h.lt).trans h.f2, (hb.frozen (p := ⟨b, 3, none⟩) h.lt).trans h.f3, (hb.frozen (p := ⟨b, 4, none⟩) h.lt).trans h.f4, (hb.frozen (p := ⟨b, 5, none⟩) h.lt).trans h.f5, (hb.frozen (p := ⟨b, 6, none⟩) h.lt).trans h.f6, (hb.frozen (p := ⟨b, 7, none⟩) h.lt).trans h.f7, (hb.frozen (p := ⟨b, 8, none⟩) h.lt).trans h.f8, (hb.frozen (p := ⟨b, 9, none⟩) h.lt).trans h.f9, (hb.frozen (p := ⟨b, 10, none⟩) h.lt).trans h.f10, Nat.lt_of_lt_of_le h.lt hb.size⟩
theorem Eleven.onB {W W' : World} {b B : Nat} {a c d e f g h' i k l m : Value} (h : Eleven W b a c d e f g h' i k l m) (hb : Below B W W') (hlt : b < B) : Eleven W' b a c d e f g h' i k l m :=
  ⟨(hb.cell (p := ⟨b, 0, none⟩) hlt).trans h.c0, (hb.cell (p := ⟨b, 1, none⟩) hlt).trans h.c1, (hb.cell (p := ⟨b, 2, none⟩) hlt).trans h.c2, (hb.cell (p := ⟨b, 3, none⟩) hlt).trans h.c3, (hb.cell (p := ⟨b, 4, none⟩) hlt).trans h.c4, (hb.cell (p := ⟨b, 5, none⟩) hlt).trans h.c5, (hb.cell (p := ⟨b, 6, none⟩) hlt).trans h.c6, (hb.cell (p := ⟨b, 7, none⟩) hlt).trans h.c7, (hb.cell (p := ⟨b, 8, none⟩) hlt).trans h.c8, (hb.cell (p := ⟨b, 9, none⟩) hlt).trans h.c9, (hb.cell (p := ⟨b, 10, none⟩) hlt).trans h.c10, (hb.frozen (p := ⟨b, 0, none⟩) hlt).trans h.f0, (hb.frozen (p := ⟨b, 1, none⟩) hlt).trans h.f1, (hb.frozen (p := ⟨b, 2, none⟩) hlt).trans h.f2, (hb.frozen (p := ⟨b, 3, none⟩) hlt).trans h.f3, (hb.frozen (p := ⟨b, 4, none⟩) hlt).trans h.f4, (hb.frozen (p := ⟨b, 5, none⟩) hlt).trans h.f5, (hb.frozen (p := ⟨b, 6, none⟩) hlt).trans h.f6, (hb.frozen (p := ⟨b, 7, none⟩) hlt).trans h.f7, (hb.frozen (p := ⟨b, 8, none⟩) hlt).trans h.f8, (hb.frozen (p := ⟨b, 9, none⟩) hlt).trans h.f9, (hb.frozen (p := ⟨b, 10, none⟩) hlt).trans h.f10, Nat.lt_of_lt_of_le h.lt hb.size⟩
theorem Eleven.drew {W : World} {b : Nat} {a c d e f g h' i k l m : Value} (h : Eleven W b a c d e f g h' i k l m) : Eleven W.drew b a c d e f g h' i k l m := ⟨h.c0, h.c1, h.c2, h.c3, h.c4, h.c5, h.c6, h.c7, h.c8, h.c9, h.c10, h.f0, h.f1, h.f2, h.f3, h.f4, h.f5, h.f6, h.f7, h.f8, h.f9, h.f10, h.lt⟩
theorem Eleven.drewN {W : World} {b : Nat} {a c d e f g h' i k l m : Value} (h : Eleven W b a c d e f g h' i k l m) (q : Nat) : Eleven (W.drewN q) b a c d e f g h' i k l m := ⟨h.c0, h.c1, h.c2, h.c3, h.c4, h.c5, h.c6, h.c7, h.c8, h.c9, h.c10, h.f0, h.f1, h.f2, h.f3, h.f4, h.f5, h.f6, h.f7, h.f8, h.f9, h.f10, h.lt⟩
theorem Eleven.alloc {W : World} {b : Nat} {a c d e f g h' i k l m : Value} (h : Eleven W b a c d e f g h' i k l m) (o : Obj) : Eleven (W.alloc o) b a c d e f g h' i k l m := h.on ((Below.refl _ _).alloc (Nat.le_refl _) o)
theorem Eleven.other {W : World} {b b' j : Nat} {a c d e f g h' i k l m u : Value} (h : Eleven W b a c d e f g h' i k l m) (hne : b ≠ b') : Eleven (W.setCell ⟨b', j, none⟩ u) b a c d e f g h' i k l m :=
  ⟨(World.cell?_of_block (Below.heap_setCell W ⟨b', j, none⟩ u b (by simpa using hne))).trans h.c0, (World.cell?_of_block (Below.heap_setCell W ⟨b', j, none⟩ u b (by simpa using hne))).trans h.c1, (World.cell?_of_block (Below.heap_setCell W ⟨b', j, none⟩ u b (by simpa using hne))).trans h.c2, (World.cell?_of_block (Below.heap_setCell W ⟨b', j, none⟩ u b (by simpa using hne))).trans h.c3, (World.cell?_of_block (Below.heap_setCell W ⟨b', j, none⟩ u b (by simpa using hne))).trans h.c4, (World.cell?_of_block (Below.heap_setCell W ⟨b', j, none⟩ u b (by simpa using hne))).trans h.c5, (World.cell?_of_block (Below.heap_setCell W ⟨b', j, none⟩ u b (by simpa using hne))).trans h.c6, (World.cell?_of_block (Below.heap_setCell W ⟨b', j, none⟩ u b (by simpa using hne))).trans h.c7, (World.cell?_of_block (Below.heap_setCell W ⟨b', j, none⟩ u b (by simpa using hne))).trans h.c8, (World.cell?_of_block (Below.heap_setCell W ⟨b', j, none⟩ u b (by simpa using hne))).trans h.c9, (World.cell?_of_block (Below.heap_setCell W ⟨b', j, none⟩ u b (by simpa using hne))).trans h.c10, (World.frozen?_of_block (Below.heap_setCell W ⟨b', j, none⟩ u b (by simpa using hne))).trans h.f0, (World.frozen?_of_block (Below.heap_setCell W ⟨b', j, none⟩ u b (by simpa using hne))).trans h.f1, (World.frozen?_of_block (Below.heap_setCell W ⟨b', j, none⟩ u b (by simpa using hne))).trans h.f2, (World.frozen?_of_block (Below.heap_setCell W ⟨b', j, none⟩ u b (by simpa using hne))).trans h.f3, (World.frozen?_of_block (Below.heap_setCell W ⟨b', j, none⟩ u b (by simpa using hne))).trans h.f4, (World.frozen?_of_block (Below.heap_setCell W ⟨b', j, none⟩ u b (by simpa using hne))).trans h.f5, (World.frozen?_of_block (Below.heap_setCell W ⟨b', j, none⟩ u b (by simpa using hne))).trans h.f6, (World.frozen?_of_block (Below.heap_setCell W ⟨b', j, none⟩ u b (by simpa using hne))).trans h.f7, (World.frozen?_of_block (Below.heap_setCell W ⟨b', j, none⟩ u b (by simpa using hne))).trans h.f8, (World.frozen?_of_block (Below.heap_setCell W ⟨b', j, none⟩ u b (by simpa using hne))).trans h.f9, (World.frozen?_of_block (Below.heap_setCell W ⟨b', j, none⟩ u b (by simpa using hne))).trans h.f10, by simpa using h.lt⟩
theorem three_begin (w : World) (x y z : Value) (T : TypeId) (b : Nat) (hb : b = w.heap.size) : Three (w.alloc (.cells #[x, y, z] T)) b x y z := by subst hb; exact three_start w x y z T
theorem cell_set_ne (W : World) (b i j : Nat) (u : Value) (h : i ≠ j) : (W.setCell ⟨b, i, none⟩ u).cell? ⟨b, j, none⟩ = W.cell? ⟨b, j, none⟩ := World.cell?_setCell_other _ ⟨b, i, none⟩ ⟨b, j, none⟩ _ (fun e => h (Addr.mk.inj e).2.1)
theorem Four.set_all {W : World} {b : Nat} {x y z t : Value} (h : Four W b x y z t) (x' y' z' t' : Value) : Four ((((W.setCell ⟨b, 0, none⟩ x').setCell ⟨b, 1, none⟩ y').setCell ⟨b, 2, none⟩ z').setCell ⟨b, 3, none⟩ t') b x' y' z' t' := by
  refine ⟨?_, ?_, ?_, ?_, by simp [h.f0], by simp [h.f1], by simp [h.f2], by simp [h.f3], by simpa using h.lt⟩
  · rw [cell_set_ne _ _ _ _ _ (by decide), cell_set_ne _ _ _ _ _ (by decide), cell_set_ne _ _ _ _ _ (by decide)]; exact World.cell?_setCell_same _ _ _ h.c0
  · rw [cell_set_ne _ _ _ _ _ (by decide), cell_set_ne _ _ _ _ _ (by decide)]; exact World.cell?_setCell_same _ _ _ ((cell_set_ne _ _ _ _ _ (by decide)).trans h.c1)
  · rw [cell_set_ne _ _ _ _ _ (by decide)]; exact World.cell?_setCell_same _ _ _ ((cell_set_ne _ _ _ _ _ (by decide)).trans ((cell_set_ne _ _ _ _ _ (by decide)).trans h.c2))
  · exact World.cell?_setCell_same _ _ _ ((cell_set_ne _ _ _ _ _ (by decide)).trans ((cell_set_ne _ _ _ _ _ (by decide)).trans ((cell_set_ne _ _ _ _ _ (by decide)).trans h.c3)))
theorem Three.set_all {W : World} {b : Nat} {x y z : Value} (h : Three W b x y z) (x' y' z' : Value) : Three (((W.setCell ⟨b, 0, none⟩ x').setCell ⟨b, 1, none⟩ y').setCell ⟨b, 2, none⟩ z') b x' y' z' := by
  refine ⟨?_, ?_, ?_, by simp [h.f0], by simp [h.f1], by simp [h.f2], by simpa using h.lt⟩
  · rw [cell_set_ne _ _ _ _ _ (by decide), cell_set_ne _ _ _ _ _ (by decide)]; exact World.cell?_setCell_same _ _ _ h.c0
  · rw [cell_set_ne _ _ _ _ _ (by decide)]; exact World.cell?_setCell_same _ _ _ ((cell_set_ne _ _ _ _ _ (by decide)).trans h.c1)
  · exact World.cell?_setCell_same _ _ _ ((cell_set_ne _ _ _ _ _ (by decide)).trans ((cell_set_ne _ _ _ _ _ (by decide)).trans h.c2))
end Go.Proofs.YtbdgcomjhblnfaaDoor
/- The table of shapes. -/
namespace Go.Proofs.YtbdgcomjhblnfaaDoor
open Go.ChangeShapes Go.WideShapes Go.ChangeAt Go.RowKit Go.Joins Go.Deep Go.Lib

/-- a kind's shape -/
structure Shp where
  kind : Nat
  name : List UInt8
  id : Bool
  nums : Nat
  low : Int
  high : Int
  pic : Bool
/-- all of them -/
def shps : List Shp := [
  ⟨1, [72, 69, 65, 68], false, 2, 1, 8, false⟩,
  ⟨2, [80, 73, 67, 84], true, 0, 0, 0, true⟩,
  ⟨3, [77, 79, 86, 69], true, 2, (-20), 20, false⟩,
  ⟨4, [67, 76, 73, 80], true, 4, 0, 0, false⟩,
  ⟨5, [83, 72, 79, 87], true, 1, 0, 1, false⟩,
  ⟨6, [67, 79, 80, 89], true, 1, 1, 6, false⟩,
  ⟨7, [68, 82, 79, 80], true, 0, 0, 0, false⟩,
  ⟨8, [80, 65, 68, 68], true, 2, (-20), 20, true⟩,
  ⟨9, [80, 80, 85, 84], true, 2, (-20), 20, true⟩,
  ⟨10, [66, 65, 67, 75], false, 2, 0, 255, false⟩,
  ⟨11, [87, 65, 73, 84], false, 1, 0, 99, false⟩,
  ⟨12, [76, 79, 79, 80], false, 1, 0, 9, false⟩,
  ⟨13, [78, 69, 88, 84], false, 0, 0, 0, false⟩,
  ⟨14, [83, 65, 86, 69], false, 0, 0, 0, false⟩,
  ⟨15, [83, 69, 69, 75], false, 0, 0, 0, false⟩,
  ⟨16, [69, 78, 68, 83], false, 0, 0, 0, false⟩]
/-- a name, as bytes -/
def Shp.bytes (s : Shp) : ByteArray := ⟨s.name.toArray⟩
def Shp.cells (s : Shp) : List Value := [.int .i64 (s.kind : Int), .string s.bytes, .bool s.id, .int .i64 (s.nums : Int), .int .i64 s.low, .int .i64 s.high, .bool s.pic]
def Shp.val (s : Shp) : Value := .agg #[.int .i64 (s.kind : Int), .string s.bytes, .bool s.id, .int .i64 (s.nums : Int), .int .i64 s.low, .int .i64 s.high, .bool s.pic]
def Shp.data {H : Type} (s : Shp) : DataW H := .agg [.lit (.int .i64 (s.kind : Int)), .lit (.string s.name), .lit (.bool s.id), .lit (.int .i64 (s.nums : Int)), .lit (.int .i64 s.low), .lit (.int .i64 s.high), .lit (.bool s.pic)]

theorem laid_is {H : Type} : (Rows.laid_flickerbook_op_shapes : DataW H) = .agg (shps.map Shp.data) := rfl

/-- the table lies where the program has it -/
def Shapes (W : World) : Prop := ∀ k s, shps[k]? = some s → ∀ j u, s.cells[j]? = some u → W.cell? ⟨0, 7 * k + j, none⟩ = some u

theorem Tryd.cellsShp : Tryd.prog.cellsOf 83 = 7 := by kernel_rfl
theorem Tryd.cellsShps : Tryd.prog.cellsOf 112 = 112 := by kernel_rfl
theorem Tryd.cellsI : Tryd.prog.cellsOf 3 = 1 := by kernel_rfl
theorem Tryd.cellsS : Tryd.prog.cellsOf 9 = 1 := by kernel_rfl
theorem Tryd.cellsB : Tryd.prog.cellsOf 4 = 1 := by kernel_rfl

set_option maxRecDepth 100000 in
theorem shp_cells {H : Type} {enc : TypeId × Value → H} {W : World} {cs : List Value} {base : Nat} {sp : Nat → Bool} {held : Bool} {fuel : Nat} {z : DataW H × List MemPlace} (s : Shp) (hl : cs.length = 7)
    (h : DataW.trod enc Tryd.prog W base sp held fuel 83 cs = some z) (hz : z.1 = s.data) : cs = s.cells := by
  obtain ⟨xs, n, _, rfl, hl', hlen, hf⟩ := DataW.trod_struct Tryd.underlying83 h
  match cs, hl with
  | [c0, c1, c2, c3, c4, c5, c6], _ =>
    match xs, hlen with
    | [y0, y1, y2, y3, y4, y5, y6], _ =>
      have h0 : DataW.trod enc Tryd.prog W base sp held n 3 [c0] = some y0 := by have := hf 0 _ rfl; simpa [Tryd.cellsI] using this
      have h1 : DataW.trod enc Tryd.prog W base sp held n 9 [c1] = some y1 := by have := hf 1 _ rfl; simpa [Tryd.cellsS] using this
      have h2 : DataW.trod enc Tryd.prog W base sp held n 4 [c2] = some y2 := by have := hf 2 _ rfl; simpa [Tryd.cellsB] using this
      have h3 : DataW.trod enc Tryd.prog W base sp held n 3 [c3] = some y3 := by have := hf 3 _ rfl; simpa [Tryd.cellsI] using this
      have h4 : DataW.trod enc Tryd.prog W base sp held n 3 [c4] = some y4 := by have := hf 4 _ rfl; simpa [Tryd.cellsI] using this
      have h5 : DataW.trod enc Tryd.prog W base sp held n 3 [c5] = some y5 := by have := hf 5 _ rfl; simpa [Tryd.cellsI] using this
      have h6 : DataW.trod enc Tryd.prog W base sp held n 4 [c6] = some y6 := by have := hf 6 _ rfl; simpa [Tryd.cellsB] using this
      obtain ⟨i0, e0, rfl, _⟩ := DataW.trod_int Tryd.underlying3 h0
      obtain ⟨i1, e1, rfl, _⟩ := DataW.trod_string Tryd.underlying9 h1
      obtain ⟨i2, e2, rfl⟩ := DataW.trod_bool Tryd.underlying4 h2
      obtain ⟨i3, e3, rfl, _⟩ := DataW.trod_int Tryd.underlying3 h3
      obtain ⟨i4, e4, rfl, _⟩ := DataW.trod_int Tryd.underlying3 h4
      obtain ⟨i5, e5, rfl, _⟩ := DataW.trod_int Tryd.underlying3 h5
      obtain ⟨i6, e6, rfl⟩ := DataW.trod_bool Tryd.underlying4 h6
      simp [Shp.data] at hz
      obtain ⟨rfl, z1, rfl, rfl, rfl, rfl, rfl⟩ := hz
      simp at e0 e1 e2 e3 e4 e5 e6
      subst e0 e1 e2 e3 e4 e5 e6
      have hb : i1 = s.bytes := by unfold Shp.bytes; rw [← z1]
      rw [hb]
      rfl

theorem shps_len : shps.length = 16 := rfl

theorem shapes_of_laid {W : World} {rest : List (String × DataW Unit)} (h : laidMet Tryd.prog (("flickerbook/op.shapes", Rows.laid_flickerbook_op_shapes) :: rest) W) : Shapes W := by
  obtain ⟨ps, ⟨g', t', cs, fuel, p, q, hg', ht', hvar, hd, _, _⟩, _⟩ := h
  obtain rfl := Option.some.inj ((show Tryd.prog.globalNamed "flickerbook/op.shapes" = some 0 by kernel_rfl).symm.trans hg')
  obtain rfl := Option.some.inj ((show (Tryd.prog.globals[0]?).map (·.type) = some 112 by kernel_rfl).symm.trans ht')
  rw [laid_is] at hd
  cases fuel with
  | zero => simp [DataW.trod] at hd
  | succ fuel =>
    simp only [DataW.trod, Tryd.underlying112, Tryd.cellsShp, Tryd.cellsShps] at hd
    split at hd
    · rename_i hlen
      obtain ⟨xs, hm, hx⟩ := Option.map_eq_some_iff.1 hd
      have hxs : xs.map (·.1) = shps.map Shp.data := by
        have := congrArg Prod.fst hx
        simpa using this
      intro k s hk j u hu
      have hk16 : k < 16 := by
        rcases Nat.lt_or_ge k 16 with h | h
        · exact h
        · rw [List.getElem?_eq_none (by rw [shps_len]; exact h)] at hk; cases hk
      obtain ⟨b, hb, hf⟩ := mapM_at hm k k (by simp [hk16])
      have hb1 : b.1 = s.data := by
        have h2 : (xs.map (·.1))[k]? = some b.1 := by simp [hb]
        rw [hxs, List.getElem?_map, hk] at h2
        exact (Option.some.inj h2).symm
      have hc := shp_cells s (by rw [List.length_take, List.length_drop, hlen]; omega) hf hb1
      have hj : j < 7 := by
        rcases Nat.lt_or_ge j 7 with h | h
        · exact h
        · rw [List.getElem?_eq_none (by simp [Shp.cells]; exact h)] at hu; cases hu
      rw [← hc, List.getElem?_take, if_pos hj, List.getElem?_drop] at hu
      rw [World.var?_cell hg' hvar, ← hu]
      simp [Nat.mul_comm]
    · cases hd
end Go.Proofs.YtbdgcomjhblnfaaDoor
/- Blocks of seven and of nine cells. -/
namespace Go.Proofs.YtbdgcomjhblnfaaDoor
open Go.RowKit

structure Seven (W : World) (b : Nat) (x0 x1 x2 x3 x4 x5 x6 : Value) : Prop where
  c0 : W.cell? ⟨b, 0, none⟩ = some x0
  c1 : W.cell? ⟨b, 1, none⟩ = some x1
  c2 : W.cell? ⟨b, 2, none⟩ = some x2
  c3 : W.cell? ⟨b, 3, none⟩ = some x3
  c4 : W.cell? ⟨b, 4, none⟩ = some x4
  c5 : W.cell? ⟨b, 5, none⟩ = some x5
  c6 : W.cell? ⟨b, 6, none⟩ = some x6
  f0 : W.frozen? ⟨b, 0, none⟩ = false
  f1 : W.frozen? ⟨b, 1, none⟩ = false
  f2 : W.frozen? ⟨b, 2, none⟩ = false
  f3 : W.frozen? ⟨b, 3, none⟩ = false
  f4 : W.frozen? ⟨b, 4, none⟩ = false
  f5 : W.frozen? ⟨b, 5, none⟩ = false
  f6 : W.frozen? ⟨b, 6, none⟩ = false
  lt : b < W.heap.size
theorem seven_start (w : World) (x0 x1 x2 x3 x4 x5 x6 : Value) (T : TypeId) (b : Nat) (hb : b = w.heap.size) : Seven (w.alloc (.cells #[x0, x1, x2, x3, x4, x5, x6] T)) b x0 x1 x2 x3 x4 x5 x6 := by
  subst hb; exact ⟨by simp, by simp, by simp, by simp, by simp, by simp, by simp, by simp, by simp, by simp, by simp, by simp, by simp, by simp, by simp⟩
theorem Seven.onB {W W' : World} {b : Nat} {x0 x1 x2 x3 x4 x5 x6 : Value} {B : Nat} (h : Seven W b x0 x1 x2 x3 x4 x5 x6) (hb : Below B W W') (hlt : b < B) : Seven W' b x0 x1 x2 x3 x4 x5 x6 :=
  ⟨(hb.cell (p := ⟨b, 0, none⟩) hlt).trans h.c0, (hb.cell (p := ⟨b, 1, none⟩) hlt).trans h.c1, (hb.cell (p := ⟨b, 2, none⟩) hlt).trans h.c2, (hb.cell (p := ⟨b, 3, none⟩) hlt).trans h.c3, (hb.cell (p := ⟨b, 4, none⟩) hlt).trans h.c4, (hb.cell (p := ⟨b, 5, none⟩) hlt).trans h.c5, (hb.cell (p := ⟨b, 6, none⟩) hlt).trans h.c6, (hb.frozen (p := ⟨b, 0, none⟩) hlt).trans h.f0, (hb.frozen (p := ⟨b, 1, none⟩) hlt).trans h.f1, (hb.frozen (p := ⟨b, 2, none⟩) hlt).trans h.f2, (hb.frozen (p := ⟨b, 3, none⟩) hlt).trans h.f3, (hb.frozen (p := ⟨b, 4, none⟩) hlt).trans h.f4, (hb.frozen (p := ⟨b, 5, none⟩) hlt).trans h.f5, (hb.frozen (p := ⟨b, 6, none⟩) hlt).trans h.f6, Nat.lt_of_lt_of_le h.lt hb.size⟩
theorem Seven.on {W W' : World} {b : Nat} {x0 x1 x2 x3 x4 x5 x6 : Value} (h : Seven W b x0 x1 x2 x3 x4 x5 x6) (hb : Below W.heap.size W W') : Seven W' b x0 x1 x2 x3 x4 x5 x6 := h.onB hb h.lt
theorem Seven.drew {W : World} {b : Nat} {x0 x1 x2 x3 x4 x5 x6 : Value} (h : Seven W b x0 x1 x2 x3 x4 x5 x6) : Seven W.drew b x0 x1 x2 x3 x4 x5 x6 := ⟨h.c0, h.c1, h.c2, h.c3, h.c4, h.c5, h.c6, h.f0, h.f1, h.f2, h.f3, h.f4, h.f5, h.f6, h.lt⟩
theorem Seven.alloc {W : World} {b : Nat} {x0 x1 x2 x3 x4 x5 x6 : Value} (h : Seven W b x0 x1 x2 x3 x4 x5 x6) (o : Obj) : Seven (W.alloc o) b x0 x1 x2 x3 x4 x5 x6 := h.on ((Below.refl _ _).alloc (Nat.le_refl _) o)
structure Nine (W : World) (b : Nat) (x0 x1 x2 x3 x4 x5 x6 x7 x8 : Value) : Prop where
  c0 : W.cell? ⟨b, 0, none⟩ = some x0
  c1 : W.cell? ⟨b, 1, none⟩ = some x1
  c2 : W.cell? ⟨b, 2, none⟩ = some x2
  c3 : W.cell? ⟨b, 3, none⟩ = some x3
  c4 : W.cell? ⟨b, 4, none⟩ = some x4
  c5 : W.cell? ⟨b, 5, none⟩ = some x5
  c6 : W.cell? ⟨b, 6, none⟩ = some x6
  c7 : W.cell? ⟨b, 7, none⟩ = some x7
  c8 : W.cell? ⟨b, 8, none⟩ = some x8
  f0 : W.frozen? ⟨b, 0, none⟩ = false
  f1 : W.frozen? ⟨b, 1, none⟩ = false
  f2 : W.frozen? ⟨b, 2, none⟩ = false
  f3 : W.frozen? ⟨b, 3, none⟩ = false
  f4 : W.frozen? ⟨b, 4, none⟩ = false
  f5 : W.frozen? ⟨b, 5, none⟩ = false
  f6 : W.frozen? ⟨b, 6, none⟩ = false
  f7 : W.frozen? ⟨b, 7, none⟩ = false
  f8 : W.frozen? ⟨b, 8, none⟩ = false
  lt : b < W.heap.size
theorem nine_start (w : World) (x0 x1 x2 x3 x4 x5 x6 x7 x8 : Value) (T : TypeId) (b : Nat) (hb : b = w.heap.size) : Nine (w.alloc (.cells #[x0, x1, x2, x3, x4, x5, x6, x7, x8] T)) b x0 x1 x2 x3 x4 x5 x6 x7 x8 := by
  subst hb; exact ⟨by simp, by simp, by simp, by simp, by simp, by simp, by simp, by simp, by simp, by simp, by simp, by simp, by simp, by simp, by simp, by simp, by simp, by simp, by simp⟩
theorem Nine.onB {W W' : World} {b : Nat} {x0 x1 x2 x3 x4 x5 x6 x7 x8 : Value} {B : Nat} (h : Nine W b x0 x1 x2 x3 x4 x5 x6 x7 x8) (hb : Below B W W') (hlt : b < B) : Nine W' b x0 x1 x2 x3 x4 x5 x6 x7 x8 :=
  ⟨(hb.cell (p := ⟨b, 0, none⟩) hlt).trans h.c0, (hb.cell (p := ⟨b, 1, none⟩) hlt).trans h.c1, (hb.cell (p := ⟨b, 2, none⟩) hlt).trans h.c2, (hb.cell (p := ⟨b, 3, none⟩) hlt).trans h.c3, (hb.cell (p := ⟨b, 4, none⟩) hlt).trans h.c4, (hb.cell (p := ⟨b, 5, none⟩) hlt).trans h.c5, (hb.cell (p := ⟨b, 6, none⟩) hlt).trans h.c6, (hb.cell (p := ⟨b, 7, none⟩) hlt).trans h.c7, (hb.cell (p := ⟨b, 8, none⟩) hlt).trans h.c8, (hb.frozen (p := ⟨b, 0, none⟩) hlt).trans h.f0, (hb.frozen (p := ⟨b, 1, none⟩) hlt).trans h.f1, (hb.frozen (p := ⟨b, 2, none⟩) hlt).trans h.f2, (hb.frozen (p := ⟨b, 3, none⟩) hlt).trans h.f3, (hb.frozen (p := ⟨b, 4, none⟩) hlt).trans h.f4, (hb.frozen (p := ⟨b, 5, none⟩) hlt).trans h.f5, (hb.frozen (p := ⟨b, 6, none⟩) hlt).trans h.f6, (hb.frozen (p := ⟨b, 7, none⟩) hlt).trans h.f7, (hb.frozen (p := ⟨b, 8, none⟩) hlt).trans h.f8, Nat.lt_of_lt_of_le h.lt hb.size⟩
theorem Nine.on {W W' : World} {b : Nat} {x0 x1 x2 x3 x4 x5 x6 x7 x8 : Value} (h : Nine W b x0 x1 x2 x3 x4 x5 x6 x7 x8) (hb : Below W.heap.size W W') : Nine W' b x0 x1 x2 x3 x4 x5 x6 x7 x8 := h.onB hb h.lt
theorem Nine.drew {W : World} {b : Nat} {x0 x1 x2 x3 x4 x5 x6 x7 x8 : Value} (h : Nine W b x0 x1 x2 x3 x4 x5 x6 x7 x8) : Nine W.drew b x0 x1 x2 x3 x4 x5 x6 x7 x8 := ⟨h.c0, h.c1, h.c2, h.c3, h.c4, h.c5, h.c6, h.c7, h.c8, h.f0, h.f1, h.f2, h.f3, h.f4, h.f5, h.f6, h.f7, h.f8, h.lt⟩
theorem Nine.alloc {W : World} {b : Nat} {x0 x1 x2 x3 x4 x5 x6 x7 x8 : Value} (h : Nine W b x0 x1 x2 x3 x4 x5 x6 x7 x8) (o : Obj) : Nine (W.alloc o) b x0 x1 x2 x3 x4 x5 x6 x7 x8 := h.on ((Below.refl _ _).alloc (Nat.le_refl _) o)
end Go.Proofs.YtbdgcomjhblnfaaDoor
/- Walk of op.find. -/
namespace Go.Proofs.YtbdgcomjhblnfaaDoor
open Go.RowKit Go.Deep

/-- the cells of the whole table -/
def shpCells : List Value := shps.flatMap Shp.cells
theorem shpCells_len : shpCells.length = 112 := by decide +kernel
theorem shpCells_at : ∀ k s, shps[k]? = some s → ∀ j, j < 7 → shpCells[7 * k + j]? = s.cells[j]? := by
  intro k s hk
  have hk16 : k < 16 := by
    rcases Nat.lt_or_ge k 16 with h | h
    · exact h
    · rw [List.getElem?_eq_none (by rw [shps_len]; exact h)] at hk; cases hk
  intro j hj
  have hall : ∀ k < 16, ∀ j < 7, shpCells[7 * k + j]? = (shps[k]?).bind fun s => s.cells[j]? := by
    intro k hk j hj
    have : k = 0 ∨ k = 1 ∨ k = 2 ∨ k = 3 ∨ k = 4 ∨ k = 5 ∨ k = 6 ∨ k = 7 ∨ k = 8 ∨ k = 9 ∨ k = 10 ∨ k = 11 ∨ k = 12 ∨ k = 13 ∨ k = 14 ∨ k = 15 := by omega
    have hj' : j = 0 ∨ j = 1 ∨ j = 2 ∨ j = 3 ∨ j = 4 ∨ j = 5 ∨ j = 6 := by omega
    rcases this with rfl | rfl | rfl | rfl | rfl | rfl | rfl | rfl | rfl | rfl | rfl | rfl | rfl | rfl | rfl | rfl <;> rcases hj' with rfl | rfl | rfl | rfl | rfl | rfl | rfl <;> rfl
  rw [hall k hk16 j hj, hk]
  rfl
theorem Shapes.on {w w' : World} (h : Shapes w) (h1 : 0 < w.heap.size) (hb : Below w.heap.size w w') : Shapes w' := fun k s hk j u hu => (hb.cell (p := ⟨0, 7 * k + j, none⟩) h1).trans (h k s hk j u hu)
theorem Shapes.all {w : World} (h : Shapes w) : ∀ i, i < 112 → w.cell? ⟨0, i, none⟩ = some (shpCells.getD i .nilIface) := by
  intro i hi
  have hk : shps[i / 7]? = some (shps[i / 7]'(by rw [shps_len]; omega)) := List.getElem?_eq_getElem _
  have hj : i % 7 < 7 := Nat.mod_lt _ (by omega)
  have he : 7 * (i / 7) + i % 7 = i := by omega
  have h1 := shpCells_at _ _ hk (i % 7) hj
  rw [he] at h1
  have hl : (shps[i / 7]'(by rw [shps_len]; omega)).cells.length = 7 := rfl
  obtain ⟨u, hu⟩ : ∃ u, (shps[i / 7]'(by rw [shps_len]; omega)).cells[i % 7]? = some u := ⟨_, List.getElem?_eq_getElem (by rw [hl]; exact hj)⟩
  have h2 := h _ _ hk _ _ hu
  rw [he] at h2
  rw [h2, List.getD_eq_getElem?_getD, h1, hu]
  rfl
theorem Shapes.range {w : World} (h : Shapes w) : w.rangeAt 0 0 shpCells := by
  intro j v hj
  have hl : j < 112 := by
    rcases Nat.lt_or_ge j 112 with h | h
    · exact h
    · rw [List.getElem?_eq_none (by rw [shpCells_len]; exact h)] at hj; cases hj
  rw [Nat.zero_add, h.all j hl, List.getD_eq_getElem?_getD, hj]
  rfl

theorem shp_index (k : Nat) (s : Shp) (hk : shps[k]? = some s) (X : World) : (Instr.index 112 (.agg shpCells.toArray) (.int .i64 (k : Int))).run Tryd.prog X = .ok s.val X := by
  have hk16 : k < 16 := by
    rcases Nat.lt_or_ge k 16 with h | h
    · exact h
    · rw [List.getElem?_eq_none (by rw [shps_len]; exact h)] at hk; cases hk
  have hc : k = 0 ∨ k = 1 ∨ k = 2 ∨ k = 3 ∨ k = 4 ∨ k = 5 ∨ k = 6 ∨ k = 7 ∨ k = 8 ∨ k = 9 ∨ k = 10 ∨ k = 11 ∨ k = 12 ∨ k = 13 ∨ k = 14 ∨ k = 15 := by omega
  rcases hc with rfl | rfl | rfl | rfl | rfl | rfl | rfl | rfl | rfl | rfl | rfl | rfl | rfl | rfl | rfl | rfl <;> (obtain rfl := Option.some.inj hk; refine Eq.trans ?_ rfl; kernel_rfl)

/-- the first shape from k on of this kind -/
def kindAt (kd : Int) : List Shp → Option Shp
  | [] => none
  | s :: r => if (s.kind : Int) = kd then some s else kindAt kd r

theorem hid_of3 {p : Prop} (h : p) : Hid p := h
theorem kindAt_drop (kd : Int) (k : Nat) (s : Shp) (h : shps[k]? = some s) : kindAt kd (shps.drop k) = if (s.kind : Int) = kd then some s else kindAt kd (shps.drop (k + 1)) := by
  obtain ⟨hk, e⟩ := List.getElem?_eq_some_iff.1 h
  rw [List.drop_eq_getElem_cons hk, e]
  rfl
/-- no shape -/
def shp0 : Shp := ⟨0, [], false, 0, 0, 0, false⟩

set_option maxHeartbeats 4000000 in
set_option maxRecDepth 100000 in
theorem kindF_any (s : Shp) (kd : Int) (b : Nat) (w : World) (hb : b < w.heap.size) (HK : w.cell? ⟨b, 0, none⟩ = some (.int .i64 kd)) (t : Bool) (HT : Hid (decide ((s.kind : Int) = kd) = t)) :
    Calls Tryd.prog 53 #[s.val, .pointer (some ⟨b, 0, none⟩)] w fun e w' => e = .returned (.bool t) ∧ Below w.heap.size w w' := by
  have HK2 := (cell_old w (.cells #[.int .i64 (s.kind : Int), .string s.bytes, .bool s.id, .int .i64 (s.nums : Int), .int .i64 s.low, .int .i64 s.high, .bool s.pic] 83) b 0 hb).trans HK
  have hbz : Below w.heap.size w (w.alloc (.cells #[.int .i64 (s.kind : Int), .string s.bytes, .bool s.id, .int .i64 (s.nums : Int), .int .i64 s.low, .int .i64 s.high, .bool s.pic] 83)) := (Below.refl _ _).alloc (Nat.le_refl _) _
  have ht : ((s.kind : Int) == kd) = t := by rw [← HT.out]; rfl
  unfold Shp.val
  go_enter Tryd.func53, Tryd.ntmps53
  go_wp2_with fail
  go_ret
  exact ⟨rfl, hbz⟩

/-- what find answers -/
def FindP (o : Option Shp) (w : World) (e : Ending) (w' : World) : Prop :=
  Below w.heap.size w w' ∧ match o with
    | some s => e = .returned (.tuple #[s.val, .bool true])
    | none => e = .returned (.tuple #[shp0.val, .bool false])

set_option maxHeartbeats 4000000 in
set_option maxRecDepth 100000 in
theorem findK_any (kd : Int) (b : Nat) (w : World) (HS : Hid (Shapes w)) (h1 : 0 < w.heap.size) (hb : b < w.heap.size) (HK : w.cell? ⟨b, 0, none⟩ = some (.int .i64 kd)) :
    Calls Tryd.prog 52 #[.func (.func 53) #[] #[.pointer (some ⟨b, 0, none⟩)]] w fun e w' => FindP (kindAt kd shps) w e w' := by
  have HS0 : Hid (Shapes (w.alloc (.cells #[.int .i64 0, .string ⟨#[]⟩, .bool false, .int .i64 0, .int .i64 0, .int .i64 0, .bool false] 83))) := HS.out.on h1 ((Below.refl _ _).alloc (Nat.le_refl _) _)
  have S0 := seven_start w (.int .i64 0) (.string ⟨#[]⟩) (.bool false) (.int .i64 0) (.int .i64 0) (.int .i64 0) (.bool false) 83 w.heap.size rfl
  have HK0 := (cell_old w (.cells #[.int .i64 0, .string ⟨#[]⟩, .bool false, .int .i64 0, .int .i64 0, .int .i64 0, .bool false] 83) b 0 hb).trans HK
  have hbz : Below w.heap.size w (w.alloc (.cells #[.int .i64 0, .string ⟨#[]⟩, .bool false, .int .i64 0, .int .i64 0, .int .i64 0, .bool false] 83)) := (Below.refl _ _).alloc (Nat.le_refl _) _
  go_enter Tryd.func52, Tryd.ntmps52
  go_wp2_with fail
  refine wp_load_mid 112 (Operand.global 0) rfl 0 0 rfl shpCells _ HS0.out.range Tryd.underlying112 rfl (by kernel_rfl) ?_
  simp only [Act.put]
  go_wp2_with fail
  obtain ⟨W0, HW0⟩ : ∃ W, Hid (w.alloc (.cells #[.int .i64 0, .string ⟨#[]⟩, .bool false, .int .i64 0, .int .i64 0, .int .i64 0, .bool false] 83) = W) := ⟨_, (rfl : _ = _)⟩
  rw [HW0.out] at HS0 S0 HK0 hbz
  rw [HW0.out]
  have HIX : Hid (∀ (k : Nat) (s : Shp), shps[k]? = some s → ∀ X, (Instr.index 112 (.agg shpCells.toArray) (.int .i64 (k : Int))).run Tryd.prog X = .ok s.val X) := shp_index
  obtain ⟨AV, HAV⟩ : ∃ A, Hid (shpCells.toArray = A) := ⟨_, (rfl : _ = _)⟩
  rw [HAV.out] at HIX
  rw [HAV.out]
  clear HS0 HS HAV
  have hbW : b < W0.heap.size := Nat.lt_of_lt_of_le hb hbz.size
  go_loopw [7] (fun kv wr => ∃ k : Nat, k ≤ 16 ∧ kv = .int .i64 (k : Int) ∧ Hid (kindAt kd shps = kindAt kd (shps.drop k)) ∧ Below W0.heap.size W0 wr) (fun kv _ => 16 - (intOf kv).toNat)
  case atStart => exact ⟨0, by omega, rfl, (rfl : _ = _), Below.refl _ _⟩
  case round =>
    obtain ⟨k, hk, rfl, HKD, hbr⟩ := hrel
    obtain ⟨d0, d1, d2, d3, d4, d5, d6, g0, g1, g2, g3, g4, g5, g6, lt2⟩ := S0.on hbr
    have hbbr := hbz.trans (hbr.mono hbz.size)
    by_cases hk2 : k < 16
    · obtain ⟨s, Hs⟩ : ∃ s, Hid (shps[k]? = some s) := ⟨_, List.getElem?_eq_getElem (by rw [shps_len]; exact hk2)⟩
      have hix := HIX.out k s Hs.out
      have HKS := hid_of3 (kindAt_drop kd k s Hs.out)
      have hbx : Below wr.heap.size wr (wr.alloc (.cells #[.int .i64 (s.kind : Int), .string s.bytes, .bool s.id, .int .i64 (s.nums : Int), .int .i64 s.low, .int .i64 s.high, .bool s.pic] 83)) := (Below.refl _ _).alloc (Nat.le_refl _) _
      have S1 := seven_start wr (.int .i64 (s.kind : Int)) (.string s.bytes) (.bool s.id) (.int .i64 (s.nums : Int)) (.int .i64 s.low) (.int .i64 s.high) (.bool s.pic) 83 wr.heap.size rfl
      have hbX := hbr.trans (hbx.mono hbr.size)
      have hbbX := hbbr.trans (hbx.mono hbbr.size)
      have hbx2 : b < (wr.alloc (.cells #[.int .i64 (s.kind : Int), .string s.bytes, .bool s.id, .int .i64 (s.nums : Int), .int .i64 s.low, .int .i64 s.high, .bool s.pic] 83)).heap.size := Nat.lt_of_lt_of_le hbW hbX.size
      have HKX : (wr.alloc (.cells #[.int .i64 (s.kind : Int), .string s.bytes, .bool s.id, .int .i64 (s.nums : Int), .int .i64 s.low, .int .i64 s.high, .bool s.pic] 83)).cell? ⟨b, 0, none⟩ = some (.int .i64 kd) := (hbX.cell (p := ⟨b, 0, none⟩) hbW).trans HK0
      have S0X := (S0.on hbr).on hbx
      clear d0 d1 d2 d3 d4 d5 d6 g0 g1 g2 g3 g4 g5 g6 lt2 hbx
      unfold Shp.val at hix
      go_wp2_with fail
      by_cases he : (s.kind : Int) = kd
      · rw [if_pos he] at HKS
        have HR : Hid (kindAt kd shps = some s) := by unfold Hid; rw [HKD.out, HKS.out]
        refine (kindF_any s kd b _ hbx2 HKX true (by unfold Hid; simpa using he)).mono ?_
        rintro e w1 ⟨rfl, hb1⟩
        have hbb1 := hbbX.trans (hb1.mono hbbX.size)
        obtain ⟨d0, d1, d2, d3, d4, d5, d6, g0, g1, g2, g3, g4, g5, g6, lt2⟩ := S0X.on hb1
        obtain ⟨e0, e1, e2, e3, e4, e5, e6, f0, f1, f2, f3, f4, f5, f6, lt3⟩ := S1.on hb1
        clear he HKS HKD hb1 hbbX
        go_wp2_with fail
        rw [HR.out]
        refine bodyPost_ret (v := .tuple #[.agg #[.int .i64 (s.kind : Int), .string s.bytes, .bool s.id, .int .i64 (s.nums : Int), .int .i64 s.low, .int .i64 s.high, .bool s.pic], .bool true]) (by simp [results, Tryd.results52, go_sem, d0, d1, d2, d3, d4, d5, d6]) rfl ⟨?_, rfl⟩
        repeat (refine Below.setCell ?_ (by simp) _)
        exact hbb1
      · rw [if_neg he] at HKS
        refine (kindF_any s kd b _ hbx2 HKX false (by unfold Hid; simpa using he)).mono ?_
        rintro e w1 ⟨rfl, hb1⟩
        have hbX1 := hbX.trans (hb1.mono hbX.size)
        clear he hb1
        go_wp2_with fail
        go_roundw
        case rel => exact ⟨k + 1, by omega, by go_num, HKD.out.trans HKS.out, hbX1⟩
        case measure => simp [intOf]; omega
    · obtain rfl : k = 16 := by omega
      have HR : Hid (kindAt kd shps = none) := by unfold Hid; rw [HKD.out]; rfl
      go_wp2_with fail
      rw [HR.out]
      refine bodyPost_ret (v := .tuple #[.agg #[.int .i64 0, .string ⟨#[]⟩, .bool false, .int .i64 0, .int .i64 0, .int .i64 0, .bool false], .bool false]) (by simp [results, Tryd.results52, go_sem, d0, d1, d2, d3, d4, d5, d6]) rfl ⟨?_, rfl⟩
      repeat (refine Below.setCell ?_ (by simp) _)
      exact hbbr

set_option maxHeartbeats 4000000 in
set_option maxRecDepth 100000 in
theorem ofKind_any (kd : Int) (w : World) (HS : Hid (Shapes w)) (h1 : 0 < w.heap.size) :
    Calls Tryd.prog 44 #[.int .i64 kd] w fun e w' => FindP (kindAt kd shps) w e w' := by
  have hbz : Below w.heap.size w ((w.alloc (.cells #[.int .i64 kd] 3)).alloc (.cells #[.int .i64 0, .string ⟨#[]⟩, .bool false, .int .i64 0, .int .i64 0, .int .i64 0, .bool false] 83)) := ((Below.refl _ _).alloc (Nat.le_refl _) _).alloc (by simp) _
  have S0 := seven_start (w.alloc (.cells #[.int .i64 kd] 3)) (.int .i64 0) (.string ⟨#[]⟩) (.bool false) (.int .i64 0) (.int .i64 0) (.int .i64 0) (.bool false) 83 (w.heap.size + 1) (by simp)
  have HS0 : Hid (Shapes _) := HS.out.on h1 hbz
  have hlt : w.heap.size < ((w.alloc (.cells #[.int .i64 kd] 3)).alloc (.cells #[.int .i64 0, .string ⟨#[]⟩, .bool false, .int .i64 0, .int .i64 0, .int .i64 0, .bool false] 83)).heap.size := by simp; omega
  have hcK : ((w.alloc (.cells #[.int .i64 kd] 3)).alloc (.cells #[.int .i64 0, .string ⟨#[]⟩, .bool false, .int .i64 0, .int .i64 0, .int .i64 0, .bool false] 83)).cell? ⟨w.heap.size, 0, none⟩ = some (.int .i64 kd) := (cell_old _ _ _ 0 (by simp)).trans (cell_fresh w _ _ _ rfl)
  have h1' := Nat.lt_of_lt_of_le h1 hbz.size
  obtain ⟨o, HO⟩ : ∃ o, Hid (kindAt kd shps = o) := ⟨_, (rfl : _ = _)⟩
  rw [HO.out]
  go_enter Tryd.func44, Tryd.ntmps44
  go_wp2_with fail
  refine (findK_any kd w.heap.size _ HS0 h1' hlt hcK).mono ?_
  rw [HO.out]
  rintro e w1 ⟨hb1, he⟩
  have hbb1 := hbz.trans (hb1.mono hbz.size)
  obtain ⟨d0, d1, d2, d3, d4, d5, d6, g0, g1, g2, g3, g4, g5, g6, lt2⟩ := S0.on hb1
  clear hb1 hbz S0 HS0 hlt hcK
  cases o with
  | none =>
    simp only at he
    subst he
    unfold shp0 Shp.val Shp.bytes
    go_wp2_with fail
    refine bodyPost_ret (v := .tuple #[.agg #[.int .i64 0, .string ⟨#[]⟩, .bool false, .int .i64 0, .int .i64 0, .int .i64 0, .bool false], .bool false]) (by simp [results, Tryd.results44, go_sem, d0, d1, d2, d3, d4, d5, d6]) rfl ⟨?_, rfl⟩
    repeat (refine Below.setCell ?_ (by simp) _)
    exact hbb1
  | some s =>
    simp only at he
    subst he
    unfold Shp.val
    go_wp2_with fail
    refine bodyPost_ret (v := .tuple #[.agg #[.int .i64 (s.kind : Int), .string s.bytes, .bool s.id, .int .i64 (s.nums : Int), .int .i64 s.low, .int .i64 s.high, .bool s.pic], .bool true]) (by simp [results, Tryd.results44, go_sem, d0, d1, d2, d3, d4, d5, d6]) rfl ⟨?_, rfl⟩
    repeat (refine Below.setCell ?_ (by simp) _)
    exact hbb1
end Go.Proofs.YtbdgcomjhblnfaaDoor
/- Walks of picture's isSide, isShade and Check. -/
namespace Go.Proofs.YtbdgcomjhblnfaaDoor
open Go.RowKit

def sideB (n : Int) : Bool := decide (1 ≤ n) && decide (n ≤ 8)
def shadeB (n : Int) : Bool := decide (0 ≤ n) && decide (n ≤ 255)

theorem side_any (n : Int) (w : World) (b : Bool) (HB : Hid (sideB n = b)) : Calls Tryd.prog 58 #[.int .i64 n] w fun e w' => e = .returned (.bool b) ∧ w = w' := by
  by_cases h1 : 1 ≤ n
  · by_cases h2 : n ≤ 8
    · have hb : b = true := by rw [← HB.out]; unfold sideB; simp [h1, h2]
      subst hb
      go_enter Tryd.func58, Tryd.ntmps58
      go_wp2
      go_ret
      exact ⟨by simp, rfl⟩
    · have hb : b = false := by rw [← HB.out]; unfold sideB; simp [h2]
      subst hb
      go_enter Tryd.func58, Tryd.ntmps58
      go_wp2
      go_ret
      exact ⟨by simp, rfl⟩
  · have hb : b = false := by rw [← HB.out]; unfold sideB; simp [h1]
    subst hb
    go_enter Tryd.func58, Tryd.ntmps58
    go_wp2
    go_ret
    exact ⟨rfl, rfl⟩

theorem shade_any (n : Int) (w : World) (b : Bool) (HB : Hid (shadeB n = b)) : Calls Tryd.prog 59 #[.int .i64 n] w fun e w' => e = .returned (.bool b) ∧ w = w' := by
  by_cases h1 : 0 ≤ n
  · by_cases h2 : n ≤ 255
    · have hb : b = true := by rw [← HB.out]; unfold shadeB; simp [h1, h2]
      subst hb
      go_enter Tryd.func59, Tryd.ntmps59
      go_wp2
      go_ret
      exact ⟨by simp, rfl⟩
    · have hb : b = false := by rw [← HB.out]; unfold shadeB; simp [h2]
      subst hb
      go_enter Tryd.func59, Tryd.ntmps59
      go_wp2
      go_ret
      exact ⟨by simp, rfl⟩
  · have hb : b = false := by rw [← HB.out]; unfold shadeB; simp [h1]
    subst hb
    go_enter Tryd.func59, Tryd.ntmps59
    go_wp2
    go_ret
    exact ⟨rfl, rfl⟩

/-- a list of pixels: so many elements, each with its two numbers in memory -/
def RdP (w : World) (v : Value) (ps : List (Int × Int)) : Prop :=
  ∃ a cap, v = .slice a ps.length cap ∧ ps.length ≤ cap ∧ cap ≤ 9223372036854775807 ∧ (ps ≠ [] → ∃ g off, a = some ⟨g, off, none⟩ ∧ g < w.heap.size ∧
    ∀ j, j < ps.length → w.cell? ⟨g, off + j * 2, none⟩ = some (.int .i64 (ps.getD j (0, 0)).1) ∧ w.cell? ⟨g, off + j * 2 + 1, none⟩ = some (.int .i64 (ps.getD j (0, 0)).2))

theorem RdP.on {w w' : World} {v : Value} {ps : List (Int × Int)} (h : RdP w v ps) (hb : Below w.heap.size w w') : RdP w' v ps := by
  obtain ⟨a, cap, hv, hl, hc, hh⟩ := h
  refine ⟨a, cap, hv, hl, hc, fun hne => ?_⟩
  obtain ⟨g, off, ha, hg, hcell⟩ := hh hne
  refine ⟨g, off, ha, Nat.lt_of_lt_of_le hg hb.size, fun j hj => ?_⟩
  rw [hb.cell (p := ⟨g, off + j * 2, none⟩) hg, hb.cell (p := ⟨g, off + j * 2 + 1, none⟩) hg]
  exact hcell j hj

def okPix (p : Int × Int) : Bool := shadeB p.1 && shadeB p.2

/-- Check's answer -/
def checkL (W H : Int) (ps : List (Int × Int)) : Nat :=
  if sideB W = false ∨ sideB H = false then 1 else if (ps.length : Int) ≠ W * H then 3 else if ps.all okPix then 0 else 1

theorem drop_pix (l : List (Int × Int)) (k : Nat) (h : k < l.length) : l.drop k = l.getD k (0, 0) :: l.drop (k + 1) := by
  rw [List.drop_eq_getElem_cons h]
  simp only [List.getD_eq_getElem?_getD, List.getElem?_eq_getElem h]
  rfl

theorem errV_one : errV 1 = .iface 61 (.int .i64 1) := rfl
theorem errV_three : errV 3 = .iface 61 (.int .i64 3) := rfl

set_option maxHeartbeats 2000000 in
set_option maxRecDepth 100000 in
theorem check_any (W H : Int) (v : Value) (ps : List (Int × Int)) (w : World) (hps : ps.length ≤ 1000000000) (HR : Hid (RdP w v ps)) (c : Nat) (HC : Hid (checkL W H ps = c)) :
    Calls Tryd.prog 49 #[.agg #[.int .i64 W, .int .i64 H, v]] w fun e w' => e = .returned (errV c) ∧ Below w.heap.size w w' := by
  cases hw : sideB W with
  | false =>
    have HW : Hid (sideB W = false) := hw
    have hc : c = 1 := by rw [← HC.out]; unfold checkL; rw [if_pos (.inl hw)]
    subst hc
    clear hw
    go_enter Tryd.func49, Tryd.ntmps49
    go_wp2_with fail
    refine (side_any W _ false HW).mono ?_
    rintro e w1 ⟨rfl, rfl⟩
    go_wp2_with fail
    go_ret
    exact ⟨rfl, (Below.refl _ _).alloc (Nat.le_refl _) _⟩
  | true =>
    have HW : Hid (sideB W = true) := hw
    cases hh : sideB H with
    | false =>
      have HH : Hid (sideB H = false) := hh
      have hc : c = 1 := by rw [← HC.out]; unfold checkL; rw [if_pos (.inr hh)]
      subst hc
      clear hw hh
      go_enter Tryd.func49, Tryd.ntmps49
      go_wp2_with fail
      refine (side_any W _ true HW).mono ?_
      rintro e w1 ⟨rfl, rfl⟩
      go_wp2_with fail
      refine (side_any H _ false HH).mono ?_
      rintro e w1 ⟨rfl, rfl⟩
      go_wp2_with fail
      go_ret
      exact ⟨rfl, (Below.refl _ _).alloc (Nat.le_refl _) _⟩
    | true =>
      have HH : Hid (sideB H = true) := hh
      have hW1 : 1 ≤ W ∧ W ≤ 8 := by unfold sideB at hw; simpa using hw
      have hH1 : 1 ≤ H ∧ H ≤ 8 := by unfold sideB at hh; simpa using hh
      obtain ⟨hW1, hW8⟩ := hW1
      obtain ⟨hH1, hH8⟩ := hH1
      have HC2 : Hid ((if (ps.length : Int) ≠ W * H then 3 else if ps.all okPix then 0 else 1) = c) := by
        unfold Hid; rw [← HC.out]; unfold checkL; simp only [hw, hh]; simp
      clear hw hh
      obtain ⟨M, HM⟩ : ∃ M : Nat, Hid (W * H = (M : Int)) := ⟨(W * H).toNat, by unfold Hid; have := Int.mul_nonneg (show 0 ≤ W by omega) (show 0 ≤ H by omega); omega⟩
      have hm64 : M ≤ 64 := by
        have h1 : W * H ≤ 8 * 8 := Int.mul_le_mul hW8 hH8 (by omega) (by omega)
        have := HM.out; omega
      have hm1 : 1 ≤ M := by
        have h1 : 1 * 1 ≤ W * H := Int.mul_le_mul hW1 hH1 (by omega) (by omega)
        have := HM.out; omega
      have hmul : W * H = (M : Int) := HM.out
      obtain ⟨a, cap, rfl, hcap, hcap2, HCL⟩ := HR.out
      have HCL' : Hid (ps ≠ [] → ∃ g off, a = some ⟨g, off, none⟩ ∧ g < w.heap.size ∧ ∀ j, j < ps.length → w.cell? ⟨g, off + j * 2, none⟩ = some (.int .i64 (ps.getD j (0, 0)).1) ∧ w.cell? ⟨g, off + j * 2 + 1, none⟩ = some (.int .i64 (ps.getD j (0, 0)).2)) := HCL
      clear HCL HR
      by_cases hne : ps.length = M
      · have hneb : ((ps.length : Int) != (M : Int)) = false := by rw [bne_eq_false_iff_eq]; omega
        have HC3 : Hid ((if ps.all okPix then 0 else 1) = c) := by
          unfold Hid; rw [← HC2.out, if_neg (show ¬ (ps.length : Int) ≠ W * H by rw [HM.out]; omega)]
        have hpne : ps ≠ [] := by intro e; rw [e] at hne; simp at hne; omega
        obtain ⟨g, off, rfl, hg, hcell⟩ := HCL'.out hpne
        have HCE : Hid (∀ j, j < ps.length → w.cell? ⟨g, off + j * 2, none⟩ = some (.int .i64 (ps.getD j (0, 0)).1) ∧ w.cell? ⟨g, off + j * 2 + 1, none⟩ = some (.int .i64 (ps.getD j (0, 0)).2)) := hcell
        have HNE : Hid (ps.length = M) := hne
        clear hcell HCL' hpne
        rw [hne] at hcap hps hneb ⊢
        clear hne
        go_enter Tryd.func49, Tryd.ntmps49
        go_wp2_with fail
        refine (side_any W _ true HW).mono ?_
        rintro e w1 ⟨rfl, rfl⟩
        go_wp2_with fail
        refine (side_any H _ true HH).mono ?_
        rintro e w1 ⟨rfl, rfl⟩
        go_wp2_with fail
        go_loopw [29] (fun i wr => ∃ k : Nat, k ≤ M ∧ i = .int .i64 k ∧ Below w.heap.size w wr ∧ Hid (ps.all okPix = (ps.drop k).all okPix)) (fun i _ => M - (intOf i).toNat)
        case atStart => exact ⟨0, by omega, rfl, (Below.refl _ _).alloc (Nat.le_refl _) _, (rfl : _ = _)⟩
        case round =>
          obtain ⟨k, hk, rfl, hb, HK⟩ := hrel
          by_cases hlt : k < M
          · have hc := HCE.out k (by rw [HNE.out]; exact hlt)
            obtain ⟨p, HP⟩ : ∃ p, Hid (ps.getD k (0, 0) = p) := ⟨_, (rfl : _ = _)⟩
            rw [HP.out] at hc
            obtain ⟨pv, pa⟩ := p
            obtain ⟨hc0, hc1⟩ := hc
            have hd0 : wr.cell? ⟨g, off + k * 2, none⟩ = some (.int .i64 pv) := by rw [hb.cell (p := ⟨g, off + k * 2, none⟩) hg, hc0]
            have hd1 : wr.cell? ⟨g, off + k * 2 + 1, none⟩ = some (.int .i64 pa) := by rw [hb.cell (p := ⟨g, off + k * 2 + 1, none⟩) hg, hc1]
            clear hc0 hc1
            have HS : Hid ((ps.drop k).all okPix = (shadeB pv && shadeB pa && (ps.drop (k + 1)).all okPix)) := by
              unfold Hid; rw [drop_pix ps k (by rw [HNE.out]; exact hlt), HP.out, List.all_cons]; rfl
            cases hsv : shadeB pv with
            | false =>
              have HV : Hid (shadeB pv = false) := hsv
              have hc : c = 1 := by rw [← HC3.out, HK.out, HS.out, hsv]; rfl
              subst hc
              clear hsv
              go_wp2_with fail
              refine (shade_any pv _ false HV).mono ?_
              rintro e w1 ⟨rfl, rfl⟩
              go_wp2_with fail
              go_ret
              exact ⟨rfl, hb.alloc hb.size _⟩
            | true =>
              have HV : Hid (shadeB pv = true) := hsv
              cases hsa : shadeB pa with
              | false =>
                have HA : Hid (shadeB pa = false) := hsa
                have hc : c = 1 := by rw [← HC3.out, HK.out, HS.out, hsa, hsv]; rfl
                subst hc
                clear hsv hsa
                go_wp2_with fail
                refine (shade_any pv _ true HV).mono ?_
                rintro e w1 ⟨rfl, rfl⟩
                go_wp2_with fail
                refine (shade_any pa _ false HA).mono ?_
                rintro e w1 ⟨rfl, rfl⟩
                go_wp2_with fail
                go_ret
                exact ⟨rfl, hb.alloc hb.size _⟩
              | true =>
                have HA : Hid (shadeB pa = true) := hsa
                have HN : Hid (ps.all okPix = (ps.drop (k + 1)).all okPix) := by unfold Hid; rw [HK.out, HS.out, hsa, hsv]; rfl
                clear hsv hsa
                go_wp2_with fail
                refine (shade_any pv _ true HV).mono ?_
                rintro e w1 ⟨rfl, rfl⟩
                go_wp2_with fail
                refine (shade_any pa _ true HA).mono ?_
                rintro e w1 ⟨rfl, rfl⟩
                go_wp2_with fail
                go_roundw
                case rel => exact ⟨k + 1, by omega, by go_num, hb.alloc hb.size _, HN⟩
                case measure => simp [intOf]; omega
          · have hc : c = 0 := by rw [← HC3.out, HK.out, List.drop_eq_nil_of_le (by rw [HNE.out]; omega)]; rfl
            subst hc
            go_wp2_with fail
            go_ret
            exact ⟨rfl, hb⟩
      · have hneb : ((ps.length : Int) != (M : Int)) = true := by rw [bne_iff_ne]; omega
        have hc : c = 3 := by rw [← HC2.out, if_pos (show (ps.length : Int) ≠ W * H by rw [HM.out]; omega)]
        subst hc
        go_enter Tryd.func49, Tryd.ntmps49
        go_wp2_with fail
        refine (side_any W _ true HW).mono ?_
        rintro e w1 ⟨rfl, rfl⟩
        go_wp2_with fail
        refine (side_any H _ true HH).mono ?_
        rintro e w1 ⟨rfl, rfl⟩
        go_wp2_with fail
        go_ret
        exact ⟨rfl, (Below.refl _ _).alloc (Nat.le_refl _) _⟩
end Go.Proofs.YtbdgcomjhblnfaaDoor
/- A picture that is handed in, opened. -/
namespace Go.Proofs.YtbdgcomjhblnfaaDoor
open Go.ChangeShapes Go.WideShapes Go.ChangeAt Go.RowKit Go.Joins Go.Deep

theorem Tryd.cellsPic : Tryd.prog.cellsOf 35 = 3 := by kernel_rfl
theorem Tryd.cellsPix : Tryd.prog.cellsOf 57 = 2 := by kernel_rfl
theorem Tryd.cellsInt : Tryd.prog.cellsOf 3 = 1 := by kernel_rfl

theorem view_pix {H : Type} {enc : TypeId × Value → H} {W : World} {u : Value} {x : DataW H × List MemPlace} {fuel : Nat}
    (hf : DataW.trod enc Tryd.prog W 0 (fun _ => true) true fuel 33 [u] = some x) : ∃ ps, RdP W u ps := by
  rcases open_slice_pairs Tryd.underlying33 Tryd.underlying57 Tryd.cellsPix rfl rfl Tryd.cellsInt Tryd.cellsInt hf with ⟨hc, _⟩ | ⟨a, len, cap, m, k, V0, V1, D0, D1, P0, P1, hc, _, hl, hm, hmm, hx, hall⟩
  · simp only [List.cons.injEq, and_true] at hc
    subst hc
    exact ⟨[], none, 0, rfl, by simp, by omega, fun h => absurd rfl h⟩
  · simp only [List.cons.injEq, and_true] at hc
    subst hc
    simp only [if_true] at hmm
    subst hmm
    have hint : ∀ i, i < m → ∃ n0 n1, V0 i = .int .i64 n0 ∧ V1 i = .int .i64 n1 := fun i hi => by
      obtain ⟨n0, h1, _, _⟩ := DataW.trod_int Tryd.underlying3 (hall i hi).2.2.1
      obtain ⟨n1, h2, _, _⟩ := DataW.trod_int Tryd.underlying3 (hall i hi).2.2.2
      simp only [List.cons.injEq, and_true] at h1 h2
      exact ⟨n0, n1, h1, h2⟩
    let f : Nat → Int × Int := fun i => (intOf (V0 i), intOf (V1 i))
    unfold maxLen at hm
    refine ⟨(List.range len).map f, some a, m, by simp, by simp; exact hl, by omega, fun hne => ?_⟩
    have hpos : 0 < len := by
      rcases Nat.eq_zero_or_pos len with h | h
      · subst h; simp at hne
      · exact h
    obtain ⟨sb, so, spot⟩ := a
    have hspot : spot = none := by simpa [Addr.add] using World.cell?_spot (hall 0 (by omega)).1
    subst hspot
    refine ⟨sb, so, rfl, ?_, fun j hj => ?_⟩
    · have h0 := (hall 0 (by omega)).1
      rcases Nat.lt_or_ge sb W.heap.size with h | h
      · exact h
      · simp [Addr.add, World.cell?, Array.getElem?_eq_none h] at h0
    · simp only [List.length_map, List.length_range] at hj
      obtain ⟨n0, n1, e0, e1⟩ := hint j (by omega)
      have h0 := (hall j (by omega)).1
      have h1 := (hall j (by omega)).2.1
      have hg : ((List.range len).map f).getD j (0, 0) = (n0, n1) := by
        rw [List.getD_eq_getElem?_getD, List.getElem?_map, List.getElem?_range hj]
        simp [f, e0, e1, intOf]
      rw [hg]
      rw [e0] at h0
      rw [e1] at h1
      rw [add_plain] at h0 h1
      exact ⟨h0, by rw [Nat.add_assoc]; exact h1⟩

set_option maxRecDepth 100000 in
theorem open_picture {H : Type} {enc : TypeId × Value → H} {W : World} {r : Reach} {b0 : Nat} {v : Value} {d : DataW H} {p : List MemPlace} (hv : Value.okWide Tryd.prog W r b0 35 v)
    (h : DataW.Trod enc Tryd.prog W 0 (fun _ => true) true 35 v d p) :
    ∃ (pw ph : Int) (u : Value) (ps : List (Int × Int)), v = .agg #[.int .i64 pw, .int .i64 ph, u] ∧ RdP W u ps ∧ (Lit.int .i64 pw).wf = true ∧ (Lit.int .i64 ph).wf = true := by
  obtain ⟨c0, c1, c2, y0, y1, y2, m, rfl, _, _, hy0, hy1, hy2⟩ := open_agg3 Tryd.underlying35 (by kernel_rfl) Tryd.cellsPic hv h
  obtain ⟨x, e0, _, wx⟩ := DataW.trod_int Tryd.underlying3 hy0
  obtain ⟨y, e1, _, wy⟩ := DataW.trod_int Tryd.underlying3 hy1
  simp at e0 e1
  subst e0 e1
  obtain ⟨ps, hps⟩ := view_pix hy2
  exact ⟨x, y, c2, ps, rfl, hps, wx, wy⟩
end Go.Proofs.YtbdgcomjhblnfaaDoor
/- Walks of rect: isPlace, isLength, Check, Has, overlap, Both. -/
namespace Go.Proofs.YtbdgcomjhblnfaaDoor
open Go.RowKit

def placeB (n : Int) : Bool := decide (-20 ≤ n) && decide (n ≤ 20)
def lenB (n : Int) : Bool := decide (0 ≤ n) && decide (n ≤ 20)
def rectB (x y w h : Int) : Bool := placeB x && placeB y && lenB w && lenB h
def hasB (x y w h p q : Int) : Bool := decide (x ≤ p) && decide (p < x + w) && decide (y ≤ q) && decide (q < y + h)
def rectV (x y w h : Int) : Value := .agg #[.int .i64 x, .int .i64 y, .int .i64 w, .int .i64 h]
/-- what is in two -/
def bothL (a b c d a' b' c' d' : Int) : Int × Int × Int × Int :=
  if min (a + c) (a' + c') - max a a' ≤ 0 ∨ min (b + d) (b' + d') - max b b' ≤ 0 then (0, 0, 0, 0)
  else (max a a', max b b', min (a + c) (a' + c') - max a a', min (b + d) (b' + d') - max b b')

theorem place_any (n : Int) (w : World) (b : Bool) (HB : Hid (placeB n = b)) : Calls Tryd.prog 71 #[.int .i64 n] w fun e w' => e = .returned (.bool b) ∧ w = w' := by
  by_cases h1 : -20 ≤ n
  · by_cases h2 : n ≤ 20
    · have hb : b = true := by rw [← HB.out]; unfold placeB; simp [h1, h2]
      subst hb
      go_enter Tryd.func71, Tryd.ntmps71
      go_wp2
      go_ret
      exact ⟨by simp, rfl⟩
    · have hb : b = false := by rw [← HB.out]; unfold placeB; simp [h2]
      subst hb
      go_enter Tryd.func71, Tryd.ntmps71
      go_wp2
      go_ret
      exact ⟨by simp, rfl⟩
  · have hb : b = false := by rw [← HB.out]; unfold placeB; simp [h1]
    subst hb
    go_enter Tryd.func71, Tryd.ntmps71
    go_wp2
    go_ret
    exact ⟨rfl, rfl⟩

theorem length_any (n : Int) (w : World) (b : Bool) (HB : Hid (lenB n = b)) : Calls Tryd.prog 72 #[.int .i64 n] w fun e w' => e = .returned (.bool b) ∧ w = w' := by
  by_cases h1 : 0 ≤ n
  · by_cases h2 : n ≤ 20
    · have hb : b = true := by rw [← HB.out]; unfold lenB; simp [h1, h2]
      subst hb
      go_enter Tryd.func72, Tryd.ntmps72
      go_wp2
      go_ret
      exact ⟨by simp, rfl⟩
    · have hb : b = false := by rw [← HB.out]; unfold lenB; simp [h2]
      subst hb
      go_enter Tryd.func72, Tryd.ntmps72
      go_wp2
      go_ret
      exact ⟨by simp, rfl⟩
  · have hb : b = false := by rw [← HB.out]; unfold lenB; simp [h1]
    subst hb
    go_enter Tryd.func72, Tryd.ntmps72
    go_wp2
    go_ret
    exact ⟨rfl, rfl⟩

theorem hasB_iff (x y w h p q : Int) : hasB x y w h p q = true ↔ x ≤ p ∧ p < x + w ∧ y ≤ q ∧ q < y + h := by unfold hasB; simp [and_assoc]
theorem hasB_no (x y w h p q : Int) : hasB x y w h p q = false ↔ ¬ (x ≤ p ∧ p < x + w ∧ y ≤ q ∧ q < y + h) := by rw [← hasB_iff]; simp

set_option maxRecDepth 100000 in
theorem overlap_any (a c b d : Int) (W : World) (h0 : -10000 ≤ a) (h1 : a ≤ 10000) (h2 : -10000 ≤ c) (h3 : c ≤ 10000) (h4 : -10000 ≤ b) (h5 : b ≤ 10000) (h6 : -10000 ≤ d) (h7 : d ≤ 10000) (m n : Int) (HM : Hid (max a b = m)) (HN : Hid (min (a + c) (b + d) - max a b = n)) :
    Calls Tryd.prog 93 #[.int .i64 a, .int .i64 c, .int .i64 b, .int .i64 d] W fun e w' => e = .returned (.tuple #[.int .i64 m, .int .i64 n]) ∧ W = w' := by
  have hM := HM.out
  have hN := HN.out
  clear HM HN
  by_cases ha : a < b
  · by_cases hc : a + c ≤ b + d
    · have e1 : m = b := by omega
      have e2 : n = a + c - b := by omega
      subst e1 e2
      clear hM hN
      go_enter Tryd.func93, Tryd.ntmps93
      go_wp2
      exact bodyPost_ret (v := .tuple #[_, _]) (by simp [results, Tryd.results93, go_sem]; first | done | exact ⟨rfl, rfl⟩ | rfl) rfl ⟨rfl, rfl⟩
    · have hc' : b + d < a + c := by omega
      have e1 : m = b := by omega
      have e2 : n = b + d - b := by omega
      subst e1 e2
      clear hM hN hc
      go_enter Tryd.func93, Tryd.ntmps93
      go_wp2
      exact bodyPost_ret (v := .tuple #[_, _]) (by simp [results, Tryd.results93, go_sem]; first | done | exact ⟨rfl, rfl⟩ | rfl) rfl ⟨rfl, rfl⟩
  · have ha' : b ≤ a := by omega
    by_cases hc : a + c ≤ b + d
    · have e1 : m = a := by omega
      have e2 : n = a + c - a := by omega
      subst e1 e2
      clear hM hN ha
      go_enter Tryd.func93, Tryd.ntmps93
      go_wp2
      exact bodyPost_ret (v := .tuple #[_, _]) (by simp [results, Tryd.results93, go_sem]; first | done | exact ⟨rfl, rfl⟩ | rfl) rfl ⟨rfl, rfl⟩
    · have hc' : b + d < a + c := by omega
      have e1 : m = a := by omega
      have e2 : n = b + d - a := by omega
      subst e1 e2
      clear hM hN ha hc
      go_enter Tryd.func93, Tryd.ntmps93
      go_wp2
      exact bodyPost_ret (v := .tuple #[_, _]) (by simp [results, Tryd.results93, go_sem]; first | done | exact ⟨rfl, rfl⟩ | rfl) rfl ⟨rfl, rfl⟩

def ratV (r : Int × Int × Int × Int) : Value := rectV r.1 r.2.1 r.2.2.1 r.2.2.2

set_option maxRecDepth 100000 in
theorem both_any (a b c d a' b' c' d' : Int) (W : World) (h0 : -1000 ≤ a) (h1 : a ≤ 1000) (h2 : -1000 ≤ b) (h3 : b ≤ 1000) (h4 : 0 ≤ c) (h5 : c ≤ 1000) (h6 : 0 ≤ d) (h7 : d ≤ 1000)
    (k0 : -1000 ≤ a') (k1 : a' ≤ 1000) (k2 : -1000 ≤ b') (k3 : b' ≤ 1000) (k4 : 0 ≤ c') (k5 : c' ≤ 1000) (k6 : 0 ≤ d') (k7 : d' ≤ 1000) (r : Int × Int × Int × Int) (HR : Hid (bothL a b c d a' b' c' d' = r)) :
    Calls Tryd.prog 85 #[rectV a b c d, rectV a' b' c' d'] W fun e w' => e = .returned (ratV r) ∧ Below W.heap.size W w' := by
  have hR := HR.out
  clear HR
  unfold bothL at hR
  obtain ⟨m, HM⟩ : ∃ m, Hid (max a a' = m) := ⟨_, (rfl : _ = _)⟩
  obtain ⟨n, HN⟩ : ∃ m, Hid (min (a + c) (a' + c') - max a a' = m) := ⟨_, (rfl : _ = _)⟩
  obtain ⟨p, HP⟩ : ∃ m, Hid (max b b' = m) := ⟨_, (rfl : _ = _)⟩
  obtain ⟨q, HQ⟩ : ∃ m, Hid (min (b + d) (b' + d') - max b b' = m) := ⟨_, (rfl : _ = _)⟩
  rw [HN.out, HQ.out, HM.out, HP.out] at hR
  unfold rectV
  have hbel : Below W.heap.size W (((W.alloc (.cells #[.int .i64 a, .int .i64 b, .int .i64 c, .int .i64 d] 71)).alloc (.cells #[.int .i64 a', .int .i64 b', .int .i64 c', .int .i64 d'] 71)).alloc (.cells #[.int .i64 0, .int .i64 0, .int .i64 0, .int .i64 0] 71)) :=
    ((((Below.refl _ _).alloc (Nat.le_refl _) _).alloc (by simp) _).alloc (by simp; omega) _)
  have HBEL : Hid (Below W.heap.size W (((W.alloc (.cells #[.int .i64 a, .int .i64 b, .int .i64 c, .int .i64 d] 71)).alloc (.cells #[.int .i64 a', .int .i64 b', .int .i64 c', .int .i64 d'] 71)).alloc (.cells #[.int .i64 0, .int .i64 0, .int .i64 0, .int .i64 0] 71))) := hbel
  clear hbel
  by_cases hn : n ≤ 0
  · rw [if_pos (.inl hn)] at hR
    subst hR
    go_enter Tryd.func85, Tryd.ntmps85
    go_wp2_with fail
    refine (overlap_any a c a' c' _ (by omega) (by omega) (by omega) (by omega) (by omega) (by omega) (by omega) (by omega) m n HM HN).mono ?_
    rintro e w1 ⟨rfl, rfl⟩
    go_wp2_with fail
    refine (overlap_any b d b' d' _ (by omega) (by omega) (by omega) (by omega) (by omega) (by omega) (by omega) (by omega) p q HP HQ).mono ?_
    rintro e w1 ⟨rfl, rfl⟩
    go_wp2_with fail
    exact bodyPost_ret (v := .agg #[.int .i64 0, .int .i64 0, .int .i64 0, .int .i64 0]) (by simp [results, Tryd.results85, go_sem]) rfl ⟨rfl, HBEL.out⟩
  · by_cases hq : q ≤ 0
    · rw [if_pos (.inr hq)] at hR
      subst hR
      go_enter Tryd.func85, Tryd.ntmps85
      go_wp2_with fail
      refine (overlap_any a c a' c' _ (by omega) (by omega) (by omega) (by omega) (by omega) (by omega) (by omega) (by omega) m n HM HN).mono ?_
      rintro e w1 ⟨rfl, rfl⟩
      go_wp2_with fail
      refine (overlap_any b d b' d' _ (by omega) (by omega) (by omega) (by omega) (by omega) (by omega) (by omega) (by omega) p q HP HQ).mono ?_
      rintro e w1 ⟨rfl, rfl⟩
      go_wp2_with fail
      exact bodyPost_ret (v := .agg #[.int .i64 0, .int .i64 0, .int .i64 0, .int .i64 0]) (by simp [results, Tryd.results85, go_sem]) rfl ⟨rfl, HBEL.out⟩
    · rw [if_neg (by omega)] at hR
      subst hR
      go_enter Tryd.func85, Tryd.ntmps85
      go_wp2_with fail
      refine (overlap_any a c a' c' _ (by omega) (by omega) (by omega) (by omega) (by omega) (by omega) (by omega) (by omega) m n HM HN).mono ?_
      rintro e w1 ⟨rfl, rfl⟩
      go_wp2_with fail
      refine (overlap_any b d b' d' _ (by omega) (by omega) (by omega) (by omega) (by omega) (by omega) (by omega) (by omega) p q HP HQ).mono ?_
      rintro e w1 ⟨rfl, rfl⟩
      go_wp2_with fail
      refine bodyPost_ret (v := .agg #[.int .i64 m, .int .i64 p, .int .i64 n, .int .i64 q]) (by simp [results, Tryd.results85, go_sem]) rfl ⟨rfl, ?_⟩
      exact ((((Below.refl _ _).alloc (Nat.le_refl _) _).alloc (by simp) _).alloc (by simp; omega) _)
end Go.Proofs.YtbdgcomjhblnfaaDoor
/- Walks of rect.Check. -/
namespace Go.Proofs.YtbdgcomjhblnfaaDoor
open Go.RowKit

/-- Check's answer of a rect -/
def rectC (x y w h : Int) : Nat := if rectB x y w h then 0 else 1

theorem rectB_iff (x y w h : Int) : rectB x y w h = true ↔ -20 ≤ x ∧ x ≤ 20 ∧ -20 ≤ y ∧ y ≤ 20 ∧ 0 ≤ w ∧ w ≤ 20 ∧ 0 ≤ h ∧ h ≤ 20 := by unfold rectB placeB lenB; simp [and_assoc]
theorem rectC_zero (x y w h : Int) : rectC x y w h = 0 ↔ -20 ≤ x ∧ x ≤ 20 ∧ -20 ≤ y ∧ y ≤ 20 ∧ 0 ≤ w ∧ w ≤ 20 ∧ 0 ≤ h ∧ h ≤ 20 := by
  rw [← rectB_iff]; unfold rectC; by_cases h : rectB x y w h = true <;> simp [h]
theorem rectC_le (x y w h : Int) : rectC x y w h ≤ 1 := by unfold rectC; split <;> omega
theorem rectC_one (x y w h : Int) (hn : ¬ (-20 ≤ x ∧ x ≤ 20 ∧ -20 ≤ y ∧ y ≤ 20 ∧ 0 ≤ w ∧ w ≤ 20 ∧ 0 ≤ h ∧ h ≤ 20)) : rectC x y w h = 1 := by
  rw [← rectC_zero] at hn; have := rectC_le x y w h; omega

set_option maxHeartbeats 1000000 in
set_option maxRecDepth 100000 in
theorem rcheck_any (x y w h : Int) (W : World) (c : Nat) (HC : Hid (rectC x y w h = c)) :
    Calls Tryd.prog 56 #[rectV x y w h] W fun e w' => e = .returned (errV c) ∧ Below W.heap.size W w' := by
  unfold rectV
  cases h0 : placeB x with
  | false =>
    have H0 : Hid (placeB x = false) := h0
    have hc : c = 1 := by rw [← HC.out]; unfold rectC rectB; simp [h0]
    subst hc
    clear h0
    go_enter Tryd.func56, Tryd.ntmps56
    go_wp2_with fail
    refine (place_any x _ false H0).mono ?_
    rintro e w1 ⟨rfl, rfl⟩
    go_wp2_with fail
    go_ret
    exact ⟨rfl, (Below.refl _ _).alloc (Nat.le_refl _) _⟩
  | true =>
    have H0 : Hid (placeB x = true) := h0
    cases h1 : placeB y with
    | false =>
      have H1 : Hid (placeB y = false) := h1
      have hc : c = 1 := by rw [← HC.out]; unfold rectC rectB; simp [h1]
      subst hc
      clear h0 h1
      go_enter Tryd.func56, Tryd.ntmps56
      go_wp2_with fail
      refine (place_any x _ true H0).mono ?_
      rintro e w1 ⟨rfl, rfl⟩
      go_wp2_with fail
      refine (place_any y _ false H1).mono ?_
      rintro e w1 ⟨rfl, rfl⟩
      go_wp2_with fail
      go_ret
      exact ⟨rfl, (Below.refl _ _).alloc (Nat.le_refl _) _⟩
    | true =>
      have H1 : Hid (placeB y = true) := h1
      cases h2 : lenB w with
      | false =>
        have H2 : Hid (lenB w = false) := h2
        have hc : c = 1 := by rw [← HC.out]; unfold rectC rectB; simp [h2]
        subst hc
        clear h0 h1 h2
        go_enter Tryd.func56, Tryd.ntmps56
        go_wp2_with fail
        refine (place_any x _ true H0).mono ?_
        rintro e w1 ⟨rfl, rfl⟩
        go_wp2_with fail
        refine (place_any y _ true H1).mono ?_
        rintro e w1 ⟨rfl, rfl⟩
        go_wp2_with fail
        refine (length_any w _ false H2).mono ?_
        rintro e w1 ⟨rfl, rfl⟩
        go_wp2_with fail
        go_ret
        exact ⟨rfl, (Below.refl _ _).alloc (Nat.le_refl _) _⟩
      | true =>
        have H2 : Hid (lenB w = true) := h2
        cases h3 : lenB h with
        | false =>
          have H3 : Hid (lenB h = false) := h3
          have hc : c = 1 := by rw [← HC.out]; unfold rectC rectB; simp [h3]
          subst hc
          clear h0 h1 h2 h3
          go_enter Tryd.func56, Tryd.ntmps56
          go_wp2_with fail
          refine (place_any x _ true H0).mono ?_
          rintro e w1 ⟨rfl, rfl⟩
          go_wp2_with fail
          refine (place_any y _ true H1).mono ?_
          rintro e w1 ⟨rfl, rfl⟩
          go_wp2_with fail
          refine (length_any w _ true H2).mono ?_
          rintro e w1 ⟨rfl, rfl⟩
          go_wp2_with fail
          refine (length_any h _ false H3).mono ?_
          rintro e w1 ⟨rfl, rfl⟩
          go_wp2_with fail
          go_ret
          exact ⟨rfl, (Below.refl _ _).alloc (Nat.le_refl _) _⟩
        | true =>
          have H3 : Hid (lenB h = true) := h3
          have hc : c = 0 := by rw [← HC.out]; unfold rectC rectB; simp [h0, h1, h2, h3]
          subst hc
          clear h0 h1 h2 h3
          go_enter Tryd.func56, Tryd.ntmps56
          go_wp2_with fail
          refine (place_any x _ true H0).mono ?_
          rintro e w1 ⟨rfl, rfl⟩
          go_wp2_with fail
          refine (place_any y _ true H1).mono ?_
          rintro e w1 ⟨rfl, rfl⟩
          go_wp2_with fail
          refine (length_any w _ true H2).mono ?_
          rintro e w1 ⟨rfl, rfl⟩
          go_wp2_with fail
          refine (length_any h _ true H3).mono ?_
          rintro e w1 ⟨rfl, rfl⟩
          go_wp2_with fail
          go_ret
          exact ⟨rfl, (Below.refl _ _).alloc (Nat.le_refl _) _⟩
end Go.Proofs.YtbdgcomjhblnfaaDoor
/- Arithmetic of two rects. -/
namespace Go.Proofs.YtbdgcomjhblnfaaDoor

theorem both_has (a b c d a' b' c' d' i j : Int) (r : Int × Int × Int × Int) (hr : bothL a b c d a' b' c' d' = r) :
    hasB r.1 r.2.1 r.2.2.1 r.2.2.2 i j = (hasB a b c d i j && hasB a' b' c' d' i j) := by
  rw [Bool.eq_iff_iff, Bool.and_eq_true, hasB_iff, hasB_iff, hasB_iff]
  subst hr
  unfold bothL
  split
  · simp only; omega
  · simp only; omega

theorem both_empty (a b c d a' b' c' d' : Int) (r : Int × Int × Int × Int) (hr : bothL a b c d a' b' c' d' = r) (h : r ≠ (0, 0, 0, 0)) :
    hasB a b c d r.1 r.2.1 = true ∧ hasB a' b' c' d' r.1 r.2.1 = true := by
  rw [hasB_iff, hasB_iff]
  subst hr
  unfold bothL at h ⊢
  split
  · rename_i h1; rw [if_pos h1] at h; exact absurd rfl h
  · simp only; omega

set_option linter.unusedVariables false in
theorem both_bounds (a b c d a' b' c' d' M : Int) (h0 : -M ≤ a) (h1 : a ≤ M) (h2 : -M ≤ b) (h3 : b ≤ M) (h4 : 0 ≤ c) (h5 : c ≤ M) (h6 : 0 ≤ d) (h7 : d ≤ M)
    (k0 : -M ≤ a') (k1 : a' ≤ M) (k2 : -M ≤ b') (k3 : b' ≤ M) (k4 : 0 ≤ c') (k5 : c' ≤ M) (k6 : 0 ≤ d') (k7 : d' ≤ M) (r : Int × Int × Int × Int) (hr : bothL a b c d a' b' c' d' = r) :
    -M ≤ r.1 ∧ r.1 ≤ M ∧ -M ≤ r.2.1 ∧ r.2.1 ≤ M ∧ 0 ≤ r.2.2.1 ∧ r.2.2.1 ≤ M ∧ 0 ≤ r.2.2.2 ∧ r.2.2.2 ≤ M := by
  subst hr
  unfold bothL
  split
  · simp only; omega
  · simp only; omega
theorem both_comm (a b c d a' b' c' d' : Int) : bothL a' b' c' d' a b c d = bothL a b c d a' b' c' d' := by
  unfold bothL
  rw [Int.max_comm a' a, Int.max_comm b' b, Int.min_comm (a' + c'), Int.min_comm (b' + d')]
theorem both_self (a b c d : Int) : bothL a b c d a b c d = if c ≤ 0 ∨ d ≤ 0 then (0, 0, 0, 0) else (a, b, c, d) := by
  unfold bothL
  rw [Int.max_self, Int.max_self, Int.min_self, Int.min_self, Int.add_comm a c, Int.add_comm b d, Int.add_sub_cancel, Int.add_sub_cancel]
end Go.Proofs.YtbdgcomjhblnfaaDoor
/- Two rects, and a third one, where they were laid. -/
namespace Go.Proofs.YtbdgcomjhblnfaaDoor
open Go.RowKit

/-- what holds on the road: the two rects lie where they were laid -/
def Gr (W : World) (a b c d a' b' c' d' : Int) (w : World) : Prop :=
  Four w W.heap.size (.int .i64 a) (.int .i64 b) (.int .i64 c) (.int .i64 d) ∧ Four w (W.heap.size + 1) (.int .i64 a') (.int .i64 b') (.int .i64 c') (.int .i64 d') ∧ Below W.heap.size W w
theorem Gr.on {W : World} {a b c d a' b' c' d' : Int} {w w' : World} (h : Gr W a b c d a' b' c' d' w) (hb : Below w.heap.size w w') : Gr W a b c d a' b' c' d' w' :=
  ⟨h.1.on hb, h.2.1.on hb, h.2.2.trans (hb.mono h.2.2.size)⟩
theorem Gr.drew {W : World} {a b c d a' b' c' d' : Int} {w : World} (h : Gr W a b c d a' b' c' d' w) : Gr W a b c d a' b' c' d' w.drew := ⟨h.1.drew, h.2.1.drew, h.2.2.drew⟩

/-- and the third rect -/
def Gs (W : World) (a b c d a' b' c' d' : Int) (B : Nat) (x y z t : Int) (w : World) : Prop :=
  Gr W a b c d a' b' c' d' w ∧ Four w B (.int .i64 x) (.int .i64 y) (.int .i64 z) (.int .i64 t)
theorem Gs.on {W : World} {a b c d a' b' c' d' : Int} {B : Nat} {x y z t : Int} {w w' : World} (h : Gs W a b c d a' b' c' d' B x y z t w) (hb : Below w.heap.size w w') : Gs W a b c d a' b' c' d' B x y z t w' := ⟨h.1.on hb, h.2.on hb⟩
theorem Gs.drew {W : World} {a b c d a' b' c' d' : Int} {B : Nat} {x y z t : Int} {w : World} (h : Gs W a b c d a' b' c' d' B x y z t w) : Gs W a b c d a' b' c' d' B x y z t w.drew := ⟨h.1.drew, h.2.drew⟩
/-- no place ahead of this one is in both -/
def None2 (a b c d a' b' c' d' j i : Int) : Prop := ∀ p q, -21 ≤ q → -21 ≤ p → p < 41 → (q < j ∨ q = j ∧ p < i) → (hasB a b c d p q && hasB a' b' c' d' p q) = false

theorem rcheck_at (x y w h : Int) (W : World) (c : Nat) (HC : Hid (rectC x y w h = c)) (v : Value) (HV : Hid (errV c = v)) :
    Calls Tryd.prog 56 #[.agg #[.int .i64 x, .int .i64 y, .int .i64 w, .int .i64 h]] W fun e w' => e = .returned v ∧ Below W.heap.size W w' := by
  rw [← HV.out]; exact rcheck_any x y w h W c HC

end Go.Proofs.YtbdgcomjhblnfaaDoor
/- A pixel or a rect that is handed in, opened. -/
namespace Go.Proofs.YtbdgcomjhblnfaaDoor
open Go.ChangeShapes Go.WideShapes Go.ChangeAt Go.RowKit Go.Joins Go.Deep

set_option maxRecDepth 100000 in
theorem open_pixel {H : Type} {enc : TypeId × Value → H} {W : World} {r : Reach} {b0 : Nat} {v : Value} {d : DataW H} {p : List MemPlace} (hv : Value.okWide Tryd.prog W r b0 57 v)
    (h : DataW.Trod enc Tryd.prog W 0 (fun _ => true) true 57 v d p) :
    ∃ (x y : Int), v = .agg #[.int .i64 x, .int .i64 y] ∧ True := by
  obtain ⟨c0, c1, y0, y1, m, rfl, _, _, hy0, hy1⟩ := open_agg2 Tryd.underlying57 (by kernel_rfl) (by kernel_rfl) hv h
  obtain ⟨x, e0, _, wx⟩ := DataW.trod_int Tryd.underlying3 hy0
  obtain ⟨y, e1, _, wy⟩ := DataW.trod_int Tryd.underlying3 hy1
  simp at e0 e1
  subst e0 e1
  exact ⟨x, y, rfl, trivial⟩
set_option maxRecDepth 100000 in
theorem open_rect {H : Type} {enc : TypeId × Value → H} {W : World} {r : Reach} {b0 : Nat} {v : Value} {d : DataW H} {p : List MemPlace} (hv : Value.okWide Tryd.prog W r b0 71 v)
    (h : DataW.Trod enc Tryd.prog W 0 (fun _ => true) true 71 v d p) :
    ∃ (x y z t : Int), v = .agg #[.int .i64 x, .int .i64 y, .int .i64 z, .int .i64 t] ∧ True := by
  obtain ⟨c0, c1, c2, c3, y0, y1, y2, y3, m, rfl, _, _, hy0, hy1, hy2, hy3⟩ := open_agg4 Tryd.underlying71 (by kernel_rfl) (by kernel_rfl) hv h
  obtain ⟨x, e0, _, wx⟩ := DataW.trod_int Tryd.underlying3 hy0
  obtain ⟨y, e1, _, wy⟩ := DataW.trod_int Tryd.underlying3 hy1
  obtain ⟨z, e2, _, wz⟩ := DataW.trod_int Tryd.underlying3 hy2
  obtain ⟨t, e3, _, wt⟩ := DataW.trod_int Tryd.underlying3 hy3
  simp at e0 e1 e2 e3
  subst e0 e1 e2 e3
  exact ⟨x, y, z, t, rfl, trivial⟩
end Go.Proofs.YtbdgcomjhblnfaaDoor
/- An object: opened; the walk of objects.Check. -/
namespace Go.Proofs.YtbdgcomjhblnfaaDoor
open Go.ChangeShapes Go.WideShapes Go.ChangeAt Go.RowKit Go.Joins Go.Deep

@[reducible] def objV (id x y pw ph : Int) (u : Value) (cx cy cw ch : Int) (sh : Bool) : Value := .agg #[.int .i64 id, .int .i64 x, .int .i64 y, .int .i64 pw, .int .i64 ph, u, .int .i64 cx, .int .i64 cy, .int .i64 cw, .int .i64 ch, .bool sh]

theorem Tryd.cellsObj : Tryd.prog.cellsOf 73 = 11 := by kernel_rfl
theorem Tryd.cellsSl : Tryd.prog.cellsOf 33 = 1 := by kernel_rfl
theorem Tryd.cellsRect : Tryd.prog.cellsOf 71 = 4 := by kernel_rfl
theorem Tryd.cellsBool : Tryd.prog.cellsOf 4 = 1 := by kernel_rfl

theorem array11 {α : Type} {cs : Array α} (h : cs.size = 11) : ∃ c0 c1 c2 c3 c4 c5 c6 c7 c8 c9 c10, cs = #[c0, c1, c2, c3, c4, c5, c6, c7, c8, c9, c10] := by
  obtain ⟨l⟩ := cs
  match l, h with
  | [c0, c1, c2, c3, c4, c5, c6, c7, c8, c9, c10], _ => exact ⟨c0, c1, c2, c3, c4, c5, c6, c7, c8, c9, c10, rfl⟩

set_option maxRecDepth 100000 in
theorem cells_object {H : Type} {enc : TypeId × Value → H} {W : World} {cs : List Value} {fuel : Nat} {z : DataW H × List MemPlace} (hl : cs.length = 11)
    (h : DataW.trod enc Tryd.prog W 0 (fun _ => true) true fuel 73 cs = some z) :
    ∃ (id x y pw ph : Int) (u : Value) (ps : List (Int × Int)) (cx cy cw ch : Int) (sh : Bool), cs = [.int .i64 id, .int .i64 x, .int .i64 y, .int .i64 pw, .int .i64 ph, u, .int .i64 cx, .int .i64 cy, .int .i64 cw, .int .i64 ch, .bool sh] ∧ RdP W u ps := by
  obtain ⟨xs, n, _, rfl, hl', hlen, hf⟩ := DataW.trod_struct Tryd.underlying73 h
  match cs, hl with
  | [c0, c1, c2, c3, c4, c5, c6, c7, c8, c9, c10], _ =>
    match xs, hlen with
    | [y0, y1, y2, y3, y4, y5], _ =>
      have h0 : DataW.trod enc Tryd.prog W 0 (fun _ => true) true n 3 [c0] = some y0 := by have := hf 0 _ rfl; simpa [Tryd.cellsInt] using this
      have h1 : DataW.trod enc Tryd.prog W 0 (fun _ => true) true n 3 [c1] = some y1 := by have := hf 1 _ rfl; simpa [Tryd.cellsInt] using this
      have h2 : DataW.trod enc Tryd.prog W 0 (fun _ => true) true n 3 [c2] = some y2 := by have := hf 2 _ rfl; simpa [Tryd.cellsInt] using this
      have h3 : DataW.trod enc Tryd.prog W 0 (fun _ => true) true n 35 [c3, c4, c5] = some y3 := by have := hf 3 _ rfl; simpa [Tryd.cellsPic] using this
      have h4 : DataW.trod enc Tryd.prog W 0 (fun _ => true) true n 71 [c6, c7, c8, c9] = some y4 := by have := hf 4 _ rfl; simpa [Tryd.cellsRect] using this
      have h5 : DataW.trod enc Tryd.prog W 0 (fun _ => true) true n 4 [c10] = some y5 := by have := hf 5 _ rfl; simpa [Tryd.cellsBool] using this
      obtain ⟨z0, z1, z2, m, _, _, p0, p1, p2⟩ := trod_struct3 Tryd.underlying35 h3
      obtain ⟨r0, r1, r2, r3, m', _, _, q0, q1, q2, q3⟩ := trod_struct4 Tryd.underlying71 h4
      simp only [Tryd.cellsInt] at p0 p1 q0 q1 q2 q3
      have p2' : DataW.trod enc Tryd.prog W 0 (fun _ => true) true m 33 [c5] = some z2 := by simpa [Tryd.cellsSl] using p2
      obtain ⟨ps, hps⟩ := view_pix p2'
      obtain ⟨i0, e0, _, _⟩ := DataW.trod_int Tryd.underlying3 h0
      obtain ⟨i1, e1, _, _⟩ := DataW.trod_int Tryd.underlying3 h1
      obtain ⟨i2, e2, _, _⟩ := DataW.trod_int Tryd.underlying3 h2
      obtain ⟨i3, e3, _, _⟩ := DataW.trod_int Tryd.underlying3 p0
      obtain ⟨i4, e4, _, _⟩ := DataW.trod_int Tryd.underlying3 p1
      obtain ⟨i5, e5, _, _⟩ := DataW.trod_int Tryd.underlying3 q0
      obtain ⟨i6, e6, _, _⟩ := DataW.trod_int Tryd.underlying3 q1
      obtain ⟨i7, e7, _, _⟩ := DataW.trod_int Tryd.underlying3 q2
      obtain ⟨i8, e8, _, _⟩ := DataW.trod_int Tryd.underlying3 q3
      obtain ⟨b, e9, _⟩ := DataW.trod_bool Tryd.underlying4 h5
      simp at e0 e1 e2 e3 e4 e5 e6 e7 e8 e9
      subst e0 e1 e2 e3 e4 e5 e6 e7 e8 e9
      exact ⟨i0, i1, i2, i3, i4, c5, ps, i5, i6, i7, i8, b, rfl, hps⟩

set_option maxRecDepth 100000 in
theorem open_object {H : Type} {enc : TypeId × Value → H} {W : World} {r : Reach} {b0 : Nat} {v : Value} {d : DataW H} {p : List MemPlace} (hv : Value.okWide Tryd.prog W r b0 73 v)
    (h : DataW.Trod enc Tryd.prog W 0 (fun _ => true) true 73 v d p) :
    ∃ (id x y pw ph : Int) (u : Value) (ps : List (Int × Int)) (cx cy cw ch : Int) (sh : Bool), v = objV id x y pw ph u cx cy cw ch sh ∧ RdP W u ps ∧ True := by
  obtain ⟨cs, rfl, hsz⟩ := okWide_struct Tryd.underlying73 hv
  obtain ⟨fuel, hf⟩ := h
  obtain ⟨i0, i1, i2, i3, i4, u, ps, i5, i6, i7, i8, b, e, hps⟩ := cells_object (cs := cs.toList) (by rw [Array.length_toList]; exact hsz.trans Tryd.cellsObj) hf
  obtain ⟨l⟩ := cs
  simp at e
  subst e
  exact ⟨i0, i1, i2, i3, i4, u, ps, i5, i6, i7, i8, b, rfl, hps, trivial⟩
end Go.Proofs.YtbdgcomjhblnfaaDoor
/- Objects: what lies in memory, a list of them opened. -/
namespace Go.Proofs.YtbdgcomjhblnfaaDoor
open Go.ChangeShapes Go.WideShapes Go.ChangeAt Go.RowKit Go.Joins Go.Deep

/-- an object -/
structure Po where
  id : Int
  x : Int
  y : Int
  pw : Int
  ph : Int
  ps : List (Int × Int)
  cx : Int
  cy : Int
  cw : Int
  ch : Int
  sh : Bool

@[reducible] def po0 : Po := ⟨0, 0, 0, 0, 0, [], 0, 0, 0, 0, false⟩
instance : Inhabited Po := ⟨po0⟩

/-- an object's eleven cells -/
structure Oc (w : World) (g o : Nat) (x : Po) (u : Value) : Prop where
  c0 : w.cell? ⟨g, o, none⟩ = some (.int .i64 x.id)
  c1 : w.cell? ⟨g, o + 1, none⟩ = some (.int .i64 x.x)
  c2 : w.cell? ⟨g, o + 2, none⟩ = some (.int .i64 x.y)
  c3 : w.cell? ⟨g, o + 3, none⟩ = some (.int .i64 x.pw)
  c4 : w.cell? ⟨g, o + 4, none⟩ = some (.int .i64 x.ph)
  c5 : w.cell? ⟨g, o + 5, none⟩ = some (u)
  c6 : w.cell? ⟨g, o + 6, none⟩ = some (.int .i64 x.cx)
  c7 : w.cell? ⟨g, o + 7, none⟩ = some (.int .i64 x.cy)
  c8 : w.cell? ⟨g, o + 8, none⟩ = some (.int .i64 x.cw)
  c9 : w.cell? ⟨g, o + 9, none⟩ = some (.int .i64 x.ch)
  c10 : w.cell? ⟨g, o + 10, none⟩ = some (.bool x.sh)

theorem Oc.on {w w' : World} {g o : Nat} {x : Po} {u : Value} (h : Oc w g o x u) (hg : g < w.heap.size) (hb : Below w.heap.size w w') : Oc w' g o x u :=
  ⟨by rw [hb.cell (p := ⟨g, o, none⟩) hg]; exact h.c0, by rw [hb.cell (p := ⟨g, o + 1, none⟩) hg]; exact h.c1, by rw [hb.cell (p := ⟨g, o + 2, none⟩) hg]; exact h.c2, by rw [hb.cell (p := ⟨g, o + 3, none⟩) hg]; exact h.c3, by rw [hb.cell (p := ⟨g, o + 4, none⟩) hg]; exact h.c4, by rw [hb.cell (p := ⟨g, o + 5, none⟩) hg]; exact h.c5, by rw [hb.cell (p := ⟨g, o + 6, none⟩) hg]; exact h.c6, by rw [hb.cell (p := ⟨g, o + 7, none⟩) hg]; exact h.c7, by rw [hb.cell (p := ⟨g, o + 8, none⟩) hg]; exact h.c8, by rw [hb.cell (p := ⟨g, o + 9, none⟩) hg]; exact h.c9, by rw [hb.cell (p := ⟨g, o + 10, none⟩) hg]; exact h.c10⟩

/-- a list of objects -/
def RdO (w : World) (v : Value) (os : List Po) : Prop :=
  ∃ a cap, v = .slice a os.length cap ∧ os.length ≤ cap ∧ cap ≤ 9223372036854775807 ∧ (os ≠ [] → ∃ g off, a = some ⟨g, off, none⟩ ∧ g < w.heap.size ∧
    ∀ j, j < os.length → ∃ u, Oc w g (off + j * 11) (os.getD j po0) u ∧ RdP w u (os.getD j po0).ps)

theorem RdO.on {w w' : World} {v : Value} {os : List Po} (h : RdO w v os) (hb : Below w.heap.size w w') : RdO w' v os := by
  obtain ⟨a, cap, hv, hl, hc, hh⟩ := h
  refine ⟨a, cap, hv, hl, hc, fun hne => ?_⟩
  obtain ⟨g, off, ha, hg, hcell⟩ := hh hne
  refine ⟨g, off, ha, Nat.lt_of_lt_of_le hg hb.size, fun j hj => ?_⟩
  obtain ⟨u, h0, hr⟩ := hcell j hj
  exact ⟨u, h0.on hg hb, hr.on hb⟩

/-- a list of objects that is handed in -/
theorem open_objects {H : Type} {enc : TypeId × Value → H} {W : World} {u : Value} {x : DataW H × List MemPlace} {fuel : Nat}
    (hf : DataW.trod enc Tryd.prog W 0 (fun _ => true) true fuel 43 [u] = some x) : ∃ os, RdO W u os := by
  rcases open_slice Tryd.underlying43 hf with ⟨hc, _⟩ | ⟨a, len, cap, m, n, D, Pl, hc, hb, hl, hm, hmm, hx, hall⟩
  · simp only [List.cons.injEq, and_true] at hc
    subst hc
    exact ⟨[], none, 0, rfl, by simp, by omega, fun h => absurd rfl h⟩
  · simp only [List.cons.injEq, and_true] at hc
    subst hc
    simp only [if_true] at hmm
    subst hmm
    have each : ∀ i, i < m → ∃ q : Po × Value, (∀ k, k < 11 → W.cell? (a.add (i * 11 + k)) = [Value.int .i64 q.1.id, .int .i64 q.1.x, .int .i64 q.1.y, .int .i64 q.1.pw, .int .i64 q.1.ph, q.2, .int .i64 q.1.cx, .int .i64 q.1.cy, .int .i64 q.1.cw, .int .i64 q.1.ch, .bool q.1.sh][k]?) ∧ RdP W q.2 q.1.ps := by
      intro i hi
      obtain ⟨cs', h1, h2⟩ := hall i hi
      rw [Tryd.cellsObj] at h1
      obtain ⟨_, hlen, hcell⟩ := World.cells?_some h1
      obtain ⟨i0, i1, i2, i3, i4, v, ps, i5, i6, i7, i8, b, rfl, hr⟩ := cells_object hlen h2
      refine ⟨(⟨i0, i1, i2, i3, i4, ps, i5, i6, i7, i8, b⟩, v), fun k hk => ?_, hr⟩
      have e := hcell k (by omega)
      rw [add_add] at e
      exact e
    obtain ⟨q, hq⟩ := choose_lt each
    unfold maxLen at hm
    refine ⟨(List.range len).map fun i => (q i).1, some a, m, by simp, by simpa using hl, by omega, fun hne => ?_⟩
    have hpos : 0 < len := by
      rcases Nat.eq_zero_or_pos len with h | h
      · subst h; simp at hne
      · exact h
    obtain ⟨sb, so, spot⟩ := a
    have hz := (hq 0 (by omega)).1 0 (by omega)
    have hspot : spot = none := by
      have hz' : W.cell? ((⟨sb, so, spot⟩ : Addr).add (0 * 11 + 0)) = some (.int .i64 (q 0).1.id) := hz
      simpa [Addr.add] using World.cell?_spot hz'
    subst hspot
    refine ⟨sb, so, rfl, ?_, fun j hj => ?_⟩
    · rcases Nat.lt_or_ge sb W.heap.size with h | h
      · exact h
      · simp [Addr.add, World.cell?, Array.getElem?_eq_none h] at hz
    · simp only [List.length_map, List.length_range] at hj
      have hg : ((List.range len).map fun i => (q i).1).getD j po0 = (q j).1 := by
        rw [List.getD_eq_getElem?_getD, List.getElem?_map, List.getElem?_range hj]
        simp
      rw [hg]
      obtain ⟨h0, h4⟩ := hq j (by omega)
      have h1 := fun k hk => h0 k hk
      simp only [add_plain, ← Nat.add_assoc] at h1
      exact ⟨(q j).2, ⟨h1 0 (by omega), h1 1 (by omega), h1 2 (by omega), h1 3 (by omega), h1 4 (by omega), h1 5 (by omega), h1 6 (by omega), h1 7 (by omega), h1 8 (by omega), h1 9 (by omega), h1 10 (by omega)⟩, h4⟩

theorem RdO.at {w : World} {a : Option Addr} {n cap : Nat} {os : List Po} (h : RdO w (.slice a n cap) os) {k : Nat} (hk : k < n) {x : Po} (HX : Hid (os.getD k po0 = x)) :
    ∃ g o ua m uc, a = some ⟨g, o, none⟩ ∧ g < w.heap.size ∧ Oc w g (o + k * 11) x (.slice ua m uc) ∧ Hid (RdP w (.slice ua m uc) x.ps) ∧ Hid (x.ps.length = m) := by
  obtain ⟨a', cap', hv, hl, hc, hh⟩ := h
  simp only [Value.slice.injEq] at hv
  obtain ⟨rfl, rfl, rfl⟩ := hv
  obtain ⟨g, o, ha, hg, hcell⟩ := hh (by intro e; rw [e] at hk; simp at hk)
  obtain ⟨u, h0, h4⟩ := hcell k hk
  rw [HX.out] at h0 h4
  have h5 := h4
  obtain ⟨ua, uc, rfl, _⟩ := h5
  exact ⟨g, o, ua, _, uc, ha, hg, h0, h4, (rfl : _ = _)⟩
theorem RdO.shape {w : World} {v : Value} {os : List Po} (h : RdO w v os) : ∃ a cap, v = .slice a os.length cap ∧ os.length ≤ cap ∧ cap ≤ 9223372036854775807 := by
  obtain ⟨a, cap, h1, h2, h3, _⟩ := h
  exact ⟨a, cap, h1, h2, h3⟩
end Go.Proofs.YtbdgcomjhblnfaaDoor
/- Walks: cmp.Compare, objects.search. -/
namespace Go.Proofs.YtbdgcomjhblnfaaDoor
open Go.RowKit

def cmpC (x y : Int) : Int := if x < y then -1 else if y < x then 1 else 0

set_option maxRecDepth 100000 in
theorem nan_any (x : Int) (w : World) : Calls Tryd.prog 94 #[.int .i64 x] w fun e w' => e = .returned (.bool false) ∧ w' = w := by
  have hx : (x != x) = false := by simp
  go_enter Tryd.func94, Tryd.ntmps94
  go_wp2_with fail
  go_ret
  exact ⟨rfl, rfl⟩

set_option maxRecDepth 100000 in
theorem compare_any (x y : Int) (w : World) (c : Int) (HC : Hid (cmpC x y = c)) : Calls Tryd.prog 88 #[.int .i64 x, .int .i64 y] w fun e w' => e = .returned (.int .i64 c) ∧ w' = w := by
  go_enter Tryd.func88, Tryd.ntmps88
  go_wp2_with fail
  refine (nan_any x w).mono ?_
  rintro e w1 ⟨rfl, rfl⟩
  go_wp2_with fail
  refine (nan_any y w1).mono ?_
  rintro e w2 ⟨rfl, rfl⟩
  have hc := HC.out
  unfold cmpC at hc
  by_cases h1 : x < y
  · rw [if_pos h1] at hc
    subst hc
    go_wp2_with fail
    go_ret
    exact ⟨rfl, rfl⟩
  · rw [if_neg h1] at hc
    by_cases h2 : y < x
    · rw [if_pos h2] at hc
      subst hc
      go_wp2_with fail
      go_ret
      exact ⟨rfl, rfl⟩
    · rw [if_neg h2] at hc
      subst hc
      go_wp2_with fail
      go_ret
      exact ⟨rfl, rfl⟩

set_option maxRecDepth 100000 in
theorem scmp_any (id x y pw ph : Int) (u : Value) (cx cy cw ch : Int) (sh : Bool) (t : Int) (w : World) (c : Int) (HC : Hid (cmpC id t = c)) :
    Calls Tryd.prog 87 #[objV id x y pw ph u cx cy cw ch sh, .int .i64 t] w fun e w' => e = .returned (.int .i64 c) ∧ Below w.heap.size w w' := by
  have hbz : Below w.heap.size w w := Below.refl _ _
  go_enter Tryd.func87, Tryd.ntmps87
  go_wp2_with fail
  refine (compare_any id t _ c HC).mono ?_
  rintro e w1 ⟨rfl, rfl⟩
  go_wp2_with fail
  go_ret
  exact ⟨rfl, hbz.alloc hbz.size _⟩

def SortO (os : List Po) : Prop := ∀ i j, i < j → j < os.length → (os.getD i po0).id < (os.getD j po0).id

/-- where a number stands, or would -/
structure SrchR (os : List Po) (t : Int) (i : Nat) : Prop where
  le : i ≤ os.length
  lo : ∀ j, j < i → (os.getD j po0).id < t
  hi : ∀ j, i ≤ j → j < os.length → t ≤ (os.getD j po0).id

def SrchP (os : List Po) (t : Int) (w : World) (e : Ending) (w' : World) : Prop :=
  ∃ i b, e = .returned (.tuple #[.int .i64 ((i : Nat) : Int), .bool b]) ∧ SrchR os t i ∧ (b = true ↔ i < os.length ∧ (os.getD i po0).id = t) ∧ Below w.heap.size w w'

theorem wp_shr {P : Program} {o : Oper} {a : Act} {w : World} {K : Act → World → Prop} {Q : Exit → Act → World → Prop} (t : TypeId) (x y : Operand) (u : TypeId) (ho : o.op = .binOp .shr t x y u) (vx vy v : Value)
    (hx : a.eval x = vx) (hy : a.eval y = vy) (hr : (binOp .shr t vx vy).run P w = .ok v w) (hK : K (a.put o.dst v) w) : Oper.wp P o a w K Q := by
  unfold Oper.wp execOp
  simp only [ho, hx, hy, eqGuard_shr, Sem.run_bind, Sem.run_pure, Result.andThen_ok, hr]
  exact hK

set_option maxHeartbeats 2000000 in
set_option maxRecDepth 100000 in
theorem bsearch_any (v : Value) (os : List Po) (t : Int) (w : World) (hos : os.length ≤ 1000) (HS : Hid (SortO os)) (HR : Hid (RdO w v os)) :
    Calls Tryd.prog 86 #[v, .int .i64 t, .func (.func 87) #[] #[]] w fun e w' => SrchP os t w e w' := by
  obtain ⟨a, cap, hv, hl, hcap⟩ := HR.out.shape
  obtain ⟨n, HN⟩ : ∃ n, Hid (os.length = n) := ⟨_, (rfl : _ = _)⟩
  rw [HN.out] at hv hl hos
  subst hv
  have hbz : Below w.heap.size w w := Below.refl _ _
  go_enter Tryd.func86, Tryd.ntmps86
  go_wp2_with fail
  go_loopw [9, 10] (fun x y wr => ∃ i j : Nat, x = .int .i64 (i : Int) ∧ y = .int .i64 (j : Int) ∧ i ≤ j ∧ j ≤ n ∧ Hid (∀ k, k < i → (os.getD k po0).id < t) ∧ Hid (∀ k, j ≤ k → k < os.length → t ≤ (os.getD k po0).id) ∧ Below w.heap.size w wr) (fun x y _ => (intOf y).toNat - (intOf x).toNat)
  case atStart => exact ⟨0, n, rfl, rfl, by omega, by omega, fun k hk => by omega, fun k h1 h2 => by rw [HN.out] at h2; omega, hbz⟩
  case round =>
    obtain ⟨i, j, rfl, rfl, hij, hjn, LO, HI, hbr⟩ := hrel
    by_cases hlt : i < j
    · obtain ⟨h, hh⟩ : ∃ h, h = (i + j) / 2 := ⟨_, rfl⟩
      have h1 : i ≤ h := by omega
      have h2 : h < j := by omega
      have hhn : h < n := by omega
      have hmid : ((i : Int) + (j : Int)) / 2 = (h : Int) := by omega
      have hshr : Op.shift .shr .u64 ((i : Int) + (j : Int)) .u64 1 = pure (.int .u64 (h : Int)) := by
        rw [shift_shr .u64 .u64 ((i : Int) + (j : Int)) 1 (by decide) (by decide), show (1 : Int).toNat = 1 from rfl, Int.pow_succ, Int.pow_zero, Int.one_mul, hmid]
      have hshr2 : ∀ X, (binOp .shr 122 (.int .u64 ((i : Int) + (j : Int))) (.int .u64 1)).run Tryd.prog X = .ok (.int .u64 (h : Int)) X := by
        intro X
        rw [binOp_shr, hshr]
        rfl
      obtain ⟨o, HX⟩ : ∃ o, Hid (os.getD h po0 = o) := ⟨_, (rfl : _ = _)⟩
      obtain ⟨g, p, ua, q, uc, rfl, hg, OC, HU, HM⟩ := (HR.out.on hbr).at hhn HX
      obtain ⟨c0, c1, c2, c3, c4, c5, c6, c7, c8, c9, c10⟩ := OC
      obtain ⟨id, x, y, pw, ph, ps, cx, cy, cw, ch, sh⟩ := o
      simp only at c0 c1 c2 c3 c4 c5 c6 c7 c8 c9 c10 HU HM
      obtain ⟨c, HC⟩ : ∃ c, Hid (cmpC id t = c) := ⟨_, (rfl : _ = _)⟩
      go_wp2_with fail
      refine wp_shr _ _ _ _ rfl _ _ _ rfl rfl (hshr2 _) ?_
      simp only [Act.put, List.setIfInBounds_toArray, List.set_cons_zero, List.set_cons_succ]
      clear hshr hshr2 hmid hh
      have hh0 : (0 : Int) ≤ (h : Int) := by omega
      have hh1 : (h : Int) < (n : Int) := by omega
      go_wp2_with fail
      refine (scmp_any id x y pw ph _ cx cy cw ch sh t _ c HC).mono ?_
      rintro e w1 ⟨rfl, hb1⟩
      have hbb1 : Below w.heap.size w w1 := hbr.trans (hb1.mono hbr.size)
      by_cases hc : id < t
      · have : c = -1 := by rw [← HC.out]; unfold cmpC; rw [if_pos hc]
        subst this
        have LO2 : Hid (∀ k, k < h + 1 → (os.getD k po0).id < t) := by
          intro k hk
          rcases Nat.lt_or_ge k h with h3 | h3
          · have := HS.out k h h3 (by rw [HN.out]; exact hhn)
            rw [HX.out] at this
            simp only at this
            omega
          · have : k = h := by omega
            subst this
            rw [HX.out]
            exact hc
        go_wp2_with fail
        go_roundw
        case rel => exact ⟨h + 1, j, by go_num, rfl, by omega, hjn, LO2, HI, hbb1⟩
        case measure => simp [intOf]; omega
      · have hc0 : 0 ≤ c := by rw [← HC.out]; unfold cmpC; rw [if_neg hc]; split <;> omega
        have hc1 : ¬ c < 0 := by omega
        have HI2 : Hid (∀ k, h ≤ k → k < os.length → t ≤ (os.getD k po0).id) := by
          intro k h3 h4
          rcases Nat.lt_or_ge h k with h5 | h5
          · have := HS.out h k h5 h4
            rw [HX.out] at this
            simp only at this
            omega
          · have : k = h := by omega
            subst this
            rw [HX.out]
            simp only
            omega
        go_wp2_with fail
        go_roundw
        case rel => exact ⟨i, h, rfl, rfl, by omega, by omega, LO, HI2, hbb1⟩
        case measure => simp [intOf]; omega
    · have hij2 : i = j := by omega
      subst hij2
      have HSR : Hid (SrchR os t i) := ⟨by rw [HN.out]; exact hjn, LO.out, HI.out⟩
      by_cases hin : i < n
      · obtain ⟨o, HX⟩ : ∃ o, Hid (os.getD i po0 = o) := ⟨_, (rfl : _ = _)⟩
        obtain ⟨g, p, ua, q, uc, rfl, hg, OC, HU, HM⟩ := (HR.out.on hbr).at hin HX
        obtain ⟨id, x, y, pw, ph, ps, cx, cy, cw, ch, sh⟩ := o
        obtain ⟨c, HC⟩ : ∃ c, Hid (cmpC id t = c) := ⟨_, (rfl : _ = _)⟩
        have HBB : Hid ((c == 0) = true ↔ i < os.length ∧ (os.getD i po0).id = t) := by
          unfold Hid
          rw [HX.out, HN.out, ← HC.out]
          unfold cmpC
          simp only [beq_iff_eq]
          constructor
          · intro e
            refine ⟨hin, ?_⟩
            split at e
            · omega
            · split at e <;> omega
          · rintro ⟨_, e⟩
            rw [if_neg (by omega), if_neg (by omega)]
        obtain ⟨c0, c1, c2, c3, c4, c5, c6, c7, c8, c9, c10⟩ := OC
        simp only at c0 c1 c2 c3 c4 c5 c6 c7 c8 c9 c10
        have hi0 : (0 : Int) ≤ (i : Int) := by omega
        have hi1 : (i : Int) < (n : Int) := by omega
        go_wp2_with fail
        refine (scmp_any id x y pw ph _ cx cy cw ch sh t _ c HC).mono ?_
        rintro e w1 ⟨rfl, hb1⟩
        have hbb1 : Below w.heap.size w w1 := hbr.trans (hb1.mono hbr.size)
        go_wp2_with fail
        go_ret2
        exact ⟨i, c == 0, rfl, HSR.out, HBB.out, hbb1⟩
      · have hin2 : ¬ (i : Int) < (n : Int) := by omega
        go_wp2_with fail
        go_ret2
        exact ⟨i, false, rfl, HSR.out, by rw [HN.out]; simp; intro h; omega, hbr⟩

set_option maxRecDepth 100000 in
theorem search_any (v : Value) (os : List Po) (t : Int) (w : World) (hos : os.length ≤ 1000) (HS : Hid (SortO os)) (HR : Hid (RdO w v os)) :
    Calls Tryd.prog 78 #[v, .int .i64 t] w fun e w' => SrchP os t w e w' := by
  obtain ⟨a, cap, hv, _, _⟩ := HR.out.shape
  subst hv
  go_enter Tryd.func78, Tryd.ntmps78
  go_wp2_with fail
  refine (bsearch_any _ os t _ hos HS HR).mono ?_
  rintro e w1 ⟨i, b, rfl, h1, h2, h3⟩
  go_wp2_with fail
  go_ret2
  exact ⟨i, b, rfl, h1, h2, h3⟩
end Go.Proofs.YtbdgcomjhblnfaaDoor
/- Walks of the law's LightPicture and of the reference's SamePicture. -/
namespace Go.Proofs.YtbdgcomjhblnfaaDoor
open Go.RowKit

set_option maxRecDepth 100000 in
theorem light_any (W H : Int) (a : Option Addr) (n cap : Nat) (w : World) (hn : n ≤ 9223372036854775807) (b : Bool) (HB : Hid (decide (n ≤ 80) = b)) :
    Calls Tryd.prog 35 #[.agg #[.int .i64 W, .int .i64 H, .slice a n cap]] w fun e w' => e = .returned (.bool b) ∧ Below w.heap.size w w' := by
  by_cases h : n ≤ 80
  · have hb : b = true := by rw [← HB.out]; simp [h]
    subst hb
    go_enter Tryd.func35, Tryd.ntmps35
    go_wp2
    go_ret
    exact ⟨by simp; omega, (Below.refl _ _).alloc (Nat.le_refl _) _⟩
  · have hb : b = false := by rw [← HB.out]; simp [h]
    subst hb
    go_enter Tryd.func35, Tryd.ntmps35
    go_wp2
    go_ret
    exact ⟨by simp; omega, (Below.refl _ _).alloc (Nat.le_refl _) _⟩

theorem eq_pix (X : World) (a b : Int) : (binOp .neq 57 (.agg #[.int .i64 a, .int .i64 b]) (.agg #[.int .i64 a, .int .i64 b])).run Tryd.prog X = .ok (.bool false) X := by
  have h : (Op.equalIn 10000 57 (.agg #[.int .i64 a, .int .i64 b]) (.agg #[.int .i64 a, .int .i64 b])).run Tryd.prog X = .ok true X := by
    have u3 := Tryd.underlying3
    rw [run_equalIn_agg X 9999 57 _ _ (by kernel_rfl) (by kernel_rfl)]
    simp only [Program.fieldsOf, Tryd.underlying57]
    go_simp
  rw [run_neq_struct, h]
  rfl

set_option maxHeartbeats 2000000 in
set_option maxRecDepth 100000 in
theorem samePic_any (W H : Int) (v0 v1 : Value) (ps : List (Int × Int)) (w : World) (hps : ps.length ≤ 1000) (H0 : Hid (RdP w v0 ps)) (H1 : Hid (RdP w v1 ps)) :
    Calls Tryd.prog 26 #[.agg #[.int .i64 W, .int .i64 H, v0], .agg #[.int .i64 W, .int .i64 H, v1]] w fun e w' => e = .returned (.bool true) ∧ Below w.heap.size w w' := by
  obtain ⟨a0, c0, hv0, hl0, hm0, hh0⟩ := H0.out
  obtain ⟨a1, c1, hv1, hl1, hm1, hh1⟩ := H1.out
  obtain ⟨n, HN⟩ : ∃ n, Hid (ps.length = n) := ⟨_, (rfl : _ = _)⟩
  rw [HN.out] at hv0 hv1 hl0 hl1 hps
  clear hh0 hh1
  subst hv0 hv1
  have hw : (W != W) = false := by simp
  have hh : (H != H) = false := by simp
  have hnn : ((n : Int) != (n : Int)) = false := by simp
  have HT0 := (three_start w (.int .i64 W) (.int .i64 H) (.slice a0 n c0) 35).alloc (.cells #[.int .i64 W, .int .i64 H, .slice a1 n c1] 35)
  have HT1 := three_start (w.alloc (.cells #[.int .i64 W, .int .i64 H, .slice a0 n c0] 35)) (.int .i64 W) (.int .i64 H) (.slice a1 n c1) 35
  obtain ⟨x0, x1, x2, _, _, _, _⟩ := HT0
  obtain ⟨y0, y1, y2, _, _, _, _⟩ := HT1
  have es : (w.alloc (.cells #[.int .i64 W, .int .i64 H, .slice a0 n c0] 35)).heap.size = w.heap.size + 1 := by simp
  rw [es] at y0 y1 y2
  clear es
  obtain ⟨wz, HWZ⟩ : ∃ wz, Hid ((w.alloc (.cells #[.int .i64 W, .int .i64 H, .slice a0 n c0] 35)).alloc (.cells #[.int .i64 W, .int .i64 H, .slice a1 n c1] 35) = wz) := ⟨_, (rfl : _ = _)⟩
  have hbz : Below w.heap.size w wz := by rw [← HWZ.out]; exact ((Below.refl _ _).alloc (Nat.le_refl _) _).alloc (by simp) _
  go_enter Tryd.func26, Tryd.ntmps26
  go_wp2_with fail
  rw [HWZ.out] at x0 x1 x2 y0 y1 y2 ⊢
  go_loopw [5] (fun i wr => ∃ k q : Nat, k ≤ n ∧ i = .int .i64 k ∧ wr = wz.drewN q) (fun i _ => n - (intOf i).toNat)
  case atStart => exact ⟨0, 0, by omega, rfl, rfl⟩
  case round =>
    obtain ⟨k, q, hk, rfl, rfl⟩ := hrel
    by_cases hlt : k < n
    · have hne : ps ≠ [] := by intro e; have h := HN.out; rw [e] at h; simp at h; omega
      obtain ⟨_, _, hv0, _, _, hh0⟩ := H0.out
      obtain ⟨_, _, hv1, _, _, hh1⟩ := H1.out
      obtain ⟨g0, o0, ha0, hg0, hc0⟩ := hh0 hne
      obtain ⟨g1, o1, ha1, hg1, hc1⟩ := hh1 hne
      simp only [Value.slice.injEq] at hv0 hv1
      have e0 : a0 = some ⟨g0, o0, none⟩ := hv0.1.trans ha0
      have e1 : a1 = some ⟨g1, o1, none⟩ := hv1.1.trans ha1
      subst e0 e1
      obtain ⟨p, HP⟩ : ∃ p, Hid (ps.getD k (0, 0) = p) := ⟨_, (rfl : _ = _)⟩
      have d0 := hc0 k (by rw [HN.out]; exact hlt)
      have d1 := hc1 k (by rw [HN.out]; exact hlt)
      rw [HP.out] at d0 d1
      obtain ⟨pv, pa⟩ := p
      have f0 : wz.cell? ⟨g0, o0 + k * 2, none⟩ = some (.int .i64 pv) := by rw [hbz.cell (p := ⟨g0, o0 + k * 2, none⟩) hg0]; exact d0.1
      have f1 : wz.cell? ⟨g0, o0 + k * 2 + 1, none⟩ = some (.int .i64 pa) := by rw [hbz.cell (p := ⟨g0, o0 + k * 2 + 1, none⟩) hg0]; exact d0.2
      have f2 : wz.cell? ⟨g1, o1 + k * 2, none⟩ = some (.int .i64 pv) := by rw [hbz.cell (p := ⟨g1, o1 + k * 2, none⟩) hg1]; exact d1.1
      have f3 : wz.cell? ⟨g1, o1 + k * 2 + 1, none⟩ = some (.int .i64 pa) := by rw [hbz.cell (p := ⟨g1, o1 + k * 2 + 1, none⟩) hg1]; exact d1.2
      have heq := fun X => eq_pix X pv pa
      clear d0 d1 hc0 hc1 hh0 hh1 hv0 hv1 ha0 ha1
      go_wp2_with fail
      go_quiet (fail)
      go_wp2_with fail
      go_roundw
      case rel => exact ⟨k + 1, q + nq, by omega, by go_num, rfl⟩
      case measure => simp [intOf]; omega
    · go_wp2_with fail
      go_ret
      exact ⟨rfl, below_drewN hbz q⟩
theorem rdP_own {w : World} {B : Nat} {v : Value} {ps : List (Int × Int)} (h : w.ownsRow B 57 2 v ps.length (pixCells ps)) : RdP w v ps := by
  have hc : ∀ (ps : List (Int × Int)) (j : Nat), j < ps.length → (pixCells ps)[j * 2]? = some (.int .i64 (ps.getD j (0, 0)).1) ∧ (pixCells ps)[j * 2 + 1]? = some (.int .i64 (ps.getD j (0, 0)).2) := by
    intro ps
    induction ps with
    | nil => intro j hj; simp at hj
    | cons p r ih =>
      intro j hj
      obtain ⟨a, b⟩ := p
      cases j with
      | zero => simp [pixCells]
      | succ j =>
        have := ih j (by simpa using hj)
        rw [show (j + 1) * 2 = j * 2 + 2 by omega]
        simpa [pixCells] using this
  rcases h.2 with ⟨rfl, h0⟩ | ⟨g, cap, cur, rfl, hb, hg, hn, hm, hs, ht⟩
  · exact ⟨none, 0, by rw [h0], by omega, by omega, fun hne => absurd (List.eq_nil_of_length_eq_zero h0) hne⟩
  · refine ⟨_, cap, rfl, hn, by unfold maxLen at hm; omega, fun _ => ⟨g, 0, rfl, (Array.getElem?_eq_some_iff.1 hg).1, fun j hj => ?_⟩⟩
    rw [Nat.zero_add, h.cellAt (j * 2) (by omega), h.cellAt (j * 2 + 1) (by omega)]
    exact hc ps j hj
theorem rdP_nil (w : World) : RdP w (.slice none 0 0) [] := ⟨none, 0, rfl, by simp, by omega, fun h => absurd rfl h⟩
end Go.Proofs.YtbdgcomjhblnfaaDoor
