/- Blocks of some cells: what is known of them, and how it is kept. -/
import Derived.Test.YtkmolifgfbaboaaDoorBase
namespace Go.Proofs.YtkmolifgfbaboaaDoor
open Go.RowKit

/-- what is known of a block of 2 cells -/
structure Two (W : World) (b : Nat) (x y : Value) : Prop where
  c0 : W.cell? ⟨b, 0, none⟩ = some x
  c1 : W.cell? ⟨b, 1, none⟩ = some y
  f0 : W.frozen? ⟨b, 0, none⟩ = false
  f1 : W.frozen? ⟨b, 1, none⟩ = false
  lt : b < W.heap.size
theorem two_start (w : World) (x y : Value) (T : TypeId) (b : Nat) (hb : b = w.heap.size) : Two (w.alloc (.cells #[x, y] T)) b x y := by
  subst hb; exact ⟨by simp, by simp, by simp, by simp, by simp⟩
theorem Two.on {W W' : World} {b : Nat} {x y : Value} (h : Two W b x y) (hb : Below W.heap.size W W') : Two W' b x y :=
  ⟨(hb.cell (p := ⟨b, 0, none⟩) h.lt).trans h.c0, (hb.cell (p := ⟨b, 1, none⟩) h.lt).trans h.c1, (hb.frozen (p := ⟨b, 0, none⟩) h.lt).trans h.f0, (hb.frozen (p := ⟨b, 1, none⟩) h.lt).trans h.f1, Nat.lt_of_lt_of_le h.lt hb.size⟩
theorem Two.onB {W W' : World} {b B : Nat} {x y : Value} (h : Two W b x y) (hb : Below B W W') (hlt : b < B) : Two W' b x y :=
  ⟨(hb.cell (p := ⟨b, 0, none⟩) hlt).trans h.c0, (hb.cell (p := ⟨b, 1, none⟩) hlt).trans h.c1, (hb.frozen (p := ⟨b, 0, none⟩) hlt).trans h.f0, (hb.frozen (p := ⟨b, 1, none⟩) hlt).trans h.f1, Nat.lt_of_lt_of_le h.lt hb.size⟩
theorem Two.drew {W : World} {b : Nat} {x y : Value} (h : Two W b x y) : Two W.drew b x y := ⟨h.c0, h.c1, h.f0, h.f1, h.lt⟩
theorem Two.drewN {W : World} {b : Nat} {x y : Value} (h : Two W b x y) (q : Nat) : Two (W.drewN q) b x y := ⟨h.c0, h.c1, h.f0, h.f1, h.lt⟩
theorem Two.alloc {W : World} {b : Nat} {x y : Value} (h : Two W b x y) (o : Obj) : Two (W.alloc o) b x y := h.on ((Below.refl _ _).alloc (Nat.le_refl _) o)
theorem Two.other {W : World} {b b' j : Nat} {x y u : Value} (h : Two W b x y) (hne : b ≠ b') : Two (W.setCell ⟨b', j, none⟩ u) b x y :=
  ⟨(World.cell?_of_block (Below.heap_setCell W ⟨b', j, none⟩ u b (by simpa using hne))).trans h.c0, (World.cell?_of_block (Below.heap_setCell W ⟨b', j, none⟩ u b (by simpa using hne))).trans h.c1, (World.frozen?_of_block (Below.heap_setCell W ⟨b', j, none⟩ u b (by simpa using hne))).trans h.f0, (World.frozen?_of_block (Below.heap_setCell W ⟨b', j, none⟩ u b (by simpa using hne))).trans h.f1, by simpa using h.lt⟩
/-- what is known of a block of 4 cells -/
structure Four (W : World) (b : Nat) (x y z t : Value) : Prop where
  c0 : W.cell? ⟨b, 0, none⟩ = some x
  c1 : W.cell? ⟨b, 1, none⟩ = some y
  c2 : W.cell? ⟨b, 2, none⟩ = some z
  c3 : W.cell? ⟨b, 3, none⟩ = some t
  f0 : W.frozen? ⟨b, 0, none⟩ = false
  f1 : W.frozen? ⟨b, 1, none⟩ = false
  f2 : W.frozen? ⟨b, 2, none⟩ = false
  f3 : W.frozen? ⟨b, 3, none⟩ = false
  lt : b < W.heap.size
theorem four_start (w : World) (x y z t : Value) (T : TypeId) (b : Nat) (hb : b = w.heap.size) : Four (w.alloc (.cells #[x, y, z, t] T)) b x y z t := by
  subst hb; exact ⟨by simp, by simp, by simp, by simp, by simp, by simp, by simp, by simp, by simp⟩
theorem Four.on {W W' : World} {b : Nat} {x y z t : Value} (h : Four W b x y z t) (hb : Below W.heap.size W W') : Four W' b x y z t :=
  ⟨(hb.cell (p := ⟨b, 0, none⟩) h.lt).trans h.c0, (hb.cell (p := ⟨b, 1, none⟩) h.lt).trans h.c1, (hb.cell (p := ⟨b, 2, none⟩) h.lt).trans h.c2, (hb.cell (p := ⟨b, 3, none⟩) h.lt).trans h.c3, (hb.frozen (p := ⟨b, 0, none⟩) h.lt).trans h.f0, (hb.frozen (p := ⟨b, 1, none⟩) h.lt).trans h.f1, (hb.frozen (p := ⟨b, 2, none⟩) h.lt).trans h.f2, (hb.frozen (p := ⟨b, 3, none⟩) h.lt).trans h.f3, Nat.lt_of_lt_of_le h.lt hb.size⟩
theorem Four.onB {W W' : World} {b B : Nat} {x y z t : Value} (h : Four W b x y z t) (hb : Below B W W') (hlt : b < B) : Four W' b x y z t :=
  ⟨(hb.cell (p := ⟨b, 0, none⟩) hlt).trans h.c0, (hb.cell (p := ⟨b, 1, none⟩) hlt).trans h.c1, (hb.cell (p := ⟨b, 2, none⟩) hlt).trans h.c2, (hb.cell (p := ⟨b, 3, none⟩) hlt).trans h.c3, (hb.frozen (p := ⟨b, 0, none⟩) hlt).trans h.f0, (hb.frozen (p := ⟨b, 1, none⟩) hlt).trans h.f1, (hb.frozen (p := ⟨b, 2, none⟩) hlt).trans h.f2, (hb.frozen (p := ⟨b, 3, none⟩) hlt).trans h.f3, Nat.lt_of_lt_of_le h.lt hb.size⟩
theorem Four.drew {W : World} {b : Nat} {x y z t : Value} (h : Four W b x y z t) : Four W.drew b x y z t := ⟨h.c0, h.c1, h.c2, h.c3, h.f0, h.f1, h.f2, h.f3, h.lt⟩
theorem Four.drewN {W : World} {b : Nat} {x y z t : Value} (h : Four W b x y z t) (q : Nat) : Four (W.drewN q) b x y z t := ⟨h.c0, h.c1, h.c2, h.c3, h.f0, h.f1, h.f2, h.f3, h.lt⟩
theorem Four.alloc {W : World} {b : Nat} {x y z t : Value} (h : Four W b x y z t) (o : Obj) : Four (W.alloc o) b x y z t := h.on ((Below.refl _ _).alloc (Nat.le_refl _) o)
theorem Four.other {W : World} {b b' j : Nat} {x y z t u : Value} (h : Four W b x y z t) (hne : b ≠ b') : Four (W.setCell ⟨b', j, none⟩ u) b x y z t :=
  ⟨(World.cell?_of_block (Below.heap_setCell W ⟨b', j, none⟩ u b (by simpa using hne))).trans h.c0, (World.cell?_of_block (Below.heap_setCell W ⟨b', j, none⟩ u b (by simpa using hne))).trans h.c1, (World.cell?_of_block (Below.heap_setCell W ⟨b', j, none⟩ u b (by simpa using hne))).trans h.c2, (World.cell?_of_block (Below.heap_setCell W ⟨b', j, none⟩ u b (by simpa using hne))).trans h.c3, (World.frozen?_of_block (Below.heap_setCell W ⟨b', j, none⟩ u b (by simpa using hne))).trans h.f0, (World.frozen?_of_block (Below.heap_setCell W ⟨b', j, none⟩ u b (by simpa using hne))).trans h.f1, (World.frozen?_of_block (Below.heap_setCell W ⟨b', j, none⟩ u b (by simpa using hne))).trans h.f2, (World.frozen?_of_block (Below.heap_setCell W ⟨b', j, none⟩ u b (by simpa using hne))).trans h.f3, by simpa using h.lt⟩
/-- what is known of a block of 11 cells -/
structure Eleven (W : World) (b : Nat) (a c d e f g h' i k l m : Value) : Prop where
  c0 : W.cell? ⟨b, 0, none⟩ = some a
  c1 : W.cell? ⟨b, 1, none⟩ = some c
  c2 : W.cell? ⟨b, 2, none⟩ = some d
  c3 : W.cell? ⟨b, 3, none⟩ = some e
  c4 : W.cell? ⟨b, 4, none⟩ = some f
  c5 : W.cell? ⟨b, 5, none⟩ = some g
  c6 : W.cell? ⟨b, 6, none⟩ = some h'
  c7 : W.cell? ⟨b, 7, none⟩ = some i
  c8 : W.cell? ⟨b, 8, none⟩ = some k
  c9 : W.cell? ⟨b, 9, none⟩ = some l
  c10 : W.cell? ⟨b, 10, none⟩ = some m
  f0 : W.frozen? ⟨b, 0, none⟩ = false
  f1 : W.frozen? ⟨b, 1, none⟩ = false
  f2 : W.frozen? ⟨b, 2, none⟩ = false
  f3 : W.frozen? ⟨b, 3, none⟩ = false
  f4 : W.frozen? ⟨b, 4, none⟩ = false
  f5 : W.frozen? ⟨b, 5, none⟩ = false
  f6 : W.frozen? ⟨b, 6, none⟩ = false
  f7 : W.frozen? ⟨b, 7, none⟩ = false
  f8 : W.frozen? ⟨b, 8, none⟩ = false
  f9 : W.frozen? ⟨b, 9, none⟩ = false
  f10 : W.frozen? ⟨b, 10, none⟩ = false
  lt : b < W.heap.size
theorem eleven_start (w : World) (a c d e f g h' i k l m : Value) (T : TypeId) (b : Nat) (hb : b = w.heap.size) : Eleven (w.alloc (.cells #[a, c, d, e, f, g, h', i, k, l, m] T)) b a c d e f g h' i k l m := by
  subst hb; exact ⟨by simp, by simp, by simp, by simp, by simp, by simp, by simp, by simp, by simp, by simp, by simp, by simp, by simp, by simp, by simp, by simp, by simp, by simp, by simp, by simp, by simp, by simp, by simp⟩
theorem Eleven.on {W W' : World} {b : Nat} {a c d e f g h' i k l m : Value} (h : Eleven W b a c d e f g h' i k l m) (hb : Below W.heap.size W W') : Eleven W' b a c d e f g h' i k l m :=
  ⟨(hb.cell (p := ⟨b, 0, none⟩) h.lt).trans h.c0, (hb.cell (p := ⟨b, 1, none⟩) h.lt).trans h.c1, (hb.cell (p := ⟨b, 2, none⟩) h.lt).trans h.c2, (hb.cell (p := ⟨b, 3, none⟩) h.lt).trans h.c3, (hb.cell (p := ⟨b, 4, none⟩) h.lt).trans h.c4, (hb.cell (p := ⟨b, 5, none⟩) h.lt).trans h.c5, (hb.cell (p := ⟨b, 6, none⟩) h.lt).trans h.c6, (hb.cell (p := ⟨b, 7, none⟩) h.lt).trans h.c7, (hb.cell (p := ⟨b, 8, none⟩) h.lt).trans h.c8, (hb.cell (p := ⟨b, 9, none⟩) h.lt).trans h.c9, (hb.cell (p := ⟨b, 10, none⟩) h.lt).trans h.c10, (hb.frozen (p := ⟨b, 0, none⟩) h.lt).trans h.f0, (hb.frozen (p := ⟨b, 1, none⟩) h.lt).trans h.f1, (hb.frozen (p := ⟨b, 2, none⟩) h.lt).trans h.f2, (hb.frozen (p := ⟨b, 3, none⟩) h.lt).trans h.f3, (hb.frozen (p := ⟨b, 4, none⟩) h.lt).trans h.f4, (hb.frozen (p := ⟨b, 5, none⟩) h.lt).trans h.f5, (hb.frozen (p := ⟨b, 6, none⟩) h.lt).trans h.f6, (hb.frozen (p := ⟨b, 7, none⟩) h.lt).trans h.f7, (hb.frozen (p := ⟨b, 8, none⟩) h.lt).trans h.f8, (hb.frozen (p := ⟨b, 9, none⟩) h.lt).trans h.f9, (hb.frozen (p := ⟨b, 10, none⟩) h.lt).trans h.f10, Nat.lt_of_lt_of_le h.lt hb.size⟩
theorem Eleven.onB {W W' : World} {b B : Nat} {a c d e f g h' i k l m : Value} (h : Eleven W b a c d e f g h' i k l m) (hb : Below B W W') (hlt : b < B) : Eleven W' b a c d e f g h' i k l m :=
  ⟨(hb.cell (p := ⟨b, 0, none⟩) hlt).trans h.c0, (hb.cell (p := ⟨b, 1, none⟩) hlt).trans h.c1, (hb.cell (p := ⟨b, 2, none⟩) hlt).trans h.c2, (hb.cell (p := ⟨b, 3, none⟩) hlt).trans h.c3, (hb.cell (p := ⟨b, 4, none⟩) hlt).trans h.c4, (hb.cell (p := ⟨b, 5, none⟩) hlt).trans h.c5, (hb.cell (p := ⟨b, 6, none⟩) hlt).trans h.c6, (hb.cell (p := ⟨b, 7, none⟩) hlt).trans h.c7, (hb.cell (p := ⟨b, 8, none⟩) hlt).trans h.c8, (hb.cell (p := ⟨b, 9, none⟩) hlt).trans h.c9, (hb.cell (p := ⟨b, 10, none⟩) hlt).trans h.c10, (hb.frozen (p := ⟨b, 0, none⟩) hlt).trans h.f0, (hb.frozen (p := ⟨b, 1, none⟩) hlt).trans h.f1, (hb.frozen (p := ⟨b, 2, none⟩) hlt).trans h.f2, (hb.frozen (p := ⟨b, 3, none⟩) hlt).trans h.f3, (hb.frozen (p := ⟨b, 4, none⟩) hlt).trans h.f4, (hb.frozen (p := ⟨b, 5, none⟩) hlt).trans h.f5, (hb.frozen (p := ⟨b, 6, none⟩) hlt).trans h.f6, (hb.frozen (p := ⟨b, 7, none⟩) hlt).trans h.f7, (hb.frozen (p := ⟨b, 8, none⟩) hlt).trans h.f8, (hb.frozen (p := ⟨b, 9, none⟩) hlt).trans h.f9, (hb.frozen (p := ⟨b, 10, none⟩) hlt).trans h.f10, Nat.lt_of_lt_of_le h.lt hb.size⟩
theorem Eleven.drew {W : World} {b : Nat} {a c d e f g h' i k l m : Value} (h : Eleven W b a c d e f g h' i k l m) : Eleven W.drew b a c d e f g h' i k l m := ⟨h.c0, h.c1, h.c2, h.c3, h.c4, h.c5, h.c6, h.c7, h.c8, h.c9, h.c10, h.f0, h.f1, h.f2, h.f3, h.f4, h.f5, h.f6, h.f7, h.f8, h.f9, h.f10, h.lt⟩
theorem Eleven.drewN {W : World} {b : Nat} {a c d e f g h' i k l m : Value} (h : Eleven W b a c d e f g h' i k l m) (q : Nat) : Eleven (W.drewN q) b a c d e f g h' i k l m := ⟨h.c0, h.c1, h.c2, h.c3, h.c4, h.c5, h.c6, h.c7, h.c8, h.c9, h.c10, h.f0, h.f1, h.f2, h.f3, h.f4, h.f5, h.f6, h.f7, h.f8, h.f9, h.f10, h.lt⟩
theorem Eleven.alloc {W : World} {b : Nat} {a c d e f g h' i k l m : Value} (h : Eleven W b a c d e f g h' i k l m) (o : Obj) : Eleven (W.alloc o) b a c d e f g h' i k l m := h.on ((Below.refl _ _).alloc (Nat.le_refl _) o)
theorem Eleven.other {W : World} {b b' j : Nat} {a c d e f g h' i k l m u : Value} (h : Eleven W b a c d e f g h' i k l m) (hne : b ≠ b') : Eleven (W.setCell ⟨b', j, none⟩ u) b a c d e f g h' i k l m :=
  ⟨(World.cell?_of_block (Below.heap_setCell W ⟨b', j, none⟩ u b (by simpa using hne))).trans h.c0, (World.cell?_of_block (Below.heap_setCell W ⟨b', j, none⟩ u b (by simpa using hne))).trans h.c1, (World.cell?_of_block (Below.heap_setCell W ⟨b', j, none⟩ u b (by simpa using hne))).trans h.c2, (World.cell?_of_block (Below.heap_setCell W ⟨b', j, none⟩ u b (by simpa using hne))).trans h.c3, (World.cell?_of_block (Below.heap_setCell W ⟨b', j, none⟩ u b (by simpa using hne))).trans h.c4, (World.cell?_of_block (Below.heap_setCell W ⟨b', j, none⟩ u b (by simpa using hne))).trans h.c5, (World.cell?_of_block (Below.heap_setCell W ⟨b', j, none⟩ u b (by simpa using hne))).trans h.c6, (World.cell?_of_block (Below.heap_setCell W ⟨b', j, none⟩ u b (by simpa using hne))).trans h.c7, (World.cell?_of_block (Below.heap_setCell W ⟨b', j, none⟩ u b (by simpa using hne))).trans h.c8, (World.cell?_of_block (Below.heap_setCell W ⟨b', j, none⟩ u b (by simpa using hne))).trans h.c9, (World.cell?_of_block (Below.heap_setCell W ⟨b', j, none⟩ u b (by simpa using hne))).trans h.c10, (World.frozen?_of_block (Below.heap_setCell W ⟨b', j, none⟩ u b (by simpa using hne))).trans h.f0, (World.frozen?_of_block (Below.heap_setCell W ⟨b', j, none⟩ u b (by simpa using hne))).trans h.f1, (World.frozen?_of_block (Below.heap_setCell W ⟨b', j, none⟩ u b (by simpa using hne))).trans h.f2, (World.frozen?_of_block (Below.heap_setCell W ⟨b', j, none⟩ u b (by simpa using hne))).trans h.f3, (World.frozen?_of_block (Below.heap_setCell W ⟨b', j, none⟩ u b (by simpa using hne))).trans h.f4, (World.frozen?_of_block (Below.heap_setCell W ⟨b', j, none⟩ u b (by simpa using hne))).trans h.f5, (World.frozen?_of_block (Below.heap_setCell W ⟨b', j, none⟩ u b (by simpa using hne))).trans h.f6, (World.frozen?_of_block (Below.heap_setCell W ⟨b', j, none⟩ u b (by simpa using hne))).trans h.f7, (World.frozen?_of_block (Below.heap_setCell W ⟨b', j, none⟩ u b (by simpa using hne))).trans h.f8, (World.frozen?_of_block (Below.heap_setCell W ⟨b', j, none⟩ u b (by simpa using hne))).trans h.f9, (World.frozen?_of_block (Below.heap_setCell W ⟨b', j, none⟩ u b (by simpa using hne))).trans h.f10, by simpa using h.lt⟩
theorem three_begin (w : World) (x y z : Value) (T : TypeId) (b : Nat) (hb : b = w.heap.size) : Three (w.alloc (.cells #[x, y, z] T)) b x y z := by subst hb; exact three_start w x y z T
theorem cell_set_ne (W : World) (b i j : Nat) (u : Value) (h : i ≠ j) : (W.setCell ⟨b, i, none⟩ u).cell? ⟨b, j, none⟩ = W.cell? ⟨b, j, none⟩ := World.cell?_setCell_other _ ⟨b, i, none⟩ ⟨b, j, none⟩ _ (fun e => h (Addr.mk.inj e).2.1)
theorem Four.set_all {W : World} {b : Nat} {x y z t : Value} (h : Four W b x y z t) (x' y' z' t' : Value) : Four ((((W.setCell ⟨b, 0, none⟩ x').setCell ⟨b, 1, none⟩ y').setCell ⟨b, 2, none⟩ z').setCell ⟨b, 3, none⟩ t') b x' y' z' t' := by
  refine ⟨?_, ?_, ?_, ?_, by simp [h.f0], by simp [h.f1], by simp [h.f2], by simp [h.f3], by simpa using h.lt⟩
  · rw [cell_set_ne _ _ _ _ _ (by decide), cell_set_ne _ _ _ _ _ (by decide), cell_set_ne _ _ _ _ _ (by decide)]; exact World.cell?_setCell_same _ _ _ h.c0
  · rw [cell_set_ne _ _ _ _ _ (by decide), cell_set_ne _ _ _ _ _ (by decide)]; exact World.cell?_setCell_same _ _ _ ((cell_set_ne _ _ _ _ _ (by decide)).trans h.c1)
  · rw [cell_set_ne _ _ _ _ _ (by decide)]; exact World.cell?_setCell_same _ _ _ ((cell_set_ne _ _ _ _ _ (by decide)).trans ((cell_set_ne _ _ _ _ _ (by decide)).trans h.c2))
  · exact World.cell?_setCell_same _ _ _ ((cell_set_ne _ _ _ _ _ (by decide)).trans ((cell_set_ne _ _ _ _ _ (by decide)).trans ((cell_set_ne _ _ _ _ _ (by decide)).trans h.c3)))
theorem Three.set_all {W : World} {b : Nat} {x y z : Value} (h : Three W b x y z) (x' y' z' : Value) : Three (((W.setCell ⟨b, 0, none⟩ x').setCell ⟨b, 1, none⟩ y').setCell ⟨b, 2, none⟩ z') b x' y' z' := by
  refine ⟨?_, ?_, ?_, by simp [h.f0], by simp [h.f1], by simp [h.f2], by simpa using h.lt⟩
  · rw [cell_set_ne _ _ _ _ _ (by decide), cell_set_ne _ _ _ _ _ (by decide)]; exact World.cell?_setCell_same _ _ _ h.c0
  · rw [cell_set_ne _ _ _ _ _ (by decide)]; exact World.cell?_setCell_same _ _ _ ((cell_set_ne _ _ _ _ _ (by decide)).trans h.c1)
  · exact World.cell?_setCell_same _ _ _ ((cell_set_ne _ _ _ _ _ (by decide)).trans ((cell_set_ne _ _ _ _ _ (by decide)).trans h.c2))
end Go.Proofs.YtkmolifgfbaboaaDoor
