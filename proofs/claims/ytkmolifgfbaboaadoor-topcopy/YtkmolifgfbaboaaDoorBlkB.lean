/- Blocks of seven and of nine cells. -/
import Derived.Test.YtkmolifgfbaboaaDoorBlk
namespace Go.Proofs.YtkmolifgfbaboaaDoor
open Go.RowKit

structure Seven (W : World) (b : Nat) (x0 x1 x2 x3 x4 x5 x6 : Value) : Prop where
  c0 : W.cell? ⟨b, 0, none⟩ = some x0
  c1 : W.cell? ⟨b, 1, none⟩ = some x1
  c2 : W.cell? ⟨b, 2, none⟩ = some x2
  c3 : W.cell? ⟨b, 3, none⟩ = some x3
  c4 : W.cell? ⟨b, 4, none⟩ = some x4
  c5 : W.cell? ⟨b, 5, none⟩ = some x5
  c6 : W.cell? ⟨b, 6, none⟩ = some x6
  f0 : W.frozen? ⟨b, 0, none⟩ = false
  f1 : W.frozen? ⟨b, 1, none⟩ = false
  f2 : W.frozen? ⟨b, 2, none⟩ = false
  f3 : W.frozen? ⟨b, 3, none⟩ = false
  f4 : W.frozen? ⟨b, 4, none⟩ = false
  f5 : W.frozen? ⟨b, 5, none⟩ = false
  f6 : W.frozen? ⟨b, 6, none⟩ = false
  lt : b < W.heap.size
theorem seven_start (w : World) (x0 x1 x2 x3 x4 x5 x6 : Value) (T : TypeId) (b : Nat) (hb : b = w.heap.size) : Seven (w.alloc (.cells #[x0, x1, x2, x3, x4, x5, x6] T)) b x0 x1 x2 x3 x4 x5 x6 := by
  subst hb; exact ⟨by simp, by simp, by simp, by simp, by simp, by simp, by simp, by simp, by simp, by simp, by simp, by simp, by simp, by simp, by simp⟩
theorem Seven.onB {W W' : World} {b : Nat} {x0 x1 x2 x3 x4 x5 x6 : Value} {B : Nat} (h : Seven W b x0 x1 x2 x3 x4 x5 x6) (hb : Below B W W') (hlt : b < B) : Seven W' b x0 x1 x2 x3 x4 x5 x6 :=
  ⟨(hb.cell (p := ⟨b, 0, none⟩) hlt).trans h.c0, (hb.cell (p := ⟨b, 1, none⟩) hlt).trans h.c1, (hb.cell (p := ⟨b, 2, none⟩) hlt).trans h.c2, (hb.cell (p := ⟨b, 3, none⟩) hlt).trans h.c3, (hb.cell (p := ⟨b, 4, none⟩) hlt).trans h.c4, (hb.cell (p := ⟨b, 5, none⟩) hlt).trans h.c5, (hb.cell (p := ⟨b, 6, none⟩) hlt).trans h.c6, (hb.frozen (p := ⟨b, 0, none⟩) hlt).trans h.f0, (hb.frozen (p := ⟨b, 1, none⟩) hlt).trans h.f1, (hb.frozen (p := ⟨b, 2, none⟩) hlt).trans h.f2, (hb.frozen (p := ⟨b, 3, none⟩) hlt).trans h.f3, (hb.frozen (p := ⟨b, 4, none⟩) hlt).trans h.f4, (hb.frozen (p := ⟨b, 5, none⟩) hlt).trans h.f5, (hb.frozen (p := ⟨b, 6, none⟩) hlt).trans h.f6, Nat.lt_of_lt_of_le h.lt hb.size⟩
theorem Seven.on {W W' : World} {b : Nat} {x0 x1 x2 x3 x4 x5 x6 : Value} (h : Seven W b x0 x1 x2 x3 x4 x5 x6) (hb : Below W.heap.size W W') : Seven W' b x0 x1 x2 x3 x4 x5 x6 := h.onB hb h.lt
theorem Seven.drew {W : World} {b : Nat} {x0 x1 x2 x3 x4 x5 x6 : Value} (h : Seven W b x0 x1 x2 x3 x4 x5 x6) : Seven W.drew b x0 x1 x2 x3 x4 x5 x6 := ⟨h.c0, h.c1, h.c2, h.c3, h.c4, h.c5, h.c6, h.f0, h.f1, h.f2, h.f3, h.f4, h.f5, h.f6, h.lt⟩
theorem Seven.alloc {W : World} {b : Nat} {x0 x1 x2 x3 x4 x5 x6 : Value} (h : Seven W b x0 x1 x2 x3 x4 x5 x6) (o : Obj) : Seven (W.alloc o) b x0 x1 x2 x3 x4 x5 x6 := h.on ((Below.refl _ _).alloc (Nat.le_refl _) o)
structure Nine (W : World) (b : Nat) (x0 x1 x2 x3 x4 x5 x6 x7 x8 : Value) : Prop where
  c0 : W.cell? ⟨b, 0, none⟩ = some x0
  c1 : W.cell? ⟨b, 1, none⟩ = some x1
  c2 : W.cell? ⟨b, 2, none⟩ = some x2
  c3 : W.cell? ⟨b, 3, none⟩ = some x3
  c4 : W.cell? ⟨b, 4, none⟩ = some x4
  c5 : W.cell? ⟨b, 5, none⟩ = some x5
  c6 : W.cell? ⟨b, 6, none⟩ = some x6
  c7 : W.cell? ⟨b, 7, none⟩ = some x7
  c8 : W.cell? ⟨b, 8, none⟩ = some x8
  f0 : W.frozen? ⟨b, 0, none⟩ = false
  f1 : W.frozen? ⟨b, 1, none⟩ = false
  f2 : W.frozen? ⟨b, 2, none⟩ = false
  f3 : W.frozen? ⟨b, 3, none⟩ = false
  f4 : W.frozen? ⟨b, 4, none⟩ = false
  f5 : W.frozen? ⟨b, 5, none⟩ = false
  f6 : W.frozen? ⟨b, 6, none⟩ = false
  f7 : W.frozen? ⟨b, 7, none⟩ = false
  f8 : W.frozen? ⟨b, 8, none⟩ = false
  lt : b < W.heap.size
theorem nine_start (w : World) (x0 x1 x2 x3 x4 x5 x6 x7 x8 : Value) (T : TypeId) (b : Nat) (hb : b = w.heap.size) : Nine (w.alloc (.cells #[x0, x1, x2, x3, x4, x5, x6, x7, x8] T)) b x0 x1 x2 x3 x4 x5 x6 x7 x8 := by
  subst hb; exact ⟨by simp, by simp, by simp, by simp, by simp, by simp, by simp, by simp, by simp, by simp, by simp, by simp, by simp, by simp, by simp, by simp, by simp, by simp, by simp⟩
theorem Nine.onB {W W' : World} {b : Nat} {x0 x1 x2 x3 x4 x5 x6 x7 x8 : Value} {B : Nat} (h : Nine W b x0 x1 x2 x3 x4 x5 x6 x7 x8) (hb : Below B W W') (hlt : b < B) : Nine W' b x0 x1 x2 x3 x4 x5 x6 x7 x8 :=
  ⟨(hb.cell (p := ⟨b, 0, none⟩) hlt).trans h.c0, (hb.cell (p := ⟨b, 1, none⟩) hlt).trans h.c1, (hb.cell (p := ⟨b, 2, none⟩) hlt).trans h.c2, (hb.cell (p := ⟨b, 3, none⟩) hlt).trans h.c3, (hb.cell (p := ⟨b, 4, none⟩) hlt).trans h.c4, (hb.cell (p := ⟨b, 5, none⟩) hlt).trans h.c5, (hb.cell (p := ⟨b, 6, none⟩) hlt).trans h.c6, (hb.cell (p := ⟨b, 7, none⟩) hlt).trans h.c7, (hb.cell (p := ⟨b, 8, none⟩) hlt).trans h.c8, (hb.frozen (p := ⟨b, 0, none⟩) hlt).trans h.f0, (hb.frozen (p := ⟨b, 1, none⟩) hlt).trans h.f1, (hb.frozen (p := ⟨b, 2, none⟩) hlt).trans h.f2, (hb.frozen (p := ⟨b, 3, none⟩) hlt).trans h.f3, (hb.frozen (p := ⟨b, 4, none⟩) hlt).trans h.f4, (hb.frozen (p := ⟨b, 5, none⟩) hlt).trans h.f5, (hb.frozen (p := ⟨b, 6, none⟩) hlt).trans h.f6, (hb.frozen (p := ⟨b, 7, none⟩) hlt).trans h.f7, (hb.frozen (p := ⟨b, 8, none⟩) hlt).trans h.f8, Nat.lt_of_lt_of_le h.lt hb.size⟩
theorem Nine.on {W W' : World} {b : Nat} {x0 x1 x2 x3 x4 x5 x6 x7 x8 : Value} (h : Nine W b x0 x1 x2 x3 x4 x5 x6 x7 x8) (hb : Below W.heap.size W W') : Nine W' b x0 x1 x2 x3 x4 x5 x6 x7 x8 := h.onB hb h.lt
theorem Nine.drew {W : World} {b : Nat} {x0 x1 x2 x3 x4 x5 x6 x7 x8 : Value} (h : Nine W b x0 x1 x2 x3 x4 x5 x6 x7 x8) : Nine W.drew b x0 x1 x2 x3 x4 x5 x6 x7 x8 := ⟨h.c0, h.c1, h.c2, h.c3, h.c4, h.c5, h.c6, h.c7, h.c8, h.f0, h.f1, h.f2, h.f3, h.f4, h.f5, h.f6, h.f7, h.f8, h.lt⟩
theorem Nine.alloc {W : World} {b : Nat} {x0 x1 x2 x3 x4 x5 x6 x7 x8 : Value} (h : Nine W b x0 x1 x2 x3 x4 x5 x6 x7 x8) (o : Obj) : Nine (W.alloc o) b x0 x1 x2 x3 x4 x5 x6 x7 x8 := h.on ((Below.refl _ _).alloc (Nat.le_refl _) o)
end Go.Proofs.YtkmolifgfbaboaaDoor
