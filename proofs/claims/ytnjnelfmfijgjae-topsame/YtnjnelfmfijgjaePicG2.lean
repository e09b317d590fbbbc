/- Small lemmas on rows of bytes and on blocks of cells. -/
import Derived.Test.YtnjnelfmfijgjaePicB
import Derived.Lib.AppendStr
namespace Go.Proofs.Ytnjnelfmfijgjae
open Go.RowKit

/-- what is known of a block of three cells -/
structure Three (W : World) (b : Nat) (x y z : Value) : Prop where
  c0 : W.cell? ⟨b, 0, none⟩ = some x
  c1 : W.cell? ⟨b, 1, none⟩ = some y
  c2 : W.cell? ⟨b, 2, none⟩ = some z
  f0 : W.frozen? ⟨b, 0, none⟩ = false
  f1 : W.frozen? ⟨b, 1, none⟩ = false
  f2 : W.frozen? ⟨b, 2, none⟩ = false
  lt : b < W.heap.size
theorem three_start (w : World) (x y z : Value) (T : TypeId) : Three (w.alloc (.cells #[x, y, z] T)) w.heap.size x y z :=
  ⟨by simp, by simp, by simp, by simp, by simp, by simp, by simp⟩
theorem Three.on {W W' : World} {b : Nat} {x y z : Value} (h : Three W b x y z) (hb : Below W.heap.size W W') : Three W' b x y z :=
  ⟨(hb.cell (p := ⟨b, 0, none⟩) h.lt).trans h.c0, (hb.cell (p := ⟨b, 1, none⟩) h.lt).trans h.c1, (hb.cell (p := ⟨b, 2, none⟩) h.lt).trans h.c2,
    (hb.frozen (p := ⟨b, 0, none⟩) h.lt).trans h.f0, (hb.frozen (p := ⟨b, 1, none⟩) h.lt).trans h.f1, (hb.frozen (p := ⟨b, 2, none⟩) h.lt).trans h.f2, Nat.lt_of_lt_of_le h.lt hb.size⟩
theorem Three.drew {W : World} {b : Nat} {x y z : Value} (h : Three W b x y z) : Three W.drew b x y z := ⟨h.c0, h.c1, h.c2, h.f0, h.f1, h.f2, h.lt⟩

theorem grown_below2 {W W' : World} (h : Below W.heap.size W W') : W.grownBy W' none := ⟨h.os, h.tape, h.output, h.size, fun k hk _ => h.block k hk⟩
theorem own_on2 {W W' : World} {B : Nat} {e : TypeId} {size : Nat} {v : Value} {n : Nat} {xs : List Value} (h : W.ownsRow B e size v n xs) (hb : Below W.heap.size W W') : W'.ownsRow B e size v n xs :=
  h.kept (grown_below2 hb) (by cases hv : v.ownBlock <;> simp)
/-- a row made later stays when an elder one grows -/
theorem own_apart {W0 W W' : World} {B : Nat} {e : TypeId} {size : Nat} {x v : Value} {n m : Nat} {xs ys : List Value} (hx : W0.ownsRow B e size x n xs) (hv : W.ownsRow W0.heap.size e size v m ys) (hg : W.grownBy W' x.ownBlock) : W'.ownsRow W0.heap.size e size v m ys := by
  refine hv.kept hg ?_
  cases h : v.ownBlock with
  | none => exact .inl rfl
  | some k =>
    right
    intro e
    have h1 := hv.lt k h
    have h2 := hx.lt k e.symm
    omega
theorem below_str {w wr w2 : World} {v : Value} {n : Nat} {xs : List Value} {e : TypeId} {size : Nat} (hb : Below w.heap.size w wr) (hown : wr.ownsRow w.heap.size e size v n xs) (hg : wr.grownBy w2 v.ownBlock) : Below w.heap.size w w2 := by
  refine hb.grown hg hb.size ?_
  intro k hk
  exact (hown.lt k hk).1

theorem bcell2 {W w1 : World} (hb : Below W.heap.size W w1) : (∀ b o, b < W.heap.size → w1.cell? ⟨b, o, none⟩ = W.cell? ⟨b, o, none⟩) ∧ (∀ b o, b < W.heap.size → w1.frozen? ⟨b, o, none⟩ = W.frozen? ⟨b, o, none⟩) :=
  ⟨fun b o h => hb.cell (p := ⟨b, o, none⟩) h, fun b o h => hb.frozen (p := ⟨b, o, none⟩) h⟩

/-- what is known of a block of two cells -/
structure Duo (W : World) (b : Nat) (x y : Value) : Prop where
  c0 : W.cell? ⟨b, 0, none⟩ = some x
  c1 : W.cell? ⟨b, 1, none⟩ = some y
  lt : b < W.heap.size
theorem duo_start (w : World) (x y : Value) (T : TypeId) : Duo (w.alloc (.cells #[x, y] T)).drew w.heap.size x y := ⟨by simp, by simp, by simp⟩
theorem Duo.on {W W' : World} {b : Nat} {x y : Value} (h : Duo W b x y) (hb : Below W.heap.size W W') : Duo W' b x y :=
  ⟨(hb.cell (p := ⟨b, 0, none⟩) h.lt).trans h.c0, (hb.cell (p := ⟨b, 1, none⟩) h.lt).trans h.c1, Nat.lt_of_lt_of_le h.lt hb.size⟩
theorem Three.alloc {W : World} {b : Nat} {x y z : Value} (h : Three W b x y z) (o : Obj) : Three (W.alloc o) b x y z := h.on ((Below.refl _ _).alloc (Nat.le_refl _) o)

theorem errV0 : errV 0 = .nilIface := rfl
theorem rdB_nil (w : World) : RdB w (.slice none 0 0) [] := ⟨none, 0, rfl, by simp, by omega, fun h => absurd rfl h⟩

end Go.Proofs.Ytnjnelfmfijgjae
