/- Walk of picture.tell. -/
import Derived.Test.YtnjnelfmfijgjaePicB
namespace Go.Proofs.Ytnjnelfmfijgjae
open Go.RowKit

/-- the closure's call, in a world that keeps the boxes -/
def GuessC (way : Nat) (K : FuncId) (caps : Array Value) (b : Nat) (v u : Value) : Prop :=
  ∀ (W : World) (r ab : List UInt8) (i : Nat), i ≤ 1000000 → i < r.length + 2 → Boxes W b v u → RdB W v r → RdB W u ab →
    Calls Try.prog K (#[.int .i64 (i : Int)] ++ caps) W fun e W' => e = .returned (.int .u8 ((Fb.guessB way r ab i).toNat : Int)) ∧ ∃ q, W' = W.drewN q

theorem guess0 (b : Nat) (v u : Value) : GuessC 0 28 #[] b v u := by
  intro W r ab i hi hir hb hr ha
  exact (none_any i W).mono fun e W' ⟨he, hw⟩ => ⟨he, 0, hw.symm⟩
theorem guess1 (b : Nat) (v u : Value) : GuessC 1 25 #[.pointer (some ⟨b, 0, none⟩)] b v u := by
  intro W r ab i hi hir hb hr ha
  exact (left_any i b v r W hi hir hb.c0 hr).mono fun e W' ⟨he, hw⟩ => ⟨he, 0, hw.symm⟩
theorem guess2 (b : Nat) (v u : Value) : GuessC 2 26 #[.pointer (some ⟨b + 1, 0, none⟩)] b v u := by
  intro W r ab i hi hir hb hr ha
  exact (up_any i (b + 1) u ab W hi hb.c1 ha).mono fun e W' ⟨he, hw⟩ => ⟨he, 0, hw.symm⟩
theorem guess3 (b : Nat) (v u : Value) : GuessC 3 27 #[.pointer (some ⟨b + 2, 0, none⟩), .pointer (some ⟨b + 3, 0, none⟩)] b v u := by
  intro W r ab i hi hir hb hr ha
  exact half_any i b v u r ab W hi hir hb.c0 hb.c1 hb.c2 hb.c3 hr ha

theorem set_row (t : List UInt8) (x : UInt8) (k n : Nat) (hk : k < n) (ht : t.length = k) : ((t ++ List.replicate (n - k) 0).map bv).set k (bv x) = ((t ++ [x]) ++ List.replicate (n - (k + 1)) 0).map bv := by
  rw [show n - k = (n - (k + 1)) + 1 by omega, List.replicate_succ, List.map_append, List.set_append_right _ _ (by simp [ht]), List.map_cons]
  simp [ht]

theorem made_zero (n : Nat) : (madeCells #[Value.int .u8 0] n).toList = (List.replicate n (0 : UInt8)).map bv := by
  rw [toList_madeCells_one, List.map_replicate]; rfl

theorem sub_byte (x y : UInt8) : IntKind.u8.wrap ((x.toNat : Int) - (y.toNat : Int)) = ((x - y).toNat : Int) := by
  rw [IntKind.wrap_u8, UInt8.toNat_sub]
  have := x.toNat_lt; have := y.toNat_lt
  omega
theorem add_byte (x y : UInt8) : IntKind.u8.wrap ((x.toNat : Int) + (y.toNat : Int)) = ((x + y).toNat : Int) := by
  rw [IntKind.wrap_u8, UInt8.toNat_add]
  have := x.toNat_lt; have := y.toNat_lt
  omega

end Go.Proofs.Ytnjnelfmfijgjae
