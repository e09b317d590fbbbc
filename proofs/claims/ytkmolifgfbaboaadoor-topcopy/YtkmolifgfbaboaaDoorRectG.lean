/- Two rects, and a third one, where they were laid. -/
import Derived.Test.YtkmolifgfbaboaaDoorRectM
import Derived.Test.YtkmolifgfbaboaaDoorBlk
namespace Go.Proofs.YtkmolifgfbaboaaDoor
open Go.RowKit

/-- what holds on the road: the two rects lie where they were laid -/
def Gr (W : World) (a b c d a' b' c' d' : Int) (w : World) : Prop :=
  Four w W.heap.size (.int .i64 a) (.int .i64 b) (.int .i64 c) (.int .i64 d) ∧ Four w (W.heap.size + 1) (.int .i64 a') (.int .i64 b') (.int .i64 c') (.int .i64 d') ∧ Below W.heap.size W w
theorem Gr.on {W : World} {a b c d a' b' c' d' : Int} {w w' : World} (h : Gr W a b c d a' b' c' d' w) (hb : Below w.heap.size w w') : Gr W a b c d a' b' c' d' w' :=
  ⟨h.1.on hb, h.2.1.on hb, h.2.2.trans (hb.mono h.2.2.size)⟩
theorem Gr.drew {W : World} {a b c d a' b' c' d' : Int} {w : World} (h : Gr W a b c d a' b' c' d' w) : Gr W a b c d a' b' c' d' w.drew := ⟨h.1.drew, h.2.1.drew, h.2.2.drew⟩

/-- and the third rect -/
def Gs (W : World) (a b c d a' b' c' d' : Int) (B : Nat) (x y z t : Int) (w : World) : Prop :=
  Gr W a b c d a' b' c' d' w ∧ Four w B (.int .i64 x) (.int .i64 y) (.int .i64 z) (.int .i64 t)
theorem Gs.on {W : World} {a b c d a' b' c' d' : Int} {B : Nat} {x y z t : Int} {w w' : World} (h : Gs W a b c d a' b' c' d' B x y z t w) (hb : Below w.heap.size w w') : Gs W a b c d a' b' c' d' B x y z t w' := ⟨h.1.on hb, h.2.on hb⟩
theorem Gs.drew {W : World} {a b c d a' b' c' d' : Int} {B : Nat} {x y z t : Int} {w : World} (h : Gs W a b c d a' b' c' d' B x y z t w) : Gs W a b c d a' b' c' d' B x y z t w.drew := ⟨h.1.drew, h.2.drew⟩
/-- no place ahead of this one is in both -/
def None2 (a b c d a' b' c' d' j i : Int) : Prop := ∀ p q, -21 ≤ q → -21 ≤ p → p < 41 → (q < j ∨ q = j ∧ p < i) → (hasB a b c d p q && hasB a' b' c' d' p q) = false

theorem rcheck_at (x y w h : Int) (W : World) (c : Nat) (HC : Hid (rectC x y w h = c)) (v : Value) (HV : Hid (errV c = v)) :
    Calls Tryd.prog 25 #[.agg #[.int .i64 x, .int .i64 y, .int .i64 w, .int .i64 h]] W fun e w' => e = .returned v ∧ Below W.heap.size W w' := by
  rw [← HV.out]; exact rcheck_any x y w h W c HC

end Go.Proofs.YtkmolifgfbaboaaDoor
