/- Walk of blend.Lay. -/
import Derived.Test.YtkmolifgfbaboaaDoorChangeL
import Derived.Test.YtkmolifgfbaboaaDoorObjB
namespace Go.Proofs.YtkmolifgfbaboaaDoor
open Go.RowKit

/-- what Lay answers -/
def layL (PW : Nat) (ps : List (Int × Int)) (QW QH : Nat) (qs : List (Int × Int)) (x y a b c d : Int) (sh : Bool) : List (Int × Int) :=
  if sh then chL (fun p q => Fb.overL q.1 q.2 p.1 p.2) PW ps QW QH qs x y a b c d else ps

/-- what holds on the road -/
structure Gla (w : World) (pw ph : Int) (vp : Value) (id x y qw qh : Int) (vq : Value) (a b c d : Int) (sh : Bool) (ps qs : List (Int × Int)) (w' : World) : Prop where
  tp : Three w' w.heap.size (.int .i64 pw) (.int .i64 ph) vp
  eo : Eleven w' (w.heap.size + 1) (.int .i64 id) (.int .i64 x) (.int .i64 y) (.int .i64 qw) (.int .i64 qh) vq (.int .i64 a) (.int .i64 b) (.int .i64 c) (.int .i64 d) (.bool sh)
  rp : RdP w' vp ps
  rq : RdP w' vq qs
  bel : Below w.heap.size w w'
theorem Gla.on {w : World} {pw ph : Int} {vp : Value} {id x y qw qh : Int} {vq : Value} {a b c d : Int} {sh : Bool} {ps qs : List (Int × Int)} {w1 w2 : World} (h : Gla w pw ph vp id x y qw qh vq a b c d sh ps qs w1) (hb : Below w1.heap.size w1 w2) : Gla w pw ph vp id x y qw qh vq a b c d sh ps qs w2 :=
  ⟨h.tp.on hb, h.eo.on hb, h.rp.on hb, h.rq.on hb, h.bel.trans (hb.mono h.bel.size)⟩
theorem Gla.drew {w : World} {pw ph : Int} {vp : Value} {id x y qw qh : Int} {vq : Value} {a b c d : Int} {sh : Bool} {ps qs : List (Int × Int)} {w1 : World} (h : Gla w pw ph vp id x y qw qh vq a b c d sh ps qs w1) : Gla w pw ph vp id x y qw qh vq a b c d sh ps qs w1.drew :=
  ⟨h.tp.drew, h.eo.drew, h.rp, h.rq, h.bel.drew⟩

end Go.Proofs.YtkmolifgfbaboaaDoor
