/- The law ObjectsSays, as its last step wants it. -/
import Derived.Test.YtadcmmkifcmknaaObjS3J
import Derived.Test.YtadcmmkifcmknaaOpenQJ
namespace Go.Proofs.Ytadcmmkifcmknaa
open Go.RowKit
theorem objectsSays_all (v : Value) (os : List Po) (i x y pw ph : Int) (u : Value) (ps : List (Int × Int)) (cx cy cw ch : Int) (s : Bool) (q : Pq) (uq : Value) (W' H' bv ba : Int) (w : World) (RL : RdO w v os) (RO : RdP w u ps) (RQ : RdP w uq q.ps)
    (_ : -9223372036854775808 ≤ W') (_ : W' ≤ 9223372036854775807) (_ : -9223372036854775808 ≤ H') (_ : H' ≤ 9223372036854775807) :
    Calls Try.prog 3 #[v, objV i x y pw ph u cx cy cw ch s, opV q uq, .int .i64 W', .int .i64 H', pixV bv ba] w fun e w' => e = .returned (.bool true) ∧ Below w.heap.size w w' :=
  objectsSays_any v os ⟨i, x, y, pw, ph, ps, cx, cy, cw, ch, s⟩ u q uq W' H' bv ba w RL RO RQ
end Go.Proofs.Ytadcmmkifcmknaa
