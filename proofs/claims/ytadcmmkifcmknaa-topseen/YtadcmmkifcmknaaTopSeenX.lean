/- The law TopSeen, as its last step wants it. -/
import Derived.Test.YtadcmmkifcmknaaTopSeenW
namespace Go.Proofs.Ytadcmmkifcmknaa
open Go.RowKit
theorem topSeen_all (v : Value) (os : List Po) (id W' H' bv ba vv : Int) (w : World) (HR : RdO w v os) (_ : -9223372036854775808 ≤ id) (_ : id ≤ 9223372036854775807) (_ : -9223372036854775808 ≤ W') (_ : W' ≤ 9223372036854775807) (_ : -9223372036854775808 ≤ H') (_ : H' ≤ 9223372036854775807) (_ : -9223372036854775808 ≤ vv) (_ : vv ≤ 9223372036854775807) :
    Calls Try.prog 4 #[v, .int .i64 id, .int .i64 W', .int .i64 H', pixV bv ba, .int .i64 vv] w fun e w' => e = .returned (.bool true) ∧ Below w.heap.size w w' := topSeen_any v os id W' H' bv ba vv w HR
end Go.Proofs.Ytadcmmkifcmknaa
