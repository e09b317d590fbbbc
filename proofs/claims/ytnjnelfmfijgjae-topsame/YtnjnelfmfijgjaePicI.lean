/- Walk of picture.appendPixels. -/
import Derived.Test.YtnjnelfmfijgjaePicF
import Derived.Test.YtnjnelfmfijgjaePicG2
namespace Go.Proofs.Ytnjnelfmfijgjae
open Go.RowKit

theorem Try.infoPix : (Try.prog.info? 26).map (fun i => (i.zero, i.size, i.bytes)) = some (some (.agg #[.int .i64 0, .int .i64 0]), 2, 16) := by kernel_rfl

def pixOf : List UInt8 → List (Int × Int)
  | a :: b :: r => ((a.toNat : Int), (b.toNat : Int)) :: pixOf r
  | _ => []
def pixCells : List (Int × Int) → List Value
  | [] => []
  | (v, a) :: r => .int .i64 v :: .int .i64 a :: pixCells r
theorem pixCells_append (a b : List (Int × Int)) : pixCells (a ++ b) = pixCells a ++ pixCells b := by
  induction a with
  | nil => rfl
  | cons p a ih => obtain ⟨n, d⟩ := p; simp [pixCells, ih]

/-- rows of two kinds lie apart -/
theorem own_diff {W : World} {B B' : Nat} {e e' : TypeId} {size size' : Nat} {x v : Value} {n m : Nat} {xs ys : List Value} (hx : W.ownsRow B e size x n xs) (hv : W.ownsRow B' e' size' v m ys) (hne : e ≠ e') : v.ownBlock = none ∨ v.ownBlock ≠ x.ownBlock := by
  rcases hv.2 with ⟨rfl, _⟩ | ⟨g, cap, cur, rfl, _, hg, _⟩
  · exact .inl rfl
  · right
    intro h
    rcases hx.2 with ⟨rfl, _⟩ | ⟨g2, cap2, cur2, rfl, _, hg2, _⟩
    · simp [Value.ownBlock] at h
    · simp [Value.ownBlock] at h
      subst h
      rw [hg] at hg2
      simp at hg2
      exact hne hg2.2.symm

theorem below_app3 {w wr w2 : World} {B : Nat} {v : Value} {n : Nat} {xs : List Value} {e : TypeId} {size : Nat} {ob : Obj} (hb : Below B w wr) (hB : B ≤ wr.heap.size) (hown : wr.ownsRow B e size v n xs) (hg : ((wr.alloc ob).drew).grownBy w2 v.ownBlock) : Below B w w2 := by
  refine ((hb.alloc hB ob).drew).grown hg (by simp; omega) ?_
  intro k hk
  exact (hown.lt k hk).1

theorem drop_two2 (l : List UInt8) (k : Nat) (h : 2 * k + 1 < l.length) : l.drop (2 * k) = l.getD (2 * k) 0 :: l.getD (2 * k + 1) 0 :: l.drop (2 * (k + 1)) := drop_two l k h

theorem pix_new (w : World) (n d : Int) : ∀ j u, [Value.int .i64 n, .int .i64 d][j]? = some u → ((w.alloc (.cells #[.int .i64 n, .int .i64 d] 26)).drew).cell? ((⟨w.heap.size, 0, none⟩ : Addr).add j) = some u := by
  intro j u hj
  match j, hj with
  | 0, hj => simp at hj; subst hj; simp [Addr.add]
  | 1, hj => simp at hj; subst hj; simp [Addr.add]
  | j + 2, hj => simp at hj
theorem pix_one (n d : Int) : ∀ u ∈ [Value.int .i64 n, .int .i64 d], u.oneCell' = true := by
  intro u hu; simp at hu; rcases hu with rfl | rfl <;> rfl

end Go.Proofs.Ytnjnelfmfijgjae
