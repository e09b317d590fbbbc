/- Walk of pack.Unpack. -/
import Derived.Test.YtnjnelfmfijgjaePackA
import Derived.Laws.IdiomStrings
namespace Go.Proofs.Ytnjnelfmfijgjae
open Go.RowKit

theorem Try.infoByte : (Try.prog.info? 5).map (fun i => (i.zero, i.size, i.bytes)) = some (some (.int .u8 0), 1, 1) := by kernel_rfl

/-- a byte as a value -/
def bv (b : UInt8) : Value := .int .u8 (b.toNat : Int)

/-- the string of the bytes l -/
def str (l : List UInt8) : Value := .string ⟨l.toArray⟩

theorem bv_one (l : List UInt8) : ∀ u ∈ l.map bv, u.oneCell' = true := by
  intro u hu
  simp only [List.mem_map] at hu
  obtain ⟨b, _, rfl⟩ := hu
  rfl

/-- a row of bytes that the call owns, made a text -/
theorem run_str {w : World} {B : Nat} {v : Value} {l : List UInt8} (h : w.ownsRow B 5 1 v l.length (l.map bv)) :
    (convert 46 9 v).run Try.prog w = .ok (str l) w := by
  rcases h.2 with ⟨rfl, h0⟩ | ⟨g, cap, cur, rfl, hb, hg, hn, hm, hs, ht⟩
  · have : l = [] := List.eq_nil_of_length_eq_zero h0
    subst this
    rw [run_convert_bytes_nil w 46 5 Try.underlying46 Try.underlying5 0 0 9 Try.underlying9]
    rfl
  · refine run_convert_bytes_back w 46 9 5 ⟨g, 0, none⟩ cap l Try.underlying46 Try.underlying5 Try.underlying9 ?_
    intro j hj
    have := h.cells (g := g) rfl j (bv l[j]) (by simp [hj])
    exact this

theorem unp_step (l : List UInt8) (k : Nat) (c : UInt8) (hc : Hid (l.getD (2 * k) 0 = c)) (m : Nat) (hm : Hid (c.toNat = m)) (d : UInt8) (hd : Hid (l.getD (2 * k + 1) 0 = d)) (h : 2 * k + 1 < l.length) :
    Fb.unp (l.drop (2 * k)) = List.replicate m d ++ Fb.unp (l.drop (2 * (k + 1))) := by
  rw [drop_two l k h, Fb.unp, hc.out, hd.out, hm.out]

theorem unp_end (l : List UInt8) (k : Nat) (h : l.length ≤ 2 * k) : Fb.unp (l.drop (2 * k)) = [] := by
  rw [List.drop_eq_nil_of_le h]; rfl

theorem own_snoc {w' : World} {B : Nat} {v' : Value} {o : List UInt8} {d : UInt8} (h : w'.ownsRow B 5 1 v' (o.length + 1) (o.map bv ++ [bv d])) : w'.ownsRow B 5 1 v' (o ++ [d]).length ((o ++ [d]).map bv) := by
  simpa using h

theorem one_new (w : World) (d : UInt8) : ∀ j u, [bv d][j]? = some u → (w.alloc (.cells #[.int .u8 (d.toNat : Int)] 5)).cell? ((⟨w.heap.size, 0, none⟩ : Addr).add j) = some u := by
  intro j u hj
  match j, hj with
  | 0, hj => simp at hj; subst hj; simp [Addr.add, bv]
  | j + 1, hj => simp at hj

/-- behind an append to a row that the call owns all below is as it was -/
theorem below_app {w wr w2 : World} {v : Value} {n : Nat} {xs : List Value} {e : TypeId} {size : Nat} {ob : Obj} (hb : Below w.heap.size w wr) (hown : wr.ownsRow w.heap.size e size v n xs) (hg : (wr.alloc ob).grownBy w2 v.ownBlock) : Below w.heap.size w w2 := by
  refine (hb.alloc hb.size ob).grown hg (by have := hb.size; simp; omega) ?_
  intro k hk
  exact (hown.lt k hk).1

/-- each pair's bytes fit into the sum -/
theorem sz_tot (most : Int) : ∀ (k : Nat) (l : List UInt8) (t tot : Nat), l.length = 2 * k → Fb.sz most l t = (tot, 0) → tot = t + (Fb.unp l).length := by
  intro k
  induction k with
  | zero => intro l t tot hl h; have : l = [] := List.eq_nil_of_length_eq_zero (by omega); subst this; simp [Fb.sz] at h; simp [Fb.unp, h]
  | succ k ih =>
    intro l t tot hl h
    match l, hl with
    | a :: b :: r, hl =>
      rw [Fb.sz] at h
      split at h
      · simp at h
      · split at h
        · simp at h
        · have := ih r _ _ (by simp at hl; omega) h
          simp [Fb.unp]; omega
    | [], hl => simp at hl
    | [_], hl => simp at hl; omega

end Go.Proofs.Ytnjnelfmfijgjae
