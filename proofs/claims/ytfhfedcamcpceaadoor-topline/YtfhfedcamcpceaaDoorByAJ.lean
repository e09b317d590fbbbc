/- Rows of bytes: what is put behind them. -- s1 -/
import Derived.Test.YtfhfedcamcpceaaDoorM4
import Derived.Maps.AppendAt
import Derived.Lib.AppendStr
namespace Go.Proofs.YtfhfedcamcpceaaDoor
open Go.RowKit

/-- a row of bytes that the call made -/
def OwnY (w : World) (B : Nat) (v : Value) (l : List UInt8) : Prop := w.ownsRow B 5 1 v l.length (l.map bv)
theorem ownY_nil (w : World) (B : Nat) : OwnY w B (.slice none 0 0) [] := World.ownsRow_nil _ _ _ _
theorem OwnY.on {w w' : World} {B : Nat} {v : Value} {l : List UInt8} (h : OwnY w B v l) (hb : Below w.heap.size w w') : OwnY w' B v l := own_on2 h hb
theorem OwnY.mono {w : World} {B B' : Nat} {v : Value} {l : List UInt8} (h : OwnY w B v l) (hB : B' ≤ B) : OwnY w B' v l := own_mono h hB
theorem OwnY.any {w : World} {B : Nat} {v : Value} {l : List UInt8} (h : OwnY w B v l) : ∃ a c, v = .slice a l.length c := own_any h
theorem byv_one (l : List UInt8) : ∀ u ∈ l.map bv, u.oneCell' = true := by
  intro u hu
  obtain ⟨b, _, rfl⟩ := List.mem_map.1 hu
  rfl
theorem strCells_bv (s : ByteArray) : Lib.strCells s = s.data.toList.map bv := rfl
theorem by_app {B : Nat} {X : World} {v : Value} {l : List UInt8} (h : OwnY X B v l) (bs : List UInt8) (m : Nat) (hm : bs.length = m) (hl : l.length + m ≤ 1000000000) (hB : B ≤ X.heap.size) :
    ∃ v' w', (Builtin.append_ #[59, 59] 59 #[v, .slice (some ⟨X.heap.size, 0, none⟩) m m]).run Tryd.prog (X.alloc (.cells (bs.map bv).toArray 5)) = .ok v' w' ∧ OwnY w' B v' (l ++ bs) ∧ Below B X w' ∧ (∀ {B' : Nat} {e : TypeId} {sz : Nat} {v0 : Value} {n0 : Nat} {xs : List Value}, e ≠ 5 → X.ownsRow B' e sz v0 n0 xs → w'.ownsRow B' e sz v0 n0 xs) := by
  obtain ⟨i0, hi, hz0, hz1, hz2⟩ := info_parts Tryd.infoByte
  subst hm
  have hx : Below X.heap.size X (X.alloc (.cells (bs.map bv).toArray 5)) := (Below.refl _ _).alloc (Nat.le_refl _) _
  have h1 := own_on2 h hx
  have hs : B ≤ (X.alloc (.cells (bs.map bv).toArray 5)).heap.size := by simp; omega
  obtain ⟨v', w', hrun, r1, r2, _, _⟩ := run_append_own_at (P := Tryd.prog) (X.alloc (.cells (bs.map bv).toArray 5)) B 59 59 5 i0 (.int .u8 0) 1 1 Tryd.underlying59 hi hz0 hz1 hz2 rfl (by decide) v l.length (l.map bv) h1 ⟨X.heap.size, 0, none⟩ bs.length bs.length (bs.map bv) (by simp) (fun j u hj => new_cells X _ _ j u hj) (byv_one bs) (by unfold maxLen; omega) (by omega) hs
  refine ⟨v', w', hrun, ?_, (hx.mono hB).grown r2 hs (fun z hz => (h1.lt z hz).1), fun hne h0 => ?_⟩
  · unfold OwnY
    rw [List.length_append, List.map_append]
    exact r1
  · have h2 := own_on2 h0 hx
    exact h2.kept r2 (apartO h2 h1 hne)
theorem st_app {B : Nat} {X : World} {v : Value} {l : List UInt8} (h : OwnY X B v l) (s : ByteArray) (hl : l.length + s.size ≤ 1000000000) (hB : B ≤ X.heap.size) :
    ∃ v' w', (Builtin.append_ #[59, 9] 59 #[v, .string s]).run Tryd.prog X = .ok v' w' ∧ OwnY w' B v' (l ++ s.data.toList) ∧ Below B X w' := by
  obtain ⟨i0, hi, hz0, hz1, hz2⟩ := info_parts Tryd.infoByte
  obtain ⟨v', w', hrun, r1, r2, _⟩ := Lib.run_append_own_string (P := Tryd.prog) (w := X) B 59 9 59 5 i0 Tryd.underlying59 Tryd.underlying9 hi hz0 hz1 hz2 v l.length (l.map bv) h s (by unfold maxLen; omega) (by omega) hB
  refine ⟨v', w', hrun, ?_, (Below.refl B X).grown r2 hB (fun z hz => (h.lt z hz).1)⟩
  unfold OwnY
  rw [List.length_append, List.map_append]
  have e : s.data.toList.length = s.size := by simp
  rw [e, ← strCells_bv]
  exact r1
theorem by_app2 {B : Nat} {X : World} {v : Value} {l : List UInt8} (h : OwnY X B v l) (bs : List UInt8) (m : Nat) (cs : Array Value) (g : Nat) (hcs : (bs.map bv).toArray = cs) (hg : X.heap.size = g) (hm : bs.length = m) (hl : l.length + m ≤ 1000000000) (hB : B ≤ X.heap.size) :
    ∃ v' w', (Builtin.append_ #[59, 59] 59 #[v, .slice (some ⟨g, 0, none⟩) m m]).run Tryd.prog (X.alloc (.cells cs 5)) = .ok v' w' ∧ OwnY w' B v' (l ++ bs) ∧ Below B X w' ∧ (∀ {B' : Nat} {e : TypeId} {sz : Nat} {v0 : Value} {n0 : Nat} {xs : List Value}, e ≠ 5 → X.ownsRow B' e sz v0 n0 xs → w'.ownsRow B' e sz v0 n0 xs) := by
  subst hcs hg
  exact by_app h bs m hm hl hB
theorem nums_own {w : World} {g B : Nat} (q : Pq) (h : w.heap[g]? = some (.cells #[.int .i64 q.a, .int .i64 q.b, .int .i64 q.c, .int .i64 q.d] 3 (0, 0))) (hB : B ≤ g) (n : Nat) (hn : n ≤ 4) : w.ownsRow B 3 1 (.slice (some ⟨g, 0, none⟩) n 4) n (intCells ((nums4 q).take n)) := by
  refine ⟨by simp [intCells, nums4]; omega, .inr ⟨g, 4, _, rfl, hB, h, hn, by unfold maxLen; omega, rfl, ?_⟩⟩
  rcases (show n = 0 ∨ n = 1 ∨ n = 2 ∨ n = 3 ∨ n = 4 by omega) with rfl | rfl | rfl | rfl | rfl <;> rfl
end Go.Proofs.YtfhfedcamcpceaaDoor
