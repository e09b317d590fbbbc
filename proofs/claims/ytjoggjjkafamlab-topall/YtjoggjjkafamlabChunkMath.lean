/- Plain functions on lists of bytes: sums, names and chunks (no Go in here). -/
namespace Go.Proofs.Ytjoggjjkafamlab
namespace Fb

def sumStep (p : Nat × Nat) (x : UInt8) : Nat × Nat := ((p.1 + x.toNat) % 251, (p.2 + (p.1 + x.toNat) % 251) % 251)
def sumL (l : List UInt8) : Nat × Nat := l.foldl sumStep (1, 0)

theorem sumStep_lt (p : Nat × Nat) (x : UInt8) : (sumStep p x).1 < 251 ∧ (sumStep p x).2 < 251 := by
  unfold sumStep; exact ⟨Nat.mod_lt _ (by omega), Nat.mod_lt _ (by omega)⟩

theorem foldl_sum_lt (l : List UInt8) : ∀ p : Nat × Nat, p.1 < 251 → p.2 < 251 → (l.foldl sumStep p).1 < 251 ∧ (l.foldl sumStep p).2 < 251 := by
  induction l with
  | nil => intro p h1 h2; exact ⟨h1, h2⟩
  | cons x l ih => intro p _ _; exact ih _ (sumStep_lt p x).1 (sumStep_lt p x).2

theorem sumL_lt (l : List UInt8) : (sumL l).1 < 251 ∧ (sumL l).2 < 251 := foldl_sum_lt l (1, 0) (by decide) (by decide)

def letter (x : UInt8) : Bool := decide (65 ≤ x.toNat) && decide (x.toNat ≤ 90)
def nameB (l : List UInt8) : Bool := decide (l.length = 4) && l.all letter

/-- two bytes -/
def pairL (a b : Nat) : List UInt8 := [UInt8.ofNat a, UInt8.ofNat b]

/-- a chunk's bytes ahead of its sum -/
def headL (name data : List UInt8) : List UInt8 := name ++ pairL (data.length % 256) (data.length / 256) ++ data
def sealL (l : List UInt8) : List UInt8 := l ++ pairL (sumL l).1 (sumL l).2

/-- Bytes: what is written, and the number of the error -/
def chunkBytes (name data : List UInt8) : List UInt8 × Nat :=
  if nameB name = false then ([], 3) else if 65535 < data.length then ([], 2) else (sealL (headL name data), 0)

/-- where the data of the first chunk end -/
def endL (l : List UInt8) : Nat := 6 + (l.getD 4 0).toNat + 256 * (l.getD 5 0).toNat

/-- measure: how many bytes the first chunk has, and the number of the error -/
def measureL (l : List UInt8) : Nat × Nat :=
  if l.length < 8 ∨ nameB (l.take 4) = false then (0, 4) else if l.length < endL l + 2 then (0, 4)
  else if (l.drop (endL l)).take 2 = pairL (sumL (l.take (endL l))).1 (sumL (l.take (endL l))).2 then (endL l + 2, 0) else (0, 6)

/-- First: name, data, what is behind, and the number of the error -/
def firstL (l : List UInt8) : List UInt8 × List UInt8 × List UInt8 × Nat :=
  if (measureL l).2 = 0 then (l.take 4, ((l.take (measureL l).1).drop 6).take ((measureL l).1 - 8), l.drop (measureL l).1, 0) else ([], [], [], (measureL l).2)

theorem nameB_len {l : List UInt8} (h : nameB l = true) : l.length = 4 := by
  unfold nameB at h; simp at h; exact h.1

end Fb
end Go.Proofs.Ytjoggjjkafamlab
