/- What Lay answers, as a list. -/
import Derived.Test.YtkmolifgfbaboaaDoorAddM
import Derived.Test.YtkmolifgfbaboaaDoorLayW
namespace Go.Proofs.YtkmolifgfbaboaaDoor
open Go.RowKit

theorem lay_len (PW : Nat) (ps : List (Int × Int)) (QW QH : Nat) (qs : List (Int × Int)) (x y a b c d : Int) (sh : Bool) : (layL PW ps QW QH qs x y a b c d sh).length = ps.length := by
  unfold layL; cases sh <;> simp [ch_len]
theorem over_ok (p q : Int × Int) (h : pixOk p) (h' : pixOk q) : pixOk ((fun (p q : Int × Int) => Fb.overL q.1 q.2 p.1 p.2) p q) := by
  obtain ⟨p0, p1, p2, p3⟩ := h
  obtain ⟨q0, q1, q2, q3⟩ := h'
  obtain ⟨_, _, r1, r2, r3, r4, _⟩ := Fb.over_bounds q.1 q.2 p.1 p.2 q0 q1 q2 q3 p0 p1 p2 p3
  exact ⟨r3, r4, r2, r1⟩
theorem lay_check (PW PH : Nat) (ps : List (Int × Int)) (QW QH : Nat) (qs : List (Int × Int)) (x y a b c d : Int) (sh : Bool) (hp : checkL (PW : Int) (PH : Int) ps = 0) (hq : checkL (QW : Int) (QH : Int) qs = 0) : checkL (PW : Int) (PH : Int) (layL PW ps QW QH qs x y a b c d sh) = 0 := by
  unfold layL
  cases sh
  · simpa using hp
  · simp only [if_true]
    exact ch_check _ over_ok PW PH ps QW QH qs x y a b c d hp hq

theorem lay_getD (PW : Nat) (ps : List (Int × Int)) (QW QH : Nat) (qs : List (Int × Int)) (x y a b c d : Int) (sh : Bool) (k : Nat) (hk : k < ps.length) :
    (layL PW ps QW QH qs x y a b c d sh).getD k (0, 0) = if (sh && (hasB a b c d ((k % PW : Nat) : Int) ((k / PW : Nat) : Int) && hasB x y (QW : Int) (QH : Int) ((k % PW : Nat) : Int) ((k / PW : Nat) : Int))) = true then gq (fun p q => Fb.overL q.1 q.2 p.1 p.2) PW ps QW qs x y k else ps.getD k (0, 0) := by
  unfold layL
  cases sh
  · simp
  · simp only [if_true, Bool.true_and]
    exact ch_getD _ PW ps QW QH qs x y a b c d k hk
end Go.Proofs.YtkmolifgfbaboaaDoor
