/- Plain functions and lemmas: guesses, what is told of a row, and a row restored (no Go in here). -/
import Derived.Test.YtnjnelfmfijgjaePackM2
namespace Go.Proofs.Ytnjnelfmfijgjae
namespace Fb

def leftB (row : List UInt8) (i : Nat) : UInt8 := if i < 2 then 0 else row.getD (i - 2) 0
def guessB (way : Nat) (row above : List UInt8) (i : Nat) : UInt8 :=
  if way = 1 then leftB row i else if way = 2 then above.getD i 0 else if way = 3 then UInt8.ofNat (((leftB row i).toNat + (above.getD i 0).toNat) / 2) else 0

/-- the first n bytes told in a way -/
def tellTo (way : Nat) (row above : List UInt8) : Nat → List UInt8
  | 0 => []
  | n + 1 => tellTo way row above n ++ [row.getD n 0 - guessB way row above n]
def tellL (way : Nat) (row above : List UInt8) : List UInt8 := tellTo way row above row.length

theorem tellTo_len (way : Nat) (row above : List UInt8) : ∀ n, (tellTo way row above n).length = n
  | 0 => rfl
  | n + 1 => by simp [tellTo, tellTo_len way row above n]

/-- the first n bytes restored -/
def restTo (way : Nat) (told above : List UInt8) : Nat → List UInt8
  | 0 => []
  | n + 1 => restTo way told above n ++ [told.getD n 0 + guessB way (restTo way told above n) above n]
def restL (way : Nat) (told above : List UInt8) : List UInt8 := restTo way told above told.length

theorem restTo_len (way : Nat) (told above : List UInt8) : ∀ n, (restTo way told above n).length = n
  | 0 => rfl
  | n + 1 => by simp [restTo, restTo_len way told above n]

theorem getD_app (a b : List UInt8) (k : Nat) (h : k < a.length) : (a ++ b).getD k 0 = a.getD k 0 := by
  rw [List.getD_eq_getElem?_getD, List.getElem?_append_left h, ← List.getD_eq_getElem?_getD]

/-- a guess at i looks only at what is ahead of i -/
theorem guess_ahead (way : Nat) (a b above : List UInt8) (i : Nat) (h : ∀ j, j < i → a.getD j 0 = b.getD j 0) : guessB way a above i = guessB way b above i := by
  have hl : leftB a i = leftB b i := by
    unfold leftB
    by_cases h2 : i < 2
    · simp [h2]
    · simp only [h2, if_false]; exact h (i - 2) (by omega)
  unfold guessB
  rw [hl]

theorem take_succ_getD (l : List UInt8) (n : Nat) (h : n < l.length) : l.take (n + 1) = l.take n ++ [l.getD n 0] := by
  rw [List.take_succ_eq_append_getElem h]
  simp only [List.getD_eq_getElem?_getD, List.getElem?_eq_getElem h]
  rfl

theorem getD_take (l : List UInt8) (n j : Nat) (h : j < n) : (l.take n).getD j 0 = l.getD j 0 := by
  rw [List.getD_eq_getElem?_getD, List.getElem?_take, if_pos h, ← List.getD_eq_getElem?_getD]

theorem tell_getD (way : Nat) (row above : List UInt8) : ∀ n j, j < n → (tellTo way row above n).getD j 0 = row.getD j 0 - guessB way row above j := by
  intro n
  induction n with
  | zero => intro j h; omega
  | succ n ih =>
    intro j h
    simp only [tellTo]
    by_cases hj : j < n
    · rw [getD_app _ _ _ (by rw [tellTo_len]; exact hj)]; exact ih j hj
    · have : j = n := by omega
      subst this
      rw [List.getD_eq_getElem?_getD, List.getElem?_append_right (by rw [tellTo_len]; omega), tellTo_len]
      simp

theorem rest_tell (way : Nat) (row above : List UInt8) : ∀ n, n ≤ row.length → restTo way (tellL way row above) above n = row.take n := by
  intro n
  induction n with
  | zero => intro _; simp [restTo]
  | succ n ih =>
    intro h
    have hr := ih (by omega)
    simp only [restTo]
    rw [hr, take_succ_getD row n (by omega)]
    congr 1
    have hg : guessB way (row.take n) above n = guessB way row above n := guess_ahead way _ _ above n (fun j hj => getD_take row n j hj)
    rw [hg]
    unfold tellL
    rw [tell_getD way row above row.length n (by omega)]
    simp

theorem restL_tellL (way : Nat) (row above : List UInt8) : restL way (tellL way row above) above = row := by
  unfold restL
  have hl : (tellL way row above).length = row.length := tellTo_len way row above row.length
  rw [hl, rest_tell way row above _ (Nat.le_refl _), List.take_of_length_le (Nat.le_refl _)]

/-- of the ways from k on the one that is packed shortest (the first of several), f ways are left -/
def bestTo (row above : List UInt8) : Nat → Nat
  | 0 => 0
  | k + 1 => if (packL (tellL k row above)).length < (packL (tellL (bestTo row above k) row above)).length ∧ k ≠ 0 then k else bestTo row above k
def bestW (row above : List UInt8) : Nat := bestTo row above 4
theorem bestTo_lt (row above : List UInt8) : ∀ k, bestTo row above k ≤ k - 1
  | 0 => by simp [bestTo]
  | k + 1 => by
    have := bestTo_lt row above k
    simp only [bestTo]
    split <;> omega
theorem bestW_lt (row above : List UInt8) : bestW row above < 4 := by have := bestTo_lt row above 4; unfold bestW; omega

/-- what is told of a row, the way ahead -/
def shortL (row above : List UInt8) : List UInt8 := UInt8.ofNat (bestW row above) :: tellL (bestW row above) row above

theorem shortL_len (row above : List UInt8) : (shortL row above).length = 1 + row.length := by
  unfold shortL tellL; simp [tellTo_len]; omega

end Fb
end Go.Proofs.Ytnjnelfmfijgjae
