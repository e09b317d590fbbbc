/- Pictures as lists: what is added and put. -/
import Derived.Test.YtkmolifgfbaboaaDoorChangeM
namespace Go.Proofs.YtkmolifgfbaboaaDoor
open Go.RowKit

theorem ch_len (f : Int × Int → Int × Int → Int × Int) (PW : Nat) (ps : List (Int × Int)) (QW QH : Nat) (qs : List (Int × Int)) (x y a b c d : Int) : (chL f PW ps QW QH qs x y a b c d).length = ps.length := grid_len _ _ _ _ _
theorem ch_getD (f : Int × Int → Int × Int → Int × Int) (PW : Nat) (ps : List (Int × Int)) (QW QH : Nat) (qs : List (Int × Int)) (x y a b c d : Int) (k : Nat) (hk : k < ps.length) :
    (chL f PW ps QW QH qs x y a b c d).getD k (0, 0) = if (hasB a b c d ((k % PW : Nat) : Int) ((k / PW : Nat) : Int) && hasB x y (QW : Int) (QH : Int) ((k % PW : Nat) : Int) ((k / PW : Nat) : Int)) = true then gq f PW ps QW qs x y k else ps.getD k (0, 0) := grid_getD _ _ _ _ _ _ hk
theorem getD_ok (ps : List (Int × Int)) (h : ∀ k, k < ps.length → pixOk (ps.getD k (0, 0))) (k : Nat) : pixOk (ps.getD k (0, 0)) := by
  by_cases hk : k < ps.length
  · exact h k hk
  · rw [List.getD_eq_getElem?_getD, List.getElem?_eq_none (by omega)]
    unfold pixOk; simp
theorem check_of (PW PH : Nat) (ps : List (Int × Int)) (h1 : 1 ≤ PW) (h2 : PW ≤ 8) (h3 : 1 ≤ PH) (h4 : PH ≤ 8) (hl : ps.length = PW * PH) (hok : ∀ k, k < ps.length → pixOk (ps.getD k (0, 0))) : checkL (PW : Int) (PH : Int) ps = 0 := by
  unfold checkL
  have hw : sideB (PW : Int) = true := by unfold sideB; simp; omega
  have hh : sideB (PH : Int) = true := by unfold sideB; simp; omega
  rw [if_neg (by simp [hw, hh]), if_neg (by rw [hl]; simp)]
  rw [if_pos]
  rw [List.all_eq_true]
  intro p hp
  obtain ⟨k, hk, he⟩ := List.getElem_of_mem hp
  have := hok k hk
  rw [List.getD_eq_getElem?_getD, List.getElem?_eq_getElem hk, Option.getD_some, he] at this
  unfold okPix shadeB
  unfold pixOk at this
  simp only [Bool.and_eq_true, decide_eq_true_eq]
  omega
theorem ch_check (f : Int × Int → Int × Int → Int × Int) (hf : ∀ p q, pixOk p → pixOk q → pixOk (f p q)) (PW PH : Nat) (ps : List (Int × Int)) (QW QH : Nat) (qs : List (Int × Int)) (x y a b c d : Int) (hp : checkL (PW : Int) (PH : Int) ps = 0) (hq : checkL (QW : Int) (QH : Int) qs = 0) :
    checkL (PW : Int) (PH : Int) (chL f PW ps QW QH qs x y a b c d) = 0 := by
  obtain ⟨PW', PH', e1, e2, h1, h2, h3, h4, hl, hok⟩ := check_zero _ _ _ hp
  obtain rfl : PW' = PW := by omega
  obtain rfl : PH' = PH := by omega
  obtain ⟨_, _, _, _, _, _, _, _, _, qok⟩ := check_zero _ _ _ hq
  refine check_of _ _ _ h1 h2 h3 h4 (by rw [ch_len]; exact hl) (fun k hk => ?_)
  rw [ch_len] at hk
  rw [ch_getD _ _ _ _ _ _ _ _ _ _ _ _ _ hk]
  split
  · exact hf _ _ (hok k hk) (getD_ok qs qok _)
  · exact hok k hk
theorem add_ok (p q : Int × Int) (_ : pixOk p) (_ : pixOk q) : pixOk (addP p q) := by unfold addP pixOk; simp only; omega
theorem put_ok (p q : Int × Int) (_ : pixOk p) (h : pixOk q) : pixOk ((fun (_ q : Int × Int) => q) p q) := h

theorem list_ext (a b : List (Int × Int)) (hl : a.length = b.length) (h : ∀ k, k < a.length → a.getD k (0, 0) = b.getD k (0, 0)) : a = b := by
  apply List.ext_getElem?
  intro k
  by_cases hk : k < a.length
  · have := h k hk
    rw [List.getD_eq_getElem?_getD, List.getD_eq_getElem?_getD, List.getElem?_eq_getElem hk, List.getElem?_eq_getElem (show k < b.length by omega)] at this
    rw [List.getElem?_eq_getElem hk, List.getElem?_eq_getElem (show k < b.length by omega)]
    exact congrArg some this
  · rw [List.getElem?_eq_none (by omega), List.getElem?_eq_none (by omega)]

theorem add_swap (p q r : Int × Int) : addP (addP p q) r = addP (addP p r) q := by
  unfold addP; simp only [Prod.mk.injEq]; omega
theorem chadd_swap (PW : Nat) (ps : List (Int × Int)) (QW QH : Nat) (qs : List (Int × Int)) (x y : Int) (RW RH : Nat) (rs : List (Int × Int)) (i j a b c d : Int) :
    chL addP PW (chL addP PW ps QW QH qs x y a b c d) RW RH rs i j a b c d = chL addP PW (chL addP PW ps RW RH rs i j a b c d) QW QH qs x y a b c d := by
  apply list_ext
  · simp only [ch_len]
  · intro k hk
    simp only [ch_len] at hk
    have A := ch_getD addP PW (chL addP PW ps QW QH qs x y a b c d) RW RH rs i j a b c d k (by rw [ch_len]; exact hk)
    have B := ch_getD addP PW (chL addP PW ps RW RH rs i j a b c d) QW QH qs x y a b c d k (by rw [ch_len]; exact hk)
    have C := ch_getD addP PW ps QW QH qs x y a b c d k hk
    have D := ch_getD addP PW ps RW RH rs i j a b c d k hk
    unfold gq at A B C D
    rw [A, B, C, D]
    generalize (hasB a b c d ((k % PW : Nat) : Int) ((k / PW : Nat) : Int) && hasB i j (RW : Int) (RH : Int) ((k % PW : Nat) : Int) ((k / PW : Nat) : Int)) = c1
    generalize (hasB a b c d ((k % PW : Nat) : Int) ((k / PW : Nat) : Int) && hasB x y (QW : Int) (QH : Int) ((k % PW : Nat) : Int) ((k / PW : Nat) : Int)) = c2
    cases c1 <;> cases c2 <;> simp [add_swap]

/-- so often added -/
def tmsL (n : Nat) (PW : Nat) (ps : List (Int × Int)) (QW QH : Nat) (qs : List (Int × Int)) (x y a b c d : Int) : List (Int × Int) :=
  chL (fun p q => ((p.1 + (n : Int) * q.1) % 256, (p.2 + (n : Int) * q.2) % 256)) PW ps QW QH qs x y a b c d
theorem tms_add (n : Nat) (p q : Int × Int) : addP ((p.1 + (n : Int) * q.1) % 256, (p.2 + (n : Int) * q.2) % 256) q = ((p.1 + ((n + 1 : Nat) : Int) * q.1) % 256, (p.2 + ((n + 1 : Nat) : Int) * q.2) % 256) := by
  have e : ∀ z : Int, ((n + 1 : Nat) : Int) * z = (n : Int) * z + z := by intro z; rw [Int.natCast_add, Int.add_mul]; simp
  rw [e, e]
  unfold addP
  simp only [Prod.mk.injEq]
  generalize (n : Int) * q.1 = t1
  generalize (n : Int) * q.2 = t2
  omega
theorem tms_step (n : Nat) (PW : Nat) (ps : List (Int × Int)) (QW QH : Nat) (qs : List (Int × Int)) (x y a b c d : Int) :
    chL addP PW (tmsL n PW ps QW QH qs x y a b c d) QW QH qs x y a b c d = tmsL (n + 1) PW ps QW QH qs x y a b c d := by
  apply list_ext
  · simp only [tmsL, ch_len]
  · intro k hk
    simp only [tmsL, ch_len] at hk
    have A := ch_getD addP PW (tmsL n PW ps QW QH qs x y a b c d) QW QH qs x y a b c d k (by unfold tmsL; rw [ch_len]; exact hk)
    have B := ch_getD (fun p q => ((p.1 + (n : Int) * q.1) % 256, (p.2 + (n : Int) * q.2) % 256)) PW ps QW QH qs x y a b c d k hk
    have C := ch_getD (fun p q => ((p.1 + ((n + 1 : Nat) : Int) * q.1) % 256, (p.2 + ((n + 1 : Nat) : Int) * q.2) % 256)) PW ps QW QH qs x y a b c d k hk
    unfold gq at A B C
    rw [A]
    unfold tmsL
    rw [B, C]
    generalize (hasB a b c d ((k % PW : Nat) : Int) ((k / PW : Nat) : Int) && hasB x y (QW : Int) (QH : Int) ((k % PW : Nat) : Int) ((k / PW : Nat) : Int)) = c2
    cases c2
    · simp
    · simp only [if_true]
      exact tms_add n _ _
theorem tms_end (n : Nat) (hn : n = 0 ∨ n = 256) (PW : Nat) (ps : List (Int × Int)) (QW QH : Nat) (qs : List (Int × Int)) (x y a b c d : Int) (hok : ∀ k, k < ps.length → pixOk (ps.getD k (0, 0))) : tmsL n PW ps QW QH qs x y a b c d = ps := by
  apply list_ext
  · simp only [tmsL, ch_len]
  · intro k hk
    simp only [tmsL, ch_len] at hk ⊢
    rw [ch_getD _ _ _ _ _ _ _ _ _ _ _ _ _ hk]
    split
    · have h := hok k hk
      unfold gq
      generalize qs.getD _ (0, 0) = q
      generalize ps.getD k (0, 0) = p at h ⊢
      obtain ⟨p1, p2⟩ := p
      obtain ⟨q1, q2⟩ := q
      unfold pixOk at h
      simp only [Prod.mk.injEq] at h ⊢
      rcases hn with rfl | rfl
      · simp; omega
      · have e : ∀ z : Int, ((256 : Nat) : Int) * z = 256 * z := fun z => rfl
        rw [e, e]
        omega
    · rfl
theorem tms_check (n : Nat) (PW PH : Nat) (ps : List (Int × Int)) (QW QH : Nat) (qs : List (Int × Int)) (x y a b c d : Int) (hp : checkL (PW : Int) (PH : Int) ps = 0) (hq : checkL (QW : Int) (QH : Int) qs = 0) :
    checkL (PW : Int) (PH : Int) (tmsL n PW ps QW QH qs x y a b c d) = 0 :=
  ch_check _ (fun p q _ _ => by
    unfold pixOk; simp only
    generalize (n : Int) * q.1 = t1
    generalize (n : Int) * q.2 = t2
    omega) _ _ _ _ _ _ _ _ _ _ _ _ hp hq
/-- put twice is put once -/
theorem chput_twice (PW : Nat) (ps : List (Int × Int)) (QW QH : Nat) (qs : List (Int × Int)) (x y a b c d : Int) :
    chL (fun _ q => q) PW (chL (fun _ q => q) PW ps QW QH qs x y a b c d) QW QH qs x y a b c d = chL (fun _ q => q) PW ps QW QH qs x y a b c d := by
  apply list_ext
  · simp only [ch_len]
  · intro k hk
    simp only [ch_len] at hk
    have A := ch_getD (fun _ q => q) PW (chL (fun _ q => q) PW ps QW QH qs x y a b c d) QW QH qs x y a b c d k (by rw [ch_len]; exact hk)
    have C := ch_getD (fun _ q => q) PW ps QW QH qs x y a b c d k hk
    unfold gq at A C
    rw [A, C]
    generalize (hasB a b c d ((k % PW : Nat) : Int) ((k / PW : Nat) : Int) && hasB x y (QW : Int) (QH : Int) ((k % PW : Nat) : Int) ((k / PW : Nat) : Int)) = c2
    cases c2 <;> simp
end Go.Proofs.YtkmolifgfbaboaaDoor
