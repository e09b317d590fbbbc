/- Plain functions and lemmas: chunks one behind the other. -/
import Derived.Test.YtjoggjjkafamlabChunkM2
namespace Go.Proofs.Ytjoggjjkafamlab
namespace Fb

/-- All's answer: chunks, and the number of the error; f: no more rounds than that; n: how many were read -/
def allL (most : Int) : Nat → List UInt8 → Nat → List (List UInt8 × List UInt8) × Nat
  | 0, _, _ => ([], 0)
  | f + 1, l, n =>
    if l = [] then ([], 0) else if most ≤ (n : Int) then ([], 2) else if (measureL l).2 ≠ 0 then ([], (measureL l).2)
    else if (allL most f (l.drop (measureL l).1) (n + 1)).2 ≠ 0 then ([], (allL most f (l.drop (measureL l).1) (n + 1)).2)
    else ((l.take 4, ((l.take (measureL l).1).drop 6).take ((measureL l).1 - 8)) :: (allL most f (l.drop (measureL l).1) (n + 1)).1, 0)

theorem measure_pos {l : List UInt8} (h : (measureL l).2 = 0) : 8 ≤ (measureL l).1 ∧ (measureL l).1 ≤ l.length := by
  unfold measureL at h ⊢
  split at h
  · simp at h
  · split at h
    · simp at h
    · split at h
      · rename_i h1 h2 h3
        rw [if_neg h1, if_neg h2, if_pos h3]
        have : 6 ≤ endL l := by unfold endL; omega
        simp only
        omega
      · simp at h

theorem allL_fuel (most : Int) : ∀ (f : Nat) (l : List UInt8) (n : Nat), l.length ≤ f → allL most f l n = allL most l.length l n := by
  intro f
  induction f using Nat.strongRecOn with
  | _ f ih =>
    intro l n hl
    match f, hl, ih with
    | 0, hl, _ => rw [show l.length = 0 by omega]
    | f + 1, hl, ih =>
      cases hll : l with
      | nil => simp [allL]
      | cons x r =>
        rw [← hll]
        have hlen : l.length = r.length + 1 := by rw [hll]; rfl
        rw [hlen, allL, allL]
        by_cases hm : (measureL l).2 = 0
        · obtain ⟨h8, hle⟩ := measure_pos hm
          have hd : (l.drop (measureL l).1).length ≤ r.length := by rw [List.length_drop]; omega
          rw [ih f (by omega) _ (n + 1) (by omega), ih r.length (by omega) _ (n + 1) hd]
        · simp [hm]

/-- what has been read, and the rest's answer -/
def comb (cs : List (List UInt8 × List UInt8)) (r : List (List UInt8 × List UInt8) × Nat) : List (List UInt8 × List UInt8) × Nat :=
  if r.2 ≠ 0 then ([], r.2) else (cs ++ r.1, 0)

/-- All's answer of all bytes -/
def allOf (most : Int) (l : List UInt8) (n : Nat) : List (List UInt8 × List UInt8) × Nat := allL most l.length l n

theorem allOf_nil (most : Int) (n : Nat) : allOf most [] n = ([], 0) := rfl
theorem allOf_many (most : Int) (l : List UInt8) (n : Nat) (h : l ≠ []) (hm : most ≤ (n : Int)) : allOf most l n = ([], 2) := by
  unfold allOf
  cases l with
  | nil => exact absurd rfl h
  | cons x r => rw [List.length_cons, allL, if_neg (by simp), if_pos hm]
theorem allOf_err (most : Int) (l : List UInt8) (n : Nat) (h : l ≠ []) (hm : ¬ most ≤ (n : Int)) (he : (measureL l).2 ≠ 0) : allOf most l n = ([], (measureL l).2) := by
  unfold allOf
  cases l with
  | nil => exact absurd rfl h
  | cons x r => rw [List.length_cons, allL, if_neg (by simp), if_neg hm, if_pos he]
theorem allOf_step (most : Int) (l : List UInt8) (n : Nat) (h : l ≠ []) (hm : ¬ most ≤ (n : Int)) (he : (measureL l).2 = 0) :
    allOf most l n = comb [(l.take 4, ((l.take (measureL l).1).drop 6).take ((measureL l).1 - 8))] (allOf most (l.drop (measureL l).1) (n + 1)) := by
  obtain ⟨h8, hle⟩ := measure_pos he
  unfold allOf comb
  cases hll : l with
  | nil => exact absurd hll h
  | cons x r =>
    rw [← hll]
    have hlen : l.length = r.length + 1 := by rw [hll]; rfl
    rw [hlen, allL, if_neg h, if_neg hm, if_neg (by omega)]
    rw [allL_fuel most r.length _ (n + 1) (by rw [List.length_drop]; omega)]
    rfl

theorem comb_comb (a b : List (List UInt8 × List UInt8)) (r : List (List UInt8 × List UInt8) × Nat) : comb a (comb b r) = comb (a ++ b) r := by
  unfold comb
  by_cases h : r.2 = 0
  · simp [h]
  · simp [h]

theorem allL_err (most : Int) (f : Nat) (l : List UInt8) (n : Nat) (h : (allL most f l n).2 ≠ 0) : (allL most f l n).1 = [] := by
  cases f with
  | zero => rfl
  | succ f =>
    rw [allL] at h ⊢
    by_cases h1 : l = []
    · simp [h1]
    · rw [if_neg h1] at h ⊢
      by_cases h2 : most ≤ (n : Int)
      · simp [h2]
      · rw [if_neg h2] at h ⊢
        by_cases h3 : (measureL l).2 = 0
        · rw [if_neg (by omega)] at h ⊢
          by_cases h4 : (allL most f (l.drop (measureL l).1) (n + 1)).2 = 0
          · rw [if_neg (by omega)] at h; simp at h
          · rw [if_pos h4]
        · rw [if_pos h3]

theorem comb_nil (most : Int) (l : List UInt8) (n : Nat) : comb [] (allOf most l n) = allOf most l n := by
  unfold comb
  by_cases h : (allOf most l n).2 = 0
  · rw [if_neg (by omega), List.nil_append, ← h]
  · rw [if_pos h]
    have := allL_err most l.length l n h
    unfold allOf
    rw [← this]

/-- the bytes of chunks one behind the other -/
def catL : List (List UInt8 × List UInt8) → List UInt8
  | [] => []
  | (n, d) :: r => sealL (headL n d) ++ catL r

theorem allOf_cat (most : Int) (cs : List (List UInt8 × List UInt8)) : ∀ n : Nat, (∀ p ∈ cs, nameB p.1 = true ∧ p.2.length ≤ 65535) →
    allOf most (catL cs) n = if cs = [] ∨ ((n : Int) + cs.length ≤ most) then (cs, 0) else ([], 2) := by
  induction cs with
  | nil => intro n _; simp [catL, allOf_nil]
  | cons p r ih =>
    intro n hp
    obtain ⟨nm, d⟩ := p
    obtain ⟨hn, hd⟩ := hp (nm, d) (by simp)
    simp only at hn hd
    have ih2 := ih (n + 1) (fun q hq => hp q (by simp [hq]))
    have hne : catL ((nm, d) :: r) ≠ [] := by
      intro e
      have := congrArg List.length e
      simp only [catL, List.length_append, sealL_len, List.length_nil] at this
      omega
    by_cases hm : most ≤ (n : Int)
    · rw [allOf_many _ _ _ hne hm, if_neg]
      intro h
      rcases h with h | h
      · cases h
      · simp only [List.length_cons] at h; omega
    · have hms := measure_seal nm d (catL r) hn hd
      have hfs := first_seal nm d (catL r) hn hd
      rw [allOf_step _ _ _ hne hm (by simp only [catL]; rw [hms])]
      unfold firstL at hfs
      rw [hms] at hfs
      simp only [if_true, Prod.mk.injEq] at hfs
      simp only [catL]
      rw [hms]
      simp only
      rw [hfs.1, hfs.2.1, hfs.2.2.1, ih2]
      unfold comb
      by_cases hr : r = [] ∨ ((n : Int) + 1 + r.length ≤ most)
      · have h1 : r = [] ∨ (((n + 1 : Nat) : Int) + r.length ≤ most) := by rcases hr with h | h; exact .inl h; right; omega
        have h2 : (nm, d) :: r = [] ∨ ((n : Int) + ((nm, d) :: r).length ≤ most) := by
          right
          rcases hr with h | h
          · subst h; simp; omega
          · simp only [List.length_cons]; omega
        rw [if_pos h1, if_pos h2]
        simp
      · have h1 : ¬ (r = [] ∨ (((n + 1 : Nat) : Int) + r.length ≤ most)) := by
          intro h; apply hr; rcases h with h | h; exact .inl h; right; omega
        have h2 : ¬ ((nm, d) :: r = [] ∨ ((n : Int) + ((nm, d) :: r).length ≤ most)) := by
          intro h
          rcases h with h | h
          · cases h
          · apply hr; right; simp only [List.length_cons] at h; omega
        rw [if_neg h1, if_neg h2]
        simp

end Fb
end Go.Proofs.Ytjoggjjkafamlab
