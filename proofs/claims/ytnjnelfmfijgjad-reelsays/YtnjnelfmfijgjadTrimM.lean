/- Trimmed frames, as numbers. -/
import Derived.Test.YtnjnelfmfijgjadFrC
namespace Go.Proofs.Ytnjnelfmfijgjad
open Go.RowKit

def Pf.like (a b : Pf) : Prop := a.W = b.W ∧ a.H = b.H ∧ a.ps = b.ps
instance (a b : Pf) : Decidable (a.like b) := by unfold Pf.like; infer_instance
def lastF (out : List Pf) : Pf := out.getD (out.length - 1) pf0
def Pf.more (a : Pf) (d : Int) : Pf := ⟨a.W, a.H, a.ps, a.d + d⟩

/-- one frame more -/
def trimStep (out : List Pf) (f : Pf) : List Pf :=
  if f.d = 0 then out else if out ≠ [] ∧ (lastF out).like f then out.set (out.length - 1) ((lastF out).more f.d) else out ++ [f]
def trimC (fs : List Pf) : List Pf := fs.foldl trimStep []

theorem trimC_next {fs : List Pf} {k : Nat} (h : k < fs.length) : trimC (fs.take (k + 1)) = trimStep (trimC (fs.take k)) (fs.getD k pf0) := by
  rw [take_next h]
  simp [trimC, List.foldl_append]

abbrev Key := Int × Int × List (Int × Int)
def Pf.key (f : Pf) : Key := (f.W, f.H, f.ps)
def expandF (fs : List Pf) : List Key := fs.flatMap fun f => List.replicate f.d.toNat f.key

theorem expand_app (a b : List Pf) : expandF (a ++ b) = expandF a ++ expandF b := by simp [expandF]
theorem expand_one (f : Pf) : expandF [f] = List.replicate f.d.toNat f.key := by simp [expandF]

theorem last_cases (out : List Pf) (h : out ≠ []) : ∃ a l, out = a ++ [l] ∧ lastF out = l ∧ ∀ x, out.set (out.length - 1) x = a ++ [x] := by
  refine ⟨out.dropLast, out.getLast h, (List.dropLast_concat_getLast h).symm, ?_, ?_⟩
  · unfold lastF
    rw [List.getD_eq_getElem?_getD, ← List.getLast?_eq_getElem?, List.getLast?_eq_some_getLast h]
    rfl
  · intro x
    have e := (List.dropLast_concat_getLast h).symm
    have hl : out.length = out.dropLast.length + 1 := by
      have := congrArg List.length e
      simpa using this
    have : (out.dropLast ++ [out.getLast h]).set (out.length - 1) x = out.dropLast ++ [x] := by
      rw [List.set_append_right _ _ (by omega)]
      rw [show out.length - 1 - out.dropLast.length = 0 by omega]
      rfl
    rw [List.dropLast_concat_getLast h] at this
    exact this

theorem step_expand (out : List Pf) (f : Pf) (ho : ∀ g ∈ out, 0 ≤ g.d) (hf : 0 ≤ f.d) : expandF (trimStep out f) = expandF out ++ expandF [f] := by
  unfold trimStep
  by_cases h0 : f.d = 0
  · rw [if_pos h0, expand_one, h0]; simp
  · rw [if_neg h0]
    by_cases h1 : out ≠ [] ∧ (lastF out).like f
    · rw [if_pos h1]
      obtain ⟨a, l, e, hl, hs⟩ := last_cases out h1.1
      have hk := h1.2
      rw [hs, hl]
      rw [hl] at hk
      have hld : 0 ≤ l.d := ho l (by rw [e]; simp)
      rw [e, expand_app, expand_app, List.append_assoc]
      congr 1
      rw [expand_one, expand_one, expand_one]
      have e1 : (l.more f.d).key = l.key := rfl
      have e2 : f.key = l.key := by obtain ⟨k1, k2, k3⟩ := hk; unfold Pf.key; rw [k1, k2, k3]
      have e3 : (l.more f.d).d.toNat = l.d.toNat + f.d.toNat := by unfold Pf.more; simp only; omega
      rw [e1, e2, e3, ← List.replicate_append_replicate]
    · rw [if_neg h1, expand_app]

/-- what holds of trimmed frames -/
structure TrimI (out : List Pf) : Prop where
  low : ∀ g ∈ out, 1 ≤ g.d
  adj : ∀ i, i + 1 < out.length → ¬ (out.getD i pf0).like (out.getD (i + 1) pf0)

theorem getD_app_left (a b : List Pf) (i : Nat) (h : i < a.length) : (a ++ b).getD i pf0 = a.getD i pf0 := by
  simp [List.getD_eq_getElem?_getD, List.getElem?_append_left h]
theorem getD_app_last (a : List Pf) (x : Pf) : (a ++ [x]).getD a.length pf0 = x := by
  simp [List.getD_eq_getElem?_getD]

theorem step_inv (out : List Pf) (f : Pf) (hf : 0 ≤ f.d) (hi : TrimI out) : TrimI (trimStep out f) := by
  unfold trimStep
  by_cases h0 : f.d = 0
  · rw [if_pos h0]; exact hi
  · rw [if_neg h0]
    by_cases h1 : out ≠ [] ∧ (lastF out).like f
    · rw [if_pos h1]
      obtain ⟨a, l, e, hl, hs⟩ := last_cases out h1.1
      rw [hs, hl]
      refine ⟨?_, ?_⟩
      · intro g hg
        rcases List.mem_append.1 hg with h | h
        · exact hi.low g (by rw [e]; simp [h])
        · simp at h
          subst h
          have := hi.low l (by rw [e]; simp)
          unfold Pf.more
          simp only
          omega
      · intro i hlt
        have hadj := hi.adj i (by rw [e]; simpa using hlt)
        rw [e] at hadj
        simp only [List.length_append, List.length_cons, List.length_nil] at hlt
        rcases Nat.lt_or_ge (i + 1) a.length with h | h
        · rw [getD_app_left _ _ _ (by omega), getD_app_left _ _ _ h] at hadj ⊢
          exact hadj
        · have : i + 1 = a.length := by omega
          rw [getD_app_left _ _ _ (by omega), this, getD_app_last] at hadj ⊢
          exact hadj
    · rw [if_neg h1]
      refine ⟨?_, ?_⟩
      · intro g hg
        rcases List.mem_append.1 hg with h | h
        · exact hi.low g h
        · simp at h
          subst h
          omega
      · intro i hlt
        simp only [List.length_append, List.length_cons, List.length_nil] at hlt
        rcases Nat.lt_or_ge (i + 1) out.length with h | h
        · rw [getD_app_left _ _ _ (by omega), getD_app_left _ _ _ h]
          exact hi.adj i h
        · have h2 : i + 1 = out.length := by omega
          rw [getD_app_left _ _ _ (by omega), h2, getD_app_last]
          intro hk
          refine h1 ⟨by intro e; rw [e] at h2; simp at h2, ?_⟩
          unfold lastF
          rw [← h2]
          exact hk

theorem trim_inv (fs : List Pf) (hl : ∀ f ∈ fs, 0 ≤ f.d) : ∀ k, k ≤ fs.length → TrimI (trimC (fs.take k)) ∧ expandF (trimC (fs.take k)) = expandF (fs.take k)
  | 0, _ => by
    refine ⟨⟨?_, ?_⟩, ?_⟩ <;> simp [trimC, expandF]
  | k + 1, h => by
    obtain ⟨i1, i2⟩ := trim_inv fs hl k (by omega)
    have hd := hl _ (getD_mem (fs := fs) (k := k) (by omega))
    rw [trimC_next (by omega)]
    refine ⟨step_inv _ _ hd i1, ?_⟩
    rw [step_expand _ _ (fun g hg => by have := i1.low g hg; omega) hd, i2, take_next (by omega), expand_app]

theorem trim_good (fs : List Pf) (hl : ∀ f ∈ fs, 0 ≤ f.d) : TrimI (trimC fs) ∧ expandF (trimC fs) = expandF fs := by
  have := trim_inv fs hl fs.length (Nat.le_refl _)
  rwa [List.take_length] at this

theorem len_expand : ∀ fs : List Pf, (∀ f ∈ fs, 0 ≤ f.d) → lenF fs = ((expandF fs).length : Int)
  | [], _ => by simp [lenF, expandF]
  | f :: r, h => by
    have h1 := h f (by simp)
    have h2 := len_expand r (fun g hg => h g (by simp [hg]))
    have e : expandF (f :: r) = List.replicate f.d.toNat f.key ++ expandF r := by simp [expandF]
    rw [e, lenF, h2]
    simp
    omega

theorem trim_len (fs : List Pf) (hl : ∀ f ∈ fs, 0 ≤ f.d) : lenF (trimC fs) = lenF fs := by
  obtain ⟨h1, h2⟩ := trim_good fs hl
  rw [len_expand _ hl, len_expand _ (fun g hg => by have := h1.low g hg; omega), h2]

theorem step_mem {out : List Pf} {f g : Pf} (P : List (Int × Int) → Prop) (ho : ∀ x ∈ out, P x.ps) (hf : P f.ps) (h : g ∈ trimStep out f) : P g.ps := by
  unfold trimStep at h
  split at h
  · exact ho g h
  · split at h
    · rename_i h1
      obtain ⟨a, l, e, hl, hs⟩ := last_cases out h1.1
      rw [hs, hl] at h
      rcases List.mem_append.1 h with h | h
      · exact ho g (by rw [e]; simp [h])
      · simp at h
        subst h
        exact ho l (by rw [e]; simp)
    · rcases List.mem_append.1 h with h | h
      · exact ho g h
      · simp at h
        subst h
        exact hf
theorem step_length (out : List Pf) (f : Pf) : (trimStep out f).length ≤ out.length + 1 := by
  unfold trimStep
  split
  · omega
  · split <;> simp
theorem trim_small (fs : List Pf) (P : List (Int × Int) → Prop) (hP : ∀ f ∈ fs, P f.ps) : ∀ k, k ≤ fs.length → (trimC (fs.take k)).length ≤ k ∧ ∀ g ∈ trimC (fs.take k), P g.ps
  | 0, _ => by simp [trimC]
  | k + 1, h => by
    obtain ⟨i1, i2⟩ := trim_small fs P hP k (by omega)
    rw [trimC_next (by omega)]
    refine ⟨Nat.le_trans (step_length _ _) (by omega), fun g hg => step_mem P i2 (hP _ (getD_mem (by omega))) hg⟩

theorem goodF_trim {fs : List Pf} (h : GoodF fs) : GoodF (trimC fs) := by
  obtain ⟨h1, h2⟩ := trim_good fs h.low
  have h3 := trim_small fs (fun ps => ps.length ≤ 80) h.pix fs.length (Nat.le_refl _)
  rw [List.take_length] at h3
  exact ⟨fun f hf => by have := h1.low f hf; omega, by rw [trim_len fs h.low]; exact h.up, Nat.le_trans h3.1 h.many, h3.2⟩

theorem trim_again {t : List Pf} (h : TrimI t) : ∀ k, k ≤ t.length → trimC (t.take k) = t.take k
  | 0, _ => by simp [trimC]
  | k + 1, hk => by
    rw [trimC_next (by omega), trim_again h k (by omega), take_next (by omega)]
    unfold trimStep
    have hd := h.low _ (getD_mem (fs := t) (k := k) (by omega))
    rw [if_neg (by omega), if_neg]
    rintro ⟨h1, h2⟩
    have hk0 : k ≠ 0 := by intro e; subst e; simp at h1
    refine h.adj (k - 1) (by omega) ?_
    rw [show k - 1 + 1 = k by omega]
    have e : lastF (t.take k) = t.getD (k - 1) pf0 := by
      unfold lastF
      rw [List.length_take, Nat.min_eq_left (by omega)]
      simp [List.getD_eq_getElem?_getD, List.getElem?_take_of_lt (show k - 1 < k by omega)]
    rw [e] at h2
    exact h2
theorem trim_twice {fs : List Pf} (h : GoodF fs) : trimC (trimC fs) = trimC fs := by
  have := trim_again (trim_good fs h.low).1 (trimC fs).length (Nat.le_refl _)
  rwa [List.take_length] at this

theorem atF_key : ∀ (fs : List Pf) (m : Int) (i : Nat), 0 ≤ m → (∀ f ∈ fs, 0 ≤ f.d) →
    (m < lenF fs ∧ ∃ j, atF fs m i = ((i + j : Nat) : Int) ∧ j < fs.length ∧ (expandF fs)[m.toNat]? = some (fs.getD j pf0).key) ∨ (¬ m < lenF fs ∧ atF fs m i = -1)
  | [], m, i, hm, _ => .inr ⟨by simp [lenF]; omega, rfl⟩
  | f :: r, m, i, hm, h => by
    have h1 := h f (by simp)
    have e : expandF (f :: r) = List.replicate f.d.toNat f.key ++ expandF r := by simp [expandF]
    have h0 := lenF_nonneg r (fun g hg => h g (by simp [hg]))
    simp only [atF, lenF]
    by_cases hd : m < f.d
    · rw [if_pos hd]
      refine .inl ⟨by omega, 0, by simp, by simp, ?_⟩
      rw [e, List.getElem?_append_left (by simp; omega), List.getElem?_replicate, if_pos (by omega)]
      rfl
    · rw [if_neg hd]
      rcases atF_key r (m - f.d) (i + 1) (by omega) (fun g hg => h g (by simp [hg])) with ⟨g1, j, g2, g3, g4⟩ | ⟨g1, g2⟩
      · refine .inl ⟨by omega, j + 1, by rw [g2]; congr 1; omega, by simpa using g3, ?_⟩
        rw [e, List.getElem?_append_right (by simp; omega)]
        simp only [List.length_replicate]
        rw [show m.toNat - f.d.toNat = (m - f.d).toNat by omega, g4]
        rfl
      · exact .inr ⟨by omega, g2⟩

/-- at each moment the same is seen -/
theorem trim_at {fs : List Pf} (h : GoodF fs) (m : Int) :
    (0 ≤ m ∧ m < lenF fs ∧ ∃ a b : Nat, atC fs m = (a : Int) ∧ atC (trimC fs) m = (b : Int) ∧ a < fs.length ∧ b < (trimC fs).length ∧ (fs.getD a pf0).like ((trimC fs).getD b pf0)) ∨
    (¬ (0 ≤ m ∧ m < lenF fs) ∧ atC fs m = -1 ∧ atC (trimC fs) m = -1) := by
  unfold atC
  by_cases hm : m < 0
  · rw [if_pos hm, if_pos hm]
    exact .inr ⟨by omega, rfl, rfl⟩
  · rw [if_neg hm, if_neg hm]
    have ht := goodF_trim h
    have hl := trim_len fs h.low
    rcases atF_key fs m 0 (by omega) h.low with ⟨g1, j, g2, g3, g4⟩ | ⟨g1, g2⟩
    · rcases atF_key (trimC fs) m 0 (by omega) ht.low with ⟨k1, i, k2, k3, k4⟩ | ⟨k1, k2⟩
      · refine .inl ⟨by omega, g1, j, i, by rw [g2]; simp, by rw [k2]; simp, g3, k3, ?_⟩
        rw [(trim_good fs h.low).2, g4] at k4
        have e := Option.some.inj k4
        unfold Pf.key at e
        simp only [Prod.mk.injEq] at e
        exact e
      · omega
    · rcases atF_key (trimC fs) m 0 (by omega) ht.low with ⟨k1, i, k2, k3, k4⟩ | ⟨k1, k2⟩
      · omega
      · exact .inr ⟨by omega, g2, k2⟩
end Go.Proofs.Ytnjnelfmfijgjad
