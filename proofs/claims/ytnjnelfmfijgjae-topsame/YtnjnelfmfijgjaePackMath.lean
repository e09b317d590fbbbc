/- Plain functions and lemmas on lists of bytes: packing by rows of the same byte (no Go in here). -/
namespace Go.Proofs.Ytnjnelfmfijgjae
namespace Fb

/-- what the pairs ahead say, the last pair first -/
def stepR : List (UInt8 × UInt8) → UInt8 → List (UInt8 × UInt8)
  | [], b => [(1, b)]
  | (n, c) :: r, b => if c = b ∧ n.toNat < 255 then (n + 1, c) :: r else (1, b) :: (n, c) :: r

def flat : List (UInt8 × UInt8) → List UInt8
  | [] => []
  | (n, c) :: r => flat r ++ [n, c]

def packR (l : List UInt8) : List (UInt8 × UInt8) := l.foldl stepR []
def packL (l : List UInt8) : List UInt8 := flat (packR l)

def unp : List UInt8 → List UInt8
  | a :: b :: r => List.replicate a.toNat b ++ unp r
  | _ => []

def sz (most : Int) : List UInt8 → Nat → Nat × Nat
  | a :: _ :: r, t => if a = 0 then (0, 4) else if most < (t : Int) + (a.toNat : Int) then (0, 2) else sz most r (t + a.toNat)
  | _, t => (t, 0)

/-- what Unpack's look at all pairs comes to -/
def szAll (l : List UInt8) (most : Int) : Nat × Nat := if l.length % 2 = 1 then (0, 4) else sz most l 0

/-- Unpack: the bytes, and the number of the error -/
def unpack (l : List UInt8) (most : Int) : List UInt8 × Nat := if (szAll l most).2 = 0 then (unp l, 0) else ([], (szAll l most).2)

theorem flat_len (r : List (UInt8 × UInt8)) : (flat r).length = 2 * r.length := by
  induction r with
  | nil => rfl
  | cons p r ih => obtain ⟨n, c⟩ := p; simp [flat, ih]; omega

theorem stepR_len (r : List (UInt8 × UInt8)) (b : UInt8) : (stepR r b).length ≤ r.length + 1 := by
  cases r with
  | nil => simp [stepR]
  | cons p r => obtain ⟨n, c⟩ := p; simp only [stepR]; split <;> simp

theorem foldl_len (l : List UInt8) : ∀ r, (l.foldl stepR r).length ≤ r.length + l.length := by
  induction l with
  | nil => intro r; simp
  | cons b l ih => intro r; have h1 := ih (stepR r b); have h2 := stepR_len r b; simp only [List.foldl_cons, List.length_cons]; omega

theorem packL_len (l : List UInt8) : (packL l).length ≤ 2 * l.length := by
  unfold packL packR
  have := foldl_len l []
  rw [flat_len]; simp at this; omega

theorem packL_even (l : List UInt8) : (packL l).length % 2 = 0 := by unfold packL; rw [flat_len]; omega

theorem unp_snoc (n c : UInt8) : ∀ (k : Nat) (x : List UInt8), x.length = 2 * k → unp (x ++ [n, c]) = unp x ++ List.replicate n.toNat c := by
  intro k
  induction k with
  | zero => intro x hx; have : x = [] := List.eq_nil_of_length_eq_zero (by omega); subst this; simp [unp]
  | succ k ih =>
    intro x hx
    match x, hx with
    | a :: b :: r, hx =>
      have := ih r (by simp at hx; omega)
      simp [unp, this]
    | [], hx => simp at hx
    | [_], hx => simp at hx; omega

def unpR : List (UInt8 × UInt8) → List UInt8
  | [] => []
  | (n, c) :: r => unpR r ++ List.replicate n.toNat c

theorem unp_flat (r : List (UInt8 × UInt8)) : unp (flat r) = unpR r := by
  induction r with
  | nil => rfl
  | cons p r ih => obtain ⟨n, c⟩ := p; simp only [flat, unpR]; rw [unp_snoc n c r.length _ (flat_len r), ih]

theorem succ_toNat (n : UInt8) (h : n.toNat < 255) : (n + 1).toNat = n.toNat + 1 := by
  rw [UInt8.toNat_add]; simp; omega

theorem unpR_step (r : List (UInt8 × UInt8)) (b : UInt8) : unpR (stepR r b) = unpR r ++ [b] := by
  cases r with
  | nil => simp [stepR, unpR]
  | cons p r =>
    obtain ⟨n, c⟩ := p
    simp only [stepR]
    split
    · rename_i h
      obtain ⟨rfl, h2⟩ := h
      simp only [unpR, succ_toNat n h2, List.append_assoc, List.replicate_succ']
    · simp [unpR]

theorem unpR_fold (l : List UInt8) : ∀ r, unpR (l.foldl stepR r) = unpR r ++ l := by
  induction l with
  | nil => intro r; simp
  | cons b l ih => intro r; simp only [List.foldl_cons]; rw [ih, unpR_step]; simp

theorem unp_packL (l : List UInt8) : unp (packL l) = l := by
  unfold packL packR; rw [unp_flat, unpR_fold]; rfl

/-- no pair is of no bytes -/
def full (r : List (UInt8 × UInt8)) : Prop := ∀ p ∈ r, p.1.toNat ≠ 0

theorem full_step (r : List (UInt8 × UInt8)) (b : UInt8) (h : full r) : full (stepR r b) := by
  cases r with
  | nil => intro p hp; simp [stepR] at hp; subst hp; show (1 : UInt8).toNat ≠ 0; decide
  | cons q r =>
    obtain ⟨n, c⟩ := q
    simp only [stepR]
    split
    · rename_i hh
      intro p hp
      simp only [List.mem_cons] at hp
      rcases hp with rfl | hp
      · simp only; rw [succ_toNat n hh.2]; omega
      · exact h p (by simp [hp])
    · intro p hp
      simp only [List.mem_cons] at hp
      rcases hp with rfl | rfl | hp
      · show (1 : UInt8).toNat ≠ 0; decide
      · exact h _ (by simp)
      · exact h p (by simp [hp])

theorem full_fold (l : List UInt8) : ∀ r, full r → full (l.foldl stepR r) := by
  induction l with
  | nil => intro r h; exact h
  | cons b l ih => intro r h; exact ih _ (full_step r b h)

theorem full_packR (l : List UInt8) : full (packR l) := full_fold l [] (by intro p hp; cases hp)

def sumR : List (UInt8 × UInt8) → Nat
  | [] => 0
  | (n, _) :: r => sumR r + n.toNat

theorem sumR_eq (r : List (UInt8 × UInt8)) : sumR r = (unpR r).length := by
  induction r with
  | nil => rfl
  | cons p r ih => obtain ⟨n, c⟩ := p; simp [sumR, unpR, ih]

theorem sz_snoc (most : Int) (n c : UInt8) (hn : n.toNat ≠ 0) : ∀ (k : Nat) (x : List UInt8) (t : Nat), x.length = 2 * k →
    sz most (x ++ [n, c]) t = if (sz most x t).2 = 0 then (if most < ((sz most x t).1 : Int) + (n.toNat : Int) then (0, 2) else ((sz most x t).1 + n.toNat, 0)) else sz most x t := by
  intro k
  induction k with
  | zero =>
    intro x t hx; have : x = [] := List.eq_nil_of_length_eq_zero (by omega)
    subst this
    have h0 : ¬ n = 0 := by intro h; apply hn; rw [h]; rfl
    simp only [List.nil_append, sz, h0, if_false, if_true]
    by_cases h : most < (t : Int) + (n.toNat : Int) <;> simp [h]
  | succ k ih =>
    intro x t hx
    match x, hx with
    | a :: b :: r, hx =>
      have := ih r (t + a.toNat) (by simp at hx; omega)
      simp only [List.cons_append, sz, this]
      by_cases h1 : a = 0
      · simp [h1]
      · by_cases h2 : most < (t : Int) + (a.toNat : Int)
        · simp [h1, h2]
        · simp [h1, h2]
    | [], hx => simp at hx
    | [_], hx => simp at hx; omega

theorem sz_flat (most : Int) (r : List (UInt8 × UInt8)) (h : full r) :
    sz most (flat r) 0 = if r = [] ∨ (sumR r : Int) ≤ most then (sumR r, 0) else (0, 2) := by
  induction r with
  | nil => simp [flat, sz, sumR]
  | cons p r ih =>
    obtain ⟨n, c⟩ := p
    have hn := h (n, c) (by simp)
    have hr := ih (fun q hq => h q (by simp [hq]))
    simp only [flat]
    rw [sz_snoc most n c hn r.length _ 0 (flat_len r), hr]
    simp only at hn
    by_cases h1 : r = [] ∨ (sumR r : Int) ≤ most
    · rw [if_pos h1]
      simp only [sumR]
      by_cases h2 : most < (sumR r : Int) + (n.toNat : Int)
      · have : ¬ (sumR r : Int) + (n.toNat : Int) ≤ most := by omega
        simp [h2, this]
      · have : (sumR r : Int) + (n.toNat : Int) ≤ most := by omega
        simp [h2, this]
    · rw [if_neg h1]
      have : ¬ (sumR r : Int) + (n.toNat : Int) ≤ most := by
        intro h3; apply h1; right; omega
      simp [sumR, this]

theorem unpack_packL (l : List UInt8) : unpack (packL l) l.length = (l, 0) := by
  have hs : szAll (packL l) l.length = (l.length, 0) := by
    unfold szAll
    rw [if_neg (by have := packL_even l; omega)]
    unfold packL
    rw [sz_flat _ _ (full_packR l)]
    have : sumR (packR l) = l.length := by rw [sumR_eq]; unfold packR; rw [unpR_fold]; simp [unpR]
    rw [this]; simp
  unfold unpack
  rw [hs, unp_packL]; rfl

theorem packR_ne (l : List UInt8) (h : l ≠ []) : packR l ≠ [] := by
  intro e
  have : unpR (packR l) = l := by unfold packR; rw [unpR_fold]; rfl
  rw [e] at this; exact h this.symm

theorem unpack_packL_less (l : List UInt8) (h : l ≠ []) : unpack (packL l) ((l.length : Int) - 1) = ([], 2) := by
  have hs : szAll (packL l) ((l.length : Int) - 1) = (0, 2) := by
    unfold szAll
    rw [if_neg (by have := packL_even l; omega)]
    unfold packL
    rw [sz_flat _ _ (full_packR l)]
    have : sumR (packR l) = l.length := by rw [sumR_eq]; unfold packR; rw [unpR_fold]; simp [unpR]
    rw [this, if_neg]
    intro hh
    rcases hh with hh | hh
    · exact packR_ne l h hh
    · omega
  unfold unpack
  rw [hs]; rfl

theorem unp_len (l : List UInt8) : ∀ k, l.length = 2 * k → (unp l).length ≤ 255 * k := by
  intro k
  induction k generalizing l with
  | zero => intro hx; have : l = [] := List.eq_nil_of_length_eq_zero (by omega); subst this; simp [unp]
  | succ k ih =>
    intro hx
    match l, hx with
    | a :: b :: r, hx =>
      have h1 := ih r (by simp at hx; omega)
      have h2 := a.toNat_lt
      simp [unp]; omega
    | [], hx => simp at hx
    | [_], hx => simp at hx; omega

end Fb
end Go.Proofs.Ytnjnelfmfijgjae
