/- Lines of ops, as lists: words between blanks, numbers in digits. -- s1 -/
import Derived.Test.YtfhfedcamcpceaaDoorProg
import Derived.Below
import Derived.WalkKit
import Derived.Lib.ItoaNum
import Derived.Lib.Atoi
import Derived.Lib.AtoiAll
import Derived.Lib.Split
import Derived.Lib.IndexBytes
namespace Go.Proofs.YtfhfedcamcpceaaDoor.Sc
open Go.RowKit Go.Lib

/-- the words of the kinds, in their order -/
def wdB : List (List UInt8) := [
  [104, 101, 97, 100],
  [112, 105, 99, 116],
  [109, 111, 118, 101],
  [99, 108, 105, 112],
  [115, 104, 111, 119],
  [99, 111, 112, 121],
  [100, 114, 111, 112],
  [97, 100, 100],
  [112, 117, 116],
  [98, 97, 99, 107],
  [119, 97, 105, 116],
  [108, 111, 111, 112],
  [110, 101, 120, 116],
  [115, 97, 118, 101],
  [115, 101, 101, 107],
  [101, 110, 100]]
/-! ### words between blanks -/
def splitL : List UInt8 → List (List UInt8)
  | [] => [[]]
  | c :: r => if c = 32 then [] :: splitL r else match splitL r with
    | [] => [[c]]
    | a :: b => (c :: a) :: b
theorem splitL_ne (l : List UInt8) : splitL l ≠ [] := by
  cases l with
  | nil => simp [splitL]
  | cons c r =>
    unfold splitL
    split
    · simp
    · split <;> simp
theorem splitL_at : ∀ (a b : List UInt8), (∀ c ∈ a, c ≠ 32) → splitL (a ++ 32 :: b) = a :: splitL b := by
  intro a
  induction a with
  | nil => intro b _; simp [splitL]
  | cons c r ih =>
    intro b h
    rw [List.cons_append]
    conv => lhs; unfold splitL
    rw [if_neg (h c (by simp)), ih b (fun x hx => h x (by simp [hx]))]
theorem splitL_none : ∀ (a : List UInt8), (∀ c ∈ a, c ≠ 32) → splitL a = [a] := by
  intro a
  induction a with
  | nil => intro _; rfl
  | cons c r ih =>
    intro h
    unfold splitL
    rw [if_neg (h c (by simp)), ih (fun x hx => h x (by simp [hx]))]
theorem indexByte_cut {l : List UInt8} {i : Nat} (h : indexByte l 32 = (i : Int)) : ∃ r, l = l.take i ++ 32 :: r ∧ r = l.drop (i + 1) ∧ (∀ c ∈ l.take i, c ≠ 32) := by
  obtain ⟨h1, h2⟩ := indexByte_some h
  obtain ⟨hi, he⟩ := List.getElem?_eq_some_iff.1 h1
  refine ⟨l.drop (i + 1), ?_, rfl, ?_⟩
  · conv => lhs; rw [← List.take_append_drop i l, List.drop_eq_getElem_cons hi, he]
  · intro c hc e
    subst e
    obtain ⟨j, hj, hje⟩ := List.mem_iff_getElem.1 hc
    rw [List.length_take] at hj
    rw [List.getElem_take] at hje
    exact h2 j (by omega) (by rw [List.getElem?_eq_getElem (by omega), hje])
theorem splitK_is : ∀ (k : Nat) (l : List UInt8), count l [32] = k → splitK [32] 0 k l = splitL l := by
  intro k
  induction k with
  | zero =>
    intro l h
    unfold splitK
    rcases index_spec l [32] with ⟨h1, _⟩ | ⟨i, h1, _⟩
    · rw [index_one] at h1
      rw [splitL_none l (fun c hc e => by
        subst e
        obtain ⟨j, hj, he⟩ := List.mem_iff_getElem.1 hc
        exact indexByte_none h1 j (by rw [List.getElem?_eq_getElem hj, he]))]
    · rw [count_hit (by simp) h1] at h; omega
  | succ k ih =>
    intro l h
    rcases index_spec l [32] with ⟨h1, _⟩ | ⟨i, h1, _⟩
    · rw [count_miss h1] at h; omega
    · have h2 := count_hit (by simp) h1
      rw [h] at h2
      simp only [List.length_singleton] at h2
      unfold splitK
      rw [if_neg (by rw [h1]; simp), h1]
      simp only [Int.toNat_natCast, Nat.add_zero, List.length_singleton]
      rw [ih _ (by omega)]
      rw [index_one] at h1
      obtain ⟨r, e1, e2, e3⟩ := indexByte_cut h1
      conv => rhs; rw [e1, splitL_at _ _ e3, e2]
theorem split_is (l : List UInt8) : split l [32] = splitL l := splitK_is _ l rfl
theorem splitB_is (s sep : ByteArray) (h : sep.data.toList = [32]) : (splitB sep 0 (countB s sep) s).map (·.data.toList) = splitL s.data.toList := by
  rw [splitB_data, h, show countB s sep = count s.data.toList [32] by rw [← h]]
  exact splitK_is _ _ rfl
theorem splitL_len : ∀ l : List UInt8, (splitL l).length ≤ l.length + 1 := by
  intro l
  induction l with
  | nil => simp [splitL]
  | cons c r ih =>
    unfold splitL
    split
    · simp only [List.length_cons]; omega
    · split
      · simp
      · rename_i a b e
        rw [e] at ih
        simp only [List.length_cons] at ih ⊢
        omega
theorem splitL_mem : ∀ (l : List UInt8), ∀ x ∈ splitL l, x.length ≤ l.length := by
  intro l
  induction l with
  | nil => simp [splitL]
  | cons c r ih =>
    intro x hx
    unfold splitL at hx
    split at hx
    · rcases List.mem_cons.1 hx with rfl | hx
      · simp
      · have := ih x hx; simp only [List.length_cons]; omega
    · split at hx
      · simp at hx; subst hx; simp
      · rename_i a b e
        rcases List.mem_cons.1 hx with rfl | hx
        · have := ih a (by rw [e]; simp); simp only [List.length_cons]; omega
        · have := ih x (by rw [e]; simp [hx]); simp only [List.length_cons]; omega

/-! ### numbers -/
theorem dig_val {d : Nat} (h : d < 10) : digitVal (UInt8.ofNat (48 + d)) = some d := by
  have : (UInt8.ofNat (48 + d)).toNat = 48 + d := by rw [UInt8.toNat_ofNat']; omega
  unfold digitVal
  rw [this, if_pos (by omega)]
  congr 1
  omega
theorem dig_of {b : UInt8} {d : Nat} (h : digitVal b = some d) : d < 10 ∧ b = UInt8.ofNat (48 + d) ∧ b.toNat = 48 + d := by
  unfold digitVal at h
  split at h
  · rename_i hb
    simp only [Option.some.injEq] at h
    subst h
    refine ⟨by omega, ?_, by omega⟩
    apply UInt8.toNat_inj.1
    rw [UInt8.toNat_ofNat']
    omega
  · cases h
theorem decFrom_snoc : ∀ (l : List UInt8) (acc : Nat) (b : UInt8), decFrom acc (l ++ [b]) = match decFrom acc l with
    | none => none
    | some m => match digitVal b with
      | none => none
      | some d => some (m * 10 + d) := by
  intro l
  induction l with
  | nil => intro acc b; simp only [List.nil_append, decFrom]; cases digitVal b <;> rfl
  | cons a r ih =>
    intro acc b
    rw [List.cons_append]
    unfold decFrom
    cases h : digitVal a with
    | none => rfl
    | some d => simp only []; exact ih _ b
/-- digits that spell a number spell it as decDigits does, if no nought is ahead of them -/
theorem dec_back : ∀ (m : Nat) (t : List UInt8) (n : Nat), t.length = m → t ≠ [] → decFrom 0 t = some n → (t.getD 0 0 ≠ 48 ∨ t.length = 1) → decDigits n = t := by
  intro m
  induction m with
  | zero => intro t n h0 hne; exact absurd (List.eq_nil_of_length_eq_zero h0) hne
  | succ m ih =>
    intro t n hm hne hd h0
    obtain ⟨l, b, rfl⟩ : ∃ l b, t = l ++ [b] := ⟨t.dropLast, t.getLast hne, (List.dropLast_concat_getLast hne).symm⟩
    rw [decFrom_snoc] at hd
    cases hl : decFrom 0 l with
    | none => rw [hl] at hd; cases hd
    | some x =>
      rw [hl] at hd
      simp only at hd
      cases hb : digitVal b with
      | none => rw [hb] at hd; cases hd
      | some d =>
        rw [hb] at hd
        simp only [Option.some.injEq] at hd
        obtain ⟨hd10, hbe, _⟩ := dig_of hb
        by_cases hln : l = []
        · subst hln
          simp only [decFrom, Option.some.injEq] at hl
          subst hl
          rw [decDigits, dif_pos (by omega), hbe, ← hd]
          simp
        · have hx := ih l x (by simp at hm; omega) hln hl (by
            left
            rcases h0 with h0 | h0
            · cases l with
              | nil => exact absurd rfl hln
              | cons a r => simpa using h0
            · simp at h0; exact absurd h0 hln)
          have hx0 : x ≠ 0 := by
            intro e
            subst e
            rw [decDigits, dif_pos (by omega)] at hx
            have h1 : l.length = 1 := by rw [← hx]; rfl
            rcases h0 with h0 | h0
            · apply h0
              rw [← hx]
              rfl
            · simp at h0; exact hln h0
          rw [decDigits, dif_neg (by omega), show n / 10 = x by omega, show n % 10 = d by omega, hx, hbe]
theorem dec_to : ∀ n : Nat, decFrom 0 (decDigits n) = some n := by
  intro n
  induction n using Nat.strongRecOn with
  | _ n ih =>
    rw [decDigits]
    split
    · rename_i h
      unfold decFrom
      rw [dig_val h]
      simp [decFrom]
    · rename_i h
      rw [decFrom_snoc, ih (n / 10) (by omega)]
      simp only
      rw [dig_val (by omega)]
      simp only [Option.some.injEq]
      omega
theorem dec_ne (n : Nat) : decDigits n ≠ [] := by rw [decDigits]; split <;> simp
theorem dec_head : ∀ n : Nat, 0 < n → (decDigits n).getD 0 0 ≠ 48 := by
  intro n
  induction n using Nat.strongRecOn with
  | _ n ih =>
    intro h0
    rw [decDigits]
    split
    · rename_i h
      intro e
      have : (UInt8.ofNat (48 + n)).toNat = 48 := by rw [show UInt8.ofNat (48 + n) = (48 : UInt8) from e]; rfl
      rw [UInt8.toNat_ofNat'] at this
      omega
    · rename_i h
      have := ih (n / 10) (by omega) (by omega)
      have hne := dec_ne (n / 10)
      cases hd : decDigits (n / 10) with
      | nil => exact absurd hd hne
      | cons a r => rw [hd] at this; simpa using this
theorem dec_one {n : Nat} (h : n < 10) : decDigits n = [UInt8.ofNat (48 + n)] := by rw [decDigits, dif_pos h]
theorem dec_len3 {n : Nat} (h : n < 1000) : (decDigits n).length ≤ 3 := by
  by_cases h1 : n < 10
  · rw [dec_one h1]; simp
  · rw [decDigits, dif_neg h1]
    by_cases h2 : n / 10 < 10
    · rw [dec_one h2]; simp
    · rw [decDigits, dif_neg h2, dec_one (by omega)]; simp
theorem dec_dig : ∀ n : Nat, ∀ c ∈ decDigits n, 48 ≤ c.toNat ∧ c.toNat ≤ 57 := by
  intro n
  induction n using Nat.strongRecOn with
  | _ n ih =>
    rw [decDigits]
    split
    · rename_i h
      intro c hc
      simp only [List.mem_singleton] at hc
      subst hc
      rw [UInt8.toNat_ofNat']
      omega
    · rename_i h
      intro c hc
      rcases List.mem_append.1 hc with hc | hc
      · exact ih (n / 10) (by omega) c hc
      · simp only [List.mem_singleton] at hc
        subst hc
        rw [UInt8.toNat_ofNat']
        omega
theorem parse_of_dec : ∀ (l : List UInt8) (acc n : Nat), decFrom acc l = some n → n < 9223372036854775808 → acc ≤ n ∧ parseUint10 acc l = .ok n := by
  intro l
  induction l with
  | nil => intro acc n h _; simp only [decFrom, Option.some.injEq] at h; subst h; exact ⟨Nat.le_refl _, rfl⟩
  | cons c r ih =>
    intro acc n h hn
    unfold decFrom at h
    cases hd : digitVal c with
    | none => rw [hd] at h; cases h
    | some d =>
      rw [hd] at h
      simp only at h
      obtain ⟨h10, hc, hcn⟩ := dig_of hd
      obtain ⟨h1, h2⟩ := ih _ _ h hn
      refine ⟨by omega, ?_⟩
      unfold parseUint10
      rw [if_pos (by omega), if_neg (by omega), show c.toNat - 48 = d by omega, if_neg (by omega)]
      exact h2
/-- digits as strconv.Atoi reads them -/
theorem atoi_pos {t : List UInt8} {n : Nat} (hne : t ≠ []) (h : decFrom 0 t = some n) (hn : n < 9223372036854775808) : atoiAll t = .ok (n : Int) := by
  cases t with
  | nil => exact absurd rfl hne
  | cons c r =>
    have hc : 48 ≤ c.toNat ∧ c.toNat ≤ 57 := by
      unfold decFrom at h
      cases hd : digitVal c with
      | none => rw [hd] at h; cases h
      | some d => have := dig_of hd; omega
    unfold atoiAll
    simp only []
    rw [if_neg (by omega)]
    unfold parseMag
    rw [if_neg (by simp), (parse_of_dec _ _ _ h hn).2]
    simp only []
    rw [if_neg (by omega), if_neg (by omega), if_neg (by omega)]
theorem atoi_neg {t : List UInt8} {n : Nat} (hne : t ≠ []) (h : decFrom 0 t = some n) (hn : n < 9223372036854775808) : atoiAll (45 :: t) = .ok (-(n : Int)) := by
  unfold atoiAll
  simp only []
  rw [if_pos (by right; rfl)]
  unfold parseMag
  rw [if_neg hne, (parse_of_dec _ _ _ h hn).2]
  simp only []
  rw [if_neg (by simp), if_neg (by omega), if_pos (by rfl)]
/-- a word that is a number from lo to hi -/
def numL (lo hi : Int) (w : List UInt8) : Option Int := match atoiAll w with
  | .ok n => if itoa n = w ∧ lo ≤ n ∧ n ≤ hi then some n else none
  | _ => none
/-- the number of a word as the reference reads it, whatever its bounds -/
def tailW (w : List UInt8) : List UInt8 × Bool := if 1 < w.length ∧ w.getD 0 0 = 45 then (w.drop 1, true) else (w, false)
def wholeL (w : List UInt8) : Option Int :=
  if (tailW w).1.length < 1 ∨ 9 < (tailW w).1.length ∨ ((tailW w).1.getD 0 0 = 48 ∧ (1 < (tailW w).1.length ∨ (tailW w).2 = true)) then none
  else match decFrom 0 (tailW w).1 with
    | none => none
    | some n => some (if (tailW w).2 = true then -(n : Int) else (n : Int))
theorem decFrom_lt : ∀ (l : List UInt8) (acc n : Nat), decFrom acc l = some n → n < (acc + 1) * 10 ^ l.length := by
  intro l
  induction l with
  | nil => intro acc n h; simp only [decFrom, Option.some.injEq] at h; subst h; simp
  | cons c r ih =>
    intro acc n h
    unfold decFrom at h
    cases hd : digitVal c with
    | none => rw [hd] at h; cases h
    | some d =>
      rw [hd] at h
      have h1 := ih _ _ h
      have h10 := (dig_of hd).1
      have h2 : (acc * 10 + d + 1) * 10 ^ r.length ≤ (acc * 10 + 10) * 10 ^ r.length := Nat.mul_le_mul_right _ (by omega)
      have h3 : (acc + 1) * 10 ^ (c :: r).length = (acc * 10 + 10) * 10 ^ r.length := by
        rw [List.length_cons, Nat.pow_succ, Nat.mul_comm (10 ^ r.length) 10, ← Nat.mul_assoc]
        congr 1
        omega
      omega
theorem whole_num {w : List UInt8} {v : Int} (h : wholeL w = some v) : atoiAll w = .ok v ∧ itoa v = w := by
  unfold wholeL at h
  split at h
  · cases h
  rename_i hc
  obtain ⟨⟨t, neg⟩, ht⟩ : ∃ p, tailW w = p := ⟨_, rfl⟩
  rw [ht] at h hc
  simp only at h hc
  have hne : t ≠ [] := by intro e; subst e; simp at hc
  cases hd : decFrom 0 t with
  | none => rw [hd] at h; cases h
  | some n =>
    rw [hd] at h
    simp only [Option.some.injEq] at h
    have hlt := decFrom_lt t 0 n hd
    have h9 : (10 : Nat) ^ t.length ≤ 10 ^ 9 := Nat.pow_le_pow_right (by omega) (by omega)
    have hn : n < 1000000000 := by
      have e : (0 + 1) * 10 ^ t.length = 10 ^ t.length := by omega
      have e2 : (10 : Nat) ^ 9 = 1000000000 := by decide
      omega
    have h0 : t.getD 0 0 ≠ 48 ∨ t.length = 1 := by
      by_cases h1 : t.length = 1
      · exact .inr h1
      · left
        intro e
        have hl : 0 < t.length := List.length_pos_iff.2 hne
        exact hc (.inr (.inr ⟨e, .inl (by omega)⟩))
    have hb := dec_back _ t n rfl hne hd h0
    unfold tailW at ht
    split at ht
    · rename_i hw
      simp only [Prod.mk.injEq] at ht
      obtain ⟨rfl, rfl⟩ := ht
      simp only [if_true] at h
      have hw2 : w = 45 :: w.drop 1 := by
        cases w with
        | nil => simp at hw
        | cons a r => have := hw.2; simp only [List.getD_cons_zero] at this; subst this; rfl
      have hn0 : 0 < n := by
        rcases Nat.eq_zero_or_pos n with h00 | h00
        · subst h00
          rw [dec_one (by omega)] at hb
          exact absurd (.inr (.inr ⟨by rw [← hb]; rfl, .inr rfl⟩)) hc
        · exact h00
      refine ⟨?_, ?_⟩
      · rw [hw2, ← h]
        exact atoi_neg hne hd (by omega)
      · rw [← h]
        unfold itoa
        rw [if_pos (by omega), show (-(n : Int)).natAbs = n by omega, hb]
        exact hw2.symm
    · simp only [Prod.mk.injEq] at ht
      obtain ⟨rfl, rfl⟩ := ht
      simp only [if_false, Bool.false_eq_true] at h
      refine ⟨?_, ?_⟩
      · rw [← h]; exact atoi_pos hne hd (by omega)
      · rw [← h]
        unfold itoa
        rw [if_neg (by omega), show ((n : Int)).toNat = n by omega, hb]
theorem itoa_whole {n : Int} (h1 : -999 ≤ n) (h2 : n ≤ 999) : wholeL (itoa n) = some n := by
  have key : ∀ m : Nat, m < 1000 → (decDigits m).length ≤ 3 ∧ 0 < (decDigits m).length ∧ ((decDigits m).getD 0 0 = 48 → m = 0) := fun m hm => ⟨dec_len3 hm, List.length_pos_iff.2 (dec_ne m), fun h => by
    rcases Nat.eq_zero_or_pos m with h0 | h0
    · exact h0
    · exact absurd h (dec_head m h0)⟩
  have hd45 : ∀ m : Nat, (decDigits m).getD 0 0 ≠ 45 := fun m => by
    have hne := dec_ne m
    cases hd : decDigits m with
    | nil => exact absurd hd hne
    | cons a r =>
      have := dec_dig m a (by rw [hd]; simp)
      intro e
      simp only [List.getD_cons_zero] at e
      subst e
      simp at this
  unfold itoa
  by_cases hn : n < 0
  · rw [if_pos hn]
    obtain ⟨k1, k2, k3⟩ := key n.natAbs (by omega)
    have ht : tailW (45 :: decDigits n.natAbs) = (decDigits n.natAbs, true) := by
      unfold tailW
      rw [if_pos ⟨by simp only [List.length_cons]; omega, rfl⟩]
      rfl
    unfold wholeL
    rw [ht]
    simp only
    rw [if_neg (by intro h; rcases h with h | h | ⟨h, _⟩; omega; omega; have := k3 h; omega), dec_to]
    simp only [if_true, Option.some.injEq]
    omega
  · rw [if_neg hn]
    obtain ⟨k1, k2, k3⟩ := key n.toNat (by omega)
    have ht : tailW (decDigits n.toNat) = (decDigits n.toNat, false) := by
      unfold tailW
      rw [if_neg (fun h => hd45 _ h.2)]
    unfold wholeL
    rw [ht]
    simp only
    rw [if_neg (by
      intro h
      rcases h with h | h | ⟨h, h4 | h4⟩
      · omega
      · omega
      · rw [k3 h, dec_one (by omega)] at h4; simp at h4
      · cases h4), dec_to]
    simp only [if_false, Bool.false_eq_true, Option.some.injEq]
    omega
/-- both read the same numbers -/
theorem whole_is {w : List UInt8} {lo hi : Int} (h1 : -999 ≤ lo) (h2 : hi ≤ 999) : numL lo hi w = match wholeL w with
    | none => none
    | some v => if lo ≤ v ∧ v ≤ hi then some v else none := by
  cases hw : wholeL w with
  | some v =>
    obtain ⟨ha, hi2⟩ := whole_num hw
    unfold numL
    rw [ha]
    simp only
    by_cases hr : lo ≤ v ∧ v ≤ hi
    · rw [if_pos ⟨hi2, hr⟩, if_pos hr]
    · rw [if_neg (fun h => hr h.2), if_neg hr]
  | none =>
    simp only
    unfold numL
    split
    · rename_i n hn
      rw [if_neg]
      rintro ⟨hi2, hr1, hr2⟩
      have := itoa_whole (n := n) (by omega) (by omega)
      rw [hi2, hw] at this
      cases this
    · rfl
theorem num_itoa {n lo hi : Int} (h1 : -999 ≤ n) (h2 : n ≤ 999) (h3 : lo ≤ n) (h4 : n ≤ hi) : numL lo hi (itoa n) = some n := by
  have hw := whole_num (itoa_whole h1 h2)
  unfold numL
  rw [hw.1]
  exact if_pos ⟨rfl, h3, h4⟩
theorem itoa_noblank (n : Int) : ∀ c ∈ itoa n, c ≠ 32 := by
  intro c hc e
  subst e
  unfold itoa at hc
  split at hc
  · rcases List.mem_cons.1 hc with h | h
    · simp at h
    · have := dec_dig _ _ h; simp at this
  · have := dec_dig _ _ hc; simp at this
end Go.Proofs.YtfhfedcamcpceaaDoor.Sc
