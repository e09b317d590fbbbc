/- An op's line, and what a line is read as. -- s1 -/
import Derived.Test.YtfhfedcamcpceaaDoorScMJ
import Derived.Test.YtfhfedcamcpceaaDoorParMJ
namespace Go.Proofs.YtfhfedcamcpceaaDoor.Sc
open Go.Proofs.YtfhfedcamcpceaaDoor Go.RowKit Go.Lib

/-- shade and cover of pixels -/
def pixN : List (Int × Int) → List Int
  | [] => []
  | (v, a) :: r => v :: a :: pixN r
theorem pixN_len : ∀ ps : List (Int × Int), (pixN ps).length = 2 * ps.length
  | [] => rfl
  | (v, a) :: r => by simp [pixN, pixN_len r]; omega
theorem pixN_app (a b : List (Int × Int)) : pixN (a ++ b) = pixN a ++ pixN b := by
  induction a with
  | nil => rfl
  | cons p r ih => obtain ⟨x, y⟩ := p; simp [pixN, ih]
/-- all numbers that are told behind an op's word -/
def numsQ (q : Pq) (id : Bool) (nums : Nat) (pic : Bool) : List Int := (if id then [q.id] else []) ++ (nums4 q).take nums ++ (if pic then q.pw :: q.ph :: pixN q.ps else [])
/-- numbers, each behind a blank -/
def tellN (ns : List Int) : List UInt8 := ns.flatMap fun n => 32 :: itoa n
theorem tellN_app (a b : List Int) : tellN (a ++ b) = tellN a ++ tellN b := by unfold tellN; rw [List.flatMap_append]
theorem tellN_one (n : Int) : tellN [n] = 32 :: itoa n := by simp [tellN]
/-- the word of a kind -/
def wdAt (k : Nat) : List UInt8 := wdB.getD (k - 1) []
/-- an op's line -/
def lineQ (q : Pq) (s : Shp) : List UInt8 := wdAt s.kind ++ tellN (numsQ q s.id s.nums s.pic)
theorem split_line (w : List UInt8) (hw : ∀ c ∈ w, c ≠ 32) : ∀ (ns : List Int), splitL (w ++ tellN ns) = w :: ns.map itoa := by
  intro ns
  induction ns generalizing w with
  | nil => simpa [tellN] using splitL_none w hw
  | cons n r ih =>
    have e : w ++ tellN (n :: r) = w ++ 32 :: (itoa n ++ tellN r) := by simp [tellN]
    rw [e, splitL_at w _ hw, ih (itoa n) (itoa_noblank n)]
    rfl

/-! ### a line's word -/
/-- the kind of a word, among the first k: 0, if there is none -/
def kwTo (w : List UInt8) : Nat → Nat
  | 0 => 0
  | k + 1 => if wdB.getD k [] = w then k + 1 else kwTo w k
def kwOf (w : List UInt8) : Nat := kwTo w 16
theorem kwTo_none (w : List UInt8) : ∀ k, (∀ j, j < k → wdB.getD j [] ≠ w) → kwTo w k = 0 := by
  intro k
  induction k with
  | zero => intro _; rfl
  | succ k ih => intro h; unfold kwTo; rw [if_neg (h k (by omega)), ih (fun j hj => h j (by omega))]
theorem kwOf_at (i : Nat) (h : i < 16) : kwOf (wdB.getD i []) = i + 1 := by
  have : ∀ i, i < 16 → kwOf (wdB.getD i []) = i + 1 := by decide +kernel
  exact this i h
theorem kwTo_le (w : List UInt8) : ∀ k, kwTo w k ≤ k := by
  intro k
  induction k with
  | zero => simp [kwTo]
  | succ k ih => unfold kwTo; split <;> omega
theorem wd_noblank : ∀ k, k < 17 → ∀ c ∈ wdAt k, c ≠ 32 := by decide +kernel
theorem shp_kind : ∀ s ∈ shps, 1 ≤ s.kind ∧ s.kind ≤ 16 := by decide
theorem kind_shp : ∀ k : Nat, 1 ≤ k → k ≤ 16 → kindAt (k : Int) shps = some (shps.getD (k - 1) shp0) ∧ (shps.getD (k - 1) shp0).kind = k := by
  intro k h1 h2
  have : ∀ j, j < 16 → kindAt ((j + 1 : Nat) : Int) shps = some (shps.getD j shp0) ∧ (shps.getD j shp0).kind = j + 1 := by
    intro j hj
    rcases j with _ | _ | _ | _ | _ | _ | _ | _ | _ | _ | _ | _ | _ | _ | _ | _ | j
    all_goals first | omega | exact ⟨rfl, rfl⟩
  have h := this (k - 1) (by omega)
  rw [show k - 1 + 1 = k by omega] at h
  exact h

/-! ### its numbers -/
def readN : List (List UInt8) → Option (List Int)
  | [] => some []
  | w :: r => match numL (-999) 999 w with
    | none => none
    | some n => match readN r with
      | none => none
      | some ns => some (n :: ns)
theorem readN_itoa : ∀ ns : List Int, (∀ n ∈ ns, -999 ≤ n ∧ n ≤ 999) → readN (ns.map itoa) = some ns := by
  intro ns
  induction ns with
  | nil => intro _; rfl
  | cons n r ih =>
    intro h
    have hn := h n (by simp)
    rw [List.map_cons]
    unfold readN
    rw [num_itoa hn.1 hn.2 hn.1 hn.2]
    simp only
    rw [ih (fun x hx => h x (by simp [hx]))]
theorem readN_len : ∀ (ws : List (List UInt8)) (ns : List Int), readN ws = some ns → ns.length = ws.length ∧ ∀ n ∈ ns, -999 ≤ n ∧ n ≤ 999 := by
  intro ws
  induction ws with
  | nil => intro ns h; simp only [readN, Option.some.injEq] at h; subst h; simp
  | cons w r ih =>
    intro ns h
    unfold readN at h
    cases hn : numL (-999) 999 w with
    | none => rw [hn] at h; cases h
    | some n =>
      rw [hn] at h
      simp only at h
      cases hr : readN r with
      | none => rw [hr] at h; cases h
      | some ms =>
        rw [hr] at h
        simp only [Option.some.injEq] at h
        subst h
        obtain ⟨h1, h2⟩ := ih ms hr
        refine ⟨by simp [h1], ?_⟩
        intro x hx
        rcases List.mem_cons.1 hx with rfl | hx
        · unfold numL at hn
          split at hn
          · split at hn
            · rename_i hc
              simp only [Option.some.injEq] at hn
              omega
            · cases hn
          · cases hn
        · exact h2 x hx

/-! ### an op of its numbers -/
def pairN : List Int → List (Int × Int)
  | v :: a :: r => (v, a) :: pairN r
  | _ => []
theorem pairN_pix : ∀ ps : List (Int × Int), pairN (pixN ps) = ps
  | [] => rfl
  | (v, a) :: r => by simp [pixN, pairN, pairN_pix r]
theorem pairN_len : ∀ (m : Nat) (l : List Int), l.length = 2 * m → (pairN l).length = m := by
  intro m
  induction m with
  | zero => intro l h; have : l = [] := List.eq_nil_of_length_eq_zero (by omega); subst this; rfl
  | succ m ih =>
    intro l h
    match l, h with
    | v :: a :: r, h => simp only [pairN, List.length_cons] at h ⊢; rw [ih r (by omega)]
    | [_], h => simp at h; omega
    | [], h => simp at h
/-- behind the ID -/
def restN (s : Shp) (ns : List Int) : List Int := if s.id then ns.drop 1 else ns
def num4 (s : Shp) (ns : List Int) (j : Nat) : Int := if j < s.nums then (restN s ns).getD j 0 else 0
/-- are there as many numbers as the kind has? -/
def fitN (s : Shp) (ns : List Int) : Bool :=
  !(s.id && decide (ns.length = 0)) && !decide ((restN s ns).length < s.nums) && (s.pic || decide ((restN s ns).length ≤ s.nums)) && (!s.pic || (decide (s.nums + 2 ≤ (restN s ns).length) && decide (((restN s ns).length - s.nums) % 2 = 0)))
def opN (s : Shp) (ns : List Int) : Pq := ⟨s.kind, if s.id then ns.getD 0 0 else 0, num4 s ns 0, num4 s ns 1, num4 s ns 2, num4 s ns 3, if s.pic then (restN s ns).getD s.nums 0 else 0, if s.pic then (restN s ns).getD (s.nums + 1) 0 else 0, if s.pic then pairN ((restN s ns).drop (s.nums + 2)) else []⟩
/-- what a line's words are read as -/
def opW (ws : List (List UInt8)) : Pq × Nat :=
  match readN (ws.drop 1) with
  | none => (q00, 4)
  | some ns => if kwOf (ws.getD 0 []) = 0 then (q00, 4) else if fitN (shps.getD (kwOf (ws.getD 0 []) - 1) shp0) ns = true then finQ (opN (shps.getD (kwOf (ws.getD 0 []) - 1) shp0) ns) else (q00, 4)
def opIn (l : List UInt8) : Pq × Nat := opW (splitL l)
theorem numsQ_len (q : Pq) (s : Shp) (h : s.nums ≤ 4) : (numsQ q s.id s.nums s.pic).length = (if s.id then 1 else 0) + s.nums + (if s.pic then 2 + 2 * q.ps.length else 0) := by
  unfold numsQ
  rw [List.length_append, List.length_append, List.length_take, show (nums4 q).length = 4 from rfl, Nat.min_eq_left h]
  cases s.id <;> cases s.pic <;> simp [pixN_len] <;> omega
theorem pix_of_check {W H : Int} {ps : List (Int × Int)} (h : checkL W H ps = 0) : (1 ≤ W ∧ W ≤ 8) ∧ (1 ≤ H ∧ H ≤ 8) ∧ ps.length ≤ 64 ∧ ∀ n ∈ pixN ps, 0 ≤ n ∧ n ≤ 255 := by
  obtain ⟨PW, PH, e1, e2, w1, w2, h1, h2, hl, hp⟩ := check_zero W H ps h
  refine ⟨by omega, by omega, ?_, ?_⟩
  · rw [hl]
    have : PW * PH ≤ 8 * 8 := Nat.mul_le_mul w2 h2
    omega
  · have key : ∀ (l : List (Int × Int)), (∀ p ∈ l, pixOk p) → ∀ n ∈ pixN l, 0 ≤ n ∧ n ≤ 255 := by
      intro l
      induction l with
      | nil => intro _ n hn; simp [pixN] at hn
      | cons p r ih =>
        intro hq n hn
        obtain ⟨v, a⟩ := p
        have h0 := hq (v, a) (by simp)
        unfold pixOk at h0
        simp only [pixN, List.mem_cons] at hn
        rcases hn with rfl | rfl | hn
        · exact ⟨h0.1, h0.2.1⟩
        · exact ⟨h0.2.2.1, h0.2.2.2⟩
        · exact ih (fun x hx => hq x (by simp [hx])) n hn
    refine key ps fun q hq => ?_
    obtain ⟨k, hk, rfl⟩ := List.mem_iff_getElem.1 hq
    have := hp k hk
    rwa [List.getD_eq_getElem?_getD, List.getElem?_eq_getElem hk] at this
theorem numsQ_small {q : Pq} {s : Shp} (hok : OpOk q s) : ∀ n ∈ numsQ q s.id s.nums s.pic, -999 ≤ n ∧ n ≤ 999 := by
  intro n hn
  unfold numsQ at hn
  rcases List.mem_append.1 hn with hn | hn
  · rcases List.mem_append.1 hn with hn | hn
    · cases hid : s.id with
      | false => rw [hid] at hn; simp at hn
      | true => rw [hid] at hn; simp at hn; subst hn; have := hok.id hid; omega
    · have := hok.num n hn; omega
  · cases hp : s.pic with
    | false => rw [hp] at hn; simp at hn
    | true =>
      rw [hp] at hn
      simp only [if_true, List.mem_cons] at hn
      obtain ⟨h1, h2, -, h3⟩ := pix_of_check (hok.pic hp)
      rcases hn with rfl | rfl | hn
      · omega
      · omega
      · have := h3 n hn; omega
/-- a line is read as the op that it tells -/
theorem opIn_line {q : Pq} {s : Shp} (h : opC q = 0) (hk : kindAt q.kind shps = some s) : opIn (lineQ q s) = (q, 0) := by
  have hok := opC_ok h hk
  obtain ⟨hm, hkk⟩ := kindAt_mem _ _ _ hk
  obtain ⟨hn4, hip⟩ := shps_ok s hm
  obtain ⟨k1, k2⟩ := shp_kind s hm
  have hs : shps.getD (s.kind - 1) shp0 = s := by
    have h1 := (kind_shp s.kind k1 k2).1
    rw [hkk, hk] at h1
    exact (Option.some.inj h1).symm
  have hkw : kwOf (wdAt s.kind) = s.kind := by
    unfold wdAt
    rw [kwOf_at _ (by omega)]
    omega
  have hz : ∀ j, j < 4 → s.nums ≤ j → (nums4 q).getD j 0 = 0 := fun j h4 hj => four_drop q s.nums j hj h4 (fun x hx => hok.non x (by unfold forL; simp [hx]))
  have hidz : s.id = false → q.id = 0 := fun hi => hok.non q.id (by unfold forL; simp [hi])
  have hpz : s.pic = false → q.pw = 0 ∧ q.ph = 0 ∧ q.ps = [] := fun hp => ⟨hok.non q.pw (by unfold forL; simp [hp]), hok.non q.ph (by unfold forL; simp [hp]), by
    have := hok.non (q.ps.length : Int) (by unfold forL; simp [hp])
    exact List.eq_nil_of_length_eq_zero (by omega)⟩
  have hrest : restN s (numsQ q s.id s.nums s.pic) = (nums4 q).take s.nums ++ (if s.pic then q.pw :: q.ph :: pixN q.ps else []) := by
    unfold restN numsQ
    cases s.id <;> simp
  have htl : ((nums4 q).take s.nums).length = s.nums := by rw [List.length_take, show (nums4 q).length = 4 from rfl]; omega
  have hrl : (restN s (numsQ q s.id s.nums s.pic)).length = s.nums + (if s.pic then 2 + 2 * q.ps.length else 0) := by
    rw [hrest, List.length_append, htl]
    cases s.pic <;> simp [pixN_len]; omega
  have hfit : fitN s (numsQ q s.id s.nums s.pic) = true := by
    have hl := numsQ_len q s hn4
    unfold fitN
    rw [hrl, hl]
    cases s.id <;> cases s.pic <;> simp <;> omega
  have hget : ∀ j x, (restN s (numsQ q s.id s.nums s.pic)).getD j x = if j < s.nums then (nums4 q).getD j x else (if s.pic then q.pw :: q.ph :: pixN q.ps else []).getD (j - s.nums) x := by
    intro j x
    rw [hrest, List.getD_eq_getElem?_getD, List.getElem?_append, htl]
    split
    · rename_i hj
      rw [List.getElem?_take_of_lt hj, ← List.getD_eq_getElem?_getD]
    · rw [← List.getD_eq_getElem?_getD]
  have hnum : ∀ j, j < 4 → num4 s (numsQ q s.id s.nums s.pic) j = (nums4 q).getD j 0 := by
    intro j hj
    unfold num4
    split
    · rename_i h1
      rw [hget, if_pos h1]
    · exact (hz j hj (by omega)).symm
  have hop : opN s (numsQ q s.id s.nums s.pic) = q := by
    unfold opN
    rw [hnum 0 (by omega), hnum 1 (by omega), hnum 2 (by omega), hnum 3 (by omega), hget, hget, if_neg (show ¬ s.nums < s.nums by omega), if_neg (show ¬ s.nums + 1 < s.nums by omega), hrest, hkk]
    obtain ⟨kd, qid, qa, qb, qc, qd, qw, qh, qp⟩ := q
    simp only [nums4, Pq.mk.injEq, List.getD_cons_zero, List.getD_cons_succ, true_and]
    refine ⟨?_, ?_, ?_, ?_⟩
    · cases hi : s.id with
      | true => unfold numsQ; simp
      | false => simpa using (hidz hi).symm
    · cases hp : s.pic with
      | true => simp
      | false => simpa using (hpz hp).1.symm
    · cases hp : s.pic with
      | true => simp
      | false => simpa using (hpz hp).2.1.symm
    · cases hp : s.pic with
      | true =>
        simp only [if_true]
        rw [← List.drop_drop, List.drop_left' (by simp only [nums4] at htl; exact htl)]
        simp [pairN_pix]
      | false => simpa using (hpz hp).2.2.symm
  unfold opIn lineQ
  rw [split_line _ (wd_noblank s.kind (by omega))]
  unfold opW
  rw [List.drop_one, List.tail_cons, readN_itoa _ (numsQ_small hok)]
  simp only [List.getD_cons_zero]
  rw [hkw, if_neg (by omega), hs, hfit, if_pos rfl, hop]
  unfold finQ
  rw [if_pos h]
end Go.Proofs.YtfhfedcamcpceaaDoor.Sc
