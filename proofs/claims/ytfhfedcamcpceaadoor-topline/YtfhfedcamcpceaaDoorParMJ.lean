/- An op's bytes are read as the op. -- s1 -/
import Derived.Test.YtfhfedcamcpceaaDoorParAJ
import Derived.Test.YtfhfedcamcpceaaDoorOcMJ
namespace Go.Proofs.YtfhfedcamcpceaaDoor
open Go.RowKit

theorem name_of : ∀ s ∈ shps, nameAt s.bytes shps = some s := by
  intro s hs
  simp only [shps, List.mem_cons, List.not_mem_nil, or_false] at hs
  rcases hs with rfl | rfl | rfl | rfl | rfl | rfl | rfl | rfl | rfl | rfl | rfl | rfl | rfl | rfl | rfl | rfl <;> rfl
theorem nsB_at : ∀ (ns : List Int) (r : List UInt8) (j : Nat) (n : Int), ns[j]? = some n → -20 ≤ n → n ≤ 255 → numAt (nsB ns ++ r) j = n := by
  intro ns
  induction ns with
  | nil => intro r j n h; simp at h
  | cons a l ih =>
    intro r j n h h1 h2
    have e : nsB (a :: l) ++ r = UInt8.ofNat ((a + 128) % 256).toNat :: UInt8.ofNat ((a + 128) / 256).toNat :: (nsB l ++ r) := rfl
    rw [e]
    cases j with
    | zero =>
      simp at h
      subst h
      unfold numAt
      simp only [Nat.mul_zero, List.getD_cons_zero, List.getD_cons_succ, Nat.zero_add]
      rw [u8_toNat _ (by omega), u8_toNat _ (by omega)]
      omega
    | succ k =>
      simp at h
      have := ih r k n h h1 h2
      unfold numAt at this ⊢
      rw [show 2 * (k + 1) = 2 * k + 1 + 1 by omega, List.getD_cons_succ, List.getD_cons_succ, List.getD_cons_succ, List.getD_cons_succ]
      exact this
theorem four_get (q : Pq) (n j : Nat) (hj : j < n) (hn : n ≤ 4) : ((nums4 q).take n)[j]? = some ((nums4 q).getD j 0) := by
  rw [List.getElem?_take_of_lt hj]
  rcases (show j = 0 ∨ j = 1 ∨ j = 2 ∨ j = 3 by omega) with rfl | rfl | rfl | rfl <;> rfl
theorem four_drop (q : Pq) (n j : Nat) (hj : n ≤ j) (h4 : j < 4) (h : ∀ x ∈ (nums4 q).drop n, x = 0) : (nums4 q).getD j 0 = 0 := by
  refine h _ ?_
  rw [List.mem_iff_getElem?]
  refine ⟨j - n, ?_⟩
  rw [List.getElem?_drop, show n + (j - n) = j by omega]
  rcases (show j = 0 ∨ j = 1 ∨ j = 2 ∨ j = 3 by omega) with rfl | rfl | rfl | rfl <;> rfl
theorem numK_is (q : Pq) (s : Shp) (hok : OpOk q s) (hn : s.nums ≤ 4) (r : List UInt8) (j : Nat) (h4 : j < 4) : numK (nsB ((nums4 q).take s.nums) ++ r) s.nums j = (nums4 q).getD j 0 := by
  unfold numK
  by_cases h : j < s.nums
  · rw [if_pos h]
    have e := four_get q s.nums j h hn
    have hm := hok.num _ (List.mem_of_getElem? e)
    exact nsB_at _ _ _ _ e hm.1 hm.2
  · rw [if_neg h]
    exact (four_drop q s.nums j (by omega) h4 (fun x hx => hok.non x (by unfold forL; simp [hx]))).symm
theorem opB_take (q : Pq) (s : Shp) (hn : s.nums ≤ 4) : (opB q s.id s.nums s.pic).take (sizeS s) = idB q.id s.id ++ nsB ((nums4 q).take s.nums) ∧ (opB q s.id s.nums s.pic).drop (sizeS s) = pcB q s.pic := by
  have hl : (idB q.id s.id ++ nsB ((nums4 q).take s.nums)).length = sizeS s := by
    rw [List.length_append, nsB_len, List.length_take]
    unfold idB sizeS
    split <;> simp [nums4] <;> omega
  unfold opB
  rw [← hl]
  exact ⟨List.take_left, List.drop_left⟩
theorem read_opB (q : Pq) (s : Shp) (hok : OpOk q s) (hn : s.nums ≤ 4) (hk : (s.kind : Int) = q.kind) : readQ s.kind s.id s.nums (idB q.id s.id ++ nsB ((nums4 q).take s.nums)) = ⟨q.kind, q.id, q.a, q.b, q.c, q.d, 0, 0, []⟩ := by
  have e : ∀ j, j < 4 → numK (if s.id then (idB q.id s.id ++ nsB ((nums4 q).take s.nums)).drop 1 else (idB q.id s.id ++ nsB ((nums4 q).take s.nums))) s.nums j = (nums4 q).getD j 0 := by
    intro j hj
    have h0 := numK_is q s hok hn [] j hj
    rw [List.append_nil] at h0
    by_cases hi : s.id = true
    · rw [if_pos hi]
      have : (idB q.id s.id ++ nsB ((nums4 q).take s.nums)).drop 1 = nsB ((nums4 q).take s.nums) := by unfold idB; rw [if_pos hi]; rfl
      rw [this]; exact h0
    · rw [if_neg hi]
      have : idB q.id s.id ++ nsB ((nums4 q).take s.nums) = nsB ((nums4 q).take s.nums) := by unfold idB; rw [if_neg hi]; rfl
      rw [this]; exact h0
  unfold readQ
  rw [e 0 (by omega), e 1 (by omega), e 2 (by omega), e 3 (by omega), hk]
  have hid : (if s.id then (((idB q.id s.id ++ nsB ((nums4 q).take s.nums)).getD 0 0).toNat : Int) else 0) = q.id := by
    by_cases hi : s.id = true
    · rw [if_pos hi]
      obtain ⟨i1, i2⟩ := hok.id hi
      have : (idB q.id s.id ++ nsB ((nums4 q).take s.nums)).getD 0 0 = UInt8.ofNat q.id.toNat := by unfold idB; rw [if_pos hi]; rfl
      rw [this, u8_toNat _ (by omega)]
      omega
    · rw [if_neg hi]
      exact (hok.non q.id (by unfold forL; simp [hi])).symm
  rw [hid]
  rfl
/-- what an op's chunk is read as -/
theorem par_opB (q : Pq) (s : Shp) (h : opC q = 0) (hk : kindAt q.kind shps = some s) (dt : ByteArray) (hd : dt.data.toList = opB q s.id s.nums s.pic) : parQ s.bytes dt = (q, 0) := by
  have hok := opC_ok h hk
  obtain ⟨hm, hkk⟩ := kindAt_mem _ _ _ hk
  obtain ⟨hn, hip⟩ := shps_ok s hm
  obtain ⟨ht, hdr⟩ := opB_take q s hn
  have hsz : dt.size = (opB q s.id s.nums s.pic).length := by rw [← hd]; simp
  have hlen : (opB q s.id s.nums s.pic).length = sizeS s + (pcB q s.pic).length := by
    have h1 := congrArg List.length (List.take_append_drop (sizeS s) (opB q s.id s.nums s.pic))
    rw [List.length_append, ht, hdr] at h1
    have h2 : (idB q.id s.id ++ nsB ((nums4 q).take s.nums)).length = sizeS s := by
      rw [List.length_append, nsB_len, List.length_take]
      unfold idB sizeS
      split <;> simp [nums4] <;> omega
    omega
  unfold parQ
  rw [name_of s hm]
  simp only
  rw [if_neg (by
    rintro (h1 | ⟨h1, h2⟩)
    · omega
    · rw [h2] at hlen; unfold pcB at hlen; simp at hlen; rw [h2] at hsz; omega), hd, ht, hdr, read_opB q s hok hn hkk]
  by_cases hp : s.pic = true
  · have hpk := hok.pic hp
    obtain ⟨PW, PH, e1, e2, -⟩ := check_zero _ _ _ hpk
    have hpc : pcB q s.pic = picBytes PW PH q.ps := by unfold pcB; rw [if_pos hp, e1, e2]; rfl
    rw [e1, e2] at hpk
    rw [if_pos hp, hpc, parse_picBytes PW PH q.ps hpk, if_pos rfl]
    have e : (⟨q.kind, q.id, q.a, q.b, q.c, q.d, (PW : Int), (PH : Int), q.ps⟩ : Pq) = q := by rw [← e1, ← e2]
    show finQ ⟨q.kind, q.id, q.a, q.b, q.c, q.d, (PW : Int), (PH : Int), q.ps⟩ = (q, 0)
    rw [e]
    unfold finQ
    rw [if_pos h]
  · rw [if_neg hp]
    have h1 := hok.non q.pw (by unfold forL; simp [hp])
    have h2 := hok.non q.ph (by unfold forL; simp [hp])
    have h3 := hok.non (q.ps.length : Int) (by unfold forL; simp [hp])
    have h4 : q.ps = [] := List.eq_nil_of_length_eq_zero (by omega)
    have e : (⟨q.kind, q.id, q.a, q.b, q.c, q.d, 0, 0, []⟩ : Pq) = q := by
      cases q
      simp only at h1 h2 h4
      subst h1 h2 h4
      rfl
    rw [e]
    unfold finQ
    rw [if_pos h]
end Go.Proofs.YtfhfedcamcpceaaDoor
