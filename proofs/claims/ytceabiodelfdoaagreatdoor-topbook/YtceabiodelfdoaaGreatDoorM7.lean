/- Some of the walks, in one text. -/
import Derived.Test.YtceabiodelfdoaaGreatDoorM6
import Derived.Deep.RegionHeld3
/- Walk: op.Check. -/
namespace Go.Proofs.YtceabiodelfdoaaGreatDoor
open Go.RowKit

/-- the number of the error of an op -/
def opC (q : Pq) : Nat :=
  match kindAt q.kind shps with
  | none => 3
  | some s => if (forL q s).any (fun n => decide (n ≠ 0)) = true then 3 else if (s.id && (decide (q.id < 1) || decide (6 < q.id))) = true ∨ inB q s = false then 1 else if s.pic = true then checkL q.pw q.ph q.ps else 0
theorem shps_ok : ∀ s ∈ shps, s.nums ≤ 4 ∧ (s.id = false → s.pic = false) := by
  intro s hs
  simp only [shps, List.mem_cons, List.not_mem_nil, or_false] at hs
  rcases hs with rfl | rfl | rfl | rfl | rfl | rfl | rfl | rfl | rfl | rfl | rfl | rfl | rfl | rfl | rfl | rfl <;> exact ⟨by decide, by decide⟩
theorem kindAt_mem (kd : Int) : ∀ (l : List Shp) (s : Shp), kindAt kd l = some s → s ∈ l ∧ (s.kind : Int) = kd := by
  intro l
  induction l with
  | nil => intro s h; cases h
  | cons a r ih =>
    intro s h
    unfold kindAt at h
    split at h
    · obtain rfl := Option.some.inj h
      exact ⟨by simp, by assumption⟩
    · obtain ⟨h1, h2⟩ := ih s h
      exact ⟨by simp [h1], h2⟩

set_option maxHeartbeats 8000000 in
set_option maxRecDepth 100000 in
theorem opCheck_any (q : Pq) (u : Value) (w : World) (HS : Hid (Shapes w)) (h1 : 0 < w.heap.size) (HU : Hid (RdP w u q.ps)) (hps : q.ps.length ≤ 1000000000) (c : Nat) (HC : Hid (opC q = c)) :
    Calls Tryz.prog 20 #[opV q u] w fun e w' => e = .returned (errV c) ∧ Below w.heap.size w w' := by
  obtain ⟨ap, cp, hv, hl0, hcp, _⟩ := HU.out
  obtain ⟨np, HNP⟩ : ∃ n, Hid (q.ps.length = n) := ⟨_, (rfl : _ = _)⟩
  rw [HNP.out] at hv hl0
  subst hv
  obtain ⟨X0, HX0⟩ : ∃ X0, Hid (w.alloc (.cells #[.int .i64 q.kind, .int .i64 q.id, .int .i64 q.a, .int .i64 q.b, .int .i64 q.c, .int .i64 q.d, .int .i64 q.pw, .int .i64 q.ph, .slice ap np cp] 48) = X0) := ⟨_, (rfl : _ = _)⟩
  have hbz : Below w.heap.size w X0 := by rw [← HX0.out]; exact (Below.refl _ _).alloc (Nat.le_refl _) _
  have N0 : Nine X0 w.heap.size (.int .i64 q.kind) (.int .i64 q.id) (.int .i64 q.a) (.int .i64 q.b) (.int .i64 q.c) (.int .i64 q.d) (.int .i64 q.pw) (.int .i64 q.ph) (.slice ap np cp) := by rw [← HX0.out]; exact nine_start w _ _ _ _ _ _ _ _ _ 48 w.heap.size rfl
  have HS0 : Hid (Shapes X0) := HS.out.on h1 hbz
  have h1' := Nat.lt_of_lt_of_le h1 hbz.size
  have HU0 : Hid (RdP X0 (.slice ap np cp) q.ps) := HU.out.on hbz
  obtain ⟨o, HO⟩ : ∃ o, Hid (kindAt q.kind shps = o) := ⟨_, (rfl : _ = _)⟩
  have hc := HC.out
  unfold opC at hc
  rw [HO.out] at hc
  go_enter Tryz.func20, Tryz.ntmps20
  go_wp2_with fail
  rw [HX0.out]
  clear HX0
  refine (ofKind_any q.kind X0 HS0 h1').mono ?_
  rw [HO.out]
  rintro e w1 ⟨hb1, he⟩
  have hbb1 := hbz.trans (hb1.mono hbz.size)
  have N1 := N0.on hb1
  have HU1 := hid_of3 (HU0.out.on hb1)
  clear hb1 HS0 HU0 N0
  cases o with
  | none =>
    simp only at he hc
    subst he hc
    have hbx : Below w.heap.size w (w1.alloc (.cells #[.int .i64 0, .string ⟨#[]⟩, .bool false, .int .i64 0, .int .i64 0, .int .i64 0, .bool false] 92)) := hbb1.alloc hbb1.size _
    unfold shp0 Shp.val Shp.bytes
    go_wp2_with fail
    go_ret
    exact ⟨rfl, hbx⟩
  | some s =>
    simp only at he hc
    subst he
    obtain ⟨hs1, hs2⟩ := shps_ok s (kindAt_mem _ _ _ HO.out).1
    have hbx1 : Below w1.heap.size w1 (w1.alloc (.cells #[.int .i64 (s.kind : Int), .string s.bytes, .bool s.id, .int .i64 (s.nums : Int), .int .i64 s.low, .int .i64 s.high, .bool s.pic] 92)) := (Below.refl _ _).alloc (Nat.le_refl _) _
    have S1 := seven_start w1 (.int .i64 (s.kind : Int)) (.string s.bytes) (.bool s.id) (.int .i64 (s.nums : Int)) (.int .i64 s.low) (.int .i64 s.high) (.bool s.pic) 92 w1.heap.size rfl
    have N2 := N1.on hbx1
    have HU2 := hid_of3 (HU1.out.on hbx1)
    have hbb2 := hbb1.trans (hbx1.mono hbb1.size)
    obtain ⟨m0, m1, m2, m3, m4, m5, m6, m7, m8, mf0, mf1, mf2, mf3, mf4, mf5, mf6, mf7, mf8, mlt⟩ := N2
    unfold Shp.val
    go_wp2_with fail
    obtain ⟨X2, HX2⟩ : ∃ X2, Hid (w1.alloc (.cells #[.int .i64 (s.kind : Int), .string s.bytes, .bool s.id, .int .i64 (s.nums : Int), .int .i64 s.low, .int .i64 s.high, .bool s.pic] 92) = X2) := ⟨_, (rfl : _ = _)⟩
    rw [HX2.out] at S1 HU2 hbb2 hbx1
    rw [HX2.out]
    have N2 := N1.on hbx1
    clear m0 m1 m2 m3 m4 m5 m6 m7 m8 mf0 mf1 mf2 mf3 mf4 mf5 mf6 mf7 mf8 mlt HX2 N1 HU1 hbx1
    refine (foreign_any q s ap np cp X2 hs1 hs2 HNP (by omega)).mono ?_
    rintro e w3 ⟨v3, rfl, hr3, hb3⟩
    have HRI := hid_of3 hr3
    obtain ⟨a3, c3, hv3, hl3, hc3, _⟩ := hr3
    have hfl : (forL q s).length ≤ 1000 := by unfold forL nums4; split <;> split <;> simp <;> omega
    obtain ⟨n3, HN3⟩ : ∃ n3, Hid ((forL q s).length = n3) := ⟨_, (rfl : _ = _)⟩
    rw [HN3.out] at hv3
    subst hv3
    have N3 := N2.on hb3
    have S3 := S1.on hb3
    have HU3 := hid_of3 (HU2.out.on hb3)
    have hbb3 := hbb2.trans (hb3.mono hbb2.size)
    clear hb3 N2 S1 HU2 hbb2
    obtain ⟨t, HT⟩ : ∃ t, Hid ((forL q s).any (fun n => decide (n ≠ 0)) = t) := ⟨_, (rfl : _ = _)⟩
    rw [HT.out] at hc
    go_wp2_with fail
    refine (containsN_any _ (forL q s) w3 hfl HRI t HT).mono ?_
    rintro e w4 ⟨rfl, hb4⟩
    have N4 := N3.on hb4
    have S4 := S3.on hb4
    have HU4 := hid_of3 (HU3.out.on hb4)
    have hbb4 := hbb3.trans (hb4.mono hbb3.size)
    clear hb4 N3 S3 HU3 hbb3 HRI
    cases t with
    | true =>
      rw [if_pos rfl] at hc
      subst hc
      go_wp2_with fail
      go_ret
      exact ⟨rfl, hbb4⟩
    | false =>
      rw [if_neg (by simp)] at hc
      have N4h := hid_of3 N4
      have S4h := hid_of3 S4
      obtain ⟨m0, m1, m2, m3, m4, m5, m6, m7, m8, mf0, mf1, mf2, mf3, mf4, mf5, mf6, mf7, mf8, mlt⟩ := N4
      obtain ⟨s0, s1, s2, s3, s4, s5, s6, sf0, sf1, sf2, sf3, sf4, sf5, sf6, slt⟩ := S4
      obtain ⟨bi, HBI⟩ : ∃ b, Hid ((s.id && (decide (q.id < 1) || decide (6 < q.id))) = b) := ⟨_, (rfl : _ = _)⟩
      obtain ⟨bb, HBB⟩ : ∃ b, Hid (inB q s = b) := ⟨_, (rfl : _ = _)⟩
      rw [HBI.out, HBB.out] at hc
      cases hid : s.id with
      | true =>
        rw [hid] at s2 HBI
        by_cases g1 : q.id < 1
        · have : bi = true := by rw [← HBI.out]; simp [g1]
          subst this
          rw [if_pos (.inl rfl)] at hc
          subst hc
          clear hid HBI
          go_wp2_with fail
          go_ret
          exact ⟨rfl, hbb4⟩
        · by_cases g2 : 6 < q.id
          · have : bi = true := by rw [← HBI.out]; simp [g2]
            subst this
            rw [if_pos (.inl rfl)] at hc
            subst hc
            clear hid HBI
            go_wp2_with fail
            go_ret
            exact ⟨rfl, hbb4⟩
          · have : bi = false := by rw [← HBI.out]; simp [g1, g2]
            subst this
            have hib := inBounds_any q s ap np cp w4 hs1 bb HBB
            unfold Shp.val at hib
            rw [hid] at hib
            have N4 := N4h.out
            have S4 := S4h.out
            clear hid HBI
            go_wp2_with fail
            refine hib.mono ?_
            clear hib
            rintro e w5 ⟨rfl, hb5⟩
            have HU5 := hid_of3 (HU4.out.on hb5)
            have hbb5 := hbb4.trans (hb5.mono hbb4.size)
            have N5 := N4.on hb5
            have S5 := S4.on hb5
            clear m0 m1 m2 m3 m4 m5 m6 m7 m8 mf0 mf1 mf2 mf3 mf4 mf5 mf6 mf7 mf8 mlt s0 s1 s2 s3 s4 s5 s6 sf0 sf1 sf2 sf3 sf4 sf5 sf6 slt
            obtain ⟨m0, m1, m2, m3, m4, m5, m6, m7, m8, mf0, mf1, mf2, mf3, mf4, mf5, mf6, mf7, mf8, mlt⟩ := N5
            obtain ⟨s0, s1, s2, s3, s4, s5, s6, sf0, sf1, sf2, sf3, sf4, sf5, sf6, slt⟩ := S5
            clear hb5 HU4 hbb4 N4 S4 N4h S4h
            cases bb with
            | false =>
              rw [if_pos (.inr rfl)] at hc
              subst hc
              go_wp2_with fail
              go_ret
              exact ⟨rfl, hbb5⟩
            | true =>
              rw [if_neg (by simp)] at hc
              cases hp : s.pic with
              | false =>
                rw [hp] at s6 hc
                rw [if_neg (by simp)] at hc
                subst hc
                clear hp
                go_wp2_with fail
                go_ret
                exact ⟨rfl, hbb5⟩
              | true =>
                rw [hp] at s6 hc
                rw [if_pos rfl] at hc
                have HC2 := hid_of3 hc
                clear hp hc
                go_wp2_with fail
                refine (check_any q.pw q.ph _ q.ps _ hps HU5 c HC2).mono ?_
                rintro e w6 ⟨rfl, hb6⟩
                have hbb6 := hbb5.trans (hb6.mono hbb5.size)
                clear hb6
                go_wp2_with fail
                go_ret
                exact ⟨rfl, hbb6⟩
      | false =>
        rw [hid] at s2 HBI
        have : bi = false := by rw [← HBI.out]; rfl
        subst this
        have hib := inBounds_any q s ap np cp w4 hs1 bb HBB
        unfold Shp.val at hib
        rw [hid] at hib
        have N4 := N4h.out
        have S4 := S4h.out
        clear hid HBI
        go_wp2_with fail
        refine hib.mono ?_
        clear hib
        rintro e w5 ⟨rfl, hb5⟩
        have HU5 := hid_of3 (HU4.out.on hb5)
        have hbb5 := hbb4.trans (hb5.mono hbb4.size)
        have N5 := N4.on hb5
        have S5 := S4.on hb5
        clear m0 m1 m2 m3 m4 m5 m6 m7 m8 mf0 mf1 mf2 mf3 mf4 mf5 mf6 mf7 mf8 mlt s0 s1 s2 s3 s4 s5 s6 sf0 sf1 sf2 sf3 sf4 sf5 sf6 slt
        obtain ⟨m0, m1, m2, m3, m4, m5, m6, m7, m8, mf0, mf1, mf2, mf3, mf4, mf5, mf6, mf7, mf8, mlt⟩ := N5
        obtain ⟨s0, s1, s2, s3, s4, s5, s6, sf0, sf1, sf2, sf3, sf4, sf5, sf6, slt⟩ := S5
        clear hb5 HU4 hbb4 N4 S4 N4h S4h
        cases bb with
        | false =>
          rw [if_pos (.inr rfl)] at hc
          subst hc
          go_wp2_with fail
          go_ret
          exact ⟨rfl, hbb5⟩
        | true =>
          rw [if_neg (by simp)] at hc
          cases hp : s.pic with
          | false =>
            rw [hp] at s6 hc
            rw [if_neg (by simp)] at hc
            subst hc
            clear hp
            go_wp2_with fail
            go_ret
            exact ⟨rfl, hbb5⟩
          | true =>
            rw [hp] at s6 hc
            rw [if_pos rfl] at hc
            have HC2 := hid_of3 hc
            clear hp hc
            go_wp2_with fail
            refine (check_any q.pw q.ph _ q.ps _ hps HU5 c HC2).mono ?_
            rintro e w6 ⟨rfl, hb6⟩
            have hbb6 := hbb5.trans (hb6.mono hbb5.size)
            clear hb6
            go_wp2_with fail
            go_ret
            exact ⟨rfl, hbb6⟩
end Go.Proofs.YtceabiodelfdoaaGreatDoor
/- Lists of objects. -/
namespace Go.Proofs.YtceabiodelfdoaaGreatDoor
open Go.RowKit

def Po.fault' (x : Po) : Nat := objC x.id x.x x.y x.pw x.ph x.ps x.cx x.cy x.cw x.ch
theorem getD_mem_po {os : List Po} {k : Nat} (h : k < os.length) : os.getD k po0 ∈ os := by
  rw [List.getD_eq_getElem?_getD, List.getElem?_eq_getElem h]
  simp
theorem all_mem {P : Po → Prop} (os : List Po) : (∀ j, j < os.length → P (os.getD j po0)) ↔ ∀ o ∈ os, P o := by
  constructor
  · intro h o ho
    obtain ⟨j, hj, e⟩ := List.mem_iff_getElem.1 ho
    have := h j hj
    rw [List.getD_eq_getElem?_getD, List.getElem?_eq_getElem hj] at this
    simp only [Option.getD_some] at this
    rw [e] at this
    exact this
  · intro h j hj
    exact h _ (getD_mem_po hj)
theorem setO_mem (x : Po) : ∀ (os : List Po), ∀ o ∈ setO os x, o = x ∨ o ∈ os := by
  intro os
  induction os with
  | nil => intro o ho; simp [setO] at ho; exact .inl ho
  | cons a r ih =>
    intro o ho
    unfold setO at ho
    split at ho
    · rcases List.mem_cons.1 ho with h | h
      · exact .inl h
      · exact .inr h
    · split at ho
      · rcases List.mem_cons.1 ho with h | h
        · exact .inl h
        · exact .inr (by simp [h])
      · rcases List.mem_cons.1 ho with h | h
        · exact .inr (by simp [h])
        · rcases ih o h with h | h
          · exact .inl h
          · exact .inr (by simp [h])
theorem setO_len (x : Po) : ∀ (os : List Po), (setO os x).length ≤ os.length + 1 := by
  intro os
  induction os with
  | nil => simp [setO]
  | cons a r ih =>
    unfold setO
    split
    · simp
    · split
      · simp
      · simpa using ih
theorem sort_tail {a : Po} {r : List Po} (h : SortO (a :: r)) : SortO r ∧ ∀ o ∈ r, a.id < o.id := by
  refine ⟨fun i j hij hj => ?_, ?_⟩
  · have := h (i + 1) (j + 1) (by omega) (by simpa using hj)
    rw [getD_succ, getD_succ] at this
    exact this
  · rw [← all_mem]
    intro j hj
    have := h 0 (j + 1) (by omega) (by simpa using hj)
    rw [getD_zero, getD_succ] at this
    exact this
theorem rdO_nil (w : World) : RdO w (.slice none 0 0) [] := ⟨none, 0, rfl, by simp, by omega, fun h => absurd rfl h⟩
end Go.Proofs.YtceabiodelfdoaaGreatDoor
/- Pictures as lists: what is added and put. -/
namespace Go.Proofs.YtceabiodelfdoaaGreatDoor
open Go.RowKit

theorem ch_len (f : Int × Int → Int × Int → Int × Int) (PW : Nat) (ps : List (Int × Int)) (QW QH : Nat) (qs : List (Int × Int)) (x y a b c d : Int) : (chL f PW ps QW QH qs x y a b c d).length = ps.length := grid_len _ _ _ _ _
theorem ch_getD (f : Int × Int → Int × Int → Int × Int) (PW : Nat) (ps : List (Int × Int)) (QW QH : Nat) (qs : List (Int × Int)) (x y a b c d : Int) (k : Nat) (hk : k < ps.length) :
    (chL f PW ps QW QH qs x y a b c d).getD k (0, 0) = if (hasB a b c d ((k % PW : Nat) : Int) ((k / PW : Nat) : Int) && hasB x y (QW : Int) (QH : Int) ((k % PW : Nat) : Int) ((k / PW : Nat) : Int)) = true then gq f PW ps QW qs x y k else ps.getD k (0, 0) := grid_getD _ _ _ _ _ _ hk
theorem getD_ok (ps : List (Int × Int)) (h : ∀ k, k < ps.length → pixOk (ps.getD k (0, 0))) (k : Nat) : pixOk (ps.getD k (0, 0)) := by
  by_cases hk : k < ps.length
  · exact h k hk
  · rw [List.getD_eq_getElem?_getD, List.getElem?_eq_none (by omega)]
    unfold pixOk; simp
theorem check_of (PW PH : Nat) (ps : List (Int × Int)) (h1 : 1 ≤ PW) (h2 : PW ≤ 8) (h3 : 1 ≤ PH) (h4 : PH ≤ 8) (hl : ps.length = PW * PH) (hok : ∀ k, k < ps.length → pixOk (ps.getD k (0, 0))) : checkL (PW : Int) (PH : Int) ps = 0 := by
  unfold checkL
  have hw : sideB (PW : Int) = true := by unfold sideB; simp; omega
  have hh : sideB (PH : Int) = true := by unfold sideB; simp; omega
  rw [if_neg (by simp [hw, hh]), if_neg (by rw [hl]; simp)]
  rw [if_pos]
  rw [List.all_eq_true]
  intro p hp
  obtain ⟨k, hk, he⟩ := List.getElem_of_mem hp
  have := hok k hk
  rw [List.getD_eq_getElem?_getD, List.getElem?_eq_getElem hk, Option.getD_some, he] at this
  unfold okPix shadeB
  unfold pixOk at this
  simp only [Bool.and_eq_true, decide_eq_true_eq]
  omega
theorem ch_check (f : Int × Int → Int × Int → Int × Int) (hf : ∀ p q, pixOk p → pixOk q → pixOk (f p q)) (PW PH : Nat) (ps : List (Int × Int)) (QW QH : Nat) (qs : List (Int × Int)) (x y a b c d : Int) (hp : checkL (PW : Int) (PH : Int) ps = 0) (hq : checkL (QW : Int) (QH : Int) qs = 0) :
    checkL (PW : Int) (PH : Int) (chL f PW ps QW QH qs x y a b c d) = 0 := by
  obtain ⟨PW', PH', e1, e2, h1, h2, h3, h4, hl, hok⟩ := check_zero _ _ _ hp
  obtain rfl : PW' = PW := by omega
  obtain rfl : PH' = PH := by omega
  obtain ⟨_, _, _, _, _, _, _, _, _, qok⟩ := check_zero _ _ _ hq
  refine check_of _ _ _ h1 h2 h3 h4 (by rw [ch_len]; exact hl) (fun k hk => ?_)
  rw [ch_len] at hk
  rw [ch_getD _ _ _ _ _ _ _ _ _ _ _ _ _ hk]
  split
  · exact hf _ _ (hok k hk) (getD_ok qs qok _)
  · exact hok k hk
theorem add_ok (p q : Int × Int) (_ : pixOk p) (_ : pixOk q) : pixOk (addP p q) := by unfold addP pixOk; simp only; omega
theorem put_ok (p q : Int × Int) (_ : pixOk p) (h : pixOk q) : pixOk ((fun (_ q : Int × Int) => q) p q) := h

theorem list_ext (a b : List (Int × Int)) (hl : a.length = b.length) (h : ∀ k, k < a.length → a.getD k (0, 0) = b.getD k (0, 0)) : a = b := by
  apply List.ext_getElem?
  intro k
  by_cases hk : k < a.length
  · have := h k hk
    rw [List.getD_eq_getElem?_getD, List.getD_eq_getElem?_getD, List.getElem?_eq_getElem hk, List.getElem?_eq_getElem (show k < b.length by omega)] at this
    rw [List.getElem?_eq_getElem hk, List.getElem?_eq_getElem (show k < b.length by omega)]
    exact congrArg some this
  · rw [List.getElem?_eq_none (by omega), List.getElem?_eq_none (by omega)]

theorem add_swap (p q r : Int × Int) : addP (addP p q) r = addP (addP p r) q := by
  unfold addP; simp only [Prod.mk.injEq]; omega
theorem chadd_swap (PW : Nat) (ps : List (Int × Int)) (QW QH : Nat) (qs : List (Int × Int)) (x y : Int) (RW RH : Nat) (rs : List (Int × Int)) (i j a b c d : Int) :
    chL addP PW (chL addP PW ps QW QH qs x y a b c d) RW RH rs i j a b c d = chL addP PW (chL addP PW ps RW RH rs i j a b c d) QW QH qs x y a b c d := by
  apply list_ext
  · simp only [ch_len]
  · intro k hk
    simp only [ch_len] at hk
    have A := ch_getD addP PW (chL addP PW ps QW QH qs x y a b c d) RW RH rs i j a b c d k (by rw [ch_len]; exact hk)
    have B := ch_getD addP PW (chL addP PW ps RW RH rs i j a b c d) QW QH qs x y a b c d k (by rw [ch_len]; exact hk)
    have C := ch_getD addP PW ps QW QH qs x y a b c d k hk
    have D := ch_getD addP PW ps RW RH rs i j a b c d k hk
    unfold gq at A B C D
    rw [A, B, C, D]
    generalize (hasB a b c d ((k % PW : Nat) : Int) ((k / PW : Nat) : Int) && hasB i j (RW : Int) (RH : Int) ((k % PW : Nat) : Int) ((k / PW : Nat) : Int)) = c1
    generalize (hasB a b c d ((k % PW : Nat) : Int) ((k / PW : Nat) : Int) && hasB x y (QW : Int) (QH : Int) ((k % PW : Nat) : Int) ((k / PW : Nat) : Int)) = c2
    cases c1 <;> cases c2 <;> simp [add_swap]

/-- so often added -/
def tmsL (n : Nat) (PW : Nat) (ps : List (Int × Int)) (QW QH : Nat) (qs : List (Int × Int)) (x y a b c d : Int) : List (Int × Int) :=
  chL (fun p q => ((p.1 + (n : Int) * q.1) % 256, (p.2 + (n : Int) * q.2) % 256)) PW ps QW QH qs x y a b c d
theorem tms_add (n : Nat) (p q : Int × Int) : addP ((p.1 + (n : Int) * q.1) % 256, (p.2 + (n : Int) * q.2) % 256) q = ((p.1 + ((n + 1 : Nat) : Int) * q.1) % 256, (p.2 + ((n + 1 : Nat) : Int) * q.2) % 256) := by
  have e : ∀ z : Int, ((n + 1 : Nat) : Int) * z = (n : Int) * z + z := by intro z; rw [Int.natCast_add, Int.add_mul]; simp
  rw [e, e]
  unfold addP
  simp only [Prod.mk.injEq]
  generalize (n : Int) * q.1 = t1
  generalize (n : Int) * q.2 = t2
  omega
theorem tms_step (n : Nat) (PW : Nat) (ps : List (Int × Int)) (QW QH : Nat) (qs : List (Int × Int)) (x y a b c d : Int) :
    chL addP PW (tmsL n PW ps QW QH qs x y a b c d) QW QH qs x y a b c d = tmsL (n + 1) PW ps QW QH qs x y a b c d := by
  apply list_ext
  · simp only [tmsL, ch_len]
  · intro k hk
    simp only [tmsL, ch_len] at hk
    have A := ch_getD addP PW (tmsL n PW ps QW QH qs x y a b c d) QW QH qs x y a b c d k (by unfold tmsL; rw [ch_len]; exact hk)
    have B := ch_getD (fun p q => ((p.1 + (n : Int) * q.1) % 256, (p.2 + (n : Int) * q.2) % 256)) PW ps QW QH qs x y a b c d k hk
    have C := ch_getD (fun p q => ((p.1 + ((n + 1 : Nat) : Int) * q.1) % 256, (p.2 + ((n + 1 : Nat) : Int) * q.2) % 256)) PW ps QW QH qs x y a b c d k hk
    unfold gq at A B C
    rw [A]
    unfold tmsL
    rw [B, C]
    generalize (hasB a b c d ((k % PW : Nat) : Int) ((k / PW : Nat) : Int) && hasB x y (QW : Int) (QH : Int) ((k % PW : Nat) : Int) ((k / PW : Nat) : Int)) = c2
    cases c2
    · simp
    · simp only [if_true]
      exact tms_add n _ _
theorem tms_end (n : Nat) (hn : n = 0 ∨ n = 256) (PW : Nat) (ps : List (Int × Int)) (QW QH : Nat) (qs : List (Int × Int)) (x y a b c d : Int) (hok : ∀ k, k < ps.length → pixOk (ps.getD k (0, 0))) : tmsL n PW ps QW QH qs x y a b c d = ps := by
  apply list_ext
  · simp only [tmsL, ch_len]
  · intro k hk
    simp only [tmsL, ch_len] at hk ⊢
    rw [ch_getD _ _ _ _ _ _ _ _ _ _ _ _ _ hk]
    split
    · have h := hok k hk
      unfold gq
      generalize qs.getD _ (0, 0) = q
      generalize ps.getD k (0, 0) = p at h ⊢
      obtain ⟨p1, p2⟩ := p
      obtain ⟨q1, q2⟩ := q
      unfold pixOk at h
      simp only [Prod.mk.injEq] at h ⊢
      rcases hn with rfl | rfl
      · simp; omega
      · have e : ∀ z : Int, ((256 : Nat) : Int) * z = 256 * z := fun z => rfl
        rw [e, e]
        omega
    · rfl
theorem tms_check (n : Nat) (PW PH : Nat) (ps : List (Int × Int)) (QW QH : Nat) (qs : List (Int × Int)) (x y a b c d : Int) (hp : checkL (PW : Int) (PH : Int) ps = 0) (hq : checkL (QW : Int) (QH : Int) qs = 0) :
    checkL (PW : Int) (PH : Int) (tmsL n PW ps QW QH qs x y a b c d) = 0 :=
  ch_check _ (fun p q _ _ => by
    unfold pixOk; simp only
    generalize (n : Int) * q.1 = t1
    generalize (n : Int) * q.2 = t2
    omega) _ _ _ _ _ _ _ _ _ _ _ _ hp hq
/-- put twice is put once -/
theorem chput_twice (PW : Nat) (ps : List (Int × Int)) (QW QH : Nat) (qs : List (Int × Int)) (x y a b c d : Int) :
    chL (fun _ q => q) PW (chL (fun _ q => q) PW ps QW QH qs x y a b c d) QW QH qs x y a b c d = chL (fun _ q => q) PW ps QW QH qs x y a b c d := by
  apply list_ext
  · simp only [ch_len]
  · intro k hk
    simp only [ch_len] at hk
    have A := ch_getD (fun _ q => q) PW (chL (fun _ q => q) PW ps QW QH qs x y a b c d) QW QH qs x y a b c d k (by rw [ch_len]; exact hk)
    have C := ch_getD (fun _ q => q) PW ps QW QH qs x y a b c d k hk
    unfold gq at A C
    rw [A, C]
    generalize (hasB a b c d ((k % PW : Nat) : Int) ((k / PW : Nat) : Int) && hasB x y (QW : Int) (QH : Int) ((k % PW : Nat) : Int) ((k / PW : Nat) : Int)) = c2
    cases c2 <;> simp
end Go.Proofs.YtceabiodelfdoaaGreatDoor
/- What Do keeps: lists. -/
namespace Go.Proofs.YtceabiodelfdoaaGreatDoor
open Go.RowKit

theorem sort_pair (os : List Po) : SortO os ↔ os.Pairwise (fun a b => a.id < b.id) := by
  rw [List.pairwise_iff_getElem]
  have e : ∀ k (hk : k < os.length), os.getD k po0 = os[k] := fun k hk => by rw [List.getD_eq_getElem?_getD, List.getElem?_eq_getElem hk]; rfl
  constructor
  · intro h i j hi hj hij
    have := h i j hij hj
    rw [e i hi, e j hj] at this
    exact this
  · intro h i j hij hj
    have := h i j (by omega) hj hij
    rw [e i (by omega), e j hj]
    exact this
theorem setO_sort (x : Po) (os : List Po) (h : SortO os) : SortO (setO os x) := by
  rw [sort_pair] at h ⊢
  induction os with
  | nil => simp [setO]
  | cons a r ih =>
    rw [List.pairwise_cons] at h
    unfold setO
    split
    · rename_i hx
      rw [List.pairwise_cons]
      refine ⟨fun b hb => ?_, by rw [List.pairwise_cons]; exact h⟩
      rcases List.mem_cons.1 hb with rfl | hb
      · exact hx
      · have := h.1 b hb
        omega
    · split
      · rename_i he
        rw [List.pairwise_cons]
        exact ⟨fun b hb => by have := h.1 b hb; omega, h.2⟩
      · rw [List.pairwise_cons]
        refine ⟨fun b hb => ?_, ih h.2⟩
        rcases setO_mem x r b hb with rfl | hb
        · omega
        · exact h.1 b hb
theorem dropO_sort (os : List Po) (t : Int) (h : SortO os) : SortO (dropO os t) := by
  rw [sort_pair] at h ⊢
  exact h.filter _
theorem find_set (x : Po) (t : Int) (hx : x.id ≠ t) : ∀ os : List Po, (setO os x).find? (fun o => decide (o.id = t)) = os.find? (fun o => decide (o.id = t)) := by
  intro os
  induction os with
  | nil => simp [setO, hx]
  | cons a r ih =>
    unfold setO
    split
    · rw [List.find?_cons_of_neg (by simpa using hx)]
    · split
      · rename_i he
        rw [List.find?_cons_of_neg (by simpa using hx), List.find?_cons_of_neg (by simp; omega)]
      · by_cases ha : a.id = t
        · rw [List.find?_cons_of_pos (by simpa using ha), List.find?_cons_of_pos (by simpa using ha)]
        · rw [List.find?_cons_of_neg (by simpa using ha), List.find?_cons_of_neg (by simpa using ha), ih]
theorem find_drop (d t : Int) (hd : d ≠ t) : ∀ os : List Po, (dropO os d).find? (fun o => decide (o.id = t)) = os.find? (fun o => decide (o.id = t)) := by
  intro os
  unfold dropO
  induction os with
  | nil => rfl
  | cons a r ih =>
    by_cases ha : a.id = d
    · rw [List.filter_cons_of_neg (by simp [ha]), ih, List.find?_cons_of_neg (by simp; omega)]
    · rw [List.filter_cons_of_pos (by simp [ha])]
      by_cases h2 : a.id = t
      · rw [List.find?_cons_of_pos (by simpa using h2), List.find?_cons_of_pos (by simpa using h2)]
      · rw [List.find?_cons_of_neg (by simpa using h2), List.find?_cons_of_neg (by simpa using h2), ih]

/-- what an op that may be has -/
theorem op_shape (q : Pq) (h : opC q = 0) (s : Shp) (hs : kindAt q.kind shps = some s) : (forL q s).any (fun n => decide (n ≠ 0)) = false ∧ (s.id = true → 1 ≤ q.id ∧ q.id ≤ 6) ∧ inB q s = true ∧ (s.pic = true → checkL q.pw q.ph q.ps = 0) := by
  unfold opC at h
  rw [hs] at h
  simp only at h
  split at h
  · omega
  · rename_i h1
    split at h
    · omega
    · rename_i h2
      refine ⟨by simpa using h1, fun hi => ?_, ?_, fun hp => ?_⟩
      · rw [hi] at h2
        simp at h2
        omega
      · cases hb : inB q s with
        | true => rfl
        | false => exact absurd (.inr hb) h2
      · rw [if_pos hp] at h
        exact h
theorem op_pic (q : Pq) (h : opC q = 0) (hk : q.kind = 8 ∨ q.kind = 9) : checkL q.pw q.ph q.ps = 0 ∧ -20 ≤ q.a ∧ q.a ≤ 20 ∧ -20 ≤ q.b ∧ q.b ≤ 20 := by
  rcases hk with hk | hk
  · obtain ⟨_, _, h3, h4⟩ := op_shape q h ⟨8, [80, 65, 68, 68], true, 2, (-20), 20, true⟩ (by rw [hk]; rfl)
    refine ⟨h4 rfl, ?_⟩
    simp [inB, nums4] at h3
    omega
  · obtain ⟨_, _, h3, h4⟩ := op_shape q h ⟨9, [80, 80, 85, 84], true, 2, (-20), 20, true⟩ (by rw [hk]; rfl)
    refine ⟨h4 rfl, ?_⟩
    simp [inB, nums4] at h3
    omega
theorem op_pict (q : Pq) (h : opC q = 0) (hk : q.kind = 2) : checkL q.pw q.ph q.ps = 0 ∧ 1 ≤ q.id ∧ q.id ≤ 6 := by
  obtain ⟨_, h2, _, h4⟩ := op_shape q h ⟨2, [80, 73, 67, 84], true, 0, 0, 0, true⟩ (by rw [hk]; rfl)
  exact ⟨h4 rfl, h2 rfl⟩
theorem op_move (q : Pq) (h : opC q = 0) (hk : q.kind = 3) : -20 ≤ q.a ∧ q.a ≤ 20 ∧ -20 ≤ q.b ∧ q.b ≤ 20 := by
  obtain ⟨_, _, h3, _⟩ := op_shape q h ⟨3, [77, 79, 86, 69], true, 2, (-20), 20, false⟩ (by rw [hk]; rfl)
  simp [inB, nums4] at h3
  omega
theorem op_clip (q : Pq) (h : opC q = 0) (hk : q.kind = 4) : rectC q.a q.b q.c q.d = 0 := by
  obtain ⟨_, _, h3, _⟩ := op_shape q h ⟨4, [67, 76, 73, 80], true, 4, 0, 0, false⟩ (by rw [hk]; rfl)
  simpa [inB] using h3
theorem op_copy (q : Pq) (h : opC q = 0) (hk : q.kind = 6) : 1 ≤ q.a ∧ q.a ≤ 6 := by
  obtain ⟨_, _, h3, _⟩ := op_shape q h ⟨6, [67, 79, 80, 89], true, 1, 1, 6, false⟩ (by rw [hk]; rfl)
  simp [inB, nums4] at h3
  omega

theorem fault_iff (o : Po) : o.fault' = 0 ↔ (1 ≤ o.id ∧ o.id ≤ 6) ∧ rectC o.x o.y 0 0 = 0 ∧ rectC o.cx o.cy o.cw o.ch = 0 ∧ checkL o.pw o.ph o.ps = 0 := by
  unfold Po.fault' objC
  have r1 := rectC_cases o.x o.y 0 0
  have r2 := rectC_cases o.cx o.cy o.cw o.ch
  constructor
  · intro h
    split at h
    · omega
    split at h
    · omega
    split at h
    · omega
    exact ⟨by omega, by omega, by omega, h⟩
  · rintro ⟨h1, h2, h3, h4⟩
    rw [if_neg (by omega), if_neg (by omega), if_neg (by omega)]
    exact h4
theorem check_len (W H : Int) (ps : List (Int × Int)) (h : checkL W H ps = 0) : ps.length ≤ 64 := by
  obtain ⟨PW, PH, _, _, _, p2, _, p4, p5, _⟩ := check_zero _ _ _ h
  have := Nat.mul_le_mul p2 p4
  omega
/-- an object that is changed may be -/
theorem act_good (q : Pq) (h : opC q = 0) (o x : Po) (ho : o.fault' = 0) (hx : actO q o = some x) : x.fault' = 0 := by
  rw [fault_iff] at ho ⊢
  obtain ⟨h1, h2, h3, h4⟩ := ho
  obtain ⟨PW, PH, e1, e2, p1, p2, p3, p4, p5, _⟩ := check_zero _ _ _ h4
  unfold actO at hx
  split at hx
  · rename_i hk
    obtain rfl := Option.some.inj hx
    have := op_move q h hk
    exact ⟨h1, by show rectC q.a q.b 0 0 = 0; rw [rectC_zero]; omega, h3, h4⟩
  split at hx
  · rename_i hk
    obtain rfl := Option.some.inj hx
    exact ⟨h1, h2, op_clip q h hk, h4⟩
  split at hx
  · obtain rfl := Option.some.inj hx
    exact ⟨h1, h2, h3, h4⟩
  split at hx
  · rename_i hk
    obtain rfl := Option.some.inj hx
    exact ⟨op_copy q h hk, h2, h3, h4⟩
  split at hx
  · rename_i hk
    obtain rfl := Option.some.inj hx
    obtain ⟨zc, z1, z2, z3, z4⟩ := op_pic q h (.inl hk)
    obtain ⟨ZW, ZH, e3, e4, _⟩ := check_zero _ _ _ zc
    refine ⟨h1, h2, h3, ?_⟩
    show checkL o.pw o.ph (chL addP o.pw.toNat o.ps q.pw.toNat q.ph.toNat q.ps q.a q.b 0 0 o.pw o.ph) = 0
    rw [e1, e2] at h4 ⊢
    rw [e3, e4] at zc ⊢
    exact ch_check _ add_ok PW PH o.ps _ _ q.ps q.a q.b 0 0 _ _ h4 (by simpa using zc)
  split at hx
  · rename_i hk
    obtain rfl := Option.some.inj hx
    obtain ⟨zc, z1, z2, z3, z4⟩ := op_pic q h (.inr hk)
    obtain ⟨ZW, ZH, e3, e4, _⟩ := check_zero _ _ _ zc
    refine ⟨h1, h2, h3, ?_⟩
    show checkL o.pw o.ph (chL (fun _ z => z) o.pw.toNat o.ps q.pw.toNat q.ph.toNat q.ps q.a q.b 0 0 o.pw o.ph) = 0
    rw [e1, e2] at h4 ⊢
    rw [e3, e4] at zc ⊢
    exact ch_check _ (fun _ _ _ h => h) PW PH o.ps _ _ q.ps q.a q.b 0 0 _ _ h4 (by simpa using zc)
  · cases hx
end Go.Proofs.YtceabiodelfdoaaGreatDoor
/- Walks of the reference's picture: PictureFault, byteAt, guess. -/
namespace Go.Proofs.YtceabiodelfdoaaGreatDoor
open Go.RowKit

set_option maxRecDepth 100000 in
theorem side_false1 {n : Int} (h : n < 1) : sideB n = false := by unfold sideB; simp; omega
set_option maxRecDepth 100000 in
theorem side_false8 {n : Int} (h : 8 < n) : sideB n = false := by unfold sideB; simp; omega
set_option maxRecDepth 100000 in
theorem side_true {n : Int} (h1 : ¬ n < 1) (h2 : ¬ 8 < n) : sideB n = true := by unfold sideB; simp; omega

end Go.Proofs.YtceabiodelfdoaaGreatDoor
/- Walks of the reference's picture: PictureFault, byteAt, guess. -/
namespace Go.Proofs.YtceabiodelfdoaaGreatDoor
open Go.RowKit

end Go.Proofs.YtceabiodelfdoaaGreatDoor
/- Walks of the reference's Over and ObjectFault. -/
namespace Go.Proofs.YtceabiodelfdoaaGreatDoor
open Go.RowKit

theorem rectC_out1 (x y : Int) (h : x < -20 ∨ 20 < x ∨ y < -20 ∨ 20 < y) : rectC x y 0 0 = 1 := by
  rcases rectC_cases x y 0 0 with r | r
  · rw [rectC_zero] at r; omega
  · exact r
end Go.Proofs.YtceabiodelfdoaaGreatDoor
/- Walk: LightObjects. -/
namespace Go.Proofs.YtceabiodelfdoaaGreatDoor
open Go.RowKit

def Po.fault (x : Po) : Nat := objC x.id x.x x.y x.pw x.ph x.ps x.cx x.cy x.cw x.ch
/-- objects that may be, in order, few and small -/
structure GoodO (os : List Po) : Prop where
  few : os.length ≤ 6
  pix : ∀ j, j < os.length → (os.getD j po0).ps.length ≤ 80
  ok : ∀ j, j < os.length → (os.getD j po0).fault = 0
  sort : SortO os

theorem sort_adj (os : List Po) (h : ∀ j, j + 1 < os.length → (os.getD j po0).id < (os.getD (j + 1) po0).id) : SortO os := by
  intro i j hij
  induction j with
  | zero => omega
  | succ j ih =>
    intro hj
    have h1 := h j hj
    rcases Nat.lt_or_ge i j with h2 | h2
    · have := ih h2 (by omega)
      omega
    · have : i = j := by omega
      subst this
      exact h1

def LightQ (os : List Po) (w : World) (e : Ending) (w' : World) : Prop := ∃ b, e = .returned (.bool b) ∧ (b = true → GoodO os) ∧ Below w.heap.size w w'

theorem wrap_s {x : Int} (h1 : 0 ≤ x) (h2 : x ≤ 1000000) : IntKind.i64.wrap x = x := by
  rw [IntKind.wrap_i64]
  omega
theorem lightQ_no {os : List Po} {w w' : World} (h : Below w.heap.size w w') : LightQ os w (.returned (.bool false)) w' := ⟨false, rfl, (by intro h; cases h), h⟩

end Go.Proofs.YtceabiodelfdoaaGreatDoor
/- Lists of objects: what Do gives, what is found. -/
namespace Go.Proofs.YtceabiodelfdoaaGreatDoor
open Go.RowKit

/-- what Do gives where the op may be -/
theorem do_good (os : List Po) (q : Pq) (hg : GoodO os) (h : opC q = 0) (rs : List Po) (hr : doO os q = .inl rs) : (∀ o ∈ rs, o.fault' = 0 ∧ o.ps.length ≤ 80) ∧ SortO rs ∧ rs.length ≤ 100 := by
  have hm := fun o ho => ((all_mem (P := fun o => o.fault = 0) os).1 hg.ok o ho : o.fault' = 0)
  have h80 : ∀ o : Po, o.fault' = 0 → o.fault' = 0 ∧ o.ps.length ≤ 80 := fun o ho => ⟨ho, by have := check_len _ _ _ ((fault_iff o).1 ho).2.2.2; omega⟩
  have hf := hg.few
  have hset : ∀ x : Po, x.fault' = 0 → (∀ o ∈ setO os x, o.fault' = 0 ∧ o.ps.length ≤ 80) ∧ SortO (setO os x) ∧ (setO os x).length ≤ 100 := fun x hx =>
    ⟨fun o ho => by
      rcases setO_mem x os o ho with rfl | ho
      · exact h80 _ hx
      · exact h80 o (hm o ho), setO_sort x os hg.sort, by have := setO_len x os; omega⟩
  unfold doO at hr
  split at hr
  · rename_i hk
    obtain rfl := Sum.inl.inj hr
    obtain ⟨h1, h2⟩ := op_pict q h hk
    exact hset _ ((fault_iff _).2 ⟨h2, by show rectC 0 0 0 0 = 0; decide, by show rectC 0 0 20 20 = 0; decide, h1⟩)
  · split at hr
    · cases hr
    · rename_i o ho
      have hom := List.mem_of_find?_eq_some ho
      split at hr
      · obtain rfl := Sum.inl.inj hr
        exact ⟨fun z hz => h80 z (hm z (List.mem_filter.1 hz).1), dropO_sort os _ hg.sort, by have := List.length_filter_le (fun o : Po => decide (o.id ≠ q.id)) os; unfold dropO; omega⟩
      · split at hr
        · cases hr
        · rename_i x hx
          obtain rfl := Sum.inl.inj hr
          exact hset x (act_good q h o x (hm o hom) hx)
theorem do_pre (os : List Po) (q : Pq) (hg : GoodO os) (h : opC q = 0) (hq : q.ps.length ≤ 80) : DoPre os q :=
  ⟨by have := hg.few; omega, fun j hj => by have := hg.pix j hj; omega, hg.sort, fun j hj => ((fault_iff _).1 (hg.ok j hj)).2.2.2, by omega, op_pic q h⟩
/-- another object is found as before -/
theorem do_find (os : List Po) (q : Pq) (rs : List Po) (hr : doO os q = .inl rs) (t : Int) (h1 : q.id ≠ t) (h2 : ¬ (q.kind = 6 ∧ q.a = t)) : rs.find? (fun o => decide (o.id = t)) = os.find? (fun o => decide (o.id = t)) := by
  unfold doO at hr
  split at hr
  · obtain rfl := Sum.inl.inj hr
    exact find_set _ t h1 os
  · split at hr
    · cases hr
    · rename_i o ho
      have hoi : o.id = q.id := by simpa using List.find?_some ho
      split at hr
      · obtain rfl := Sum.inl.inj hr
        exact find_drop _ t h1 os
      · split at hr
        · cases hr
        · rename_i x hx
          obtain rfl := Sum.inl.inj hr
          refine find_set x t ?_ os
          unfold actO at hx
          split at hx
          · obtain rfl := Option.some.inj hx; show o.id ≠ t; omega
          split at hx
          · obtain rfl := Option.some.inj hx; show o.id ≠ t; omega
          split at hx
          · obtain rfl := Option.some.inj hx; show o.id ≠ t; omega
          split at hx
          · rename_i hk
            obtain rfl := Option.some.inj hx
            intro e
            exact h2 ⟨hk, e⟩
          split at hx
          · obtain rfl := Option.some.inj hx; show o.id ≠ t; omega
          split at hx
          · obtain rfl := Option.some.inj hx; show o.id ≠ t; omega
          · cases hx
/-- Get's answer, by find? -/
theorem get_find {os : List Po} {t : Int} {w : World} {e : Ending} {w' : World} (h : GetP os t w e w') (hs : SortO os) : Below w.heap.size w w' ∧ ((∃ o u, os.find? (fun o => decide (o.id = t)) = some o ∧ o ∈ os ∧ e = .returned (.tuple #[poV o u, .bool true]) ∧ RdP w' u o.ps) ∨ (os.find? (fun o => decide (o.id = t)) = none ∧ e = .returned (.tuple #[poV po0 (.slice none 0 0), .bool false]))) := by
  obtain ⟨hb, h⟩ := h
  refine ⟨hb, ?_⟩
  rcases h with ⟨i, u, hi, hit, he, ho⟩ | ⟨hno, he⟩
  · exact .inl ⟨_, u, find_at os t hs i hi hit, getD_mem_po hi, he, rdP_own ho⟩
  · exact .inr ⟨find_no os t hno, he⟩

theorem good_mem2 {os : List Po} (h : GoodO os) : ∀ o ∈ os, o.ps.length ≤ 80 := fun o ho => (all_mem (P := fun o => o.ps.length ≤ 80) os).1 h.pix o ho
/-- objects that may be, in order -/
structure FineO (os : List Po) : Prop where
  ok : ∀ o ∈ os, o.fault' = 0
  sort : SortO os
theorem FineO.few {os : List Po} (h : FineO os) : os.length ≤ 6 := by
  have hid : ∀ j, j < os.length → (j : Int) + 1 ≤ (os.getD j po0).id := by
    intro j
    induction j with
    | zero => intro hj; have := ((fault_iff _).1 (h.ok _ (getD_mem_po hj))).1.1; omega
    | succ j ih =>
      intro hj
      have h1 := ih (by omega)
      have h2 := h.sort j (j + 1) (by omega) hj
      omega
  rcases Nat.eq_zero_or_pos os.length with h0 | h0
  · omega
  · have h1 := hid (os.length - 1) (by omega)
    have h2 := ((fault_iff _).1 (h.ok _ (getD_mem_po (k := os.length - 1) (by omega)))).1.2
    omega
theorem FineO.good {os : List Po} (h : FineO os) : GoodO os :=
  ⟨h.few, (all_mem (P := fun o => o.ps.length ≤ 80) os).2 (fun o ho => by have := check_len _ _ _ ((fault_iff o).1 (h.ok o ho)).2.2.2; omega), (all_mem (P := fun o => o.fault = 0) os).2 h.ok, h.sort⟩
theorem GoodO.fine {os : List Po} (h : GoodO os) : FineO os := ⟨fun o ho => ((all_mem (P := fun o => o.fault = 0) os).1 h.ok o ho : o.fault' = 0), h.sort⟩
theorem do_fine {os : List Po} {q : Pq} (hg : FineO os) (h : opC q = 0) {rs : List Po} (hr : doO os q = .inl rs) : FineO rs := by
  obtain ⟨h1, h2, _⟩ := do_good os q hg.good h rs hr
  exact ⟨fun o ho => (h1 o ho).1, h2⟩
end Go.Proofs.YtceabiodelfdoaaGreatDoor
/- An op that is handed in, opened. -/
namespace Go.Proofs.YtceabiodelfdoaaGreatDoor
open Go.ChangeShapes Go.WideShapes Go.ChangeAt Go.RowKit Go.Joins Go.Deep

theorem Tryz.cellsOp : Tryz.prog.cellsOf 48 = 9 := by kernel_rfl

set_option maxRecDepth 100000 in
theorem cells_op {H : Type} {enc : TypeId × Value → H} {W : World} {cs : List Value} {fuel : Nat} {z : DataW H × List MemPlace} (hl : cs.length = 9)
    (h : DataW.trod enc Tryz.prog W 0 (fun _ => true) true fuel 48 cs = some z) :
    ∃ (q : Pq) (u : Value), cs = [.int .i64 q.kind, .int .i64 q.id, .int .i64 q.a, .int .i64 q.b, .int .i64 q.c, .int .i64 q.d, .int .i64 q.pw, .int .i64 q.ph, u] ∧ RdP W u q.ps := by
  obtain ⟨xs, n, _, rfl, hl', hlen, hf⟩ := DataW.trod_struct Tryz.underlying48 h
  match cs, hl with
  | [c0, c1, c2, c3, c4, c5, c6, c7, c8], _ =>
    match xs, hlen with
    | [y0, y1, y2, y3, y4, y5, y6], _ =>
      have h0 : DataW.trod enc Tryz.prog W 0 (fun _ => true) true n 3 [c0] = some y0 := by have := hf 0 _ rfl; simpa [Tryz.cellsInt] using this
      have h1 : DataW.trod enc Tryz.prog W 0 (fun _ => true) true n 3 [c1] = some y1 := by have := hf 1 _ rfl; simpa [Tryz.cellsInt] using this
      have h2 : DataW.trod enc Tryz.prog W 0 (fun _ => true) true n 3 [c2] = some y2 := by have := hf 2 _ rfl; simpa [Tryz.cellsInt] using this
      have h3 : DataW.trod enc Tryz.prog W 0 (fun _ => true) true n 3 [c3] = some y3 := by have := hf 3 _ rfl; simpa [Tryz.cellsInt] using this
      have h4 : DataW.trod enc Tryz.prog W 0 (fun _ => true) true n 3 [c4] = some y4 := by have := hf 4 _ rfl; simpa [Tryz.cellsInt] using this
      have h5 : DataW.trod enc Tryz.prog W 0 (fun _ => true) true n 3 [c5] = some y5 := by have := hf 5 _ rfl; simpa [Tryz.cellsInt] using this
      have h6 : DataW.trod enc Tryz.prog W 0 (fun _ => true) true n 46 [c6, c7, c8] = some y6 := by have := hf 6 _ rfl; simpa [Tryz.cellsPic] using this
      obtain ⟨z0, z1, z2, m, _, _, p0, p1, p2⟩ := trod_struct3 Tryz.underlying46 h6
      simp only [Tryz.cellsInt] at p0 p1
      have p2' : DataW.trod enc Tryz.prog W 0 (fun _ => true) true m 44 [c8] = some z2 := by simpa [Tryz.cellsSl] using p2
      obtain ⟨ps, hps⟩ := view_pix p2'
      obtain ⟨i0, e0, _, _⟩ := DataW.trod_int Tryz.underlying3 h0
      obtain ⟨i1, e1, _, _⟩ := DataW.trod_int Tryz.underlying3 h1
      obtain ⟨i2, e2, _, _⟩ := DataW.trod_int Tryz.underlying3 h2
      obtain ⟨i3, e3, _, _⟩ := DataW.trod_int Tryz.underlying3 h3
      obtain ⟨i4, e4, _, _⟩ := DataW.trod_int Tryz.underlying3 h4
      obtain ⟨i5, e5, _, _⟩ := DataW.trod_int Tryz.underlying3 h5
      obtain ⟨i6, e6, _, _⟩ := DataW.trod_int Tryz.underlying3 p0
      obtain ⟨i7, e7, _, _⟩ := DataW.trod_int Tryz.underlying3 p1
      simp at e0 e1 e2 e3 e4 e5 e6 e7
      subst e0 e1 e2 e3 e4 e5 e6 e7
      exact ⟨⟨i0, i1, i2, i3, i4, i5, i6, i7, ps⟩, c8, rfl, hps⟩

set_option maxRecDepth 100000 in
theorem open_op {H : Type} {enc : TypeId × Value → H} {W : World} {r : Reach} {b0 : Nat} {v : Value} {d : DataW H} {p : List MemPlace} (hv : Value.okWide Tryz.prog W r b0 48 v)
    (h : DataW.Trod enc Tryz.prog W 0 (fun _ => true) true 48 v d p) : ∃ (q : Pq) (u : Value), v = opV q u ∧ RdP W u q.ps := by
  obtain ⟨cs, rfl, hsz⟩ := okWide_struct Tryz.underlying48 hv
  obtain ⟨fuel, hf⟩ := h
  obtain ⟨q, u, e, hps⟩ := cells_op (cs := cs.toList) (by rw [Array.length_toList]; exact hsz.trans Tryz.cellsOp) hf
  obtain ⟨l⟩ := cs
  simp at e
  subst e
  exact ⟨q, u, rfl, hps⟩
end Go.Proofs.YtceabiodelfdoaaGreatDoor
/- Ops: what lies in memory, a list of them opened; rows of ops of one's own. -/
namespace Go.Proofs.YtceabiodelfdoaaGreatDoor
open Go.ChangeShapes Go.WideShapes Go.ChangeAt Go.RowKit Go.Joins Go.Deep

@[reducible] def pq0 : Pq := ⟨0, 0, 0, 0, 0, 0, 0, 0, []⟩
instance : Inhabited Pq := ⟨pq0⟩
/-- an op's nine cells -/
structure Qc (w : World) (g o : Nat) (x : Pq) (u : Value) : Prop where
  c0 : w.cell? ⟨g, o, none⟩ = some (.int .i64 x.kind)
  c1 : w.cell? ⟨g, o + 1, none⟩ = some (.int .i64 x.id)
  c2 : w.cell? ⟨g, o + 2, none⟩ = some (.int .i64 x.a)
  c3 : w.cell? ⟨g, o + 3, none⟩ = some (.int .i64 x.b)
  c4 : w.cell? ⟨g, o + 4, none⟩ = some (.int .i64 x.c)
  c5 : w.cell? ⟨g, o + 5, none⟩ = some (.int .i64 x.d)
  c6 : w.cell? ⟨g, o + 6, none⟩ = some (.int .i64 x.pw)
  c7 : w.cell? ⟨g, o + 7, none⟩ = some (.int .i64 x.ph)
  c8 : w.cell? ⟨g, o + 8, none⟩ = some u
theorem Qc.on {w w' : World} {g o : Nat} {x : Pq} {u : Value} (h : Qc w g o x u) (hg : g < w.heap.size) (hb : Below w.heap.size w w') : Qc w' g o x u :=
  ⟨by rw [hb.cell (p := ⟨g, o, none⟩) hg]; exact h.c0, by rw [hb.cell (p := ⟨g, o + 1, none⟩) hg]; exact h.c1, by rw [hb.cell (p := ⟨g, o + 2, none⟩) hg]; exact h.c2, by rw [hb.cell (p := ⟨g, o + 3, none⟩) hg]; exact h.c3, by rw [hb.cell (p := ⟨g, o + 4, none⟩) hg]; exact h.c4, by rw [hb.cell (p := ⟨g, o + 5, none⟩) hg]; exact h.c5, by rw [hb.cell (p := ⟨g, o + 6, none⟩) hg]; exact h.c6, by rw [hb.cell (p := ⟨g, o + 7, none⟩) hg]; exact h.c7, by rw [hb.cell (p := ⟨g, o + 8, none⟩) hg]; exact h.c8⟩

/-- a list of ops -/
def RdQ (w : World) (v : Value) (qs : List Pq) : Prop :=
  ∃ a cap, v = .slice a qs.length cap ∧ qs.length ≤ cap ∧ cap ≤ 9223372036854775807 ∧ (qs ≠ [] → ∃ g off, a = some ⟨g, off, none⟩ ∧ g < w.heap.size ∧
    ∀ j, j < qs.length → ∃ u, Qc w g (off + j * 9) (qs.getD j pq0) u ∧ RdP w u (qs.getD j pq0).ps)

theorem RdQ.on {w w' : World} {v : Value} {qs : List Pq} (h : RdQ w v qs) (hb : Below w.heap.size w w') : RdQ w' v qs := by
  obtain ⟨a, cap, hv, hl, hc, hh⟩ := h
  refine ⟨a, cap, hv, hl, hc, fun hne => ?_⟩
  obtain ⟨g, off, ha, hg, hcell⟩ := hh hne
  refine ⟨g, off, ha, Nat.lt_of_lt_of_le hg hb.size, fun j hj => ?_⟩
  obtain ⟨u, h0, hr⟩ := hcell j hj
  exact ⟨u, h0.on hg hb, hr.on hb⟩
theorem rdQ_nil (w : World) : RdQ w (.slice none 0 0) [] := ⟨none, 0, rfl, by simp, by omega, fun h => absurd rfl h⟩

/-- a list of ops that is handed in -/
theorem open_ops {H : Type} {enc : TypeId × Value → H} {W : World} {u : Value} {x : DataW H × List MemPlace} {fuel : Nat}
    (hf : DataW.trod enc Tryz.prog W 0 (fun _ => true) true fuel 22 [u] = some x) : ∃ qs, RdQ W u qs := by
  rcases open_slice Tryz.underlying22 hf with ⟨hc, _⟩ | ⟨a, len, cap, m, n, D, Pl, hc, hb, hl, hm, hmm, hx, hall⟩
  · simp only [List.cons.injEq, and_true] at hc
    subst hc
    exact ⟨[], none, 0, rfl, by simp, by omega, fun h => absurd rfl h⟩
  · simp only [List.cons.injEq, and_true] at hc
    subst hc
    simp only [if_true] at hmm
    subst hmm
    have each : ∀ i, i < m → ∃ q : Pq × Value, (∀ k, k < 9 → W.cell? (a.add (i * 9 + k)) = [Value.int .i64 q.1.kind, .int .i64 q.1.id, .int .i64 q.1.a, .int .i64 q.1.b, .int .i64 q.1.c, .int .i64 q.1.d, .int .i64 q.1.pw, .int .i64 q.1.ph, q.2][k]?) ∧ RdP W q.2 q.1.ps := by
      intro i hi
      obtain ⟨cs', h1, h2⟩ := hall i hi
      rw [Tryz.cellsOp] at h1
      obtain ⟨_, hlen, hcell⟩ := World.cells?_some h1
      obtain ⟨q, v, rfl, hr⟩ := cells_op hlen h2
      refine ⟨(q, v), fun k hk => ?_, hr⟩
      have e := hcell k (by omega)
      rw [add_add] at e
      exact e
    obtain ⟨q, hq⟩ := choose_lt each
    unfold maxLen at hm
    refine ⟨(List.range len).map fun i => (q i).1, some a, m, by simp, by simpa using hl, by omega, fun hne => ?_⟩
    have hpos : 0 < len := by
      rcases Nat.eq_zero_or_pos len with h | h
      · subst h; simp at hne
      · exact h
    obtain ⟨sb, so, spot⟩ := a
    have hz := (hq 0 (by omega)).1 0 (by omega)
    have hspot : spot = none := by
      have hz' : W.cell? ((⟨sb, so, spot⟩ : Addr).add (0 * 9 + 0)) = some (.int .i64 (q 0).1.kind) := hz
      simpa [Addr.add] using World.cell?_spot hz'
    subst hspot
    refine ⟨sb, so, rfl, ?_, fun j hj => ?_⟩
    · rcases Nat.lt_or_ge sb W.heap.size with h | h
      · exact h
      · simp [Addr.add, World.cell?, Array.getElem?_eq_none h] at hz
    · simp only [List.length_map, List.length_range] at hj
      have hg : ((List.range len).map fun i => (q i).1).getD j pq0 = (q j).1 := by
        rw [List.getD_eq_getElem?_getD, List.getElem?_map, List.getElem?_range hj]
        simp
      rw [hg]
      obtain ⟨h0, h4⟩ := hq j (by omega)
      have h1 := fun k hk => h0 k hk
      simp only [add_plain, ← Nat.add_assoc] at h1
      exact ⟨(q j).2, ⟨h1 0 (by omega), h1 1 (by omega), h1 2 (by omega), h1 3 (by omega), h1 4 (by omega), h1 5 (by omega), h1 6 (by omega), h1 7 (by omega), h1 8 (by omega)⟩, h4⟩

theorem RdQ.at {w : World} {a : Option Addr} {n cap : Nat} {qs : List Pq} (h : RdQ w (.slice a n cap) qs) {k : Nat} (hk : k < n) {x : Pq} (HX : Hid (qs.getD k pq0 = x)) :
    ∃ g o ua m uc, a = some ⟨g, o, none⟩ ∧ g < w.heap.size ∧ Qc w g (o + k * 9) x (.slice ua m uc) ∧ Hid (RdP w (.slice ua m uc) x.ps) ∧ Hid (x.ps.length = m) := by
  obtain ⟨a', cap', hv, hl, hc, hh⟩ := h
  simp only [Value.slice.injEq] at hv
  obtain ⟨rfl, rfl, rfl⟩ := hv
  obtain ⟨g, o, ha, hg, hcell⟩ := hh (by intro e; rw [e] at hk; simp at hk)
  obtain ⟨u, h0, h4⟩ := hcell k hk
  rw [HX.out] at h0 h4
  have h5 := h4
  obtain ⟨ua, uc, rfl, _⟩ := h5
  exact ⟨g, o, ua, _, uc, ha, hg, h0, h4, (rfl : _ = _)⟩
theorem RdQ.shape {w : World} {v : Value} {qs : List Pq} (h : RdQ w v qs) : ∃ a cap, v = .slice a qs.length cap ∧ qs.length ≤ cap ∧ cap ≤ 9223372036854775807 := by
  obtain ⟨a, cap, h1, h2, h3, _⟩ := h
  exact ⟨a, cap, h1, h2, h3⟩

/-- an op's cells, its pixels at u -/
def qCells (x : Pq) (u : Value) : List Value := [.int .i64 x.kind, .int .i64 x.id, .int .i64 x.a, .int .i64 x.b, .int .i64 x.c, .int .i64 x.d, .int .i64 x.pw, .int .i64 x.ph, u]
def qrCells : List (Pq × Value) → List Value
  | [] => []
  | (x, u) :: r => qCells x u ++ qrCells r
theorem qrCells_app (a b : List (Pq × Value)) : qrCells (a ++ b) = qrCells a ++ qrCells b := by
  induction a with
  | nil => rfl
  | cons p a ih => obtain ⟨f, u⟩ := p; simp [qrCells, ih]
theorem qrCells_length : ∀ a : List (Pq × Value), (qrCells a).length = a.length * 9
  | [] => rfl
  | (f, u) :: r => by simp [qrCells, qCells, qrCells_length r]; omega
@[reducible] def qq0 : Pq × Value := (pq0, .slice none 0 0)
theorem qrCells_at : ∀ (a : List (Pq × Value)) (j c : Nat), j < a.length → c < 9 → (qrCells a)[j * 9 + c]? = (qCells (a.getD j qq0).1 (a.getD j qq0).2)[c]?
  | (f, u) :: r, 0, c, _, hc => by
    simp only [qrCells, Nat.zero_mul, Nat.zero_add]
    rw [List.getElem?_append_left (by simpa [qCells] using hc)]
    simp
  | (f, u) :: r, j + 1, c, h, hc => by
    have := qrCells_at r j c (by simpa using h) hc
    rw [show (j + 1) * 9 + c = 9 + (j * 9 + c) by omega]
    simp only [qrCells]
    rw [List.getElem?_append_right (by simp [qCells])]
    simpa [qCells] using this

/-- a row of ops of one's own, each with a row of pixels of its own -/
def OwnQ (w : World) (B : Nat) (v : Value) (qs : List (Pq × Value)) : Prop :=
  w.ownsRow B 48 9 v qs.length (qrCells qs) ∧ ∀ q ∈ qs, w.ownsRow B 52 2 q.2 q.1.ps.length (pixCells q.1.ps)

theorem OwnQ.on {w w' : World} {B : Nat} {v : Value} {qs : List (Pq × Value)} (h : OwnQ w B v qs) (hb : Below w.heap.size w w') : OwnQ w' B v qs :=
  ⟨own_on2 h.1 hb, fun q hq => own_on2 (h.2 q hq) hb⟩

theorem OwnQ.rd {w : World} {B : Nat} {v : Value} {qs : List (Pq × Value)} (h : OwnQ w B v qs) : RdQ w v (qs.map Prod.fst) := by
  rcases h.1.2 with ⟨rfl, h0⟩ | ⟨g, cap, cur, rfl, hb, hg, hn, hm, hs, ht⟩
  · have : qs = [] := List.length_eq_zero_iff.1 h0
    subst this
    exact ⟨none, 0, rfl, by simp, by omega, fun h => absurd rfl h⟩
  · unfold maxLen at hm
    refine ⟨some ⟨g, 0, none⟩, cap, by simp, by simpa using hn, by omega, fun hne => ⟨g, 0, rfl, ?_, fun j hj => ?_⟩⟩
    · rcases Nat.lt_or_ge g w.heap.size with h1 | h1
      · exact h1
      · rw [Array.getElem?_eq_none h1] at hg; cases hg
    · rw [List.length_map] at hj
      have e : (qs.map Prod.fst).getD j pq0 = (qs.getD j qq0).1 := by
        simp [List.getD_eq_getElem?_getD, List.getElem?_eq_getElem hj]
      have hmem : qs.getD j qq0 ∈ qs := by
        rw [List.getD_eq_getElem?_getD, List.getElem?_eq_getElem hj]
        simp
      rw [e]
      have hc : ∀ x, x < 9 → w.cell? ⟨g, 0 + j * 9 + x, none⟩ = (qCells (qs.getD j qq0).1 (qs.getD j qq0).2)[x]? := fun x hx => by
        rw [Nat.zero_add, h.1.cellAt (j * 9 + x) (by omega)]
        exact qrCells_at qs j x hj hx
      exact ⟨(qs.getD j qq0).2, ⟨hc 0 (by omega), hc 1 (by omega), hc 2 (by omega), hc 3 (by omega), hc 4 (by omega), hc 5 (by omega), hc 6 (by omega), hc 7 (by omega), hc 8 (by omega)⟩, rdP_own (h.2 _ hmem)⟩

theorem OwnQ.app {w w' : World} {B : Nat} {v v' : Value} {qs : List (Pq × Value)} (h : OwnQ w B v qs) {x : Pq} {u : Value} (hu : w.ownsRow B 52 2 u x.ps.length (pixCells x.ps))
    (h1 : w'.ownsRow B 48 9 v' (qs.length + 1) (qrCells qs ++ qCells x u)) (h2 : w.grownBy w' v.ownBlock) : OwnQ w' B v' (qs ++ [(x, u)]) := by
  refine ⟨?_, fun q hq => ?_⟩
  · rw [qrCells_app, List.length_append]
    simpa [qrCells] using h1
  · rcases List.mem_append.1 hq with hq | hq
    · exact (h.2 q hq).kept h2 (apartO (h.2 q hq) h.1 (by decide))
    · simp at hq
      subst hq
      exact hu.kept h2 (apartO hu h.1 (by decide))
end Go.Proofs.YtceabiodelfdoaaGreatDoor
/- Walk of blend.change, with the closure of Lay. -/
namespace Go.Proofs.YtceabiodelfdoaaGreatDoor
open Go.RowKit

set_option maxHeartbeats 4000000 in
set_option maxRecDepth 100000 in
theorem changeL_any (PW PH QW QH : Nat) (vp vq : Value) (ps qs : List (Int × Int)) (x y a b c d : Int) (w : World) (HP : Hid (checkL PW PH ps = 0)) (HQ : Hid (checkL QW QH qs = 0)) (RP : Hid (RdP w vp ps)) (RQ : Hid (RdP w vq qs))
    (hx : -20 ≤ x) (hx2 : x ≤ 20) (hy : -20 ≤ y) (hy2 : y ≤ 20) (ha : -20 ≤ a) (ha2 : a ≤ 20) (hb : -20 ≤ b) (hb2 : b ≤ 20) (hc : 0 ≤ c) (hc2 : c ≤ 20) (hd : 0 ≤ d) (hd2 : d ≤ 20) :
    Calls Tryz.prog 99 #[picV PW PH vp, picV QW QH vq, .int .i64 x, .int .i64 y, rectV a b c d, .func (.func 100) #[] #[]] w
      fun e w' => ∃ v', e = .returned (picV PW PH v') ∧ w'.ownsRow (w.heap.size + 4) 52 2 v' (chL (fun p q => Fb.overL q.1 q.2 p.1 p.2) PW ps QW QH qs x y a b c d).length (pixCells (chL (fun p q => Fb.overL q.1 q.2 p.1 p.2) PW ps QW QH qs x y a b c d)) ∧ Below w.heap.size w w' := by
  obtain ⟨PW', PH', e1, e2, p1, p2, p3, p4, pl, pok⟩ := check_zero _ _ _ HP.out
  obtain ⟨QW', QH', e3, e4, q1, q2, q3, q4, ql, qok⟩ := check_zero _ _ _ HQ.out
  obtain rfl : PW' = PW := by omega
  obtain rfl : PH' = PH := by omega
  obtain rfl : QW' = QW := by omega
  obtain rfl : QH' = QH := by omega
  clear e1 e2 e3 e4
  have POK : Hid (∀ k, k < ps.length → pixOk (ps.getD k (0, 0))) := pok
  have QOK : Hid (∀ k, k < qs.length → pixOk (qs.getD k (0, 0))) := qok
  clear pok qok
  have hm1 : PW' * PH' ≤ 8 * 8 := Nat.mul_le_mul p2 p4
  have hm2 : 1 * 1 ≤ PW' * PH' := Nat.mul_le_mul p1 p3
  have hm3 : QW' * QH' ≤ 8 * 8 := Nat.mul_le_mul q2 q4
  have hqne : qs ≠ [] := by
    intro e; rw [e] at ql
    have : 1 * 1 ≤ QW' * QH' := Nat.mul_le_mul q1 q3
    simp at ql; omega
  have hne : ps ≠ [] := by intro e; rw [e] at pl; simp at pl; omega
  obtain ⟨ap, cp, hvp, hlp, hcp, _⟩ := RP.out
  obtain ⟨aq, cq, hvq, hlq, hcq, _⟩ := RQ.out
  obtain ⟨np, HNP⟩ : ∃ n, Hid (ps.length = n) := ⟨_, (rfl : _ = _)⟩
  obtain ⟨nq, HNQ⟩ : ∃ n, Hid (qs.length = n) := ⟨_, (rfl : _ = _)⟩
  rw [HNP.out] at hvp hlp pl
  rw [HNQ.out] at hvq hlq ql
  subst hvp hvq
  have hnp : np ≤ 64 := by omega
  have hnp1 : 1 ≤ np := by omega
  have hnq : nq ≤ 64 := by omega
  have HPL : Hid (np = PW' * PH') := pl
  have HQL : Hid (nq = QW' * QH') := ql
  clear pl ql hm1 hm2 hm3
  unfold picV rectV
  have T0 := (((three_start w (.int .i64 (PW' : Int)) (.int .i64 (PH' : Int)) (.slice ap np cp) 46).alloc (.cells #[.int .i64 (QW' : Int), .int .i64 (QH' : Int), .slice aq nq cq] 46)).alloc (.cells #[.int .i64 a, .int .i64 b, .int .i64 c, .int .i64 d] 117)).alloc (.cells #[.int .i64 0, .int .i64 0, .slice none 0 0] 46)
  have T1 := ((three_begin (w.alloc (.cells #[.int .i64 (PW' : Int), .int .i64 (PH' : Int), .slice ap np cp] 46)) (.int .i64 (QW' : Int)) (.int .i64 (QH' : Int)) (.slice aq nq cq) 46 (w.heap.size + 1) (by simp)).alloc (.cells #[.int .i64 a, .int .i64 b, .int .i64 c, .int .i64 d] 117)).alloc (.cells #[.int .i64 0, .int .i64 0, .slice none 0 0] 46)
  have T2 := (four_start ((w.alloc (.cells #[.int .i64 (PW' : Int), .int .i64 (PH' : Int), .slice ap np cp] 46)).alloc (.cells #[.int .i64 (QW' : Int), .int .i64 (QH' : Int), .slice aq nq cq] 46)) (.int .i64 a) (.int .i64 b) (.int .i64 c) (.int .i64 d) 117 (w.heap.size + 1 + 1) (by simp)).alloc (.cells #[.int .i64 0, .int .i64 0, .slice none 0 0] 46)
  have T3 := three_begin (((w.alloc (.cells #[.int .i64 (PW' : Int), .int .i64 (PH' : Int), .slice ap np cp] 46)).alloc (.cells #[.int .i64 (QW' : Int), .int .i64 (QH' : Int), .slice aq nq cq] 46)).alloc (.cells #[.int .i64 a, .int .i64 b, .int .i64 c, .int .i64 d] 117)) (.int .i64 0) (.int .i64 0) (.slice none 0 0) 46 (w.heap.size + 1 + 1 + 1) (by simp)
  obtain ⟨W0, HW0⟩ : ∃ W0, Hid ((((w.alloc (.cells #[.int .i64 (PW' : Int), .int .i64 (PH' : Int), .slice ap np cp] 46)).alloc (.cells #[.int .i64 (QW' : Int), .int .i64 (QH' : Int), .slice aq nq cq] 46)).alloc (.cells #[.int .i64 a, .int .i64 b, .int .i64 c, .int .i64 d] 117)).alloc (.cells #[.int .i64 0, .int .i64 0, .slice none 0 0] 46) = W0) := ⟨_, (rfl : _ = _)⟩
  have hb0 : Below w.heap.size w W0 := by rw [← HW0.out]; exact ((((Below.refl _ _).alloc (Nat.le_refl _) _).alloc (by simp) _).alloc (by simp; omega) _).alloc (by simp; omega) _
  have hs0 : W0.heap.size = w.heap.size + 4 := by rw [← HW0.out]; simp
  rw [HW0.out] at T0 T1 T2 T3
  have RP0 : Hid (RdP W0 (.slice ap np cp) ps) := RP.out.on hb0
  have RQ0 : Hid (RdP W0 (.slice aq nq cq) qs) := RQ.out.on hb0
  go_enter Tryz.func99, Tryz.ntmps99
  go_wp2_with fail
  rw [HW0.out]
  refine (bown_any (PW' : Int) (PH' : Int) _ ps W0 (by rw [HNP.out]; omega) hne RP0).mono ?_
  unfold picV
  rintro e w1 ⟨v1, rfl, ho1, hb1⟩
  rw [hs0] at ho1
  replace ho1 := own_mono ho1 (show w.heap.size + 4 ≤ w.heap.size + 4 + 2 by omega)
  have HO1 := hide_own ho1
  clear ho1
  rw [HNP.out] at HO1
  obtain ⟨g, co, hv1, hgB, hlo, hco⟩ := own_shape HO1.out (by omega)
  subst hv1
  have hgb : g < w1.heap.size := (HO1.out.lt g rfl).2
  have hbw1 := hb0.trans (hb1.mono hb0.size)
  have hlt1 : w.heap.size + 4 ≤ w1.heap.size := by have := hb1.size; omega
  have U0 := T0.on hb1
  have U1 := T1.on hb1
  have U2 := T2.on hb1
  have U3 := T3.on hb1
  have RP1 : Hid (RdP w1 (.slice ap np cp) ps) := RP0.out.on hb1
  have RQ1 : Hid (RdP w1 (.slice aq nq cq) qs) := RQ0.out.on hb1
  clear T0 T1 T2 T3 RP0 RQ0 hb0 hb1
  -- the copy is laid in a block of its own
  obtain ⟨W1, HW1⟩ : ∃ W1, Hid (w1.alloc (.cells #[.int .i64 (PW' : Int), .int .i64 (PH' : Int), .slice (some ⟨g, 0, none⟩) np co] 46) = W1) := ⟨_, (rfl : _ = _)⟩
  have hbx : Below w1.heap.size w1 W1 := by rw [← HW1.out]; exact (Below.refl _ _).alloc (Nat.le_refl _) _
  have TO : Three W1 w1.heap.size (.int .i64 (PW' : Int)) (.int .i64 (PH' : Int)) (.slice (some ⟨g, 0, none⟩) np co) := by rw [← HW1.out]; exact three_start w1 _ _ _ _
  have HG1 : Hid (Gch w (.slice ap np cp) (.slice aq nq cq) (.slice (some ⟨g, 0, none⟩) np co) PW' PH' QW' QH' w1.heap.size ps qs ps W1) :=
    ⟨U0.on hbx, U1.on hbx, U3.on hbx, TO, RP1.out.on hbx, RQ1.out.on hbx, hbw1.trans (hbx.mono hbw1.size), by rw [HNP.out]; exact own_on2 HO1.out hbx⟩
  have U2x := U2.on hbx
  obtain ⟨bo, HBO⟩ : ∃ b, Hid (w1.heap.size = b) := ⟨_, (rfl : _ = _)⟩
  rw [HBO.out] at HG1 hlt1 hgb
  clear U0 U1 U2 U3 RP1 RQ1 hbw1 hbx TO HO1
  obtain ⟨c0, c1, c2, _, _, _, _⟩ := HG1.out.tp
  rw [← HW1.out] at c0 c1 c2
  go_wp2_with fail
  rw [HW1.out, HBO.out]
  refine (check_nil _ _ _ ps _ (by rw [HNP.out]; omega) HG1.out.rp HP).mono ?_
  rintro e w2 ⟨rfl, hb2⟩
  have HG2 : Hid (Gch w (.slice ap np cp) (.slice aq nq cq) (.slice (some ⟨g, 0, none⟩) np co) PW' PH' QW' QH' bo ps qs ps w2) := HG1.out.on hb2
  have U2y := U2x.on hb2
  clear HG1 c0 c1 c2 hb2 U2x HW1
  obtain ⟨d0, d1, d2, _, _, _, _⟩ := HG2.out.tq
  go_wp2_with fail
  refine (check_nil _ _ _ qs _ (by rw [HNQ.out]; omega) HG2.out.rq HQ).mono ?_
  rintro e w3 ⟨rfl, hb3⟩
  have HG3 : Hid (Gch w (.slice ap np cp) (.slice aq nq cq) (.slice (some ⟨g, 0, none⟩) np co) PW' PH' QW' QH' bo ps qs ps w3) := HG2.out.on hb3
  have U2z := U2y.on hb3
  clear HG2 d0 d1 d2 hb3 U2y
  obtain ⟨c0, c1, c2, _, _, _, _⟩ := HG3.out.tp
  obtain ⟨d0, d1, d2, _, _, _, _⟩ := HG3.out.tq
  obtain ⟨e0, e1, e2, e3, _, _, _, _, lt2⟩ := U2z
  have hbl3 := HG3.out.bel
  have hq0 := HG3.out.tp.lt
  have hq1 := HG3.out.tq.lt
  have hq2 := lt2
  have KEEP : Hid (∀ W2, Below w3.heap.size w3 W2 → (W2.cell? ⟨w.heap.size, 0, none⟩ = some (.int .i64 (PW' : Int)) ∧ W2.cell? ⟨w.heap.size, 1, none⟩ = some (.int .i64 (PH' : Int)) ∧ W2.cell? ⟨w.heap.size, 2, none⟩ = some (.slice ap np cp) ∧ W2.cell? ⟨w.heap.size + 1, 0, none⟩ = some (.int .i64 (QW' : Int)) ∧ W2.cell? ⟨w.heap.size + 1, 1, none⟩ = some (.int .i64 (QH' : Int)) ∧ W2.cell? ⟨w.heap.size + 1 + 1, 0, none⟩ = some (.int .i64 a) ∧ W2.cell? ⟨w.heap.size + 1 + 1, 1, none⟩ = some (.int .i64 b) ∧ W2.cell? ⟨w.heap.size + 1 + 1, 2, none⟩ = some (.int .i64 c) ∧ W2.cell? ⟨w.heap.size + 1 + 1, 3, none⟩ = some (.int .i64 d) ∧ Hid (Below w3.heap.size w3 W2))) := fun W2 h2 =>
    ⟨(h2.cell (p := ⟨w.heap.size, 0, none⟩) hq0).trans c0, (h2.cell (p := ⟨w.heap.size, 1, none⟩) hq0).trans c1, (h2.cell (p := ⟨w.heap.size, 2, none⟩) hq0).trans c2, (h2.cell (p := ⟨w.heap.size + 1, 0, none⟩) hq1).trans d0, (h2.cell (p := ⟨w.heap.size + 1, 1, none⟩) hq1).trans d1,
      (h2.cell (p := ⟨w.heap.size + 1 + 1, 0, none⟩) hq2).trans e0, (h2.cell (p := ⟨w.heap.size + 1 + 1, 1, none⟩) hq2).trans e1, (h2.cell (p := ⟨w.heap.size + 1 + 1, 2, none⟩) hq2).trans e2, (h2.cell (p := ⟨w.heap.size + 1 + 1, 3, none⟩) hq2).trans e3, h2⟩
  have GON : Hid (∀ W1 W2, (W1.cell? ⟨w.heap.size, 0, none⟩ = some (.int .i64 (PW' : Int)) ∧ W1.cell? ⟨w.heap.size, 1, none⟩ = some (.int .i64 (PH' : Int)) ∧ W1.cell? ⟨w.heap.size, 2, none⟩ = some (.slice ap np cp) ∧ W1.cell? ⟨w.heap.size + 1, 0, none⟩ = some (.int .i64 (QW' : Int)) ∧ W1.cell? ⟨w.heap.size + 1, 1, none⟩ = some (.int .i64 (QH' : Int)) ∧ W1.cell? ⟨w.heap.size + 1 + 1, 0, none⟩ = some (.int .i64 a) ∧ W1.cell? ⟨w.heap.size + 1 + 1, 1, none⟩ = some (.int .i64 b) ∧ W1.cell? ⟨w.heap.size + 1 + 1, 2, none⟩ = some (.int .i64 c) ∧ W1.cell? ⟨w.heap.size + 1 + 1, 3, none⟩ = some (.int .i64 d) ∧ Hid (Below w3.heap.size w3 W1)) → Below W1.heap.size W1 W2 → Hid (Below w3.heap.size w3 W2)) := fun W1 W2 h1 h2 => by
    have h := h1.2.2.2.2.2.2.2.2.2.out
    exact h.trans (h2.mono h.size)
  have KALL : Hid (∀ W1 o, (W1.cell? ⟨w.heap.size, 0, none⟩ = some (.int .i64 (PW' : Int)) ∧ W1.cell? ⟨w.heap.size, 1, none⟩ = some (.int .i64 (PH' : Int)) ∧ W1.cell? ⟨w.heap.size, 2, none⟩ = some (.slice ap np cp) ∧ W1.cell? ⟨w.heap.size + 1, 0, none⟩ = some (.int .i64 (QW' : Int)) ∧ W1.cell? ⟨w.heap.size + 1, 1, none⟩ = some (.int .i64 (QH' : Int)) ∧ W1.cell? ⟨w.heap.size + 1 + 1, 0, none⟩ = some (.int .i64 a) ∧ W1.cell? ⟨w.heap.size + 1 + 1, 1, none⟩ = some (.int .i64 b) ∧ W1.cell? ⟨w.heap.size + 1 + 1, 2, none⟩ = some (.int .i64 c) ∧ W1.cell? ⟨w.heap.size + 1 + 1, 3, none⟩ = some (.int .i64 d) ∧ Hid (Below w3.heap.size w3 W1)) → ((W1.alloc o).cell? ⟨w.heap.size, 0, none⟩ = some (.int .i64 (PW' : Int)) ∧ (W1.alloc o).cell? ⟨w.heap.size, 1, none⟩ = some (.int .i64 (PH' : Int)) ∧ (W1.alloc o).cell? ⟨w.heap.size, 2, none⟩ = some (.slice ap np cp) ∧ (W1.alloc o).cell? ⟨w.heap.size + 1, 0, none⟩ = some (.int .i64 (QW' : Int)) ∧ (W1.alloc o).cell? ⟨w.heap.size + 1, 1, none⟩ = some (.int .i64 (QH' : Int)) ∧ (W1.alloc o).cell? ⟨w.heap.size + 1 + 1, 0, none⟩ = some (.int .i64 a) ∧ (W1.alloc o).cell? ⟨w.heap.size + 1 + 1, 1, none⟩ = some (.int .i64 b) ∧ (W1.alloc o).cell? ⟨w.heap.size + 1 + 1, 2, none⟩ = some (.int .i64 c) ∧ (W1.alloc o).cell? ⟨w.heap.size + 1 + 1, 3, none⟩ = some (.int .i64 d) ∧ Hid (Below w3.heap.size w3 (W1.alloc o)))) := fun W1 o h1 => by
    have h := h1.2.2.2.2.2.2.2.2.2.out
    exact KEEP.out _ (h.alloc h.size o)
  obtain ⟨r1, HR1⟩ : ∃ r, Hid (bothL 0 0 PW' PH' x y QW' QH' = r) := ⟨_, (rfl : _ = _)⟩
  obtain ⟨n0, n1, n2, n3, n4, n5, n6, n7⟩ := both_bounds 0 0 PW' PH' x y QW' QH' 20 (by omega) (by omega) (by omega) (by omega) (by omega) (by omega) (by omega) (by omega) (by omega) (by omega) (by omega) (by omega) (by omega) (by omega) (by omega) (by omega) r1 HR1.out
  obtain ⟨r2, HR2⟩ : ∃ r, Hid (bothL a b c d r1.1 r1.2.1 r1.2.2.1 r1.2.2.2 = r) := ⟨_, (rfl : _ = _)⟩
  obtain ⟨r1a, r1b, r1c, r1d⟩ := r1
  simp only at n0 n1 n2 n3 n4 n5 n6 n7 HR2
  obtain ⟨rx, ry, rw_, rh⟩ := r2
  clear c0 c1 c2 d0 d1 e0 e1 e2 e3
  go_wp2_with fail
  go_cut [14] from 41 (fun s14 wc => ∃ br, s14 = .pointer (some ⟨br, 0, none⟩) ∧ Four wc br (.int .i64 rx) (.int .i64 ry) (.int .i64 rw_) (.int .i64 rh) ∧ Below w3.heap.size w3 wc ∧ w3.heap.size ≤ br)
  case first =>
    have HB0 : Hid (Below w3.heap.size w3 w3.drew) := Below.drew (Below.refl _ _)
    refine wp_region_held_drew (S := (fun w' => w'.cell? ⟨w.heap.size, 0, none⟩ = some (.int .i64 (PW' : Int)) ∧ w'.cell? ⟨w.heap.size, 1, none⟩ = some (.int .i64 (PH' : Int)) ∧ w'.cell? ⟨w.heap.size, 2, none⟩ = some (.slice ap np cp) ∧ w'.cell? ⟨w.heap.size + 1, 0, none⟩ = some (.int .i64 (QW' : Int)) ∧ w'.cell? ⟨w.heap.size + 1, 1, none⟩ = some (.int .i64 (QH' : Int)) ∧ w'.cell? ⟨w.heap.size + 1 + 1, 0, none⟩ = some (.int .i64 a) ∧ w'.cell? ⟨w.heap.size + 1 + 1, 1, none⟩ = some (.int .i64 b) ∧ w'.cell? ⟨w.heap.size + 1 + 1, 2, none⟩ = some (.int .i64 c) ∧ w'.cell? ⟨w.heap.size + 1 + 1, 3, none⟩ = some (.int .i64 d) ∧ Hid (Below w3.heap.size w3 w'))) (by kernel_rfl) ?_ (fun hHeld => ?_)
    · exact KEEP.out _ HB0.out
    refine tk (v := ?_) 0 rfl (by kernel_rfl) (by rfl) ?_ ?_
    rotate_left
    · (intro w hSw; (try dsimp only at hSw); go_simp; try with_reducible rfl)
    refine tk (v := ?_) 1 rfl (by kernel_rfl) (by rfl) ?_ ?_
    rotate_left
    · (intro w hSw; (try dsimp only at hSw); go_simp; try with_reducible rfl)
    refine tk (v := ?_) 3 rfl (by kernel_rfl) (by rfl) ?_ ?_
    rotate_left
    · (intro w hSw; (try dsimp only at hSw); go_simp; try with_reducible rfl)
    refine tk (v := ?_) 4 rfl (by kernel_rfl) (by rfl) ?_ ?_
    rotate_left
    · (intro w hSw; (try dsimp only at hSw); go_simp; try with_reducible rfl)
    refine tk (v := ?_) 5 rfl (by kernel_rfl) (by rfl) ?_ ?_
    rotate_left
    · (intro w hSw; (try dsimp only at hSw); go_simp; try with_reducible rfl)
    refine tk (v := ?_) 6 rfl (by kernel_rfl) (by rfl) ?_ ?_
    rotate_left
    · (intro w hSw; (try dsimp only at hSw); go_simp; try with_reducible rfl)
    refine tk (v := ?_) 7 rfl (by kernel_rfl) (by rfl) ?_ ?_
    rotate_left
    · (intro w hSw; (try dsimp only at hSw); go_simp; try with_reducible rfl)
    refine tk (v := ?_) 8 rfl (by kernel_rfl) (by rfl) ?_ ?_
    rotate_left
    · (intro w hSw; (try dsimp only at hSw); go_simp; try with_reducible rfl)
    refine tk (v := ?_) 9 rfl (by kernel_rfl) (by rfl) ?_ ?_
    rotate_left
    · (intro w hSw; (try dsimp only at hSw); go_simp; try with_reducible rfl)
    refine wpAnyH_ready (rs := [2, 12]) (by kernel_rfl) (by simp) ?_
    refine AllReadyH.cons rfl (fun K hK => ?_) (AllReadyH.cons rfl (fun K hK => ?_) AllReadyH.nil)
    · go_simp
      refine (whole_any PW' PH' ap np cp _).mono ?_
      unfold rectV
      try simp only
      rintro e wx1 ⟨rfl, hbx1⟩
      have HB1 : Hid (Below w3.heap.size w3 wx1) := HB0.out.trans (hbx1.mono HB0.out.size)
      clear hbx1
      refine hK.out _ _ ?_ (fun hHeld => ?_)
      · exact KEEP.out _ HB1.out
      clear hK K
      refine wpAnyH_ready (rs := [10, 12]) (by kernel_rfl) (by simp) ?_
      refine AllReadyH.cons rfl (fun K hK => ?_) (AllReadyH.cons rfl (fun K hK => ?_) AllReadyH.nil)
      · go_simp
        refine (both_any 0 0 PW' PH' x y QW' QH' _ (by omega) (by omega) (by omega) (by omega) (by omega) (by omega) (by omega) (by omega) (by omega) (by omega) (by omega) (by omega) (by omega) (by omega) (by omega) (by omega) (r1a, r1b, r1c, r1d) HR1).mono ?_
        unfold ratV rectV
        try simp only
        rintro e wx2 ⟨rfl, hbx2⟩
        have HB2 : Hid (Below w3.heap.size w3 wx2) := HB1.out.trans (hbx2.mono HB1.out.size)
        clear hbx2
        refine hK.out _ _ ?_ (fun hHeld => ?_)
        · exact KEEP.out _ HB2.out
        clear hK K
        refine wpAnyH_ready (rs := [11, 12]) (by kernel_rfl) (by simp) ?_
        refine AllReadyH.cons rfl (fun K hK => ?_) (AllReadyH.cons rfl (fun K hK => ?_) AllReadyH.nil)
        · go_simp
          refine (both_any a b c d r1a r1b r1c r1d _ (by omega) (by omega) (by omega) (by omega) (by omega) (by omega) (by omega) (by omega) (by omega) (by omega) (by omega) (by omega) (by omega) (by omega) (by omega) (by omega) (rx, ry, rw_, rh) HR2).mono ?_
          unfold ratV rectV
          try simp only
          rintro e wx3 ⟨rfl, hbx3⟩
          have HB3 : Hid (Below w3.heap.size w3 wx3) := HB2.out.trans (hbx3.mono HB2.out.size)
          clear hbx3
          refine hK.out _ _ ?_ (fun hHeld => ?_)
          · exact KEEP.out _ HB3.out
          clear hK K
          refine wpAnyH_ready (rs := [12]) (by kernel_rfl) (by simp) ?_
          refine AllReadyH.cons rfl (fun K hK => ?_) AllReadyH.nil
          go_simp
          have HBA : Hid (Below w3.heap.size w3 (wx3.alloc (.cells #[.int .i64 0, .int .i64 0, .int .i64 0, .int .i64 0] 117))) := HB3.out.alloc HB3.out.size _
          refine hK.out _ _ ?_ (fun hHeld => ?_)
          · exact KEEP.out _ HBA.out
          clear hK K
          refine wpAnyH_ready (rs := [13]) (by kernel_rfl) (by simp) ?_
          refine AllReadyH.cons rfl (fun K hK => ?_) AllReadyH.nil
          go_simp
          refine hK.out _ _ ?_ (fun hHeld => ?_)
          · exact KEEP.out _ (HB3.out.alloc HB3.out.size (.cells #[.int .i64 rx, .int .i64 ry, .int .i64 rw_, .int .i64 rh] 117))
          clear hK K
          refine wpAnyH_done (by kernel_rfl) ?_ _
          go_wp2_with fail
          go_meet
          exact ⟨_, rfl, four_start _ _ _ _ _ _ _ rfl, (HB3.out.alloc HB3.out.size (.cells #[.int .i64 rx, .int .i64 ry, .int .i64 rw_, .int .i64 rh] 117)), HB3.out.size⟩
        · go_simp
          have HBA : Hid (Below w3.heap.size w3 (wx2.alloc (.cells #[.int .i64 0, .int .i64 0, .int .i64 0, .int .i64 0] 117))) := HB2.out.alloc HB2.out.size _
          have FA : Hid (Four (wx2.alloc (.cells #[.int .i64 0, .int .i64 0, .int .i64 0, .int .i64 0] 117)) wx2.heap.size (.int .i64 0) (.int .i64 0) (.int .i64 0) (.int .i64 0)) := four_start _ _ _ _ _ _ _ rfl
          refine hK.out _ _ ?_ (fun hHeld => ?_)
          · exact KEEP.out _ HBA.out
          clear hK K
          refine wpAnyH_ready (rs := [11]) (by kernel_rfl) (by simp) ?_
          refine AllReadyH.cons rfl (fun K hK => ?_) AllReadyH.nil
          go_simp
          refine (both_any a b c d r1a r1b r1c r1d _ (by omega) (by omega) (by omega) (by omega) (by omega) (by omega) (by omega) (by omega) (by omega) (by omega) (by omega) (by omega) (by omega) (by omega) (by omega) (by omega) (rx, ry, rw_, rh) HR2).mono ?_
          unfold ratV rectV
          try simp only
          rintro e wx3 ⟨rfl, hbx3⟩
          have HB3 : Hid (Below w3.heap.size w3 wx3) := HBA.out.trans (hbx3.mono HBA.out.size)
          have F3 : Hid (Four wx3 wx2.heap.size (.int .i64 0) (.int .i64 0) (.int .i64 0) (.int .i64 0)) := Four.on FA.out hbx3
          clear hbx3
          refine hK.out _ _ ?_ (fun hHeld => ?_)
          · exact KEEP.out _ HB3.out
          clear hK K
          refine wpAnyH_ready (rs := [13]) (by kernel_rfl) (by simp) ?_
          refine AllReadyH.cons rfl (fun K hK => ?_) AllReadyH.nil
          obtain ⟨_, _, _, _, _, _, _, _, _⟩ := F3.out
          go_simp
          refine hK.out _ _ ?_ (fun hHeld => ?_)
          · exact KEEP.out _ ((((HB3.out.setCell (HB2.out.size) _).setCell (HB2.out.size) _).setCell (HB2.out.size) _).setCell (HB2.out.size) _)
          clear hK K
          refine wpAnyH_done (by kernel_rfl) ?_ _
          go_wp2_with fail
          go_meet
          exact ⟨_, rfl, Four.set_all F3.out _ _ _ _, ((((HB3.out.setCell (HB2.out.size) _).setCell (HB2.out.size) _).setCell (HB2.out.size) _).setCell (HB2.out.size) _), HB2.out.size⟩
      · go_simp
        have HBA : Hid (Below w3.heap.size w3 (wx1.alloc (.cells #[.int .i64 0, .int .i64 0, .int .i64 0, .int .i64 0] 117))) := HB1.out.alloc HB1.out.size _
        have FA : Hid (Four (wx1.alloc (.cells #[.int .i64 0, .int .i64 0, .int .i64 0, .int .i64 0] 117)) wx1.heap.size (.int .i64 0) (.int .i64 0) (.int .i64 0) (.int .i64 0)) := four_start _ _ _ _ _ _ _ rfl
        refine hK.out _ _ ?_ (fun hHeld => ?_)
        · exact KEEP.out _ HBA.out
        clear hK K
        refine wpAnyH_ready (rs := [10]) (by kernel_rfl) (by simp) ?_
        refine AllReadyH.cons rfl (fun K hK => ?_) AllReadyH.nil
        go_simp
        refine (both_any 0 0 PW' PH' x y QW' QH' _ (by omega) (by omega) (by omega) (by omega) (by omega) (by omega) (by omega) (by omega) (by omega) (by omega) (by omega) (by omega) (by omega) (by omega) (by omega) (by omega) (r1a, r1b, r1c, r1d) HR1).mono ?_
        unfold ratV rectV
        try simp only
        rintro e wx2 ⟨rfl, hbx2⟩
        have HB2 : Hid (Below w3.heap.size w3 wx2) := HBA.out.trans (hbx2.mono HBA.out.size)
        have F2 : Hid (Four wx2 wx1.heap.size (.int .i64 0) (.int .i64 0) (.int .i64 0) (.int .i64 0)) := Four.on FA.out hbx2
        clear hbx2
        refine hK.out _ _ ?_ (fun hHeld => ?_)
        · exact KEEP.out _ HB2.out
        clear hK K
        refine wpAnyH_ready (rs := [11]) (by kernel_rfl) (by simp) ?_
        refine AllReadyH.cons rfl (fun K hK => ?_) AllReadyH.nil
        go_simp
        refine (both_any a b c d r1a r1b r1c r1d _ (by omega) (by omega) (by omega) (by omega) (by omega) (by omega) (by omega) (by omega) (by omega) (by omega) (by omega) (by omega) (by omega) (by omega) (by omega) (by omega) (rx, ry, rw_, rh) HR2).mono ?_
        unfold ratV rectV
        try simp only
        rintro e wx3 ⟨rfl, hbx3⟩
        have HB3 : Hid (Below w3.heap.size w3 wx3) := HB2.out.trans (hbx3.mono HB2.out.size)
        have F3 : Hid (Four wx3 wx1.heap.size (.int .i64 0) (.int .i64 0) (.int .i64 0) (.int .i64 0)) := Four.on F2.out hbx3
        clear hbx3
        refine hK.out _ _ ?_ (fun hHeld => ?_)
        · exact KEEP.out _ HB3.out
        clear hK K
        refine wpAnyH_ready (rs := [13]) (by kernel_rfl) (by simp) ?_
        refine AllReadyH.cons rfl (fun K hK => ?_) AllReadyH.nil
        obtain ⟨_, _, _, _, _, _, _, _, _⟩ := F3.out
        go_simp
        refine hK.out _ _ ?_ (fun hHeld => ?_)
        · exact KEEP.out _ ((((HB3.out.setCell (HB1.out.size) _).setCell (HB1.out.size) _).setCell (HB1.out.size) _).setCell (HB1.out.size) _)
        clear hK K
        refine wpAnyH_done (by kernel_rfl) ?_ _
        go_wp2_with fail
        go_meet
        exact ⟨_, rfl, Four.set_all F3.out _ _ _ _, ((((HB3.out.setCell (HB1.out.size) _).setCell (HB1.out.size) _).setCell (HB1.out.size) _).setCell (HB1.out.size) _), HB1.out.size⟩
    · go_simp
      have HBA : Hid (Below w3.heap.size w3 (w3.drew.alloc (.cells #[.int .i64 0, .int .i64 0, .int .i64 0, .int .i64 0] 117))) := HB0.out.alloc HB0.out.size _
      have FA : Hid (Four (w3.drew.alloc (.cells #[.int .i64 0, .int .i64 0, .int .i64 0, .int .i64 0] 117)) w3.heap.size (.int .i64 0) (.int .i64 0) (.int .i64 0) (.int .i64 0)) := four_start _ _ _ _ _ _ _ rfl
      refine hK.out _ _ ?_ (fun hHeld => ?_)
      · exact KEEP.out _ HBA.out
      clear hK K
      refine wpAnyH_ready (rs := [2]) (by kernel_rfl) (by simp) ?_
      refine AllReadyH.cons rfl (fun K hK => ?_) AllReadyH.nil
      go_simp
      refine (whole_any PW' PH' ap np cp _).mono ?_
      unfold rectV
      try simp only
      rintro e wx1 ⟨rfl, hbx1⟩
      have HB1 : Hid (Below w3.heap.size w3 wx1) := HBA.out.trans (hbx1.mono HBA.out.size)
      have F1 : Hid (Four wx1 w3.heap.size (.int .i64 0) (.int .i64 0) (.int .i64 0) (.int .i64 0)) := Four.on FA.out hbx1
      clear hbx1
      refine hK.out _ _ ?_ (fun hHeld => ?_)
      · exact KEEP.out _ HB1.out
      clear hK K
      refine wpAnyH_ready (rs := [10]) (by kernel_rfl) (by simp) ?_
      refine AllReadyH.cons rfl (fun K hK => ?_) AllReadyH.nil
      go_simp
      refine (both_any 0 0 PW' PH' x y QW' QH' _ (by omega) (by omega) (by omega) (by omega) (by omega) (by omega) (by omega) (by omega) (by omega) (by omega) (by omega) (by omega) (by omega) (by omega) (by omega) (by omega) (r1a, r1b, r1c, r1d) HR1).mono ?_
      unfold ratV rectV
      try simp only
      rintro e wx2 ⟨rfl, hbx2⟩
      have HB2 : Hid (Below w3.heap.size w3 wx2) := HB1.out.trans (hbx2.mono HB1.out.size)
      have F2 : Hid (Four wx2 w3.heap.size (.int .i64 0) (.int .i64 0) (.int .i64 0) (.int .i64 0)) := Four.on F1.out hbx2
      clear hbx2
      refine hK.out _ _ ?_ (fun hHeld => ?_)
      · exact KEEP.out _ HB2.out
      clear hK K
      refine wpAnyH_ready (rs := [11]) (by kernel_rfl) (by simp) ?_
      refine AllReadyH.cons rfl (fun K hK => ?_) AllReadyH.nil
      go_simp
      refine (both_any a b c d r1a r1b r1c r1d _ (by omega) (by omega) (by omega) (by omega) (by omega) (by omega) (by omega) (by omega) (by omega) (by omega) (by omega) (by omega) (by omega) (by omega) (by omega) (by omega) (rx, ry, rw_, rh) HR2).mono ?_
      unfold ratV rectV
      try simp only
      rintro e wx3 ⟨rfl, hbx3⟩
      have HB3 : Hid (Below w3.heap.size w3 wx3) := HB2.out.trans (hbx3.mono HB2.out.size)
      have F3 : Hid (Four wx3 w3.heap.size (.int .i64 0) (.int .i64 0) (.int .i64 0) (.int .i64 0)) := Four.on F2.out hbx3
      clear hbx3
      refine hK.out _ _ ?_ (fun hHeld => ?_)
      · exact KEEP.out _ HB3.out
      clear hK K
      refine wpAnyH_ready (rs := [13]) (by kernel_rfl) (by simp) ?_
      refine AllReadyH.cons rfl (fun K hK => ?_) AllReadyH.nil
      obtain ⟨_, _, _, _, _, _, _, _, _⟩ := F3.out
      go_simp
      refine hK.out _ _ ?_ (fun hHeld => ?_)
      · exact KEEP.out _ ((((HB3.out.setCell (Nat.le_refl _) _).setCell (Nat.le_refl _) _).setCell (Nat.le_refl _) _).setCell (Nat.le_refl _) _)
      clear hK K
      refine wpAnyH_done (by kernel_rfl) ?_ _
      go_wp2_with fail
      go_meet
      exact ⟨_, rfl, Four.set_all F3.out _ _ _ _, ((((HB3.out.setCell (Nat.le_refl _) _).setCell (Nat.le_refl _) _).setCell (Nat.le_refl _) _).setCell (Nat.le_refl _) _), Nat.le_refl _⟩
  case rest =>
    obtain ⟨br, rfl, FR, hb4, hbr⟩ := hcut
    have HG4 : Hid (Gch w (.slice ap np cp) (.slice aq nq cq) (.slice (some ⟨g, 0, none⟩) np co) PW' PH' QW' QH' bo ps qs ps wc) := HG3.out.on hb4
    have hn2 := both_bounds a b c d r1a r1b r1c r1d 20 ha ha2 hb hb2 hc hc2 hd hd2 n0 n1 n2 n3 n4 n5 n6 n7 _ HR2.out
    simp only at hn2
    obtain ⟨m0, m1, m2, m3, m4, m5, m6, m7⟩ := hn2
    obtain ⟨r0, rr1, rr2, rr3, _, _, _, _, _⟩ := FR
    have FRc : Hid (Four wc br (.int .i64 rx) (.int .i64 ry) (.int .i64 rw_) (.int .i64 rh)) := ⟨r0, rr1, rr2, rr3, ‹_›, ‹_›, ‹_›, ‹_›, ‹_›⟩
    have hgr : g < w3.heap.size := (HG3.out.own.lt g rfl).2
    clear KEEP GON KALL HG3 hb4
    obtain ⟨gp, op, rfl, hgp, RPC⟩ := rd_some RP.out hne
    obtain ⟨gq_, oq, rfl, hgq, RQC⟩ := rd_some RQ.out hqne
    have HRPC := hid_of RPC
    have HRQC := hid_of RQC
    clear RPC RQC
    go_wp2_with fail
    go_loopw [15] (fun rv wr => ∃ R : Int, rv = .int .i64 R ∧ ry ≤ R ∧ R ≤ ry + rh ∧ Hid (Four wr br (.int .i64 rx) (.int .i64 ry) (.int .i64 rw_) (.int .i64 rh)) ∧
      Hid (Gch w (.slice (some ⟨gp, op, none⟩) np cp) (.slice (some ⟨gq_, oq, none⟩) nq cq) (.slice (some ⟨g, 0, none⟩) np co) PW' PH' QW' QH' bo ps qs (gridL PW' (PW' * PH') (upto rx ry rw_ rh R rx) (gq (fun p q => Fb.overL q.1 q.2 p.1 p.2) PW' ps QW' qs x y) ps) wr)) (fun rv _ => (ry + rh - intOf rv).toNat)
    case atStart =>
      refine ⟨ry, rfl, by omega, by omega, FRc, ?_⟩
      unfold Hid
      rw [upto_start PW' PH' _ ps rx ry rw_ rh (by rw [HNP.out]; exact HPL.out)]
      exact HG4.out
    case round =>
      obtain ⟨R, rfl, R0, R1, HFR, HG⟩ := hrel
      obtain ⟨r0, rr1, rr2, rr3, _, _, _, _, _⟩ := HFR.out
      by_cases hR : R < ry + rh
      · go_wp2_with fail
        go_loopw [16] (fun cv wr => ∃ C : Int, cv = .int .i64 C ∧ rx ≤ C ∧ C ≤ rx + rw_ ∧ Hid (Four wr br (.int .i64 rx) (.int .i64 ry) (.int .i64 rw_) (.int .i64 rh)) ∧
          Hid (Gch w (.slice (some ⟨gp, op, none⟩) np cp) (.slice (some ⟨gq_, oq, none⟩) nq cq) (.slice (some ⟨g, 0, none⟩) np co) PW' PH' QW' QH' bo ps qs (gridL PW' (PW' * PH') (upto rx ry rw_ rh R C) (gq (fun p q => Fb.overL q.1 q.2 p.1 p.2) PW' ps QW' qs x y) ps) wr)) (fun cv _ => (rx + rw_ - intOf cv).toNat)
        case atStart => exact ⟨rx, rfl, by omega, by omega, HFR, HG⟩
        case round =>
          obtain ⟨C, rfl, C0, C1, HFR2, HG2⟩ := hrel
          clear r0 rr1 rr2 rr3
          obtain ⟨r0, rr1, rr2, rr3, _, _, _, _, _⟩ := HFR2.out
          by_cases hC : C < rx + rw_
          · have hin := both_has a b c d r1a r1b r1c r1d C R _ HR2.out
            have hin1 := both_has 0 0 PW' PH' x y QW' QH' C R _ HR1.out
            simp only at hin hin1
            rw [(hasB_iff rx ry rw_ rh C R).2 ⟨C0, hC, R0, hR⟩] at hin
            have hin2 : hasB r1a r1b r1c r1d C R = true := by
              rw [hin1] at hin ⊢; revert hin; cases hasB a b c d C R <;> simp
            rw [hin2] at hin1
            have hin3 : hasB 0 0 PW' PH' C R = true ∧ hasB x y QW' QH' C R = true := by
              revert hin1; cases hasB 0 0 PW' PH' C R <;> simp
            obtain ⟨i0, i1, i2, i3⟩ := (hasB_iff _ _ _ _ _ _).1 hin3.1
            obtain ⟨j0, j1, j2, j3⟩ := (hasB_iff _ _ _ _ _ _).1 hin3.2
            clear hin hin1 hin2 hin3
            obtain ⟨Rn, rfl⟩ : ∃ n : Nat, R = (n : Int) := ⟨R.toNat, by omega⟩
            obtain ⟨Cn, rfl⟩ : ∃ n : Nat, C = (n : Int) := ⟨C.toNat, by omega⟩
            obtain ⟨K, HK⟩ : ∃ K, Hid (Rn * PW' + Cn = K) := ⟨_, (rfl : _ = _)⟩
            have hRP : (Rn + 1) * PW' ≤ PH' * PW' := Nat.mul_le_mul_right _ (by omega)
            have hKn : K < np := by
              have h1 := HK.out; have h2 := HPL.out
              rw [Nat.mul_comm] at h2; rw [Nat.add_mul] at hRP; omega
            obtain ⟨M, HM⟩ : ∃ M, Hid (Rn * PW' = M) := ⟨_, (rfl : _ = _)⟩
            have hM : (Rn : Int) * (PW' : Int) = (M : Int) := by rw [← HM.out]; exact (Int.natCast_mul _ _).symm
            have hMK : M + Cn = K := by rw [← HM.out]; exact HK.out
            obtain ⟨Ry, HRy⟩ : ∃ n : Nat, Hid ((Rn : Int) - y = (n : Int)) := ⟨((Rn : Int) - y).toNat, by unfold Hid; omega⟩
            obtain ⟨Cx, HCx⟩ : ∃ n : Nat, Hid ((Cn : Int) - x = (n : Int)) := ⟨((Cn : Int) - x).toNat, by unfold Hid; omega⟩
            obtain ⟨M2, HM2⟩ : ∃ M, Hid (Ry * QW' = M) := ⟨_, (rfl : _ = _)⟩
            have hRy := HRy.out
            have hM2 : (Ry : Int) * (QW' : Int) = (M2 : Int) := by rw [← HM2.out]; exact (Int.natCast_mul _ _).symm
            have hRQ : (Ry + 1) * QW' ≤ QH' * QW' := Nat.mul_le_mul_right _ (by omega)
            have hM2n : M2 + Cx < nq := by
              have h1 := HM2.out; have h2 := HQL.out; have h3 := HCx.out
              rw [Nat.mul_comm] at h2; rw [Nat.add_mul] at hRQ; omega
            have hJ : (M2 : Int) + (Cn : Int) - x = ((M2 + Cx : Nat) : Int) := by have := HCx.out; omega
            obtain ⟨J, HJ⟩ : ∃ J, Hid (M2 + Cx = J) := ⟨_, (rfl : _ = _)⟩
            rw [HJ.out] at hJ hM2n
            clear hRP hRQ
            have HGQ : Hid (gq (fun p q => Fb.overL q.1 q.2 p.1 p.2) PW' ps QW' qs x y K = Fb.overL (qs.getD J (0, 0)).1 (qs.getD J (0, 0)).2 (ps.getD K (0, 0)).1 (ps.getD K (0, 0)).2) := by
              have e1 : K / PW' = Rn := by rw [← HK.out, Nat.add_comm, Nat.add_mul_div_right _ _ (by omega), Nat.div_eq_of_lt (by omega), Nat.zero_add]
              have e2 : K % PW' = Cn := by rw [← HK.out, Nat.add_comm, Nat.add_mul_mod_self_right, Nat.mod_eq_of_lt (by omega)]
              unfold Hid gq
              rw [e1, e2, hRy, hM2, hJ, Int.toNat_natCast]
            obtain ⟨hpc0, hpc1⟩ := HRPC.out _ HG2.out.bel K (by rw [HNP.out]; exact hKn)
            obtain ⟨hqc0, hqc1⟩ := HRQC.out _ HG2.out.bel J (by rw [HNQ.out]; exact hM2n)
            have hpk := POK.out K (by rw [HNP.out]; exact hKn)
            have hqk := QOK.out J (by rw [HNQ.out]; exact hM2n)
            obtain ⟨pp, HPP⟩ : ∃ p, Hid (ps.getD K (0, 0) = p) := ⟨_, (rfl : _ = _)⟩
            obtain ⟨qq, HQQ⟩ : ∃ p, Hid (qs.getD J (0, 0) = p) := ⟨_, (rfl : _ = _)⟩
            rw [HPP.out] at hpc0 hpc1 hpk
            rw [HQQ.out] at hqc0 hqc1 hqk
            obtain ⟨pv, pa⟩ := pp
            obtain ⟨qv, qa⟩ := qq
            obtain ⟨⟨nv, na⟩, HNV⟩ : ∃ r, Hid (Fb.overL qv qa pv pa = r) := ⟨_, (rfl : _ = _)⟩
            obtain ⟨a0, a1, a2, _, _, _, _⟩ := HG2.out.tp
            obtain ⟨b0, b1, b2_, _, _, _, _⟩ := HG2.out.tq
            obtain ⟨o0, o1, o2, _, _, _, _⟩ := HG2.out.to
            simp only at hpc0 hpc1 hqc0 hqc1
            have hMK2 : (M : Int) + (Cn : Int) = (K : Int) := by omega
            go_wp2_with fail
            -- REGION
            have KEEP : Hid (∀ W2 cur', Gch w (.slice (some ⟨gp, op, none⟩) np cp) (.slice (some ⟨gq_, oq, none⟩) nq cq) (.slice (some ⟨g, 0, none⟩) np co) PW' PH' QW' QH' bo ps qs cur' W2 → (W2.cell? ⟨w.heap.size, 2, none⟩ = some (.slice (some ⟨gp, op, none⟩) np cp) ∧ W2.cell? ⟨w.heap.size + 1, 0, none⟩ = some (.int .i64 (QW' : Int)) ∧ W2.cell? ⟨w.heap.size + 1, 2, none⟩ = some (.slice (some ⟨gq_, oq, none⟩) nq cq) ∧ W2.cell? ⟨bo, 2, none⟩ = some (.slice (some ⟨g, 0, none⟩) np co) ∧ W2.cell? ⟨gp, op + K * 2, none⟩ = some (.int .i64 pv) ∧ W2.cell? ⟨gp, op + K * 2 + 1, none⟩ = some (.int .i64 pa) ∧ W2.cell? ⟨gq_, oq + J * 2, none⟩ = some (.int .i64 qv) ∧ W2.cell? ⟨gq_, oq + J * 2 + 1, none⟩ = some (.int .i64 qa))) := fun W2 cur' h2 => by
              obtain ⟨k0, k1⟩ := HRPC.out _ h2.bel K (by rw [HNP.out]; exact hKn)
              obtain ⟨k2, k3⟩ := HRQC.out _ h2.bel J (by rw [HNQ.out]; exact hM2n)
              rw [HPP.out] at k0 k1
              rw [HQQ.out] at k2 k3
              exact ⟨h2.tp.c2, h2.tq.c0, h2.tq.c2, h2.to.c2, k0, k1, k2, k3⟩
            clear hpc0 hpc1 hqc0 hqc1 a0 a1 a2 b0 b1 b2_ o0 o1 o2 r0 rr1 rr2 rr3
            have hKi : (K : Int) < (np : Int) := by omega
            have hJi : (J : Int) < (nq : Int) := by omega
            have hw1 : IntKind.i64.wrap ((Rn : Int) - y) = (Ry : Int) := by rw [hRy, IntKind.wrap_i64]; omega
            have hw2 : IntKind.i64.wrap ((Ry : Int) * (QW' : Int)) = (M2 : Int) := by rw [hM2, IntKind.wrap_i64]; omega
            have hw3 : IntKind.i64.wrap ((M2 : Int) + (Cn : Int)) = (M2 : Int) + (Cn : Int) := by rw [IntKind.wrap_i64]; omega
            have hw4 : IntKind.i64.wrap ((M2 : Int) + (Cn : Int) - x) = (J : Int) := by rw [hJ, IntKind.wrap_i64]; omega
            have hw5 : IntKind.i64.wrap (Ry : Int) = (Ry : Int) := by rw [IntKind.wrap_i64]; omega
            have hw6 : IntKind.i64.wrap (M2 : Int) = (M2 : Int) := by rw [IntKind.wrap_i64]; omega
            have hw7 : IntKind.i64.wrap (J : Int) = (J : Int) := by rw [IntKind.wrap_i64]; omega
            have HGD : Hid (Gch w (.slice (some ⟨gp, op, none⟩) np cp) (.slice (some ⟨gq_, oq, none⟩) nq cq) (.slice (some ⟨g, 0, none⟩) np co) PW' PH' QW' QH' bo ps qs _ wr.drew) := HG2.out.drew
            refine wp_region_held_drew (S := (fun w' => w'.cell? ⟨w.heap.size, 2, none⟩ = some (.slice (some ⟨gp, op, none⟩) np cp) ∧ w'.cell? ⟨w.heap.size + 1, 0, none⟩ = some (.int .i64 (QW' : Int)) ∧ w'.cell? ⟨w.heap.size + 1, 2, none⟩ = some (.slice (some ⟨gq_, oq, none⟩) nq cq) ∧ w'.cell? ⟨bo, 2, none⟩ = some (.slice (some ⟨g, 0, none⟩) np co) ∧ w'.cell? ⟨gp, op + K * 2, none⟩ = some (.int .i64 pv) ∧ w'.cell? ⟨gp, op + K * 2 + 1, none⟩ = some (.int .i64 pa) ∧ w'.cell? ⟨gq_, oq + J * 2, none⟩ = some (.int .i64 qv) ∧ w'.cell? ⟨gq_, oq + J * 2 + 1, none⟩ = some (.int .i64 qa))) (by kernel_rfl) ?_ (fun hHeld => ?_)
            · exact KEEP.out _ _ HGD.out
            refine tk (v := ?_) 0 rfl (by kernel_rfl) (by rfl) ?_ ?_
            rotate_left
            · (intro w hSw; (try dsimp only at hSw); go_simp; try with_reducible rfl)
            refine tk (v := ?_) 1 rfl (by kernel_rfl) (by rfl) ?_ ?_
            rotate_left
            · (intro w hSw; (try dsimp only at hSw); go_simp; try with_reducible rfl)
            refine tk (v := ?_) 2 rfl (by kernel_rfl) (by rfl) ?_ ?_
            rotate_left
            · (intro w hSw; (try dsimp only at hSw); go_simp; try with_reducible rfl)
            refine tk (v := ?_) 3 rfl (by kernel_rfl) (by rfl) ?_ ?_
            rotate_left
            · (intro w hSw; (try dsimp only at hSw); go_simp; try with_reducible rfl)
            refine tk (v := ?_) 4 rfl (by kernel_rfl) (by rfl) ?_ ?_
            rotate_left
            · (intro w hSw; (try dsimp only at hSw); go_simp; try with_reducible rfl)
            refine tk (v := ?_) 5 rfl (by kernel_rfl) (by rfl) ?_ ?_
            rotate_left
            · (intro w hSw; (try dsimp only at hSw); go_simp; try with_reducible rfl)
            refine tk (v := ?_) 6 rfl (by kernel_rfl) (by rfl) ?_ ?_
            rotate_left
            · (intro w hSw; (try dsimp only at hSw); go_simp; try with_reducible rfl)
            refine tk (v := ?_) 7 rfl (by kernel_rfl) (by rfl) ?_ ?_
            rotate_left
            · (intro w hSw; (try dsimp only at hSw); go_simp; try with_reducible rfl)
            refine tk (v := ?_) 8 rfl (by kernel_rfl) (by rfl) ?_ ?_
            rotate_left
            · (intro w hSw; (try dsimp only at hSw); go_simp; try with_reducible rfl)
            refine tk (v := ?_) 9 rfl (by kernel_rfl) (by rfl) ?_ ?_
            rotate_left
            · (intro w hSw; (try dsimp only at hSw); go_simp; try with_reducible rfl)
            refine tk (v := ?_) 10 rfl (by kernel_rfl) (by rfl) ?_ ?_
            rotate_left
            · (intro w hSw; (try dsimp only at hSw); go_simp; try with_reducible rfl)
            refine tk (v := ?_) 11 rfl (by kernel_rfl) (by rfl) ?_ ?_
            rotate_left
            · (intro w hSw; (try dsimp only at hSw); go_simp; try with_reducible rfl)
            refine tk (v := ?_) 12 rfl (by kernel_rfl) (by rfl) ?_ ?_
            rotate_left
            · (intro w hSw; (try dsimp only at hSw); go_simp; try with_reducible rfl)
            refine tk (v := ?_) 13 rfl (by kernel_rfl) (by rfl) ?_ ?_
            rotate_left
            · (intro w hSw; (try dsimp only at hSw); go_simp; try with_reducible rfl)
            refine tk (v := ?_) 14 rfl (by kernel_rfl) (by rfl) ?_ ?_
            rotate_left
            · (intro w hSw; (try dsimp only at hSw); go_simp; try with_reducible rfl)
            refine tk (v := ?_) 15 rfl (by kernel_rfl) (by rfl) ?_ ?_
            rotate_left
            · (intro w hSw; (try dsimp only at hSw); go_simp; try with_reducible rfl)
            refine tk (v := ?_) 16 rfl (by kernel_rfl) (by rfl) ?_ ?_
            rotate_left
            · (intro w hSw; (try dsimp only at hSw); go_simp; try with_reducible rfl)
            refine tk (v := ?_) 17 rfl (by kernel_rfl) (by rfl) ?_ ?_
            rotate_left
            · (intro w hSw; (try dsimp only at hSw); go_simp; try with_reducible rfl)
            refine tk (v := ?_) 18 rfl (by kernel_rfl) (by rfl) ?_ ?_
            rotate_left
            · (intro w hSw; (try dsimp only at hSw); go_simp; try with_reducible rfl)
            refine tk (v := ?_) 19 rfl (by kernel_rfl) (by rfl) ?_ ?_
            rotate_left
            · (intro w hSw; (try dsimp only at hSw); go_simp; try with_reducible rfl)
            refine tk (v := ?_) 20 rfl (by kernel_rfl) (by rfl) ?_ ?_
            rotate_left
            · (intro w hSw; (try dsimp only at hSw); go_simp; try with_reducible rfl)
            refine tk (v := ?_) 21 rfl (by kernel_rfl) (by rfl) ?_ ?_
            rotate_left
            · (intro w hSw; (try dsimp only at hSw); go_simp; try with_reducible rfl)
            refine tk (v := ?_) 22 rfl (by kernel_rfl) (by rfl) ?_ ?_
            rotate_left
            · (intro w hSw; (try dsimp only at hSw); go_simp; try with_reducible rfl)
            refine wpAnyH_ready (rs := [23]) (by kernel_rfl) (by simp) ?_
            refine AllReadyH.cons rfl (fun K_ hK => ?_) AllReadyH.nil
            go_simp
            refine (becL_any (pv, pa) (qv, qa) (nv, na) hpk hqk HNV _).mono ?_
            unfold pixV
            try simp only
            rintro e wx ⟨rfl, hbx⟩
            have HGx : Hid (Gch w (.slice (some ⟨gp, op, none⟩) np cp) (.slice (some ⟨gq_, oq, none⟩) nq cq) (.slice (some ⟨g, 0, none⟩) np co) PW' PH' QW' QH' bo ps qs (gridL PW' (PW' * PH') (upto rx ry rw_ rh (Rn : Int) (Cn : Int)) (gq (fun p q => Fb.overL q.1 q.2 p.1 p.2) PW' ps QW' qs x y) ps) wx) := HGD.out.on hbx
            have HFx : Hid (Four wx br (.int .i64 rx) (.int .i64 ry) (.int .i64 rw_) (.int .i64 rh)) := HFR2.out.drew.on hbx
            clear hbx
            have hlen : (gridL PW' (PW' * PH') (upto rx ry rw_ rh (Rn : Int) (Cn : Int)) (gq (fun p q => Fb.overL q.1 q.2 p.1 p.2) PW' ps QW' qs x y) ps).length = np := by rw [grid_len]; exact HPL.out.symm
            have HKL : Hid (K < (gridL PW' (PW' * PH') (upto rx ry rw_ rh (Rn : Int) (Cn : Int)) (gq (fun p q => Fb.overL q.1 q.2 p.1 p.2) PW' ps QW' qs x y) ps).length) := by unfold Hid; rw [hlen]; exact hKn
            have hown : Hid (wx.ownsRow (w.heap.size + 4) 52 2 (.slice (some ⟨g, 0, none⟩) np co) np (pixCells (gridL PW' (PW' * PH') (upto rx ry rw_ rh (Rn : Int) (Cn : Int)) (gq (fun p q => Fb.overL q.1 q.2 p.1 p.2) PW' ps QW' qs x y) ps))) := by have h := HGx.out.own; rw [hlen] at h; exact h
            obtain ⟨u0, hu0⟩ : ∃ u, wx.cell? ⟨g, K * 2, none⟩ = some u := by
              exact ⟨_, (hown.out.cellAt (K * 2) (by omega)).trans (pixCells_at _ K HKL.out).1⟩
            obtain ⟨u1, hu1⟩ : ∃ u, wx.cell? ⟨g, K * 2 + 1, none⟩ = some u := by
              exact ⟨_, (hown.out.cellAt (K * 2 + 1) (by omega)).trans (pixCells_at _ K HKL.out).2⟩
            have hf0 : wx.frozen? ⟨g, K * 2, none⟩ = false := hown.out.frozenAt _
            have hf1 : wx.frozen? ⟨g, K * 2 + 1, none⟩ = false := hown.out.frozenAt _
            have HGs : Hid (Gch w (.slice (some ⟨gp, op, none⟩) np cp) (.slice (some ⟨gq_, oq, none⟩) nq cq) (.slice (some ⟨g, 0, none⟩) np co) PW' PH' QW' QH' bo ps qs ((gridL PW' (PW' * PH') (upto rx ry rw_ rh (Rn : Int) (Cn : Int)) (gq (fun p q => Fb.overL q.1 q.2 p.1 p.2) PW' ps QW' qs x y) ps).set K (nv, na)) ((wx.setCell ⟨g, K * 2, none⟩ (.int .i64 nv)).setCell ⟨g, K * 2 + 1, none⟩ (.int .i64 na))) := HGx.out.store RP.out RQ.out hgB hgb hlen nv na
            have HFs : Hid (Four ((wx.setCell ⟨g, K * 2, none⟩ (.int .i64 nv)).setCell ⟨g, K * 2 + 1, none⟩ (.int .i64 na)) br (.int .i64 rx) (.int .i64 ry) (.int .i64 rw_) (.int .i64 rh)) := (HFx.out.other (by omega)).other (by omega)
            have HGn : Hid ((gridL PW' (PW' * PH') (upto rx ry rw_ rh (Rn : Int) (Cn : Int)) (gq (fun p q => Fb.overL q.1 q.2 p.1 p.2) PW' ps QW' qs x y) ps).set K (nv, na) = gridL PW' (PW' * PH') (upto rx ry rw_ rh (Rn : Int) ((Cn : Int) + 1)) (gq (fun p q => Fb.overL q.1 q.2 p.1 p.2) PW' ps QW' qs x y) ps) := by
              unfold Hid
              rw [← upto_step PW' PH' Rn Cn _ ps rx ry rw_ rh (by omega) (by omega) C0 hC R0 hR, HK.out, HGQ.out, HPP.out, HQQ.out]
              rw [show Fb.overL qv qa pv pa = (nv, na) from HNV.out]
            rw [HGn.out] at HGs
            clear HGn hlen HKL hown
            refine hK.out _ _ ?_ (fun hHeld => ?_)
            · exact KEEP.out _ _ HGx.out
            clear hK K_
            refine tk (v := ?_) 24 rfl (by kernel_rfl) (by rfl) ?_ ?_
            rotate_left
            · (intro w hSw; (try dsimp only at hSw); go_simp; try with_reducible rfl)
            refine wpAnyH_ready (rs := [25]) (by kernel_rfl) (by simp) ?_
            refine AllReadyH.cons rfl (fun K_ hK => ?_) AllReadyH.nil
            go_simp
            refine hK.out _ _ ?_ (fun hHeld => ?_)
            · exact KEEP.out _ _ HGs.out
            clear hK K_
            refine wpAnyH_done (by kernel_rfl) ?_ _
            go_wp2_with fail
            go_roundw
            case rel => exact ⟨(Cn : Int) + 1, by go_num, by omega, by omega, HFs, HGs⟩
            case measure => simp [intOf]; omega
            -- END
          · have hC41 : C = rx + rw_ := by omega
            subst hC41
            rw [upto_row] at HG2
            go_wp2_with fail
            go_roundw
            case rel => exact ⟨R + 1, by go_num, by omega, by omega, HFR2, HG2⟩
            case measure => simp [intOf]; omega
      · have hR41 : R = ry + rh := by omega
        subst hR41
        have hend := upto_end (fun p q => Fb.overL q.1 q.2 p.1 p.2) PW' PH' ps QW' QH' qs x y a b c d (r1a, r1b, r1c, r1d) (rx, ry, rw_, rh) (by omega) (by rw [HNP.out]; exact HPL.out) HR1.out HR2.out
        simp only at hend
        have HG9 := HG
        rw [hend] at HG9
        obtain ⟨o0, o1, o2, _, _, _, _⟩ := HG9.out.to
        obtain ⟨q0, q1, q2, f0, f1, f2, _⟩ := HG9.out.tr
        go_wp2_with fail
        refine bodyPost_ret (v := .agg #[.int .i64 (PW' : Int), .int .i64 (PH' : Int), .slice (some ⟨g, 0, none⟩) np co]) (by simp [results, Tryz.results99, go_sem, q0, q1, q2]) rfl ⟨_, rfl, ownsRow_setCell_below (ownsRow_setCell_below (ownsRow_setCell_below HG9.out.own (a := ⟨w.heap.size + 1 + 1 + 1, 0, none⟩) (show w.heap.size + 1 + 1 + 1 < w.heap.size + 4 by omega) _) (a := ⟨w.heap.size + 1 + 1 + 1, 1, none⟩) (show w.heap.size + 1 + 1 + 1 < w.heap.size + 4 by omega) _) (a := ⟨w.heap.size + 1 + 1 + 1, 2, none⟩) (show w.heap.size + 1 + 1 + 1 < w.heap.size + 4 by omega) _, ?_⟩
        exact ((HG9.out.bel.setCell (show w.heap.size ≤ w.heap.size + 1 + 1 + 1 by omega) _).setCell (show w.heap.size ≤ w.heap.size + 1 + 1 + 1 by omega) _).setCell (show w.heap.size ≤ w.heap.size + 1 + 1 + 1 by omega) _
end Go.Proofs.YtceabiodelfdoaaGreatDoor
/- Walk of blend.Lay. -/
namespace Go.Proofs.YtceabiodelfdoaaGreatDoor
open Go.RowKit

/-- what Lay answers -/
def layL (PW : Nat) (ps : List (Int × Int)) (QW QH : Nat) (qs : List (Int × Int)) (x y a b c d : Int) (sh : Bool) : List (Int × Int) :=
  if sh then chL (fun p q => Fb.overL q.1 q.2 p.1 p.2) PW ps QW QH qs x y a b c d else ps

/-- what holds on the road -/
structure Gla (w : World) (pw ph : Int) (vp : Value) (id x y qw qh : Int) (vq : Value) (a b c d : Int) (sh : Bool) (ps qs : List (Int × Int)) (w' : World) : Prop where
  tp : Three w' w.heap.size (.int .i64 pw) (.int .i64 ph) vp
  eo : Eleven w' (w.heap.size + 1) (.int .i64 id) (.int .i64 x) (.int .i64 y) (.int .i64 qw) (.int .i64 qh) vq (.int .i64 a) (.int .i64 b) (.int .i64 c) (.int .i64 d) (.bool sh)
  rp : RdP w' vp ps
  rq : RdP w' vq qs
  bel : Below w.heap.size w w'
theorem Gla.on {w : World} {pw ph : Int} {vp : Value} {id x y qw qh : Int} {vq : Value} {a b c d : Int} {sh : Bool} {ps qs : List (Int × Int)} {w1 w2 : World} (h : Gla w pw ph vp id x y qw qh vq a b c d sh ps qs w1) (hb : Below w1.heap.size w1 w2) : Gla w pw ph vp id x y qw qh vq a b c d sh ps qs w2 :=
  ⟨h.tp.on hb, h.eo.on hb, h.rp.on hb, h.rq.on hb, h.bel.trans (hb.mono h.bel.size)⟩
theorem Gla.drew {w : World} {pw ph : Int} {vp : Value} {id x y qw qh : Int} {vq : Value} {a b c d : Int} {sh : Bool} {ps qs : List (Int × Int)} {w1 : World} (h : Gla w pw ph vp id x y qw qh vq a b c d sh ps qs w1) : Gla w pw ph vp id x y qw qh vq a b c d sh ps qs w1.drew :=
  ⟨h.tp.drew, h.eo.drew, h.rp, h.rq, h.bel.drew⟩

set_option maxHeartbeats 4000000 in
set_option maxRecDepth 100000 in
theorem lay_any (PW PH QW QH : Nat) (vp vq : Value) (ps qs : List (Int × Int)) (id x y a b c d : Int) (sh : Bool) (w : World) (HP : Hid (checkL PW PH ps = 0)) (HQ : Hid (checkL QW QH qs = 0)) (RP : Hid (RdP w vp ps)) (RQ : Hid (RdP w vq qs))
    (hx : -20 ≤ x) (hx2 : x ≤ 20) (hy : -20 ≤ y) (hy2 : y ≤ 20) (ha : -20 ≤ a) (ha2 : a ≤ 20) (hb : -20 ≤ b) (hb2 : b ≤ 20) (hc : 0 ≤ c) (hc2 : c ≤ 20) (hd : 0 ≤ d) (hd2 : d ≤ 20) :
    Calls Tryz.prog 90 #[picV PW PH vp, objV id x y QW QH vq a b c d sh] w
      fun e w' => ∃ v', e = .returned (picV PW PH v') ∧ w'.ownsRow (w.heap.size + 3) 52 2 v' (layL PW ps QW QH qs x y a b c d sh).length (pixCells (layL PW ps QW QH qs x y a b c d sh)) ∧ Below w.heap.size w w' := by
  obtain ⟨PW', PH', e1, e2, p1, p2, p3, p4, pl, _⟩ := check_zero _ _ _ HP.out
  obtain rfl : PW' = PW := by omega
  obtain rfl : PH' = PH := by omega
  clear e1 e2
  have hm1 : PW' * PH' ≤ 8 * 8 := Nat.mul_le_mul p2 p4
  have hm2 : 1 * 1 ≤ PW' * PH' := Nat.mul_le_mul p1 p3
  have hne : ps ≠ [] := by intro e; rw [e] at pl; simp at pl; omega
  have hlen : ps.length ≤ 100 := by omega
  obtain ⟨ap, cp, hvp, hlp, hcp, _⟩ := RP.out
  obtain ⟨aq, cq, hvq, hlq, hcq, _⟩ := RQ.out
  obtain ⟨np, HNP⟩ : ∃ n, Hid (ps.length = n) := ⟨_, (rfl : _ = _)⟩
  obtain ⟨nq, HNQ⟩ : ∃ n, Hid (qs.length = n) := ⟨_, (rfl : _ = _)⟩
  rw [HNP.out] at hvp hlp
  rw [HNQ.out] at hvq hlq
  clear pl hm1 hm2
  subst hvp hvq
  unfold picV objV
  cases sh with
  | false =>
    obtain ⟨L, HL⟩ : ∃ L, Hid (layL PW' ps QW QH qs x y a b c d false = L) := ⟨_, (rfl : _ = _)⟩
    rw [HL.out]
    go_enter Tryz.func90, Tryz.ntmps90
    have T2 := three_begin ((w.alloc (.cells #[.int .i64 (PW' : Int), .int .i64 (PH' : Int), .slice ap np cp] 46)).alloc (.cells #[.int .i64 id, .int .i64 x, .int .i64 y, .int .i64 (QW : Int), .int .i64 (QH : Int), .slice aq nq cq, .int .i64 a, .int .i64 b, .int .i64 c, .int .i64 d, .bool false] 141)) (.int .i64 0) (.int .i64 0) (.slice none 0 0) 46 (w.heap.size + 1 + 1) (by simp)
    obtain ⟨W0, HW0⟩ : ∃ W0, Hid (((w.alloc (.cells #[.int .i64 (PW' : Int), .int .i64 (PH' : Int), .slice ap np cp] 46)).alloc (.cells #[.int .i64 id, .int .i64 x, .int .i64 y, .int .i64 (QW : Int), .int .i64 (QH : Int), .slice aq nq cq, .int .i64 a, .int .i64 b, .int .i64 c, .int .i64 d, .bool false] 141)).alloc (.cells #[.int .i64 0, .int .i64 0, .slice none 0 0] 46) = W0) := ⟨_, (rfl : _ = _)⟩
    have hb0 : Below w.heap.size w W0 := by rw [← HW0.out]; exact (((Below.refl _ _).alloc (Nat.le_refl _) _).alloc (by simp) _).alloc (by simp; omega) _
    have hs0 : W0.heap.size = w.heap.size + 3 := by rw [← HW0.out]; simp
    rw [HW0.out] at T2
    have RP0 : Hid (RdP W0 (.slice ap np cp) ps) := RP.out.on hb0
    have RQ0 : Hid (RdP W0 (.slice aq nq cq) qs) := RQ.out.on hb0
    go_wp2_with fail
    rw [HW0.out]
    refine (bown_any (PW' : Int) (PH' : Int) _ ps W0 (by omega) hne RP0).mono ?_
    unfold picV
    rintro e w1 ⟨v1, rfl, ho1, hb1⟩
    have HL2 : ps = L := HL.out
    rw [HL2] at ho1
    have HO1 := hide_own (own_mono ho1 (show w.heap.size + 3 ≤ _ by omega))
    obtain ⟨n1, HN1⟩ : ∃ n, Hid (L.length = n) := ⟨_, (rfl : _ = _)⟩
    rw [HN1.out] at HO1
    obtain ⟨a1, c1, hv1⟩ := own_any HO1.out
    subst hv1
    clear ho1
    have hbb := hb0.trans (hb1.mono hb0.size)
    obtain ⟨d0, d1, d2, g0, g1, g2, lt2⟩ := T2.on hb1
    go_wp2_with fail
    refine bodyPost_ret (v := .agg #[.int .i64 (PW' : Int), .int .i64 (PH' : Int), .slice a1 n1 c1]) (by simp [results, Tryz.results90, go_sem, d0, d1, d2]) rfl ⟨_, rfl, ?_, ?_⟩
    · rw [HN1.out]
      refine ownsRow_setCell_below (ownsRow_setCell_below (ownsRow_setCell_below HO1.out ?_ _) ?_ _) ?_ _
      all_goals (simp; try omega)
    · refine ((hbb.setCell ?_ _).setCell ?_ _).setCell ?_ _
      all_goals (simp; try omega)
  | true =>
    obtain ⟨L, HL⟩ : ∃ L, Hid (layL PW' ps QW QH qs x y a b c d true = L) := ⟨_, (rfl : _ = _)⟩
    rw [HL.out]
    go_enter Tryz.func90, Tryz.ntmps90
    have T2 := three_begin ((w.alloc (.cells #[.int .i64 (PW' : Int), .int .i64 (PH' : Int), .slice ap np cp] 46)).alloc (.cells #[.int .i64 id, .int .i64 x, .int .i64 y, .int .i64 (QW : Int), .int .i64 (QH : Int), .slice aq nq cq, .int .i64 a, .int .i64 b, .int .i64 c, .int .i64 d, .bool true] 141)) (.int .i64 0) (.int .i64 0) (.slice none 0 0) 46 (w.heap.size + 1 + 1) (by simp)
    obtain ⟨W0, HW0⟩ : ∃ W0, Hid (((w.alloc (.cells #[.int .i64 (PW' : Int), .int .i64 (PH' : Int), .slice ap np cp] 46)).alloc (.cells #[.int .i64 id, .int .i64 x, .int .i64 y, .int .i64 (QW : Int), .int .i64 (QH : Int), .slice aq nq cq, .int .i64 a, .int .i64 b, .int .i64 c, .int .i64 d, .bool true] 141)).alloc (.cells #[.int .i64 0, .int .i64 0, .slice none 0 0] 46) = W0) := ⟨_, (rfl : _ = _)⟩
    have hb0 : Below w.heap.size w W0 := by rw [← HW0.out]; exact (((Below.refl _ _).alloc (Nat.le_refl _) _).alloc (by simp) _).alloc (by simp; omega) _
    have hs0 : W0.heap.size = w.heap.size + 3 := by rw [← HW0.out]; simp
    rw [HW0.out] at T2
    have RP0 : Hid (RdP W0 (.slice ap np cp) ps) := RP.out.on hb0
    have RQ0 : Hid (RdP W0 (.slice aq nq cq) qs) := RQ.out.on hb0
    go_wp2_with fail
    rw [HW0.out]
    refine (changeL_any PW' PH' QW QH (.slice ap np cp) (.slice aq nq cq) ps qs x y a b c d W0 HP HQ RP0 RQ0 hx hx2 hy hy2 ha ha2 hb hb2 hc hc2 hd hd2).mono ?_
    unfold picV
    rintro e w1 ⟨v1, rfl, ho1, hb1⟩
    have HL2 : chL (fun p q => Fb.overL q.1 q.2 p.1 p.2) PW' ps QW QH qs x y a b c d = L := HL.out
    rw [HL2] at ho1
    have HO1 := hide_own (own_mono ho1 (show w.heap.size + 3 ≤ _ by omega))
    obtain ⟨n1, HN1⟩ : ∃ n, Hid (L.length = n) := ⟨_, (rfl : _ = _)⟩
    rw [HN1.out] at HO1
    obtain ⟨a1, c1, hv1⟩ := own_any HO1.out
    subst hv1
    clear ho1
    have hbb := hb0.trans (hb1.mono hb0.size)
    obtain ⟨d0, d1, d2, g0, g1, g2, lt2⟩ := T2.on hb1
    go_wp2_with fail
    refine bodyPost_ret (v := .agg #[.int .i64 (PW' : Int), .int .i64 (PH' : Int), .slice a1 n1 c1]) (by simp [results, Tryz.results90, go_sem, d0, d1, d2]) rfl ⟨_, rfl, ?_, ?_⟩
    · rw [HN1.out]
      refine ownsRow_setCell_below (ownsRow_setCell_below (ownsRow_setCell_below HO1.out ?_ _) ?_ _) ?_ _
      all_goals (simp; try omega)
    · refine ((hbb.setCell ?_ _).setCell ?_ _).setCell ?_ _
      all_goals (simp; try omega)
end Go.Proofs.YtceabiodelfdoaaGreatDoor
/- What Lay answers, as a list. -/
namespace Go.Proofs.YtceabiodelfdoaaGreatDoor
open Go.RowKit

theorem lay_len (PW : Nat) (ps : List (Int × Int)) (QW QH : Nat) (qs : List (Int × Int)) (x y a b c d : Int) (sh : Bool) : (layL PW ps QW QH qs x y a b c d sh).length = ps.length := by
  unfold layL; cases sh <;> simp [ch_len]
theorem over_ok (p q : Int × Int) (h : pixOk p) (h' : pixOk q) : pixOk ((fun (p q : Int × Int) => Fb.overL q.1 q.2 p.1 p.2) p q) := by
  obtain ⟨p0, p1, p2, p3⟩ := h
  obtain ⟨q0, q1, q2, q3⟩ := h'
  obtain ⟨_, _, r1, r2, r3, r4, _⟩ := Fb.over_bounds q.1 q.2 p.1 p.2 q0 q1 q2 q3 p0 p1 p2 p3
  exact ⟨r3, r4, r2, r1⟩
theorem lay_check (PW PH : Nat) (ps : List (Int × Int)) (QW QH : Nat) (qs : List (Int × Int)) (x y a b c d : Int) (sh : Bool) (hp : checkL (PW : Int) (PH : Int) ps = 0) (hq : checkL (QW : Int) (QH : Int) qs = 0) : checkL (PW : Int) (PH : Int) (layL PW ps QW QH qs x y a b c d sh) = 0 := by
  unfold layL
  cases sh
  · simpa using hp
  · simp only [if_true]
    exact ch_check _ over_ok PW PH ps QW QH qs x y a b c d hp hq

theorem lay_getD (PW : Nat) (ps : List (Int × Int)) (QW QH : Nat) (qs : List (Int × Int)) (x y a b c d : Int) (sh : Bool) (k : Nat) (hk : k < ps.length) :
    (layL PW ps QW QH qs x y a b c d sh).getD k (0, 0) = if (sh && (hasB a b c d ((k % PW : Nat) : Int) ((k / PW : Nat) : Int) && hasB x y (QW : Int) (QH : Int) ((k % PW : Nat) : Int) ((k / PW : Nat) : Int))) = true then gq (fun p q => Fb.overL q.1 q.2 p.1 p.2) PW ps QW qs x y k else ps.getD k (0, 0) := by
  unfold layL
  cases sh
  · simp
  · simp only [if_true, Bool.true_and]
    exact ch_getD _ PW ps QW QH qs x y a b c d k hk
end Go.Proofs.YtceabiodelfdoaaGreatDoor
