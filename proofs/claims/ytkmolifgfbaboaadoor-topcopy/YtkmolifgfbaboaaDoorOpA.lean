/- Lists of numbers; op.numbers; slices.ContainsFunc over numbers. -/
import Derived.Test.YtkmolifgfbaboaaDoorFindA
import Derived.Test.YtkmolifgfbaboaaDoorOlJ
namespace Go.Proofs.YtkmolifgfbaboaaDoor
open Go.RowKit

/-- a list of numbers -/
def RdI (w : World) (v : Value) (ns : List Int) : Prop :=
  ∃ a cap, v = .slice a ns.length cap ∧ ns.length ≤ cap ∧ cap ≤ 9223372036854775807 ∧ (ns ≠ [] → ∃ g off, a = some ⟨g, off, none⟩ ∧ g < w.heap.size ∧ ∀ j, j < ns.length → w.cell? ⟨g, off + j, none⟩ = some (.int .i64 (ns.getD j 0)))
theorem RdI.on {w w' : World} {v : Value} {ns : List Int} (h : RdI w v ns) (hb : Below w.heap.size w w') : RdI w' v ns := by
  obtain ⟨a, cap, hv, hl, hc, hh⟩ := h
  refine ⟨a, cap, hv, hl, hc, fun hne => ?_⟩
  obtain ⟨g, off, ha, hg, hcell⟩ := hh hne
  refine ⟨g, off, ha, Nat.lt_of_lt_of_le hg hb.size, fun j hj => ?_⟩
  rw [hb.cell (p := ⟨g, off + j, none⟩) hg]
  exact hcell j hj
theorem RdI.at {w : World} {a : Option Addr} {n cap : Nat} {ns : List Int} (h : RdI w (.slice a n cap) ns) {k : Nat} (hk : k < n) (HN : Hid (ns.length = n)) {x : Int} (HX : Hid (ns.getD k 0 = x)) :
    ∃ g o, a = some ⟨g, o, none⟩ ∧ g < w.heap.size ∧ w.cell? ⟨g, o + k, none⟩ = some (.int .i64 x) := by
  obtain ⟨a', cap', hv, hl, hc, hh⟩ := h
  simp only [Value.slice.injEq] at hv
  obtain ⟨rfl, _, rfl⟩ := hv
  obtain ⟨g, o, ha, hg, hcell⟩ := hh (by intro e; rw [e] at HN; have := HN.out; simp at this; omega)
  have := hcell k (by rw [HN.out]; exact hk)
  rw [HX.out] at this
  exact ⟨g, o, ha, hg, this⟩

set_option maxRecDepth 100000 in
theorem isNot0_any (n : Int) (w : World) (t : Bool) (HT : Hid (decide (n ≠ 0) = t)) : Calls Tryd.prog 22 #[.int .i64 n] w fun e w' => e = .returned (.bool t) ∧ Below w.heap.size w w' := by
  have hbz : Below w.heap.size w w := Below.refl _ _
  have ht : (n != 0) = t := by rw [← HT.out]; by_cases h : n = 0 <;> simp [h]
  go_enter Tryd.func22, Tryd.ntmps22
  go_wp2_with fail
  go_ret
  exact ⟨rfl, hbz⟩

set_option maxRecDepth 100000 in
theorem isOut_any (n lo hi : Int) (b : Nat) (w : World) (h4 : w.cell? ⟨b, 4, none⟩ = some (.int .i64 lo)) (h5 : w.cell? ⟨b, 5, none⟩ = some (.int .i64 hi)) (t : Bool) (HT : Hid ((decide (n < lo) || decide (hi < n)) = t)) : Calls Tryd.prog 42 #[.int .i64 n, .pointer (some ⟨b, 0, none⟩)] w fun e w' => e = .returned (.bool t) ∧ Below w.heap.size w w' := by
  have hbz : Below w.heap.size w w := Below.refl _ _
  have ht := HT.out
  clear HT
  by_cases h1 : n < lo
  · have : t = true := by rw [← ht]; simp [h1]
    subst this
    clear ht
    go_enter Tryd.func42, Tryd.ntmps42
    go_wp2_with fail
    go_ret
    exact ⟨rfl, hbz⟩
  · by_cases h2 : hi < n
    · have : t = true := by rw [← ht]; simp [h2]
      subst this
      clear ht
      go_enter Tryd.func42, Tryd.ntmps42
      go_wp2_with fail
      go_ret
      exact ⟨rfl, hbz⟩
    · have : t = false := by rw [← ht]; simp [h1, h2]
      subst this
      clear ht
      go_enter Tryd.func42, Tryd.ntmps42
      go_wp2_with fail
      go_ret
      exact ⟨rfl, hbz⟩

set_option maxRecDepth 100000 in
theorem numbers_any (q : Pq) (u : Value) (w : World) : Calls Tryd.prog 41 #[opV q u] w fun e w' => ∃ g, e = .returned (.slice (some ⟨g, 0, none⟩) 4 4) ∧ w.heap.size ≤ g ∧ w'.heap[g]? = some (.cells #[.int .i64 q.a, .int .i64 q.b, .int .i64 q.c, .int .i64 q.d] 3 (0, 0)) ∧ Below w.heap.size w w' := by
  have hbz : Below w.heap.size w ((w.alloc (.cells #[.int .i64 q.kind, .int .i64 q.id, .int .i64 q.a, .int .i64 q.b, .int .i64 q.c, .int .i64 q.d, .int .i64 q.pw, .int .i64 q.ph, u] 27)).alloc (.cells #[.int .i64 q.a, .int .i64 q.b, .int .i64 q.c, .int .i64 q.d] 3)) := ((Below.refl _ _).alloc (Nat.le_refl _) _).alloc (by simp) _
  have hn := heap_alloc_new (w.alloc (.cells #[.int .i64 q.kind, .int .i64 q.id, .int .i64 q.a, .int .i64 q.b, .int .i64 q.c, .int .i64 q.d, .int .i64 q.pw, .int .i64 q.ph, u] 27)) (.cells #[.int .i64 q.a, .int .i64 q.b, .int .i64 q.c, .int .i64 q.d] 3)
  unfold opV
  go_enter Tryd.func41, Tryd.ntmps41
  go_wp2_with fail
  go_ret
  exact ⟨_, rfl, by simp, by simpa using hn, hbz⟩

set_option maxHeartbeats 2000000 in
set_option maxRecDepth 100000 in
theorem indexN_any (v : Value) (ns : List Int)  (w : World) (hns : ns.length ≤ 1000) (HR : Hid (RdI w v ns))  :
    Calls Tryd.prog 40 #[v, .func (.func 22) #[] #[]] w fun e w' => ∃ r : Int, e = .returned (.int .i64 r) ∧ Hid (decide (0 ≤ r) = ns.any (fun n => decide (n ≠ 0))) ∧ Below w.heap.size w w' := by
  obtain ⟨a, cap, hv, hl, hcap, hh⟩ := HR.out
  obtain ⟨n, HN⟩ : ∃ n, Hid (ns.length = n) := ⟨_, (rfl : _ = _)⟩
  rw [HN.out] at hv hl hns
  clear hh
  subst hv
  have hbz : Below w.heap.size w w := Below.refl _ _
  go_enter Tryd.func40, Tryd.ntmps40
  go_wp2_with fail
  go_loopw [8] (fun i wr => ∃ k : Nat, k ≤ n ∧ i = .int .i64 k ∧ Hid (ns.any (fun n => decide (n ≠ 0)) = (ns.drop k).any (fun n => decide (n ≠ 0))) ∧ Below w.heap.size w wr) (fun i _ => n - (intOf i).toNat)
  case atStart => exact ⟨0, by omega, rfl, (rfl : _ = _), hbz⟩
  case round =>
    obtain ⟨k, hk, rfl, HA, hbr⟩ := hrel
    by_cases hlt : k < n
    · have hlt' : k < ns.length := by rw [HN.out]; exact hlt
      obtain ⟨m, HM⟩ : ∃ m, Hid (ns.getD k 0 = m) := ⟨_, (rfl : _ = _)⟩
      have HD : Hid ((ns.drop k).any (fun n => decide (n ≠ 0)) = ((fun n : Int => decide (n ≠ 0)) m || (ns.drop (k + 1)).any (fun n => decide (n ≠ 0)))) := by
        unfold Hid
        rw [List.drop_eq_getElem_cons hlt', List.any_cons, ← HM.out, List.getD_eq_getElem?_getD, List.getElem?_eq_getElem hlt']
        rfl
      obtain ⟨g, p, ha, hg, hc⟩ := HR.out.at hlt HN HM
      subst ha
      have hc2 := (hbr.cell (p := ⟨g, p + k, none⟩) hg).trans hc
      have hki0 : (0 : Int) ≤ (k : Int) := by omega
      have hki1 : (k : Int) < (n : Int) := by omega
      clear hlt' hc HM
      go_wp2_with fail
      cases hp : (decide (m ≠ 0)) with
      | true =>
        rw [hp] at HD
        refine (isNot0_any m _ true hp).mono ?_
        rintro e w1 ⟨rfl, hb1⟩
        have hbw1 := hbr.trans (hb1.mono hbr.size)
        clear hb1
        go_wp2_with fail
        go_ret
        exact ⟨(k : Int), rfl, by unfold Hid; rw [HA.out, HD.out]; simp, hbw1⟩
      | false =>
        rw [hp] at HD
        refine (isNot0_any m _ false hp).mono ?_
        rintro e w1 ⟨rfl, hb1⟩
        have hbw1 := hbr.trans (hb1.mono hbr.size)
        clear hb1
        go_wp2_with fail
        go_roundw
        case rel => exact ⟨k + 1, by omega, by go_num, by unfold Hid; rw [HA.out, HD.out]; simp, hbw1⟩
        case measure => simp [intOf]; omega
    · obtain rfl : k = n := by omega
      have HE : Hid (ns.any (fun n => decide (n ≠ 0)) = false) := by unfold Hid; rw [HA.out, List.drop_of_length_le (by rw [HN.out]; exact Nat.le_refl _)]; rfl
      go_wp2_with fail
      go_ret
      exact ⟨-1, rfl, by unfold Hid; rw [HE.out]; rfl, hbr⟩

set_option maxRecDepth 100000 in
theorem containsN_any (v : Value) (ns : List Int)  (w : World) (hns : ns.length ≤ 1000) (HR : Hid (RdI w v ns))  (t : Bool) (HT : Hid (ns.any (fun n => decide (n ≠ 0)) = t)) :
    Calls Tryd.prog 20 #[v, .func (.func 22) #[] #[]] w fun e w' => e = .returned (.bool t) ∧ Below w.heap.size w w' := by
  have HR2 := HR
  obtain ⟨a, cap, hv, _, _, hh⟩ := HR.out
  clear hh
  subst hv
  go_enter Tryd.func20, Tryd.ntmps20
  go_wp2_with fail
  refine (indexN_any _ ns  _ hns HR2 ).mono ?_
  rintro e w1 ⟨r, rfl, HB, hb1⟩
  rw [HT.out] at HB
  have hd : decide (0 ≤ r) = t := HB.out
  clear HB
  go_wp2_with fail
  go_ret
  exact ⟨rfl, hb1⟩

set_option maxHeartbeats 2000000 in
set_option maxRecDepth 100000 in
theorem indexB_any (v : Value) (ns : List Int) (lo hi : Int) (b : Nat) (w : World) (hns : ns.length ≤ 1000) (HR : Hid (RdI w v ns)) (hb : b < w.heap.size) (h4 : w.cell? ⟨b, 4, none⟩ = some (.int .i64 lo)) (h5 : w.cell? ⟨b, 5, none⟩ = some (.int .i64 hi)) :
    Calls Tryd.prog 40 #[v, .func (.func 42) #[] #[.pointer (some ⟨b, 0, none⟩)]] w fun e w' => ∃ r : Int, e = .returned (.int .i64 r) ∧ Hid (decide (0 ≤ r) = ns.any (fun n => (decide (n < lo) || decide (hi < n)))) ∧ Below w.heap.size w w' := by
  obtain ⟨a, cap, hv, hl, hcap, hh⟩ := HR.out
  obtain ⟨n, HN⟩ : ∃ n, Hid (ns.length = n) := ⟨_, (rfl : _ = _)⟩
  rw [HN.out] at hv hl hns
  clear hh
  subst hv
  have hbz : Below w.heap.size w w := Below.refl _ _
  go_enter Tryd.func40, Tryd.ntmps40
  go_wp2_with fail
  go_loopw [8] (fun i wr => ∃ k : Nat, k ≤ n ∧ i = .int .i64 k ∧ Hid (ns.any (fun n => (decide (n < lo) || decide (hi < n))) = (ns.drop k).any (fun n => (decide (n < lo) || decide (hi < n)))) ∧ Below w.heap.size w wr) (fun i _ => n - (intOf i).toNat)
  case atStart => exact ⟨0, by omega, rfl, (rfl : _ = _), hbz⟩
  case round =>
    obtain ⟨k, hk, rfl, HA, hbr⟩ := hrel
    by_cases hlt : k < n
    · have hlt' : k < ns.length := by rw [HN.out]; exact hlt
      obtain ⟨m, HM⟩ : ∃ m, Hid (ns.getD k 0 = m) := ⟨_, (rfl : _ = _)⟩
      have HD : Hid ((ns.drop k).any (fun n => (decide (n < lo) || decide (hi < n))) = ((fun n : Int => (decide (n < lo) || decide (hi < n))) m || (ns.drop (k + 1)).any (fun n => (decide (n < lo) || decide (hi < n))))) := by
        unfold Hid
        rw [List.drop_eq_getElem_cons hlt', List.any_cons, ← HM.out, List.getD_eq_getElem?_getD, List.getElem?_eq_getElem hlt']
        rfl
      obtain ⟨g, p, ha, hg, hc⟩ := HR.out.at hlt HN HM
      subst ha
      have hc2 := (hbr.cell (p := ⟨g, p + k, none⟩) hg).trans hc
      have hki0 : (0 : Int) ≤ (k : Int) := by omega
      have hki1 : (k : Int) < (n : Int) := by omega
      clear hlt' hc HM
      go_wp2_with fail
      cases hp : ((decide (m < lo) || decide (hi < m))) with
      | true =>
        rw [hp] at HD
        refine (isOut_any m lo hi b _ ((hbr.cell (p := ⟨b, 4, none⟩) hb).trans h4) ((hbr.cell (p := ⟨b, 5, none⟩) hb).trans h5) true hp).mono ?_
        rintro e w1 ⟨rfl, hb1⟩
        have hbw1 := hbr.trans (hb1.mono hbr.size)
        clear hb1
        go_wp2_with fail
        go_ret
        exact ⟨(k : Int), rfl, by unfold Hid; rw [HA.out, HD.out]; simp, hbw1⟩
      | false =>
        rw [hp] at HD
        refine (isOut_any m lo hi b _ ((hbr.cell (p := ⟨b, 4, none⟩) hb).trans h4) ((hbr.cell (p := ⟨b, 5, none⟩) hb).trans h5) false hp).mono ?_
        rintro e w1 ⟨rfl, hb1⟩
        have hbw1 := hbr.trans (hb1.mono hbr.size)
        clear hb1
        go_wp2_with fail
        go_roundw
        case rel => exact ⟨k + 1, by omega, by go_num, by unfold Hid; rw [HA.out, HD.out]; simp, hbw1⟩
        case measure => simp [intOf]; omega
    · obtain rfl : k = n := by omega
      have HE : Hid (ns.any (fun n => (decide (n < lo) || decide (hi < n))) = false) := by unfold Hid; rw [HA.out, List.drop_of_length_le (by rw [HN.out]; exact Nat.le_refl _)]; rfl
      go_wp2_with fail
      go_ret
      exact ⟨-1, rfl, by unfold Hid; rw [HE.out]; rfl, hbr⟩

set_option maxRecDepth 100000 in
theorem containsB_any (v : Value) (ns : List Int) (lo hi : Int) (b : Nat) (w : World) (hns : ns.length ≤ 1000) (HR : Hid (RdI w v ns)) (hb : b < w.heap.size) (h4 : w.cell? ⟨b, 4, none⟩ = some (.int .i64 lo)) (h5 : w.cell? ⟨b, 5, none⟩ = some (.int .i64 hi)) (t : Bool) (HT : Hid (ns.any (fun n => (decide (n < lo) || decide (hi < n))) = t)) :
    Calls Tryd.prog 20 #[v, .func (.func 42) #[] #[.pointer (some ⟨b, 0, none⟩)]] w fun e w' => e = .returned (.bool t) ∧ Below w.heap.size w w' := by
  have HR2 := HR
  obtain ⟨a, cap, hv, _, _, hh⟩ := HR.out
  clear hh
  subst hv
  go_enter Tryd.func20, Tryd.ntmps20
  go_wp2_with fail
  refine (indexB_any _ ns lo hi b _ hns HR2 hb h4 h5).mono ?_
  rintro e w1 ⟨r, rfl, HB, hb1⟩
  rw [HT.out] at HB
  have hd : decide (0 ≤ r) = t := HB.out
  clear HB
  go_wp2_with fail
  go_ret
  exact ⟨rfl, hb1⟩
end Go.Proofs.YtkmolifgfbaboaaDoor
