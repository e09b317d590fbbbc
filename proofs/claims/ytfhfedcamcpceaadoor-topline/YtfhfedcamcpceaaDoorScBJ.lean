/- Rows of texts and of numbers; walk: script.read. -- s1 -/
import Derived.Test.YtfhfedcamcpceaaDoorScAJ
import Derived.Test.YtfhfedcamcpceaaDoorScNJ
namespace Go.Proofs.YtfhfedcamcpceaaDoor
open Go.RowKit
open Go.Lib hiding intOf

/-- a row of texts -/
def RdS (w : World) (v : Value) (l : List (List UInt8)) : Prop :=
  ∃ a cap, v = .slice a l.length cap ∧ l.length ≤ cap ∧ cap ≤ 9223372036854775807 ∧ (l ≠ [] → ∃ g off, a = some ⟨g, off, none⟩ ∧ g < w.heap.size ∧ ∀ j, j < l.length → w.cell? ⟨g, off + j, none⟩ = some (.string ⟨(l.getD j []).toArray⟩))
theorem RdS.on {w w' : World} {v : Value} {l : List (List UInt8)} (h : RdS w v l) (hb : Below w.heap.size w w') : RdS w' v l := by
  obtain ⟨a, cap, hv, hl, hc, hh⟩ := h
  refine ⟨a, cap, hv, hl, hc, fun hne => ?_⟩
  obtain ⟨g, off, ha, hg, hcell⟩ := hh hne
  refine ⟨g, off, ha, Nat.lt_of_lt_of_le hg hb.size, fun j hj => ?_⟩
  rw [hb.cell (p := ⟨g, off + j, none⟩) hg]
  exact hcell j hj
theorem RdS.at {w : World} {a : Option Addr} {n cap : Nat} {l : List (List UInt8)} (h : RdS w (.slice a n cap) l) {k : Nat} (hk : k < n) {x : List UInt8} (HX : Hid (l.getD k [] = x)) :
    ∃ g o, a = some ⟨g, o, none⟩ ∧ g < w.heap.size ∧ w.cell? ⟨g, o + k, none⟩ = some (.string ⟨x.toArray⟩) := by
  obtain ⟨a', cap', hv, hl, hc, hh⟩ := h
  simp only [Value.slice.injEq] at hv
  obtain ⟨rfl, rfl, rfl⟩ := hv
  obtain ⟨g, o, ha, hg, hcell⟩ := hh (by intro e; rw [e] at hk; simp at hk)
  have := hcell k hk
  rw [HX.out] at this
  exact ⟨g, o, ha, hg, this⟩
theorem RdS.shape {w : World} {v : Value} {l : List (List UInt8)} (h : RdS w v l) : ∃ a cap, v = .slice a l.length cap ∧ l.length ≤ cap ∧ cap ≤ 9223372036854775807 := by
  obtain ⟨a, cap, hv, hl, hc, _⟩ := h; exact ⟨a, cap, hv, hl, hc⟩
theorem strsV_at (l : List (List UInt8)) (j : Nat) (h : j < l.length) : (strsV l)[j]? = some (.string ⟨(l.getD j []).toArray⟩) := by
  unfold strsV
  rw [List.getElem?_map, List.getD_eq_getElem?_getD, List.getElem?_eq_getElem h]
  rfl
theorem rdS_own {w : World} {B : Nat} {v : Value} {l : List (List UInt8)} (h : w.ownsRow B 9 1 v l.length (strsV l)) : RdS w v l := by
  rcases h.2 with ⟨rfl, h0⟩ | ⟨g, cap, cur, rfl, hb, hg, hn, hm, hs, ht⟩
  · have : l = [] := List.length_eq_zero_iff.1 h0
    subst this
    exact ⟨none, 0, rfl, by simp, by omega, fun h => absurd rfl h⟩
  · unfold maxLen at hm
    refine ⟨some ⟨g, 0, none⟩, cap, rfl, hn, by omega, fun hne => ⟨g, 0, rfl, (Array.getElem?_eq_some_iff.1 hg).1, fun j hj => ?_⟩⟩
    rw [Nat.zero_add, h.cellAt j (by omega)]
    exact strsV_at l j hj
/-- behind the first -/
theorem RdS.tail {w : World} {g o n cap : Nat} {l : List (List UInt8)} (h : RdS w (.slice (some ⟨g, o, none⟩) (n + 1) cap) l) : RdS w (.slice (some ⟨g, o + 1, none⟩) n (cap - 1)) (l.drop 1) ∧ 1 ≤ cap := by
  obtain ⟨a', cap', hv, hl, hc, hh⟩ := h
  simp only [Value.slice.injEq] at hv
  obtain ⟨ha, hn, rfl⟩ := hv
  obtain ⟨g', o', ha', hg, hcell⟩ := hh (by intro e; rw [e] at hn; simp at hn)
  rw [ha'] at ha
  simp only [Option.some.injEq, Addr.mk.injEq, and_true] at ha
  obtain ⟨rfl, rfl⟩ := ha
  have hdl : (l.drop 1).length = n := by rw [List.length_drop]; omega
  refine ⟨⟨_, _, by rw [hdl], by omega, by omega, fun _ => ⟨g, o + 1, rfl, hg, fun j hj => ?_⟩⟩, by omega⟩
  have := hcell (j + 1) (by omega)
  rw [show o + 1 + j = o + (j + 1) by omega, this]
  congr 4
  rw [List.getD_eq_getElem?_getD, List.getD_eq_getElem?_getD, List.getElem?_drop, Nat.add_comm 1 j]

theorem addr_add (g o j : Nat) : (⟨g, o, none⟩ : Addr).add j = ⟨g, o + j, none⟩ := by unfold Addr.add; split <;> simp_all
theorem getD_of {α : Type} {l : List α} {j : Nat} {u d : α} (h : l[j]? = some u) : l.getD j d = u := by rw [List.getD_eq_getElem?_getD, h]; rfl
/-- numbers appended to a row of one's own -/
theorem ints_app (w : World) (B : Nat) (v : Value) (ns xs : List Int) (n : Nat) (h : w.ownsRow B 3 1 v n (intCells ns)) (hn : n + xs.length ≤ 1000000000) (hB : B ≤ w.heap.size) (g o m c : Nat) (hm : xs.length = m) (hc : ∀ j, j < m → w.cell? ⟨g, o + j, none⟩ = some (.int .i64 (xs.getD j 0))) :
    ∃ v' w', (Builtin.append_ #[60, 60] 60 #[v, .slice (some ⟨g, o, none⟩) m c]).run Tryd.prog w = .ok v' w' ∧ w'.ownsRow B 3 1 v' (n + m) (intCells (ns ++ xs)) ∧ Below B w w' ∧ w.grownBy w' v.ownBlock ∧ (v' = .slice none 0 0 → v = .slice none 0 0) := by
  obtain ⟨i0, hi, hz0, hz1, hz2⟩ := info_parts Tryd.infoInt
  subst hm
  obtain ⟨v', w', hr, r1, r2, r3, _⟩ := run_append_own_at (P := Tryd.prog) w B 60 60 3 i0 _ 1 8 Tryd.underlying60 hi hz0 hz1 hz2 rfl (by decide) v n _ h ⟨g, o, none⟩ xs.length c (intCells xs) (by simp [intCells])
    (fun j u hj => by
      have hj2 : j < xs.length := by have := (List.getElem?_eq_some_iff.1 hj).1; simpa [intCells] using this
      rw [intCells_at xs j hj2] at hj
      rw [addr_add, hc j hj2, hj]) (intCells_one xs) (by unfold maxLen; omega) (by omega) hB
  refine ⟨v', w', hr, ?_, (Below.refl _ _).grown r2 hB (fun z hz => (h.lt z hz).1), r2, fun hv => (r3.1 hv).1⟩
  have e : intCells (ns ++ xs) = intCells ns ++ intCells xs := by simp [intCells]
  rw [e]
  exact r1
/-- what script.read answers -/
def ReadP (r : Option (List Int)) (w : World) (e : Ending) (w' : World) : Prop :=
  Below w.heap.size w w' ∧ ((r = none ∧ e = .returned (.tuple #[.slice none 0 0, .bool false])) ∨ ∃ ns g cap, r = some ns ∧ e = .returned (.tuple #[.slice (some ⟨g, 0, none⟩) ns.length cap, .bool true]) ∧ w'.ownsRow w.heap.size 3 1 (.slice (some ⟨g, 0, none⟩) ns.length cap) ns.length (intCells ns))
/-- what the words behind those that were read say -/
def goR (ns : List Int) : Option (List Int) → Option (List Int)
  | none => none
  | some m => some (ns ++ m)
def stepR (q : Option Int) (o : Option (List Int)) : Option (List Int) := match q with
  | none => none
  | some n => match o with
    | none => none
    | some ns => some (n :: ns)
theorem readN_cons (x : List UInt8) (r : List (List UInt8)) : Sc.readN (x :: r) = stepR (Sc.numL (-999) 999 x) (Sc.readN r) := rfl
theorem goR_step (ns : List Int) (x : Int) (o : Option (List Int)) : goR ns (stepR (some x) o) = goR (ns ++ [x]) o := by
  cases o <;> simp [goR, stepR]
set_option maxHeartbeats 8000000 in
set_option maxRecDepth 100000 in
theorem readT_any (v : Value) (ws : List (List UInt8)) (w : World) (HE : Hid (LibE w)) (HW : Hid (RdS w v ws)) (hn : ws.length ≤ 1000000) (hl : ∀ x ∈ ws, x.length ≤ 1000000) (r : Option (List Int)) (HR : Hid (Sc.readN ws = r)) :
    Calls Tryd.prog 46 #[v] w fun e w' => ReadP r w e w' := by
  obtain ⟨i0, hi, hz0, hz1, hz2⟩ := info_parts Tryd.infoInt
  obtain ⟨a, cap, hv, hlc, hcap⟩ := HW.out.shape
  have HL := hid_of3 hl
  obtain ⟨n, HN⟩ : ∃ n, Hid (ws.length = n) := ⟨_, (rfl : _ = _)⟩
  rw [HN.out] at hv hlc hn
  clear hl
  subst hv
  go_enter Tryd.func46, Tryd.ntmps46
  go_wp2_with (at_make; refine wpList_make_own _ rfl _ _ 60 rfl w.heap.size 3 i0 (.int .i64 0) 1 Tryd.underlying60 hi hz0 hz1 _ _ _ n rfl rfl ?a1 ?b1 ?b2 ?b3 ?_)
  case a1 => first | rfl | omega
  case b1 => rw [hz2]; omega
  case b2 => unfold maxLen; omega
  case b3 => exact Nat.le_refl _
  intro W0 hown0 hgrow0
  have hb0 : Below w.heap.size w W0 := (Below.refl _ _).grown hgrow0 (Nat.le_refl _) (by intro k hk; cases hk)
  have HO0 : Hid (W0.ownsRow w.heap.size 3 1 (.slice (some ⟨w.heap.size, 0, none⟩) 0 n) 0 (intCells [])) := hown0
  clear hown0 hgrow0
  go_wp2_with fail
  go_loopw [4, 14] (fun o i wr => ∃ (k : Nat) (ns : List Int) (og : Nat) (oc : Nat), k ≤ n ∧ i = .int .i64 k ∧ o = .slice (some ⟨og, 0, none⟩) k oc ∧ Hid (ns.length = k) ∧ Hid (wr.ownsRow w.heap.size 3 1 (.slice (some ⟨og, 0, none⟩) k oc) k (intCells ns)) ∧ Hid (goR ns (Sc.readN (ws.drop k)) = r) ∧ Below w.heap.size w wr) (fun _ i _ => n - (intOf i).toNat)
  case atStart => exact ⟨0, [], _, _, by omega, rfl, rfl, rfl, HO0, (by unfold Hid; rw [← HR.out, List.drop_zero]; cases Sc.readN ws <;> rfl), hb0⟩
  case round =>
    obtain ⟨k, ns, og, oc, hk, rfl, rfl, HLN, HO, HG, hbr⟩ := hrel
    by_cases hlt : k < n
    · have hlt' : k < ws.length := by rw [HN.out]; exact hlt
      obtain ⟨x, HX⟩ : ∃ x, Hid (ws.getD k [] = x) := ⟨_, (rfl : _ = _)⟩
      obtain ⟨g, o, rfl, hg, cx⟩ := (HW.out.on hbr).at hlt HX
      have hki0 : (0 : Int) ≤ (k : Int) := by omega
      have hki1 : (k : Int) < (n : Int) := by omega
      have HD : Hid (ws.drop k = x :: ws.drop (k + 1)) := by
        unfold Hid
        rw [List.drop_eq_getElem_cons hlt', ← HX.out, List.getD_eq_getElem?_getD, List.getElem?_eq_getElem hlt']
        rfl
      have hxl : x.length ≤ 1000000 := by
        rw [← HX.out, List.getD_eq_getElem?_getD, List.getElem?_eq_getElem hlt']
        exact HL.out _ (List.getElem_mem hlt')
      obtain ⟨t, HT⟩ := text_of x
      have hts : t.size ≤ 281474976710656 := by
        have : x.length = t.size := by rw [HT.out.2]; simp
        omega
      rw [HT.out.1] at cx
      obtain ⟨q, HQ⟩ : ∃ q, Hid (Sc.numL (-999) 999 t.data.toList = q) := ⟨_, (rfl : _ = _)⟩
      have HNU := hid_of3 (numberS_any t (-999) 999 wr (HE.out.on hbr) hts q HQ)
      have HG1 : Hid (goR ns (stepR q (Sc.readN (ws.drop (k + 1)))) = r) := by
        unfold Hid
        rw [← HG.out, HD.out, readN_cons, HT.out.2, HQ.out]
      clear HG HD HQ hxl hts
      cases q with
      | none =>
        go_wp2_with fail
        refine HNU.out.mono ?_
        rintro e w1 ⟨rfl, hb1⟩
        go_wp2_with fail
        refine bodyPost_ret (v := .tuple #[.slice none 0 0, .bool false]) (by simp [results, Tryd.results46, go_sem]) rfl ⟨hbr.trans (hb1.mono hbr.size), .inl ⟨HG1.out.symm, rfl⟩⟩
      | some x =>
        have HG2 : Hid (goR (ns ++ [x]) (Sc.readN (ws.drop (k + 1))) = r) := by unfold Hid; rw [← goR_step]; exact HG1.out
        have HL2 : Hid ((ns ++ [x]).length = k + 1) := by unfold Hid; rw [List.length_append, HLN.out]; rfl
        go_wp2_with fail
        refine HNU.out.mono ?_
        rintro e w1 ⟨rfl, hb1⟩
        have hbb1 := hbr.trans (hb1.mono hbr.size)
        have hxa : Below w1.heap.size w1 (w1.alloc (.cells #[.int .i64 x] 3)) := (Below.refl _ _).alloc (Nat.le_refl _) _
        have hc1 : ∀ j, j < 1 → (w1.alloc (.cells #[.int .i64 x] 3)).cell? ⟨w1.heap.size, 0 + j, none⟩ = some (.int .i64 (([x] : List Int).getD j 0)) := fun j hj => by
          obtain rfl : j = 0 := by omega
          simp
        obtain ⟨v', w3, hr, ho, hb3, -, hnn⟩ := ints_app (w1.alloc (.cells #[.int .i64 x] 3)) w.heap.size _ ns [x] k (own_on2 (own_on2 HO.out hb1) hxa) (by simp; omega) (by have := hbb1.size; simp; omega) w1.heap.size 0 1 1 rfl hc1
        have HRR := hid_of3 hr
        obtain ⟨na, nc, hv'⟩ : ∃ g c, v' = .slice (some ⟨g, 0, none⟩) (k + 1) c := by
          rcases ho.2 with ⟨hv', _⟩ | ⟨g, c, cur, hv', _⟩
          · exact absurd (hnn hv') (by simp)
          · exact ⟨g, c, hv'⟩
        subst hv'
        have HO3 := hid_of3 ho
        have hbb3 := (hbb1.alloc hbb1.size (.cells #[.int .i64 x] 3)).trans hb3
        clear hr ho hb3 hxa HNU HG1 hb1 hbb1 hc1 hnn
        go_wp2_with (at_builtin; refine Lib.wpList_append_run _ rfl _ _ _ _ rfl _ _ rfl rfl _ _ HRR.out ?_)
        go_roundw
        case rel => exact ⟨k + 1, ns ++ [x], na, nc, by omega, by go_num, rfl, HL2, HO3, HG2, hbb3⟩
        case measure => simp [intOf]; omega
    · obtain rfl : k = n := by omega
      have hki : ¬ (k : Int) < (k : Int) := by omega
      have HG1 : Hid (r = some ns) := by
        unfold Hid
        rw [← HG.out, List.drop_of_length_le (by rw [HN.out]; exact Nat.le_refl _)]
        simp [Sc.readN, goR]
      go_wp2_with fail
      refine bodyPost_ret (v := .tuple #[.slice (some ⟨og, 0, none⟩) k oc, .bool true]) (by simp [results, Tryd.results46, go_sem]) rfl ⟨hbr, .inr ⟨ns, og, oc, HG1.out, by rw [HLN.out], by rw [HLN.out]; exact HO.out⟩⟩
end Go.Proofs.YtfhfedcamcpceaaDoor
