/- Some of the walks, in one text. -/
import Derived.Test.YtjmkfcgnadpbaaaDoorM10
import Derived.Maps.AppendAt
/- The reference's objects: rows that share pixels; GetObject, SetObject. -/
namespace Go.Proofs.YtjmkfcgnadpbaaaDoor
open Go.RowKit

/-- a row of objects, their pixels as they lay in W0 -/
def ShO (W0 w : World) (v : Value) (os : List Po) : Prop :=
  ∃ qv : List (Po × Value), w.ownsRow W0.heap.size 80 11 v qv.length (obCells qv) ∧ (∀ q ∈ qv, RdP W0 q.2 q.1.ps) ∧ qv.map Prod.fst = os
theorem so_nil (W0 w : World) : ShO W0 w (.slice none 0 0) [] := ⟨[], World.ownsRow_nil _ _ _ _, by simp, rfl⟩
theorem ShO.on {W0 w w' : World} {v : Value} {os : List Po} (h : ShO W0 w v os) (hb : Below w.heap.size w w') : ShO W0 w' v os := by
  obtain ⟨qv, h1, h2, h3⟩ := h
  exact ⟨qv, own_on2 h1 hb, h2, h3⟩
theorem ShO.rd {W0 w : World} {v : Value} {os : List Po} (h : ShO W0 w v os) (hb : Below W0.heap.size W0 w) : RdO w v os := by
  obtain ⟨qv, h1, h2, rfl⟩ := h
  exact rdO_sh h1 (fun q hq => (h2 q hq).on hb)
theorem so_app {W0 w : World} {v : Value} {os : List Po} (h : ShO W0 w v os) (hb : Below W0.heap.size W0 w) (x : Po) (u : Value) (hu : RdP W0 u x.ps) (hlim : os.length ≤ 1000) :
    ∃ v' w', (Builtin.append_ #[40, 40] 40 #[v, .slice (some ⟨w.heap.size, 0, none⟩) 1 1]).run Tryd.prog (w.alloc (.cells (oCells x u).toArray 80)) = .ok v' w' ∧ ShO W0 w' v' (os ++ [x]) ∧ Below W0.heap.size W0 w' := by
  obtain ⟨i0, hi, hz0, hz1, hz2⟩ := info_parts Tryd.infoOb
  have hx : Below w.heap.size w (w.alloc (.cells (oCells x u).toArray 80)) := (Below.refl _ _).alloc (Nat.le_refl _) _
  have hb2 := hb.trans (hx.mono hb.size)
  obtain ⟨qv, h1, h2, h3⟩ := h.on hx
  have hl : os.length = qv.length := by rw [← h3]; simp
  have hone : ∀ z ∈ oCells x u, z.oneCell' = true := by
    obtain ⟨a, c, hy, _⟩ := hu
    subst hy
    exact pix_one _ _ rfl
  obtain ⟨v', w', hrun, r1, r2, _, r4⟩ := run_append_own_at (P := Tryd.prog) (w.alloc (.cells (oCells x u).toArray 80)) W0.heap.size 40 40 80 i0 (.agg #[.int .i64 0, .int .i64 0, .int .i64 0, .int .i64 0, .int .i64 0, .slice none 0 0, .int .i64 0, .int .i64 0, .int .i64 0, .int .i64 0, .bool false]) 11 104 Tryd.underlying40 hi hz0 hz1 hz2 rfl (by decide) v qv.length (obCells qv) h1 ⟨w.heap.size, 0, none⟩ 1 1 (oCells x u) rfl (fun j u hj => new_cells w _ _ j u hj) hone (by unfold maxLen; omega) (by omega) hb2.size
  refine ⟨v', w', hrun, ⟨qv ++ [(x, u)], ?_, fun q hq => ?_, by rw [List.map_append, h3]; rfl⟩, hb2.grown r2 hb2.size (fun z hz => (h1.lt z hz).1)⟩
  · rw [List.length_append, obCells_app]; simpa [obCells] using r1
  · rcases List.mem_append.1 hq with hq | hq
    · exact h2 q hq
    · simp at hq; subst hq; exact hu

/-- the reference's laying in, an object at a time -/
def stepS (x : Po) (s : List Po × Bool) (p : Po) : List Po × Bool :=
  if p.id = x.id then (if s.2 = false ∧ x.id ≤ p.id then (s.1 ++ [x], true) else s)
  else ((if s.2 = false ∧ x.id ≤ p.id then (s.1 ++ [x], true) else s).1 ++ [p], (if s.2 = false ∧ x.id ≤ p.id then (s.1 ++ [x], true) else s).2)
theorem stepS_in {x p : Po} {out : List Po} (h : x.id ≤ p.id) (he : p.id = x.id) : stepS x (out, false) p = (out ++ [x], true) := by unfold stepS; rw [if_pos he, if_pos ⟨rfl, h⟩]
theorem stepS_both {x p : Po} {out : List Po} (h : x.id ≤ p.id) (he : ¬ p.id = x.id) : stepS x (out, false) p = (out ++ [x] ++ [p], true) := by unfold stepS; rw [if_neg he, if_pos ⟨rfl, h⟩]
theorem stepS_not {x p : Po} {out : List Po} (h : ¬ x.id ≤ p.id) (he : ¬ p.id = x.id) : stepS x (out, false) p = (out ++ [p], false) := by unfold stepS; rw [if_neg he, if_neg (fun hh => h hh.2)]
theorem stepS_laid (x : Po) : ∀ (os : List Po) (o : List Po), (∀ p ∈ os, x.id < p.id) → os.foldl (stepS x) (o, true) = (o ++ os, true) := by
  intro os
  induction os with
  | nil => intro o _; simp
  | cons a r ih =>
    intro o h
    have ha := h a (by simp)
    have : stepS x (o, true) a = (o ++ [a], true) := by unfold stepS; rw [if_neg (by omega)]; simp
    rw [List.foldl_cons, this, ih _ (fun p hp => h p (by simp [hp]))]
    simp
theorem sort_cons {a : Po} {r : List Po} (h : SortO (a :: r)) : SortO r ∧ ∀ p ∈ r, a.id < p.id := by
  refine ⟨fun i j hij hj => ?_, fun p hp => ?_⟩
  · have := h (i + 1) (j + 1) (by omega) (by simp; omega)
    rw [getD_succ, getD_succ] at this
    exact this
  · obtain ⟨j, hj, e⟩ := List.mem_iff_getElem.1 hp
    have := h 0 (j + 1) (by omega) (by simp; omega)
    rw [getD_zero, getD_succ, List.getD_eq_getElem?_getD, List.getElem?_eq_getElem hj] at this
    rw [← e]
    exact this
def finS (x : Po) (s : List Po × Bool) : List Po := if s.2 = false then s.1 ++ [x] else s.1
theorem finS_eq (x : Po) : ∀ (os : List Po) (o : List Po), SortO os → finS x (os.foldl (stepS x) (o, false)) = o ++ setO os x := by
  intro os
  induction os with
  | nil => intro o _; simp [finS, setO]
  | cons a r ih =>
    intro o h
    obtain ⟨h1, h2⟩ := sort_cons h
    rw [List.foldl_cons]
    rcases Int.lt_trichotomy a.id x.id with hl | he | hg
    · have c : ¬ (((o, false) : List Po × Bool).2 = false ∧ x.id ≤ a.id) := fun hh => by have := hh.2; omega
      have c1 : ¬ a.id = x.id := by omega
      have c2 : ¬ x.id < a.id := by omega
      have : stepS x (o, false) a = (o ++ [a], false) := by unfold stepS; rw [if_neg c1, if_neg c]
      rw [this, ih _ h1]
      simp only [setO]
      rw [if_neg c2, if_neg c1]
      simp
    · have c : (((o, false) : List Po × Bool).2 = false ∧ x.id ≤ a.id) := ⟨rfl, by omega⟩
      have c2 : ¬ x.id < a.id := by omega
      have : stepS x (o, false) a = (o ++ [x], true) := by unfold stepS; rw [if_pos he, if_pos c]
      rw [this, stepS_laid x r _ (fun p hp => by have := h2 p hp; omega)]
      simp only [setO, finS]
      rw [if_neg c2, if_pos he, if_neg (by decide)]
      simp
    · have c : (((o, false) : List Po × Bool).2 = false ∧ x.id ≤ a.id) := ⟨rfl, by omega⟩
      have c1 : ¬ a.id = x.id := by omega
      have : stepS x (o, false) a = (o ++ [x] ++ [a], true) := by unfold stepS; rw [if_neg c1, if_pos c]
      rw [this, stepS_laid x r _ (fun p hp => by have := h2 p hp; omega)]
      simp only [setO, finS]
      rw [if_pos hg, if_neg (by decide)]
      simp
theorem stepS_len (x : Po) (s : List Po × Bool) (p : Po) : (stepS x s p).1.length ≤ s.1.length + 2 := by
  unfold stepS
  split <;> split <;> simp
theorem foldS_len (x : Po) : ∀ (os : List Po) (s : List Po × Bool), (os.foldl (stepS x) s).1.length ≤ s.1.length + 2 * os.length := by
  intro os
  induction os with
  | nil => intro s; simp
  | cons a r ih =>
    intro s
    rw [List.foldl_cons]
    have h1 := ih (stepS x s a)
    have h2 := stepS_len x s a
    simp only [List.length_cons]
    omega
theorem take_fold {os : List Po} {k : Nat} (hk : k < os.length) (x : Po) (s : List Po × Bool) : (os.take (k + 1)).foldl (stepS x) s = stepS x ((os.take k).foldl (stepS x) s) (os.getD k po0) := by
  rw [List.take_succ_eq_append_getElem hk, List.foldl_append, List.getD_eq_getElem?_getD, List.getElem?_eq_getElem hk]
  rfl

/-- what the reference's GetObject answers -/
def RGetP (os : List Po) (t : Int) (w : World) (e : Ending) (w' : World) : Prop :=
  Below w.heap.size w w' ∧ ((∃ i u, i < os.length ∧ (os.getD i po0).id = t ∧ e = .returned (.tuple #[poV (os.getD i po0) u, .bool true]) ∧ RdP w' u (os.getD i po0).ps) ∨
    ((∀ j, j < os.length → (os.getD j po0).id ≠ t) ∧ e = .returned (.tuple #[poV po0 (.slice none 0 0), .bool false])))

set_option maxHeartbeats 4000000 in
set_option maxRecDepth 100000 in
theorem rget_any (v : Value) (os : List Po) (t : Int) (w : World) (hos : os.length ≤ 1000) (HR : Hid (RdO w v os)) :
    Calls Tryd.prog 38 #[v, .int .i64 t] w fun e w' => RGetP os t w e w' := by
  obtain ⟨a, cap, hv, hl, hcap⟩ := HR.out.shape
  obtain ⟨n, HN⟩ : ∃ n, Hid (os.length = n) := ⟨_, (rfl : _ = _)⟩
  rw [HN.out] at hv hl hos
  have hbz : Below w.heap.size w (w.alloc (.cells #[.int .i64 0, .int .i64 0, .int .i64 0, .int .i64 0, .int .i64 0, .slice none 0 0, .int .i64 0, .int .i64 0, .int .i64 0, .int .i64 0, .bool false] 80)) := (Below.refl _ _).alloc (Nat.le_refl _) _
  have E1 := hid_of2 (eleven_start w (.int .i64 0) (.int .i64 0) (.int .i64 0) (.int .i64 0) (.int .i64 0) (.slice none 0 0) (.int .i64 0) (.int .i64 0) (.int .i64 0) (.int .i64 0) (.bool false) 80 w.heap.size rfl)
  subst hv
  go_enter Tryd.func38, Tryd.ntmps38
  go_wp2_with fail
  go_loopw [6] (fun i wr => ∃ k : Nat, k ≤ n ∧ i = .int .i64 k ∧ Hid (∀ j, j < k → (os.getD j po0).id ≠ t) ∧ wr = w.alloc (.cells #[.int .i64 0, .int .i64 0, .int .i64 0, .int .i64 0, .int .i64 0, .slice none 0 0, .int .i64 0, .int .i64 0, .int .i64 0, .int .i64 0, .bool false] 80)) (fun i _ => n - (intOf i).toNat)
  case atStart => exact ⟨0, by omega, rfl, fun j hj => by omega, rfl⟩
  case round =>
    obtain ⟨k, hk, rfl, HNO, hwr⟩ := hrel
    rw [← hwr] at E1 hbz
    have HWR := hid_of2 hwr
    clear hwr
    obtain ⟨d0, d1, d2, d3, d4, d5, d6, d7, d8, d9, d10, g0, g1, g2, g3, g4, g5, g6, g7, g8, g9, g10, lt2⟩ := E1.out
    by_cases hlt : k < n
    · have hki : (k : Int) < (n : Int) := by omega
      have hki0 : (0 : Int) ≤ (k : Int) := by omega
      obtain ⟨o, HX⟩ : ∃ o, Hid (os.getD k po0 = o) := ⟨_, (rfl : _ = _)⟩
      obtain ⟨g, p, ua, q, uc, rfl, hg, ⟨e0, e1, e2, e3, e4, e5, e6, e7, e8, e9, e10⟩, HU, HM⟩ := HR.out.at hlt HX
      have hcl : ∀ {j : Nat} {z : Value}, w.cell? ⟨g, j, none⟩ = some z → wr.cell? ⟨g, j, none⟩ = some z := fun {j z} hz => (hbz.cell (p := ⟨g, j, none⟩) hg).trans hz
      have c0 := hcl e0
      have c1 := hcl e1
      have c2 := hcl e2
      have c3 := hcl e3
      have c4 := hcl e4
      have c5 := hcl e5
      have c6 := hcl e6
      have c7 := hcl e7
      have c8 := hcl e8
      have c9 := hcl e9
      have c10 := hcl e10
      clear e0 e1 e2 e3 e4 e5 e6 e7 e8 e9 e10 hcl
      have HI := hid_of2 (show k < os.length by rw [HN.out]; exact hlt)
      obtain ⟨id, x, y, pw, ph, ps, cx, cy, cw, ch, sh⟩ := o
      simp only at c0 c1 c2 c3 c4 c5 c6 c7 c8 c9 c10 HU HM
      by_cases he : id = t
      · subst he
        have hee : (id == id) = true := by simp
        go_wp2_with fail
        refine bodyPost_ret (v := .tuple #[.agg #[.int .i64 id, .int .i64 x, .int .i64 y, .int .i64 pw, .int .i64 ph, .slice ua q uc, .int .i64 cx, .int .i64 cy, .int .i64 cw, .int .i64 ch, .bool sh], .bool true]) (by simp [results, Tryd.results38, go_sem, d0, d1, d2, d3, d4, d5, d6, d7, d8, d9, d10]) rfl ⟨?_, .inl ⟨k, .slice ua q uc, HI.out, by rw [HX.out], by rw [HX.out]; rfl, ?_⟩⟩
        · repeat (refine Below.setCell ?_ (by simp) _)
          exact hbz
        · rw [HX.out]
          refine HU.out.on ?_
          repeat (refine Below.setCell ?_ (by simp) _)
          exact hbz
      · have hee : (id == t) = false := by simpa using he
        have HNO2 : Hid (∀ j, j < k + 1 → (os.getD j po0).id ≠ t) := by
          intro j hj
          rcases Nat.eq_or_lt_of_le (Nat.le_of_lt_succ hj) with rfl | hj
          · rw [HX.out]; exact he
          · exact HNO.out j hj
        go_wp2_with fail
        go_roundw
        case rel => exact ⟨k + 1, by omega, by go_num, HNO2, HWR.out⟩
        case measure => simp [intOf]; omega
    · have hki : ¬ (k : Int) < (n : Int) := by omega
      obtain rfl : n = k := by omega
      go_wp2_with fail
      refine bodyPost_ret (v := .tuple #[.agg #[.int .i64 0, .int .i64 0, .int .i64 0, .int .i64 0, .int .i64 0, .slice none 0 0, .int .i64 0, .int .i64 0, .int .i64 0, .int .i64 0, .bool false], .bool false]) (by simp [results, Tryd.results38, go_sem, d0, d1, d2, d3, d4, d5, d6, d7, d8, d9, d10]) rfl ⟨?_, .inr ⟨by rw [HN.out]; exact HNO.out, rfl⟩⟩
      repeat (refine Below.setCell ?_ (by simp) _)
      exact hbz

/-- what the reference's SetObject answers -/
def RSetP (os : List Po) (x : Po) (w : World) (e : Ending) (w' : World) : Prop :=
  ∃ v', e = .returned v' ∧ RdO w' v' (setO os x) ∧ Below w.heap.size w w'
set_option maxHeartbeats 8000000 in
set_option maxRecDepth 100000 in
theorem rset_any (v : Value) (os : List Po) (x : Po) (u : Value) (w : World) (hos : os.length ≤ 100) (HS : Hid (SortO os)) (HR : Hid (RdO w v os)) (HU : Hid (RdP w u x.ps)) :
    Calls Tryd.prog 37 #[v, poV x u] w fun e w' => RSetP os x w e w' := by
  obtain ⟨a, cap, hv, hl, hcap⟩ := HR.out.shape
  obtain ⟨n, HN⟩ : ∃ n, Hid (os.length = n) := ⟨_, (rfl : _ = _)⟩
  rw [HN.out] at hv hl hos
  subst hv
  have hbz : Below w.heap.size w (w.alloc (.cells (oCells x u).toArray 80)) := (Below.refl _ _).alloc (Nat.le_refl _) _
  have E0 := eleven_start w (.int .i64 x.id) (.int .i64 x.x) (.int .i64 x.y) (.int .i64 x.pw) (.int .i64 x.ph) u (.int .i64 x.cx) (.int .i64 x.cy) (.int .i64 x.cw) (.int .i64 x.ch) (.bool x.sh) 80 w.heap.size rfl
  obtain ⟨W0, HW0⟩ : ∃ W0, Hid (w.alloc (.cells #[.int .i64 x.id, .int .i64 x.x, .int .i64 x.y, .int .i64 x.pw, .int .i64 x.ph, u, .int .i64 x.cx, .int .i64 x.cy, .int .i64 x.cw, .int .i64 x.ch, .bool x.sh] 80) = W0) := ⟨_, (rfl : _ = _)⟩
  rw [HW0.out] at E0
  have hbz : Below w.heap.size w W0 := by rw [← HW0.out]; exact hbz
  have HE := hid_of2 E0
  have HR0 : Hid (RdO W0 (.slice a n cap) os) := HR.out.on hbz
  have HU0 : Hid (RdP W0 u x.ps) := HU.out.on hbz
  clear E0
  unfold poV objV
  go_enter Tryd.func37, Tryd.ntmps37
  go_wp2_with fail
  rw [HW0.out]
  go_loopw [5, 6, 7] (fun o l i wr => ∃ (k : Nat) (out : List Po) (lb : Bool), k ≤ n ∧ i = .int .i64 k ∧ l = .bool lb ∧ Hid (ShO W0 wr o out) ∧ Hid ((os.take k).foldl (stepS x) ([], false) = (out, lb)) ∧ Below W0.heap.size W0 wr) (fun _ _ i _ => n - (intOf i).toNat)
  case atStart => exact ⟨0, [], false, by omega, rfl, rfl, so_nil _ _, by unfold Hid; simp, Below.refl _ _⟩
  case round =>
    obtain ⟨k, out, lb, hk, rfl, rfl, HO, HF, hbr⟩ := hrel
    rename_i vo _ _
    have hol : out.length ≤ 200 := by
      have := foldS_len x (os.take k) ([], false)
      rw [HF.out] at this
      simp at this
      have := HN.out
      omega
    by_cases hlt : k < n
    · have hki : (k : Int) < (n : Int) := by omega
      have hki0 : (0 : Int) ≤ (k : Int) := by omega
      obtain ⟨p, HX⟩ : ∃ p, Hid (os.getD k po0 = p) := ⟨_, (rfl : _ = _)⟩
      obtain ⟨g, o, ua, q, uc, rfl, hg, OC, HUP, HM⟩ := HR0.out.at hlt HX
      obtain ⟨c0, c1, c2, c3, c4, c5, c6, c7, c8, c9, c10⟩ := OC.on hg hbr
      obtain ⟨d0, d1, d2, d3, d4, d5, d6, d7, d8, d9, d10, _, _, _, _, _, _, _, _, _, _, _, _⟩ := HE.out.on hbr
      have HST : Hid ((os.take (k + 1)).foldl (stepS x) ([], false) = stepS x (out, lb) p) := by
        unfold Hid
        rw [take_fold (by rw [HN.out]; exact hlt), HF.out, HX.out]
      cases lb with
      | true =>
        have HC : Hid (¬ (((out, true) : List Po × Bool).2 = false ∧ x.id ≤ p.id)) := fun hh => by cases hh.1
        go_wp2_with fail
        go_quiet (fail)
        obtain ⟨q0, rfl⟩ : ∃ q0, q0 = nq := ⟨nq, rfl⟩
        by_cases he : p.id = x.id
        · have hee : (p.id == x.id) = true := by simpa using he
          have HST2 : Hid ((os.take (k + 1)).foldl (stepS x) ([], false) = (out, true)) := by unfold Hid; rw [HST.out]; unfold stepS; rw [if_pos he, if_neg HC.out]
          go_wp2_with fail
          go_quiet (fail)
          go_wp2_with fail
          go_roundw
          case rel => exact ⟨k + 1, _, _, by omega, by go_num, rfl, HO.out.on (below_drewN (Below.refl _ _) _), HST2, below_drewN hbr _⟩
          case measure => simp [intOf]; omega
        · have hee : (p.id == x.id) = false := by simpa using he
          have HST2 : Hid ((os.take (k + 1)).foldl (stepS x) ([], false) = (out ++ [p], true)) := by unfold Hid; rw [HST.out]; unfold stepS; rw [if_neg he, if_neg HC.out]
          go_wp2_with fail
          go_quiet (fail)
          obtain ⟨v8, w8, hr8, ho8, hb8⟩ := so_app (W0 := W0) (w := wr.drewN (q0 + nq)) (HO.out.on (below_drewN (Below.refl _ _) _)) (below_drewN hbr _) p (.slice ua q uc) HUP.out (by first | omega | (simp; omega))
          have HR8 := hid_of2 hr8
          have HO8 := hid_of2 ho8
          clear hr8 ho8
          go_wp2_with (at_builtin; refine Lib.wpList_append_run _ rfl _ _ _ _ rfl _ _ rfl rfl _ _ HR8.out ?_)
          go_roundw
          case rel => exact ⟨k + 1, _, _, by omega, by go_num, rfl, HO8, HST2, hb8⟩
          case measure => simp [intOf]; omega
      | false =>
        by_cases hle : x.id ≤ p.id
        · have HC : Hid (((out, false) : List Po × Bool).2 = false ∧ x.id ≤ p.id) := ⟨rfl, hle⟩
          go_wp2_with fail
          go_quiet (fail)
          obtain ⟨q0, rfl⟩ : ∃ q0, q0 = nq := ⟨nq, rfl⟩
          obtain ⟨v7, w7, hr7, ho7, hb7⟩ := so_app (W0 := W0) (w := wr.drewN q0) (HO.out.on (below_drewN (Below.refl _ _) _)) (below_drewN hbr _) x u HU0.out (by omega)
          have HR7 := hid_of2 hr7
          have HO7 := hid_of2 ho7
          clear hr7 ho7 c0 c1 c2 c3 c4 c5 c6 c7 c8 c9 c10
          go_wp2_with (at_builtin; refine Lib.wpList_append_run _ rfl _ _ _ _ rfl _ _ rfl rfl _ _ HR7.out ?_)
          obtain ⟨c0, c1, c2, c3, c4, c5, c6, c7, c8, c9, c10⟩ := OC.on hg hb7
          obtain ⟨d0, d1, d2, d3, d4, d5, d6, d7, d8, d9, d10, _, _, _, _, _, _, _, _, _, _, _, _⟩ := HE.out.on hb7
          by_cases he : p.id = x.id
          · have hee : (p.id == x.id) = true := by simpa using he
            have HST2 : Hid ((os.take (k + 1)).foldl (stepS x) ([], false) = (out ++ [x], true)) := by unfold Hid; rw [HST.out]; exact stepS_in (by omega) he
            go_wp2_with fail
            go_quiet (fail)
            go_wp2_with fail
            go_roundw
            case rel => exact ⟨k + 1, _, _, by omega, by go_num, rfl, HO7.out.on (below_drewN (Below.refl _ _) _), HST2, below_drewN hb7 _⟩
            case measure => simp [intOf]; omega
          · have hee : (p.id == x.id) = false := by simpa using he
            have HST2 : Hid ((os.take (k + 1)).foldl (stepS x) ([], false) = (out ++ [x] ++ [p], true)) := by unfold Hid; rw [HST.out]; exact stepS_both (by omega) he
            go_wp2_with fail
            go_quiet (fail)
            obtain ⟨v8, w8, hr8, ho8, hb8⟩ := so_app (W0 := W0) (w := w7.drewN nq) (HO7.out.on (below_drewN (Below.refl _ _) _)) (below_drewN hb7 _) p (.slice ua q uc) HUP.out (by first | omega | (simp; omega))
            have HR8 := hid_of2 hr8
            have HO8 := hid_of2 ho8
            clear hr8 ho8
            go_wp2_with (at_builtin; refine Lib.wpList_append_run _ rfl _ _ _ _ rfl _ _ rfl rfl _ _ HR8.out ?_)
            go_roundw
            case rel => exact ⟨k + 1, _, _, by omega, by go_num, rfl, HO8, HST2, hb8⟩
            case measure => simp [intOf]; omega
        · have HC : Hid (¬ (((out, false) : List Po × Bool).2 = false ∧ x.id ≤ p.id)) := fun hh => hle hh.2
          go_wp2_with fail
          go_quiet (fail)
          obtain ⟨q0, rfl⟩ : ∃ q0, q0 = nq := ⟨nq, rfl⟩
          by_cases he : p.id = x.id
          · have hee : (p.id == x.id) = true := by simpa using he
            omega
          · have hee : (p.id == x.id) = false := by simpa using he
            have HST2 : Hid ((os.take (k + 1)).foldl (stepS x) ([], false) = (out ++ [p], false)) := by unfold Hid; rw [HST.out]; exact stepS_not (by omega) he
            go_wp2_with fail
            go_quiet (fail)
            obtain ⟨v8, w8, hr8, ho8, hb8⟩ := so_app (W0 := W0) (w := wr.drewN (q0 + nq)) (HO.out.on (below_drewN (Below.refl _ _) _)) (below_drewN hbr _) p (.slice ua q uc) HUP.out (by first | omega | (simp; omega))
            have HR8 := hid_of2 hr8
            have HO8 := hid_of2 ho8
            clear hr8 ho8
            go_wp2_with (at_builtin; refine Lib.wpList_append_run _ rfl _ _ _ _ rfl _ _ rfl rfl _ _ HR8.out ?_)
            go_roundw
            case rel => exact ⟨k + 1, _, _, by omega, by go_num, rfl, HO8, HST2, hb8⟩
            case measure => simp [intOf]; omega
    · have hki : ¬ (k : Int) < (n : Int) := by omega
      obtain rfl : n = k := by omega
      obtain ⟨d0, d1, d2, d3, d4, d5, d6, d7, d8, d9, d10, _, _, _, _, _, _, _, _, _, _, _, _⟩ := HE.out.on hbr
      have htk : os.take n = os := List.take_of_length_le (by rw [HN.out]; omega)
      have hfe := finS_eq x os [] HS.out
      have hff := HF.out
      rw [htk] at hff
      rw [hff, List.nil_append] at hfe
      have HFE := hid_of2 hfe
      clear hfe hff htk HF
      cases lb with
      | true =>
        have hs : out = setO os x := by have := HFE.out; simpa [finS] using this
        go_wp2_with fail
        go_ret
        exact ⟨_, rfl, by rw [← hs]; exact HO.out.rd hbr, hbz.trans (hbr.mono hbz.size)⟩
      | false =>
        have hs : out ++ [x] = setO os x := by have := HFE.out; simpa [finS] using this
        obtain ⟨v7, w7, hr7, ho7, hb7⟩ := so_app (W0 := W0) (w := wr) HO.out hbr x u HU0.out (by omega)
        rw [hs] at ho7
        have HR7 := hid_of2 hr7
        have HO7 := hid_of2 ho7
        clear hr7 ho7
        go_wp2_with (at_builtin; refine Lib.wpList_append_run _ rfl _ _ _ _ rfl _ _ rfl rfl _ _ HR7.out ?_)
        go_ret
        exact ⟨_, rfl, HO7.out.rd hb7, hbz.trans (hb7.mono hbz.size)⟩
end Go.Proofs.YtjmkfcgnadpbaaaDoor
