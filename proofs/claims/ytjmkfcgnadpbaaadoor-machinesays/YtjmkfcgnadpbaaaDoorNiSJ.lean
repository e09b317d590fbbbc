/- The reference's objects: no row of pixels lies in one block. -/
import Derived.Test.YtjmkfcgnadpbaaaDoorM9
namespace Go.Proofs.YtjmkfcgnadpbaaaDoor.NI
open Go.RowKit

/-- blocks in which no row lies -/
structure Blk where
  s : Nat → Prop
section
variable [Inhabited Blk]
/-- those blocks -/
def Forb.s : Nat → Prop := (default : Blk).s
def RdP (w : World) (v : Value) (ps : List (Int × Int)) : Prop :=
  ∃ a cap, v = .slice a ps.length cap ∧ ps.length ≤ cap ∧ cap ≤ 9223372036854775807 ∧ (ps ≠ [] → ∃ g off, a = some ⟨g, off, none⟩ ∧ (g < w.heap.size ∧ ¬ Forb.s g) ∧
    ∀ j, j < ps.length → w.cell? ⟨g, off + j * 2, none⟩ = some (.int .i64 (ps.getD j (0, 0)).1) ∧ w.cell? ⟨g, off + j * 2 + 1, none⟩ = some (.int .i64 (ps.getD j (0, 0)).2))
theorem RdP.rd {w : World} {v : Value} {ps : List (Int × Int)} (h : RdP w v ps) : Go.Proofs.YtjmkfcgnadpbaaaDoor.RdP w v ps := by
  obtain ⟨a, cap, hv, hl, hc, hh⟩ := h
  refine ⟨a, cap, hv, hl, hc, fun hne => ?_⟩
  obtain ⟨g, off, ha, hg, hcell⟩ := hh hne
  exact ⟨g, off, ha, hg.1, hcell⟩
theorem RdP.on {w w' : World} {v : Value} {ps : List (Int × Int)} (h : RdP w v ps) (hb : Below w.heap.size w w') : RdP w' v ps := by
  obtain ⟨a, cap, hv, hl, hc, hh⟩ := h
  refine ⟨a, cap, hv, hl, hc, fun hne => ?_⟩
  obtain ⟨g, off, ha, hg, hcell⟩ := hh hne
  refine ⟨g, off, ha, ⟨Nat.lt_of_lt_of_le hg.1 hb.size, hg.2⟩, fun j hj => ?_⟩
  rw [hb.cell (p := ⟨g, off + j * 2, none⟩) hg.1, hb.cell (p := ⟨g, off + j * 2 + 1, none⟩) hg.1]
  exact hcell j hj
/-- all that lay there before the block was laid -/
theorem rdP_of {W0 w : World} {v : Value} {ps : List (Int × Int)} (h : Go.Proofs.YtjmkfcgnadpbaaaDoor.RdP W0 v ps) (hb : Below W0.heap.size W0 w) (hf : ∀ x, Forb.s x → W0.heap.size ≤ x) : RdP w v ps := by
  obtain ⟨a, cap, hv, hl, hc, hh⟩ := h
  refine ⟨a, cap, hv, hl, hc, fun hne => ?_⟩
  obtain ⟨g, off, ha, hg, hcell⟩ := hh hne
  refine ⟨g, off, ha, ⟨Nat.lt_of_lt_of_le hg hb.size, fun hx => by have := hf g hx; omega⟩, fun j hj => ?_⟩
  rw [hb.cell (p := ⟨g, off + j * 2, none⟩) hg, hb.cell (p := ⟨g, off + j * 2 + 1, none⟩) hg]
  exact hcell j hj
theorem rdP_nil (w : World) : RdP w (.slice none 0 0) [] := ⟨none, 0, rfl, by simp, by omega, fun h => absurd rfl h⟩
theorem rdP_own {w : World} {B : Nat} (hF : ∀ x, Forb.s x → x < B) {v : Value} {ps : List (Int × Int)} (h : w.ownsRow B 42 2 v ps.length (pixCells ps)) : RdP w v ps := by
  obtain ⟨a, cap, hv, hl, hc, hh⟩ := Go.Proofs.YtjmkfcgnadpbaaaDoor.rdP_own h
  refine ⟨a, cap, hv, hl, hc, fun hne => ?_⟩
  obtain ⟨g, off, ha, hg, hcell⟩ := hh hne
  refine ⟨g, off, ha, ⟨hg, fun he => ?_⟩, hcell⟩
  have he := hF g he
  rcases h.2 with ⟨rfl, h0⟩ | ⟨g', cap', cur, rfl, hb, _⟩
  · exact hne (List.eq_nil_of_length_eq_zero h0)
  · simp only [Value.slice.injEq] at hv
    rw [ha] at hv
    simp only [Option.some.injEq, Addr.mk.injEq] at hv
    omega
def RdO (w : World) (v : Value) (os : List Po) : Prop :=
  ∃ a cap, v = .slice a os.length cap ∧ os.length ≤ cap ∧ cap ≤ 9223372036854775807 ∧ (os ≠ [] → ∃ g off, a = some ⟨g, off, none⟩ ∧ (g < w.heap.size ∧ ¬ Forb.s g) ∧
    ∀ j, j < os.length → ∃ u, Oc w g (off + j * 11) (os.getD j po0) u ∧ RdP w u (os.getD j po0).ps)
theorem RdO.rd {w : World} {v : Value} {os : List Po} (h : RdO w v os) : Go.Proofs.YtjmkfcgnadpbaaaDoor.RdO w v os := by
  obtain ⟨a, cap, hv, hl, hc, hh⟩ := h
  refine ⟨a, cap, hv, hl, hc, fun hne => ?_⟩
  obtain ⟨g, off, ha, hg, hcell⟩ := hh hne
  refine ⟨g, off, ha, hg.1, fun j hj => ?_⟩
  obtain ⟨u, h0, hr⟩ := hcell j hj
  exact ⟨u, h0, hr.rd⟩
theorem rdO_nil (w : World) : RdO w (.slice none 0 0) [] := ⟨none, 0, rfl, by simp, by omega, fun h => absurd rfl h⟩
theorem RdO.on {w w' : World} {v : Value} {os : List Po} (h : RdO w v os) (hb : Below w.heap.size w w') : RdO w' v os := by
  obtain ⟨a, cap, hv, hl, hc, hh⟩ := h
  refine ⟨a, cap, hv, hl, hc, fun hne => ?_⟩
  obtain ⟨g, off, ha, hg, hcell⟩ := hh hne
  refine ⟨g, off, ha, ⟨Nat.lt_of_lt_of_le hg.1 hb.size, hg.2⟩, fun j hj => ?_⟩
  obtain ⟨u, h0, hr⟩ := hcell j hj
  exact ⟨u, h0.on hg.1 hb, hr.on hb⟩
theorem RdO.at {w : World} {a : Option Addr} {n cap : Nat} {os : List Po} (h : RdO w (.slice a n cap) os) {k : Nat} (hk : k < n) {x : Po} (HX : Hid (os.getD k po0 = x)) :
    ∃ g o ua m uc, a = some ⟨g, o, none⟩ ∧ g < w.heap.size ∧ Oc w g (o + k * 11) x (.slice ua m uc) ∧ Hid (RdP w (.slice ua m uc) x.ps) ∧ Hid (x.ps.length = m) := by
  obtain ⟨a', cap', hv, hl, hc, hh⟩ := h
  simp only [Value.slice.injEq] at hv
  obtain ⟨rfl, rfl, rfl⟩ := hv
  obtain ⟨g, o, ha, hg, hcell⟩ := hh (by intro e; rw [e] at hk; simp at hk)
  obtain ⟨u, h0, h4⟩ := hcell k hk
  rw [HX.out] at h0 h4
  have h5 := h4
  obtain ⟨ua, uc, rfl, _⟩ := h5
  exact ⟨g, o, ua, _, uc, ha, hg.1, h0, h4, (rfl : _ = _)⟩
theorem RdO.shape {w : World} {v : Value} {os : List Po} (h : RdO w v os) : ∃ a cap, v = .slice a os.length cap ∧ os.length ≤ cap ∧ cap ≤ 9223372036854775807 := by
  obtain ⟨a, cap, h1, h2, h3, _⟩ := h
  exact ⟨a, cap, h1, h2, h3⟩
theorem rdO_sh {w : World} {B : Nat} {v : Value} {qs : List (Po × Value)} (h : w.ownsRow B 80 11 v qs.length (obCells qs)) (h2 : ∀ q ∈ qs, RdP w q.2 q.1.ps) (hF : ∀ x, Forb.s x → x < B) : RdO w v (qs.map Prod.fst) := by
  rcases h.2 with ⟨rfl, h0⟩ | ⟨g, cap, cur, rfl, hb, hg, hn, hm, hs, ht⟩
  · have : qs = [] := List.length_eq_zero_iff.1 h0
    subst this
    exact ⟨none, 0, rfl, by simp, by omega, fun h => absurd rfl h⟩
  · unfold maxLen at hm
    refine ⟨some ⟨g, 0, none⟩, cap, by simp, by simpa using hn, by omega, fun hne => ⟨g, 0, rfl, ⟨?_, fun hx => by have := hF g hx; omega⟩, fun j hj => ?_⟩⟩
    · rcases Nat.lt_or_ge g w.heap.size with h1 | h1
      · exact h1
      · rw [Array.getElem?_eq_none h1] at hg; cases hg
    · rw [List.length_map] at hj
      have e : (qs.map Prod.fst).getD j po0 = (qs.getD j qo0).1 := by
        simp [List.getD_eq_getElem?_getD, List.getElem?_eq_getElem hj]
      have hmem : qs.getD j qo0 ∈ qs := by
        rw [List.getD_eq_getElem?_getD, List.getElem?_eq_getElem hj]
        simp
      rw [e]
      have hc : ∀ x, x < 11 → w.cell? ⟨g, 0 + j * 11 + x, none⟩ = (oCells (qs.getD j qo0).1 (qs.getD j qo0).2)[x]? := fun x hx => by
        rw [Nat.zero_add, h.cellAt (j * 11 + x) (by omega)]
        exact obCells_at qs j x hj hx
      exact ⟨(qs.getD j qo0).2, ⟨hc 0 (by omega), hc 1 (by omega), hc 2 (by omega), hc 3 (by omega), hc 4 (by omega), hc 5 (by omega), hc 6 (by omega), hc 7 (by omega), hc 8 (by omega), hc 9 (by omega), hc 10 (by omega)⟩, h2 _ hmem⟩


/-- a row of objects, their pixels as they lay in W0 -/
def ShO (W0 w : World) (v : Value) (os : List Po) : Prop :=
  ∃ qv : List (Po × Value), w.ownsRow W0.heap.size 80 11 v qv.length (obCells qv) ∧ (∀ q ∈ qv, RdP W0 q.2 q.1.ps) ∧ qv.map Prod.fst = os
theorem so_nil (W0 w : World) : ShO W0 w (.slice none 0 0) [] := ⟨[], World.ownsRow_nil _ _ _ _, by simp, rfl⟩
theorem ShO.on {W0 w w' : World} {v : Value} {os : List Po} (h : ShO W0 w v os) (hb : Below w.heap.size w w') : ShO W0 w' v os := by
  obtain ⟨qv, h1, h2, h3⟩ := h
  exact ⟨qv, own_on2 h1 hb, h2, h3⟩
theorem ShO.rd {W0 w : World} {v : Value} {os : List Po} (h : ShO W0 w v os) (hF : ∀ x, Forb.s x → x < W0.heap.size) (hb : Below W0.heap.size W0 w) : RdO w v os := by
  obtain ⟨qv, h1, h2, rfl⟩ := h
  exact rdO_sh h1 (fun q hq => (h2 q hq).on hb) hF
theorem so_app {W0 w : World} {v : Value} {os : List Po} (h : ShO W0 w v os) (hb : Below W0.heap.size W0 w) (x : Po) (u : Value) (hu : RdP W0 u x.ps) (hlim : os.length ≤ 1000) :
    ∃ v' w', (Builtin.append_ #[40, 40] 40 #[v, .slice (some ⟨w.heap.size, 0, none⟩) 1 1]).run Tryd.prog (w.alloc (.cells (oCells x u).toArray 80)) = .ok v' w' ∧ ShO W0 w' v' (os ++ [x]) ∧ Below W0.heap.size W0 w' := by
  obtain ⟨i0, hi, hz0, hz1, hz2⟩ := info_parts Tryd.infoOb
  have hx : Below w.heap.size w (w.alloc (.cells (oCells x u).toArray 80)) := (Below.refl _ _).alloc (Nat.le_refl _) _
  have hb2 := hb.trans (hx.mono hb.size)
  obtain ⟨qv, h1, h2, h3⟩ := h.on hx
  have hl : os.length = qv.length := by rw [← h3]; simp
  have hone : ∀ z ∈ oCells x u, z.oneCell' = true := by
    obtain ⟨a, c, hy, _⟩ := hu
    subst hy
    exact pix_one _ _ rfl
  obtain ⟨v', w', hrun, r1, r2, _, r4⟩ := run_append_own_at (P := Tryd.prog) (w.alloc (.cells (oCells x u).toArray 80)) W0.heap.size 40 40 80 i0 (.agg #[.int .i64 0, .int .i64 0, .int .i64 0, .int .i64 0, .int .i64 0, .slice none 0 0, .int .i64 0, .int .i64 0, .int .i64 0, .int .i64 0, .bool false]) 11 104 Tryd.underlying40 hi hz0 hz1 hz2 rfl (by decide) v qv.length (obCells qv) h1 ⟨w.heap.size, 0, none⟩ 1 1 (oCells x u) rfl (fun j u hj => new_cells w _ _ j u hj) hone (by unfold maxLen; omega) (by omega) hb2.size
  refine ⟨v', w', hrun, ⟨qv ++ [(x, u)], ?_, fun q hq => ?_, by rw [List.map_append, h3]; rfl⟩, hb2.grown r2 hb2.size (fun z hz => (h1.lt z hz).1)⟩
  · rw [List.length_append, obCells_app]; simpa [obCells] using r1
  · rcases List.mem_append.1 hq with hq | hq
    · exact h2 q hq
    · simp at hq; subst hq; exact hu

/-- what the reference's GetObject answers -/
def RGetP (os : List Po) (t : Int) (w : World) (e : Ending) (w' : World) : Prop :=
  Below w.heap.size w w' ∧ ((∃ i u, i < os.length ∧ (os.getD i po0).id = t ∧ e = .returned (.tuple #[poV (os.getD i po0) u, .bool true]) ∧ RdP w' u (os.getD i po0).ps) ∨
    ((∀ j, j < os.length → (os.getD j po0).id ≠ t) ∧ e = .returned (.tuple #[poV po0 (.slice none 0 0), .bool false])))

set_option maxHeartbeats 4000000 in
set_option maxRecDepth 100000 in
theorem rget_any (v : Value) (os : List Po) (t : Int) (w : World) (hos : os.length ≤ 1000) (HR : Hid (RdO w v os)) :
    Calls Tryd.prog 38 #[v, .int .i64 t] w fun e w' => RGetP os t w e w' := by
  obtain ⟨a, cap, hv, hl, hcap⟩ := HR.out.shape
  obtain ⟨n, HN⟩ : ∃ n, Hid (os.length = n) := ⟨_, (rfl : _ = _)⟩
  rw [HN.out] at hv hl hos
  have hbz : Below w.heap.size w (w.alloc (.cells #[.int .i64 0, .int .i64 0, .int .i64 0, .int .i64 0, .int .i64 0, .slice none 0 0, .int .i64 0, .int .i64 0, .int .i64 0, .int .i64 0, .bool false] 80)) := (Below.refl _ _).alloc (Nat.le_refl _) _
  have E1 := hid_of2 (eleven_start w (.int .i64 0) (.int .i64 0) (.int .i64 0) (.int .i64 0) (.int .i64 0) (.slice none 0 0) (.int .i64 0) (.int .i64 0) (.int .i64 0) (.int .i64 0) (.bool false) 80 w.heap.size rfl)
  subst hv
  go_enter Tryd.func38, Tryd.ntmps38
  go_wp2_with fail
  go_loopw [6] (fun i wr => ∃ k : Nat, k ≤ n ∧ i = .int .i64 k ∧ Hid (∀ j, j < k → (os.getD j po0).id ≠ t) ∧ wr = w.alloc (.cells #[.int .i64 0, .int .i64 0, .int .i64 0, .int .i64 0, .int .i64 0, .slice none 0 0, .int .i64 0, .int .i64 0, .int .i64 0, .int .i64 0, .bool false] 80)) (fun i _ => n - (intOf i).toNat)
  case atStart => exact ⟨0, by omega, rfl, fun j hj => by omega, rfl⟩
  case round =>
    obtain ⟨k, hk, rfl, HNO, hwr⟩ := hrel
    rw [← hwr] at E1 hbz
    have HWR := hid_of2 hwr
    clear hwr
    obtain ⟨d0, d1, d2, d3, d4, d5, d6, d7, d8, d9, d10, g0, g1, g2, g3, g4, g5, g6, g7, g8, g9, g10, lt2⟩ := E1.out
    by_cases hlt : k < n
    · have hki : (k : Int) < (n : Int) := by omega
      have hki0 : (0 : Int) ≤ (k : Int) := by omega
      obtain ⟨o, HX⟩ : ∃ o, Hid (os.getD k po0 = o) := ⟨_, (rfl : _ = _)⟩
      obtain ⟨g, p, ua, q, uc, rfl, hg, ⟨e0, e1, e2, e3, e4, e5, e6, e7, e8, e9, e10⟩, HU, HM⟩ := HR.out.at hlt HX
      have hcl : ∀ {j : Nat} {z : Value}, w.cell? ⟨g, j, none⟩ = some z → wr.cell? ⟨g, j, none⟩ = some z := fun {j z} hz => (hbz.cell (p := ⟨g, j, none⟩) hg).trans hz
      have c0 := hcl e0
      have c1 := hcl e1
      have c2 := hcl e2
      have c3 := hcl e3
      have c4 := hcl e4
      have c5 := hcl e5
      have c6 := hcl e6
      have c7 := hcl e7
      have c8 := hcl e8
      have c9 := hcl e9
      have c10 := hcl e10
      clear e0 e1 e2 e3 e4 e5 e6 e7 e8 e9 e10 hcl
      have HI := hid_of2 (show k < os.length by rw [HN.out]; exact hlt)
      obtain ⟨id, x, y, pw, ph, ps, cx, cy, cw, ch, sh⟩ := o
      simp only at c0 c1 c2 c3 c4 c5 c6 c7 c8 c9 c10 HU HM
      by_cases he : id = t
      · subst he
        have hee : (id == id) = true := by simp
        go_wp2_with fail
        refine bodyPost_ret (v := .tuple #[.agg #[.int .i64 id, .int .i64 x, .int .i64 y, .int .i64 pw, .int .i64 ph, .slice ua q uc, .int .i64 cx, .int .i64 cy, .int .i64 cw, .int .i64 ch, .bool sh], .bool true]) (by simp [results, Tryd.results38, go_sem, d0, d1, d2, d3, d4, d5, d6, d7, d8, d9, d10]) rfl ⟨?_, .inl ⟨k, .slice ua q uc, HI.out, by rw [HX.out], by rw [HX.out]; rfl, ?_⟩⟩
        · repeat (refine Below.setCell ?_ (by simp) _)
          exact hbz
        · rw [HX.out]
          refine HU.out.on ?_
          repeat (refine Below.setCell ?_ (by simp) _)
          exact hbz
      · have hee : (id == t) = false := by simpa using he
        have HNO2 : Hid (∀ j, j < k + 1 → (os.getD j po0).id ≠ t) := by
          intro j hj
          rcases Nat.eq_or_lt_of_le (Nat.le_of_lt_succ hj) with rfl | hj
          · rw [HX.out]; exact he
          · exact HNO.out j hj
        go_wp2_with fail
        go_roundw
        case rel => exact ⟨k + 1, by omega, by go_num, HNO2, HWR.out⟩
        case measure => simp [intOf]; omega
    · have hki : ¬ (k : Int) < (n : Int) := by omega
      obtain rfl : n = k := by omega
      go_wp2_with fail
      refine bodyPost_ret (v := .tuple #[.agg #[.int .i64 0, .int .i64 0, .int .i64 0, .int .i64 0, .int .i64 0, .slice none 0 0, .int .i64 0, .int .i64 0, .int .i64 0, .int .i64 0, .bool false], .bool false]) (by simp [results, Tryd.results38, go_sem, d0, d1, d2, d3, d4, d5, d6, d7, d8, d9, d10]) rfl ⟨?_, .inr ⟨by rw [HN.out]; exact HNO.out, rfl⟩⟩
      repeat (refine Below.setCell ?_ (by simp) _)
      exact hbz

/-- what the reference's SetObject answers -/
def RSetP (os : List Po) (x : Po) (w : World) (e : Ending) (w' : World) : Prop :=
  ∃ v', e = .returned v' ∧ RdO w' v' (setO os x) ∧ Below w.heap.size w w'
set_option maxHeartbeats 8000000 in
set_option maxRecDepth 100000 in
theorem rset_any (v : Value) (os : List Po) (x : Po) (u : Value) (w : World) (hos : os.length ≤ 100) (HFB : ∀ x, Forb.s x → x < w.heap.size) (HS : Hid (SortO os)) (HR : Hid (RdO w v os)) (HU : Hid (RdP w u x.ps)) :
    Calls Tryd.prog 37 #[v, poV x u] w fun e w' => RSetP os x w e w' := by
  obtain ⟨a, cap, hv, hl, hcap⟩ := HR.out.shape
  obtain ⟨n, HN⟩ : ∃ n, Hid (os.length = n) := ⟨_, (rfl : _ = _)⟩
  rw [HN.out] at hv hl hos
  subst hv
  have hbz : Below w.heap.size w (w.alloc (.cells (oCells x u).toArray 80)) := (Below.refl _ _).alloc (Nat.le_refl _) _
  have E0 := eleven_start w (.int .i64 x.id) (.int .i64 x.x) (.int .i64 x.y) (.int .i64 x.pw) (.int .i64 x.ph) u (.int .i64 x.cx) (.int .i64 x.cy) (.int .i64 x.cw) (.int .i64 x.ch) (.bool x.sh) 80 w.heap.size rfl
  obtain ⟨W0, HW0⟩ : ∃ W0, Hid (w.alloc (.cells #[.int .i64 x.id, .int .i64 x.x, .int .i64 x.y, .int .i64 x.pw, .int .i64 x.ph, u, .int .i64 x.cx, .int .i64 x.cy, .int .i64 x.cw, .int .i64 x.ch, .bool x.sh] 80) = W0) := ⟨_, (rfl : _ = _)⟩
  rw [HW0.out] at E0
  have hbz : Below w.heap.size w W0 := by rw [← HW0.out]; exact hbz
  have HE := hid_of2 E0
  have HR0 : Hid (RdO W0 (.slice a n cap) os) := HR.out.on hbz
  have HU0 : Hid (RdP W0 u x.ps) := HU.out.on hbz
  clear E0
  unfold poV objV
  go_enter Tryd.func37, Tryd.ntmps37
  go_wp2_with fail
  rw [HW0.out]
  go_loopw [5, 6, 7] (fun o l i wr => ∃ (k : Nat) (out : List Po) (lb : Bool), k ≤ n ∧ i = .int .i64 k ∧ l = .bool lb ∧ Hid (ShO W0 wr o out) ∧ Hid ((os.take k).foldl (stepS x) ([], false) = (out, lb)) ∧ Below W0.heap.size W0 wr) (fun _ _ i _ => n - (intOf i).toNat)
  case atStart => exact ⟨0, [], false, by omega, rfl, rfl, so_nil _ _, by unfold Hid; simp, Below.refl _ _⟩
  case round =>
    obtain ⟨k, out, lb, hk, rfl, rfl, HO, HF, hbr⟩ := hrel
    rename_i vo _ _
    have hol : out.length ≤ 200 := by
      have := foldS_len x (os.take k) ([], false)
      rw [HF.out] at this
      simp at this
      have := HN.out
      omega
    by_cases hlt : k < n
    · have hki : (k : Int) < (n : Int) := by omega
      have hki0 : (0 : Int) ≤ (k : Int) := by omega
      obtain ⟨p, HX⟩ : ∃ p, Hid (os.getD k po0 = p) := ⟨_, (rfl : _ = _)⟩
      obtain ⟨g, o, ua, q, uc, rfl, hg, OC, HUP, HM⟩ := HR0.out.at hlt HX
      obtain ⟨c0, c1, c2, c3, c4, c5, c6, c7, c8, c9, c10⟩ := OC.on hg hbr
      obtain ⟨d0, d1, d2, d3, d4, d5, d6, d7, d8, d9, d10, _, _, _, _, _, _, _, _, _, _, _, _⟩ := HE.out.on hbr
      have HST : Hid ((os.take (k + 1)).foldl (stepS x) ([], false) = stepS x (out, lb) p) := by
        unfold Hid
        rw [take_fold (by rw [HN.out]; exact hlt), HF.out, HX.out]
      cases lb with
      | true =>
        have HC : Hid (¬ (((out, true) : List Po × Bool).2 = false ∧ x.id ≤ p.id)) := fun hh => by cases hh.1
        go_wp2_with fail
        go_quiet (fail)
        obtain ⟨q0, rfl⟩ : ∃ q0, q0 = nq := ⟨nq, rfl⟩
        by_cases he : p.id = x.id
        · have hee : (p.id == x.id) = true := by simpa using he
          have HST2 : Hid ((os.take (k + 1)).foldl (stepS x) ([], false) = (out, true)) := by unfold Hid; rw [HST.out]; unfold stepS; rw [if_pos he, if_neg HC.out]
          go_wp2_with fail
          go_quiet (fail)
          go_wp2_with fail
          go_roundw
          case rel => exact ⟨k + 1, _, _, by omega, by go_num, rfl, HO.out.on (below_drewN (Below.refl _ _) _), HST2, below_drewN hbr _⟩
          case measure => simp [intOf]; omega
        · have hee : (p.id == x.id) = false := by simpa using he
          have HST2 : Hid ((os.take (k + 1)).foldl (stepS x) ([], false) = (out ++ [p], true)) := by unfold Hid; rw [HST.out]; unfold stepS; rw [if_neg he, if_neg HC.out]
          go_wp2_with fail
          go_quiet (fail)
          obtain ⟨v8, w8, hr8, ho8, hb8⟩ := so_app (W0 := W0) (w := wr.drewN (q0 + nq)) (HO.out.on (below_drewN (Below.refl _ _) _)) (below_drewN hbr _) p (.slice ua q uc) HUP.out (by first | omega | (simp; omega))
          have HR8 := hid_of2 hr8
          have HO8 := hid_of2 ho8
          clear hr8 ho8
          go_wp2_with (at_builtin; refine Lib.wpList_append_run _ rfl _ _ _ _ rfl _ _ rfl rfl _ _ HR8.out ?_)
          go_roundw
          case rel => exact ⟨k + 1, _, _, by omega, by go_num, rfl, HO8, HST2, hb8⟩
          case measure => simp [intOf]; omega
      | false =>
        by_cases hle : x.id ≤ p.id
        · have HC : Hid (((out, false) : List Po × Bool).2 = false ∧ x.id ≤ p.id) := ⟨rfl, hle⟩
          go_wp2_with fail
          go_quiet (fail)
          obtain ⟨q0, rfl⟩ : ∃ q0, q0 = nq := ⟨nq, rfl⟩
          obtain ⟨v7, w7, hr7, ho7, hb7⟩ := so_app (W0 := W0) (w := wr.drewN q0) (HO.out.on (below_drewN (Below.refl _ _) _)) (below_drewN hbr _) x u HU0.out (by omega)
          have HR7 := hid_of2 hr7
          have HO7 := hid_of2 ho7
          clear hr7 ho7 c0 c1 c2 c3 c4 c5 c6 c7 c8 c9 c10
          go_wp2_with (at_builtin; refine Lib.wpList_append_run _ rfl _ _ _ _ rfl _ _ rfl rfl _ _ HR7.out ?_)
          obtain ⟨c0, c1, c2, c3, c4, c5, c6, c7, c8, c9, c10⟩ := OC.on hg hb7
          obtain ⟨d0, d1, d2, d3, d4, d5, d6, d7, d8, d9, d10, _, _, _, _, _, _, _, _, _, _, _, _⟩ := HE.out.on hb7
          by_cases he : p.id = x.id
          · have hee : (p.id == x.id) = true := by simpa using he
            have HST2 : Hid ((os.take (k + 1)).foldl (stepS x) ([], false) = (out ++ [x], true)) := by unfold Hid; rw [HST.out]; exact stepS_in (by omega) he
            go_wp2_with fail
            go_quiet (fail)
            go_wp2_with fail
            go_roundw
            case rel => exact ⟨k + 1, _, _, by omega, by go_num, rfl, HO7.out.on (below_drewN (Below.refl _ _) _), HST2, below_drewN hb7 _⟩
            case measure => simp [intOf]; omega
          · have hee : (p.id == x.id) = false := by simpa using he
            have HST2 : Hid ((os.take (k + 1)).foldl (stepS x) ([], false) = (out ++ [x] ++ [p], true)) := by unfold Hid; rw [HST.out]; exact stepS_both (by omega) he
            go_wp2_with fail
            go_quiet (fail)
            obtain ⟨v8, w8, hr8, ho8, hb8⟩ := so_app (W0 := W0) (w := w7.drewN nq) (HO7.out.on (below_drewN (Below.refl _ _) _)) (below_drewN hb7 _) p (.slice ua q uc) HUP.out (by first | omega | (simp; omega))
            have HR8 := hid_of2 hr8
            have HO8 := hid_of2 ho8
            clear hr8 ho8
            go_wp2_with (at_builtin; refine Lib.wpList_append_run _ rfl _ _ _ _ rfl _ _ rfl rfl _ _ HR8.out ?_)
            go_roundw
            case rel => exact ⟨k + 1, _, _, by omega, by go_num, rfl, HO8, HST2, hb8⟩
            case measure => simp [intOf]; omega
        · have HC : Hid (¬ (((out, false) : List Po × Bool).2 = false ∧ x.id ≤ p.id)) := fun hh => hle hh.2
          go_wp2_with fail
          go_quiet (fail)
          obtain ⟨q0, rfl⟩ : ∃ q0, q0 = nq := ⟨nq, rfl⟩
          by_cases he : p.id = x.id
          · have hee : (p.id == x.id) = true := by simpa using he
            omega
          · have hee : (p.id == x.id) = false := by simpa using he
            have HST2 : Hid ((os.take (k + 1)).foldl (stepS x) ([], false) = (out ++ [p], false)) := by unfold Hid; rw [HST.out]; exact stepS_not (by omega) he
            go_wp2_with fail
            go_quiet (fail)
            obtain ⟨v8, w8, hr8, ho8, hb8⟩ := so_app (W0 := W0) (w := wr.drewN (q0 + nq)) (HO.out.on (below_drewN (Below.refl _ _) _)) (below_drewN hbr _) p (.slice ua q uc) HUP.out (by first | omega | (simp; omega))
            have HR8 := hid_of2 hr8
            have HO8 := hid_of2 ho8
            clear hr8 ho8
            go_wp2_with (at_builtin; refine Lib.wpList_append_run _ rfl _ _ _ _ rfl _ _ rfl rfl _ _ HR8.out ?_)
            go_roundw
            case rel => exact ⟨k + 1, _, _, by omega, by go_num, rfl, HO8, HST2, hb8⟩
            case measure => simp [intOf]; omega
    · have hki : ¬ (k : Int) < (n : Int) := by omega
      obtain rfl : n = k := by omega
      obtain ⟨d0, d1, d2, d3, d4, d5, d6, d7, d8, d9, d10, _, _, _, _, _, _, _, _, _, _, _, _⟩ := HE.out.on hbr
      have htk : os.take n = os := List.take_of_length_le (by rw [HN.out]; omega)
      have hfe := finS_eq x os [] HS.out
      have hff := HF.out
      rw [htk] at hff
      rw [hff, List.nil_append] at hfe
      have HFE := hid_of2 hfe
      clear hfe hff htk HF
      cases lb with
      | true =>
        have hs : out = setO os x := by have := HFE.out; simpa [finS] using this
        go_wp2_with fail
        go_ret
        exact ⟨_, rfl, by rw [← hs]; exact HO.out.rd (fun x hx => Nat.lt_of_lt_of_le (HFB x hx) hbz.size) hbr, hbz.trans (hbr.mono hbz.size)⟩
      | false =>
        have hs : out ++ [x] = setO os x := by have := HFE.out; simpa [finS] using this
        obtain ⟨v7, w7, hr7, ho7, hb7⟩ := so_app (W0 := W0) (w := wr) HO.out hbr x u HU0.out (by omega)
        rw [hs] at ho7
        have HR7 := hid_of2 hr7
        have HO7 := hid_of2 ho7
        clear hr7 ho7
        go_wp2_with (at_builtin; refine Lib.wpList_append_run _ rfl _ _ _ _ rfl _ _ rfl rfl _ _ HR7.out ?_)
        go_ret
        exact ⟨_, rfl, HO7.out.rd (fun x hx => Nat.lt_of_lt_of_le (HFB x hx) hbz.size) hb7, hbz.trans (hb7.mono hbz.size)⟩

end
end Go.Proofs.YtjmkfcgnadpbaaaDoor.NI
