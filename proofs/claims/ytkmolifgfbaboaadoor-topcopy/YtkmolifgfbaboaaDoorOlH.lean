/- Walk: objects.Set. -/
import Derived.Test.YtkmolifgfbaboaaDoorOlE
import Derived.Test.YtkmolifgfbaboaaDoorOlF
namespace Go.Proofs.YtkmolifgfbaboaaDoor
open Go.RowKit

/-- an object more, or instead of another one -/
def setO : List Po → Po → List Po
  | [], x => [x]
  | a :: r, x => if x.id < a.id then x :: a :: r else if a.id = x.id then x :: r else a :: setO r x

theorem getD_zero (a : Po) (r : List Po) : (a :: r).getD 0 po0 = a := rfl
theorem getD_succ (a : Po) (r : List Po) (j : Nat) : (a :: r).getD (j + 1) po0 = r.getD j po0 := rfl
theorem setO_put (x : Po) : ∀ (os : List Po) (i : Nat), i < os.length → (∀ j, j < i → (os.getD j po0).id < x.id) → (os.getD i po0).id = x.id → setO os x = os.set i x := by
  intro os
  induction os with
  | nil => intro i h; simp at h
  | cons a r ih =>
    intro i hl hlo h
    cases i with
    | zero =>
      rw [getD_zero] at h
      simp [setO, h]
    | succ i =>
      have h0 := hlo 0 (by omega)
      rw [getD_zero] at h0
      rw [getD_succ] at h
      have ih' := ih i (by simpa using hl) (fun j hj => by have := hlo (j + 1) (by omega); rw [getD_succ] at this; exact this) h
      simp only [setO, List.set_cons_succ]
      rw [if_neg (by omega), if_neg (by omega), ih']
theorem setO_ins (x : Po) : ∀ (os : List Po) (i : Nat), i ≤ os.length → (∀ j, j < i → (os.getD j po0).id < x.id) → (∀ j, i ≤ j → j < os.length → x.id < (os.getD j po0).id) → setO os x = os.take i ++ x :: os.drop i := by
  intro os
  induction os with
  | nil =>
    intro i hi _ _
    simp [setO]
  | cons a r ih =>
    intro i hl hlo hhi
    cases i with
    | zero =>
      have h0 := hhi 0 (by omega) (by simp)
      rw [getD_zero] at h0
      simp [setO, h0]
    | succ i =>
      have h0 := hlo 0 (by omega)
      rw [getD_zero] at h0
      have ih' := ih i (by simpa using hl) (fun j hj => by have := hlo (j + 1) (by omega); rw [getD_succ] at this; exact this) (fun j h1 h2 => by have := hhi (j + 1) (by omega) (by simpa using h2); rw [getD_succ] at this; exact this)
      simp only [setO, List.take_succ_cons, List.drop_succ_cons, List.cons_append]
      rw [if_neg (by omega), if_neg (by omega), ih']

theorem set_app {α : Type} (a b : List α) (k n : Nat) (v : α) (h : a.length = n) : (a ++ b).set (n + k) v = a ++ b.set k v := by
  subst h
  rw [List.set_append_right _ _ (by omega)]
  simp
/-- eleven cells from a place on -/
def put11 (L : List Value) (p : Nat) (a0 a1 a2 a3 a4 a5 a6 a7 a8 a9 a10 : Value) : List Value :=
  ((((((((((L.set p a0).set (p + 1) a1).set (p + 2) a2).set (p + 3) a3).set (p + 4) a4).set (p + 5) a5).set (p + 6) a6).set (p + 7) a7).set (p + 8) a8).set (p + 9) a9).set (p + 10) a10
theorem put11_zero (b0 b1 b2 b3 b4 b5 b6 b7 b8 b9 b10 : Value) (r : List Value) (a0 a1 a2 a3 a4 a5 a6 a7 a8 a9 a10 : Value) : put11 (b0 :: b1 :: b2 :: b3 :: b4 :: b5 :: b6 :: b7 :: b8 :: b9 :: b10 :: r) 0 a0 a1 a2 a3 a4 a5 a6 a7 a8 a9 a10 = a0 :: a1 :: a2 :: a3 :: a4 :: a5 :: a6 :: a7 :: a8 :: a9 :: a10 :: r := rfl
theorem put11_app (a b : List Value) (n k : Nat) (h : a.length = n) (a0 a1 a2 a3 a4 a5 a6 a7 a8 a9 a10 : Value) : put11 (a ++ b) (n + k) a0 a1 a2 a3 a4 a5 a6 a7 a8 a9 a10 = a ++ put11 b k a0 a1 a2 a3 a4 a5 a6 a7 a8 a9 a10 := by
  unfold put11
  simp only [Nat.add_assoc]
  rw [set_app a b k n _ h, set_app a _ (k + 1) n _ h, set_app a _ (k + 2) n _ h, set_app a _ (k + 3) n _ h, set_app a _ (k + 4) n _ h, set_app a _ (k + 5) n _ h, set_app a _ (k + 6) n _ h, set_app a _ (k + 7) n _ h, set_app a _ (k + 8) n _ h, set_app a _ (k + 9) n _ h, set_app a _ (k + 10) n _ h]
theorem obCells_set (x : Po) (u : Value) : ∀ (qs : List (Po × Value)) (j : Nat), j < qs.length →
    put11 (obCells qs) (j * 11) (.int .i64 x.id) (.int .i64 x.x) (.int .i64 x.y) (.int .i64 x.pw) (.int .i64 x.ph) u (.int .i64 x.cx) (.int .i64 x.cy) (.int .i64 x.cw) (.int .i64 x.ch) (.bool x.sh) = obCells (qs.set j (x, u)) := by
  intro qs
  induction qs with
  | nil => intro j h; simp at h
  | cons q r ih =>
    obtain ⟨f, z⟩ := q
    intro j h
    cases j with
    | zero => exact put11_zero _ _ _ _ _ _ _ _ _ _ _ _ _ _ _ _ _ _ _ _ _ _ _
    | succ j =>
      have ih' := ih j (by simpa using h)
      simp only [obCells, List.set_cons_succ]
      rw [show (j + 1) * 11 = 11 + j * 11 by omega, put11_app (oCells f z) _ 11 (j * 11) rfl, ih']

theorem OwnOb.put {w : World} {B g n cap : Nat} {qs : List (Po × Value)} (h : OwnOb w B (.slice (some ⟨g, 0, none⟩) n cap) qs) {j : Nat} (hj : j < qs.length) {x : Po} {u : Value} (hu : w.ownsRow B 33 2 u x.ps.length (pixCells x.ps)) :
    OwnOb (((((((((((w.setCell ⟨g, j * 11, none⟩ (.int .i64 x.id)).setCell ⟨g, j * 11 + 1, none⟩ (.int .i64 x.x)).setCell ⟨g, j * 11 + 2, none⟩ (.int .i64 x.y)).setCell ⟨g, j * 11 + 3, none⟩ (.int .i64 x.pw)).setCell ⟨g, j * 11 + 4, none⟩ (.int .i64 x.ph)).setCell ⟨g, j * 11 + 5, none⟩ u).setCell ⟨g, j * 11 + 6, none⟩ (.int .i64 x.cx)).setCell ⟨g, j * 11 + 7, none⟩ (.int .i64 x.cy)).setCell ⟨g, j * 11 + 8, none⟩ (.int .i64 x.cw)).setCell ⟨g, j * 11 + 9, none⟩ (.int .i64 x.ch)).setCell ⟨g, j * 11 + 10, none⟩ (.bool x.sh)) B (.slice (some ⟨g, 0, none⟩) n cap) (qs.set j (x, u)) := by
  have hn : qs.length = n := by
    rcases h.1.2 with ⟨h', _⟩ | ⟨g', cap', cur, h', _⟩
    · simp at h'
    · simp only [Value.slice.injEq] at h'
      exact h'.2.1.symm
  subst hn
  obtain ⟨a0, b0⟩ := h.1.stored (j * 11) (.int .i64 x.id)
  obtain ⟨a1, b1⟩ := a0.stored (j * 11 + 1) (.int .i64 x.x)
  obtain ⟨a2, b2⟩ := a1.stored (j * 11 + 2) (.int .i64 x.y)
  obtain ⟨a3, b3⟩ := a2.stored (j * 11 + 3) (.int .i64 x.pw)
  obtain ⟨a4, b4⟩ := a3.stored (j * 11 + 4) (.int .i64 x.ph)
  obtain ⟨a5, b5⟩ := a4.stored (j * 11 + 5) u
  obtain ⟨a6, b6⟩ := a5.stored (j * 11 + 6) (.int .i64 x.cx)
  obtain ⟨a7, b7⟩ := a6.stored (j * 11 + 7) (.int .i64 x.cy)
  obtain ⟨a8, b8⟩ := a7.stored (j * 11 + 8) (.int .i64 x.cw)
  obtain ⟨a9, b9⟩ := a8.stored (j * 11 + 9) (.int .i64 x.ch)
  obtain ⟨a10, b10⟩ := a9.stored (j * 11 + 10) (.bool x.sh)
  have a11 := obCells_set x u qs j hj
  unfold put11 at a11
  rw [a11] at a10
  have hgr := grownBy_trans (grownBy_trans (grownBy_trans (grownBy_trans (grownBy_trans (grownBy_trans (grownBy_trans (grownBy_trans (grownBy_trans (grownBy_trans b0 b1) b2) b3) b4) b5) b6) b7) b8) b9) b10
  have key : ∀ (q : Po × Value), w.ownsRow B 33 2 q.2 q.1.ps.length (pixCells q.1.ps) → World.ownsRow _ B 33 2 q.2 q.1.ps.length (pixCells q.1.ps) := fun q hq => hq.kept hgr (apartO hq h.1 (by decide))
  refine ⟨by rw [List.length_set]; exact a10, fun q hq => ?_⟩
  rcases List.mem_or_eq_of_mem_set hq with hq | hq
  · exact key q (h.2 q hq)
  · subst hq
    exact key (x, u) hu

theorem OwnOb.mono {w : World} {B B' : Nat} {v : Value} {qs : List (Po × Value)} (h : OwnOb w B v qs) (hB : B' ≤ B) : OwnOb w B' v qs := ⟨own_mono h.1 hB, fun q hq => own_mono (h.2 q hq) hB⟩

def SetP (os : List Po) (x : Po) (w : World) (e : Ending) (w' : World) : Prop :=
  ∃ v' qs, e = .returned v' ∧ OwnOb w' w.heap.size v' qs ∧ qs.map Prod.fst = setO os x ∧ Below w.heap.size w w'

set_option maxHeartbeats 4000000 in
set_option maxRecDepth 100000 in
theorem set_any (v : Value) (os : List Po) (x : Po) (u : Value) (w : World) (hos : os.length ≤ 100) (hps : ∀ j, j < os.length → (os.getD j po0).ps.length ≤ 100) (hpx : x.ps.length ≤ 100) (HS : Hid (SortO os)) (HR : Hid (RdO w v os)) (HU : Hid (RdP w u x.ps)) :
    Calls Tryd.prog 14 #[v, poV x u] w fun e w' => SetP os x w e w' := by
  obtain ⟨a, cap, hv, hl, hcap⟩ := HR.out.shape
  have HPS : Hid (∀ j, j < os.length → (os.getD j po0).ps.length ≤ 100) := hps
  obtain ⟨n, HN⟩ : ∃ n, Hid (os.length = n) := ⟨_, (rfl : _ = _)⟩
  have hos3 := hos
  rw [HN.out] at hv hl hos3
  clear hps
  unfold poV objV
  obtain ⟨au, cu, hvu, _, _, _⟩ := HU.out
  obtain ⟨nu, HNU⟩ : ∃ n, Hid (x.ps.length = n) := ⟨_, (rfl : _ = _)⟩
  rw [HNU.out] at hvu
  subst hvu
  have hbz : Below w.heap.size w (w.alloc (.cells #[.int .i64 x.id, .int .i64 x.x, .int .i64 x.y, .int .i64 x.pw, .int .i64 x.ph, .slice au nu cu, .int .i64 x.cx, .int .i64 x.cy, .int .i64 x.cw, .int .i64 x.ch, .bool x.sh] 41)) := (Below.refl _ _).alloc (Nat.le_refl _) _
  have E1 := eleven_start w (.int .i64 x.id) (.int .i64 x.x) (.int .i64 x.y) (.int .i64 x.pw) (.int .i64 x.ph) (.slice au nu cu) (.int .i64 x.cx) (.int .i64 x.cy) (.int .i64 x.cw) (.int .i64 x.ch) (.bool x.sh) 41 w.heap.size rfl
  have HR0 : Hid (RdO _ _ _) := HR.out.on hbz
  have HU0 : Hid (RdP _ _ _) := HU.out.on hbz
  subst hv
  go_enter Tryd.func14, Tryd.ntmps14
  go_wp2_with fail
  refine (search_any _ os x.id _ (by omega) HS HR0).mono ?_
  rintro e w1 ⟨i, b, rfl, HSR, HB, hb1⟩
  have HB' := hid_of2 HB
  have HSR' := hid_of2 HSR
  have HR1 : Hid (RdO w1 (.slice a n cap) os) := HR0.out.on hb1
  have HU1 := hid_of2 (HU0.out.on hb1)
  have hbb := hbz.trans (hb1.mono hbz.size)
  have E2 := E1.on hb1
  clear HB HSR HR0 HU0 hb1 hbz E1
  go_wp2_with fail
  refine (ownO_any _ os _ hos HPS.out HR1).mono ?_
  rintro e w2 ⟨g, qs, rfl, HO2, HQ2, hb2⟩
  rw [HN.out] at HO2
  have HO2' := hide_ob HO2
  have HQ2' := hid_of2 HQ2
  have HLQ : Hid (qs.length = n) := by
    have := congrArg List.length HQ2
    unfold Hid
    rw [List.length_map, HN.out] at this
    exact this
  have hgw : w1.heap.size ≤ g := (HO2.1.lt g rfl).1
  have HU2 := hid_of2 (HU1.out.on hb2)
  have hbb2 := hbb.trans (hb2.mono hbb.size)
  have E3 := E2.on hb2
  have hlt1 := E2.lt
  clear HO2 HQ2 hb2 HR1 HU1 E2
  obtain ⟨d0, d1, d2, d3, d4, d5, d6, d7, d8, d9, d10, g0, g1, g2, g3, g4, g5, g6, g7, g8, g9, g10, lt2⟩ := E3
  have hin : i ≤ n := by rw [← HN.out]; exact HSR'.out.le
  rw [HN.out]
  cases b with
  | false =>
    have HST : Hid (setO os x = os.take i ++ x :: os.drop i) := by
      refine setO_ins x os i HSR'.out.le HSR'.out.lo (fun j h1 h2 => ?_)
      have h3 := HSR'.out.hi j h1 h2
      rcases Nat.lt_or_ge i j with h4 | h4
      · have h5 := HS.out i j h4 h2
        have h6 := HSR'.out.hi i (Nat.le_refl _) (by omega)
        omega
      · obtain rfl : j = i := by omega
        have : ¬ (os.getD j po0).id = x.id := fun h => by
          have := HB'.out.2 ⟨h2, h⟩
          cases this
        omega
    go_wp2_with fail
    refine (oown_any x.id x.x x.y x.pw x.ph _ x.ps x.cx x.cy x.cw x.ch x.sh _ hpx HU2).mono ?_
    unfold objV
    rintro e w3 ⟨u', rfl, hu, hb3⟩
    have HO3 := hide_ob (HO2'.out.on hb3)
    have hbb3 := hbb2.trans (hb3.mono hbb2.size)
    have HU3 := hide_own (own_mono hu (show w1.heap.size ≤ w2.heap.size + 2 by have := HO2'.out.1.lt g rfl; omega))
    obtain ⟨a', c', hv'⟩ := own_any HU3.out
    rw [HNU.out] at hv'
    subst hv'
    clear hu hb3 HO2' HU2
    have hbx : Below w3.heap.size w3 (w3.alloc (.cells #[.int .i64 x.id, .int .i64 x.x, .int .i64 x.y, .int .i64 x.pw, .int .i64 x.ph, .slice a' nu c', .int .i64 x.cx, .int .i64 x.cy, .int .i64 x.cw, .int .i64 x.ch, .bool x.sh] 41)) := (Below.refl _ _).alloc (Nat.le_refl _) _
    have HO4 := hide_ob (HO3.out.on hbx)
    have HU4 := hide_own (own_on2 HU3.out hbx)
    have HV4 : Hid ((w3.alloc (.cells (oCells x (.slice a' nu c')).toArray 41)).heap[w3.heap.size]? = some (.cells (oCells x (.slice a' nu c')).toArray 41 (0, 0))) := heap_alloc_new w3 _
    have hbb4 := hbb3.trans (hbx.mono hbb3.size)
    have hgl : g < w3.heap.size := (HO3.out.1.lt g rfl).2
    have hgw3 : w3.heap.size ≠ g := by omega
    have hw13 : w1.heap.size ≤ (w3.alloc (.cells #[.int .i64 x.id, .int .i64 x.x, .int .i64 x.y, .int .i64 x.pw, .int .i64 x.ph, .slice a' nu c', .int .i64 x.cx, .int .i64 x.cy, .int .i64 x.cw, .int .i64 x.ch, .bool x.sh] 41)).heap.size := by simp; omega
    have HQM : Hid ((qs.take i ++ (x, .slice a' nu c') :: qs.drop i).map Prod.fst = setO os x) := by
      unfold Hid
      rw [HST.out, List.map_append, List.map_cons, List.map_take, List.map_drop, HQ2'.out]
    have hgz : w.heap.size ≤ g := by have := hbb.size; omega
    clear hbx HO3 HU3
    go_wp2_with fail
    refine (insert_any g n w3.heap.size i w1.heap.size qs x (.slice a' nu c') _ (by omega) hin hgw3 hw13 HO4 HV4 HU4 HLQ).mono ?_
    rintro e w5 ⟨rfl, hO5, hgr5⟩
    have HO5 := hide_ob (hO5.mono hbb.size)
    have hbb5 : Below w.heap.size w w5 := hbb4.grown hgr5 hbb4.size (fun z hz => by simp at hz; omega)
    clear hO5 hgr5
    go_wp2_with fail
    go_ret
    exact ⟨_, _, rfl, HO5.out, HQM.out, hbb5⟩
  | true =>
    obtain ⟨hi, hid⟩ := HB'.out.1 rfl
    have hin2 : i < n := by rw [← HN.out]; exact hi
    have HST : Hid (setO os x = os.set i x) := setO_put x os i hi HSR'.out.lo hid
    have hki0 : (0 : Int) ≤ (i : Int) := by omega
    have hki1 : (i : Int) < (n : Int) := by omega
    clear hi hid
    go_wp2_with fail
    refine (oown_any x.id x.x x.y x.pw x.ph _ x.ps x.cx x.cy x.cw x.ch x.sh _ hpx HU2).mono ?_
    unfold objV
    rintro e w3 ⟨u', rfl, hu, hb3⟩
    have HO3 := hide_ob (HO2'.out.on hb3)
    have hbb3 := hbb2.trans (hb3.mono hbb2.size)
    have HU3 := hide_own (own_mono hu (show w1.heap.size ≤ w2.heap.size + 2 by have := HO2'.out.1.lt g rfl; omega))
    obtain ⟨a', c', hv'⟩ := own_any HU3.out
    rw [HNU.out] at hv'
    subst hv'
    have hiq : i < qs.length := by rw [HLQ.out]; exact hin2
    have HO3r := HO3.out.1
    rw [HLQ.out] at HO3r
    have HPUT := hide_ob (HO3.out.put (j := i) hiq (x := x) HU3.out)
    have HCA : ∀ c, c < 11 → w3.cell? ⟨g, i * 11 + c, none⟩ = (oCells (qs.getD i qo0).1 (qs.getD i qo0).2)[c]? := fun c hc => by
      rw [HO3r.cellAt (i * 11 + c) (by omega)]
      exact obCells_at qs i c hiq hc
    have HFZ : ∀ c, w3.frozen? ⟨g, c, none⟩ = false := fun c => HO3r.frozenAt c
    have s0 := HCA 0 (by omega)
    have s1 := HCA 1 (by omega)
    have s2 := HCA 2 (by omega)
    have s3 := HCA 3 (by omega)
    have s4 := HCA 4 (by omega)
    have s5 := HCA 5 (by omega)
    have s6 := HCA 6 (by omega)
    have s7 := HCA 7 (by omega)
    have s8 := HCA 8 (by omega)
    have s9 := HCA 9 (by omega)
    have s10 := HCA 10 (by omega)
    have z0 := HFZ (i * 11 + 0)
    have z1 := HFZ (i * 11 + 1)
    have z2 := HFZ (i * 11 + 2)
    have z3 := HFZ (i * 11 + 3)
    have z4 := HFZ (i * 11 + 4)
    have z5 := HFZ (i * 11 + 5)
    have z6 := HFZ (i * 11 + 6)
    have z7 := HFZ (i * 11 + 7)
    have z8 := HFZ (i * 11 + 8)
    have z9 := HFZ (i * 11 + 9)
    have z10 := HFZ (i * 11 + 10)
    simp only [oCells, List.getElem?_cons_zero, List.getElem?_cons_succ, Nat.add_zero] at s0 s1 s2 s3 s4 s5 s6 s7 s8 s9 s10 z0
    have HQM : Hid ((qs.set i (x, .slice a' nu c')).map Prod.fst = setO os x) := by
      unfold Hid
      rw [HST.out, List.map_set, HQ2'.out]
    have hgz : w.heap.size ≤ g := by have := hbb.size; omega
    clear hu hb3 HO2' HU2 HCA HFZ HO3r HO3
    go_wp2_with fail
    go_ret
    refine ⟨_, _, rfl, ?_, HQM.out, ?_⟩
    · exact HPUT.out.mono hbb.size
    · repeat (refine Below.setCell ?_ (by simpa using hgz) _)
      exact hbb3
end Go.Proofs.YtkmolifgfbaboaaDoor
