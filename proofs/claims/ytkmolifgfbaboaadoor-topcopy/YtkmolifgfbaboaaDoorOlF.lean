/- Walks: objects.Fresh, objects.Get. -/
import Derived.Test.YtkmolifgfbaboaaDoorOlD
import Derived.Test.YtkmolifgfbaboaaDoorBlendA
namespace Go.Proofs.YtkmolifgfbaboaaDoor
open Go.RowKit

/-- an object, its pixels at u -/
theorem hid_of2 {p : Prop} (h : p) : Hid p := h
def poV (x : Po) (u : Value) : Value := objV x.id x.x x.y x.pw x.ph u x.cx x.cy x.cw x.ch x.sh

set_option maxHeartbeats 2000000 in
set_option maxRecDepth 100000 in
theorem fresh_any (id pw ph : Int) (u : Value) (ps : List (Int × Int)) (w : World) (hps : ps.length ≤ 100) (HR : Hid (RdP w u ps)) :
    Calls Tryd.prog 12 #[.int .i64 id, picV pw ph u] w fun e w' => ∃ u', e = .returned (objV id 0 0 pw ph u' 0 0 20 20 true) ∧ w'.ownsRow (w.heap.size + 2) 33 2 u' ps.length (pixCells ps) ∧ Below w.heap.size w w' := by
  unfold objV picV
  obtain ⟨au, cu, hvu, hlu, hcu, _⟩ := HR.out
  obtain ⟨nu, HNU⟩ : ∃ n, Hid (ps.length = n) := ⟨_, (rfl : _ = _)⟩
  rw [HNU.out] at hvu
  subst hvu
  clear hlu hcu
  have E1 := eleven_start (w.alloc (.cells #[.int .i64 pw, .int .i64 ph, .slice au nu cu] 25)) (.int .i64 0) (.int .i64 0) (.int .i64 0) (.int .i64 0) (.int .i64 0) (.slice none 0 0) (.int .i64 0) (.int .i64 0) (.int .i64 0) (.int .i64 0) (.bool false) 41 (w.heap.size + 1) (by simp)
  have hb0 : Below w.heap.size w ((w.alloc (.cells #[.int .i64 pw, .int .i64 ph, .slice au nu cu] 25)).alloc (.cells #[.int .i64 0, .int .i64 0, .int .i64 0, .int .i64 0, .int .i64 0, .slice none 0 0, .int .i64 0, .int .i64 0, .int .i64 0, .int .i64 0, .bool false] 41)) := ((Below.refl _ _).alloc (Nat.le_refl _) _).alloc (by simp) _
  have HR0 : Hid (RdP ((w.alloc (.cells #[.int .i64 pw, .int .i64 ph, .slice au nu cu] 25)).alloc (.cells #[.int .i64 0, .int .i64 0, .int .i64 0, .int .i64 0, .int .i64 0, .slice none 0 0, .int .i64 0, .int .i64 0, .int .i64 0, .int .i64 0, .bool false] 41)) (.slice au nu cu) ps) := HR.out.on hb0
  go_enter Tryd.func12, Tryd.ntmps12
  go_wp2_with fail
  refine (oown_any id 0 0 pw ph _ ps 0 0 20 20 true _ hps HR0).mono ?_
  unfold objV
  rintro e w1 ⟨v', rfl, ho, hb1⟩
  have HO : Hid (w1.ownsRow (w.heap.size + 2) 33 2 v' ps.length (pixCells ps)) := own_mono ho (by simp)
  rw [HNU.out] at HO
  obtain ⟨a', c', hv'⟩ := own_any HO.out
  subst hv'
  obtain ⟨d0, d1, d2, d3, d4, d5, d6, d7, d8, d9, d10, g0, g1, g2, g3, g4, g5, g6, g7, g8, g9, g10, lt2⟩ := E1.on hb1
  have hbb := hb0.trans (hb1.mono hb0.size)
  clear ho hb0 hb1 E1 HR0
  go_wp2_with fail
  refine bodyPost_ret (v := .agg #[.int .i64 id, .int .i64 0, .int .i64 0, .int .i64 pw, .int .i64 ph, .slice a' nu c', .int .i64 0, .int .i64 0, .int .i64 20, .int .i64 20, .bool true]) (by simp [results, Tryd.results12, go_sem, d0, d1, d2, d3, d4, d5, d6, d7, d8, d9, d10]) rfl ⟨_, rfl, ?_, ?_⟩
  · rw [HNU.out]
    repeat (refine ownsRow_setCell_below ?_ (by simp; try omega) _)
    exact HO.out
  · repeat (refine Below.setCell ?_ (by simp) _)
    exact hbb

/-- what Get answers -/
def GetP (os : List Po) (t : Int) (w : World) (e : Ending) (w' : World) : Prop :=
  Below w.heap.size w w' ∧ ((∃ i u, i < os.length ∧ (os.getD i po0).id = t ∧ e = .returned (.tuple #[poV (os.getD i po0) u, .bool true]) ∧ w'.ownsRow (w.heap.size + 1) 33 2 u (os.getD i po0).ps.length (pixCells (os.getD i po0).ps)) ∨
    ((∀ j, j < os.length → (os.getD j po0).id ≠ t) ∧ e = .returned (.tuple #[poV po0 (.slice none 0 0), .bool false])))

set_option maxHeartbeats 2000000 in
set_option maxRecDepth 100000 in
theorem get_any (v : Value) (os : List Po) (t : Int) (w : World) (hos : os.length ≤ 1000) (hps : ∀ j, j < os.length → (os.getD j po0).ps.length ≤ 100) (HS : Hid (SortO os)) (HR : Hid (RdO w v os)) :
    Calls Tryd.prog 10 #[v, .int .i64 t] w fun e w' => GetP os t w e w' := by
  obtain ⟨a, cap, hv, hl, hcap⟩ := HR.out.shape
  have HPS : Hid (∀ j, j < os.length → (os.getD j po0).ps.length ≤ 100) := hps
  obtain ⟨n, HN⟩ : ∃ n, Hid (os.length = n) := ⟨_, (rfl : _ = _)⟩
  rw [HN.out] at hv hl
  clear hps
  have HR2 := HR
  have hbz : Below w.heap.size w (w.alloc (.cells #[.int .i64 0, .int .i64 0, .int .i64 0, .int .i64 0, .int .i64 0, .slice none 0 0, .int .i64 0, .int .i64 0, .int .i64 0, .int .i64 0, .bool false] 41)) := (Below.refl _ _).alloc (Nat.le_refl _) _
  have E1 := eleven_start w (.int .i64 0) (.int .i64 0) (.int .i64 0) (.int .i64 0) (.int .i64 0) (.slice none 0 0) (.int .i64 0) (.int .i64 0) (.int .i64 0) (.int .i64 0) (.bool false) 41 w.heap.size rfl
  have HR0 : Hid (RdO _ _ _) := HR2.out.on hbz
  subst hv
  go_enter Tryd.func10, Tryd.ntmps10
  go_wp2_with fail
  refine (search_any _ os t _ hos HS HR0).mono ?_
  rintro e w1 ⟨i, b, rfl, HSR, HB, hb1⟩
  have HB' := hid_of2 HB
  have HSR' := hid_of2 HSR
  have HR1 : Hid (RdO w1 (.slice a n cap) os) := HR0.out.on hb1
  have hbb := hbz.trans (hb1.mono hbz.size)
  obtain ⟨d0, d1, d2, d3, d4, d5, d6, d7, d8, d9, d10, g0, g1, g2, g3, g4, g5, g6, g7, g8, g9, g10, lt2⟩ := E1.on hb1
  clear HB HSR HR0 HR2 hb1 hbz E1
  cases b with
  | false =>
    have HNO : Hid (∀ j, j < os.length → (os.getD j po0).id ≠ t) := by
      intro j hj he
      rcases Nat.lt_trichotomy j i with h | h | h
      · have := HSR'.out.lo j h
        omega
      · subst h
        have := HB'.out.2 ⟨hj, he⟩
        cases this
      · have h1 := HSR'.out.hi i (Nat.le_refl _) (by omega)
        have h2 := HS.out i j h hj
        omega
    go_wp2_with fail
    refine bodyPost_ret (v := .tuple #[.agg #[.int .i64 0, .int .i64 0, .int .i64 0, .int .i64 0, .int .i64 0, .slice none 0 0, .int .i64 0, .int .i64 0, .int .i64 0, .int .i64 0, .bool false], .bool false]) (by simp [results, Tryd.results10, go_sem, d0, d1, d2, d3, d4, d5, d6, d7, d8, d9, d10]) rfl ⟨?_, .inr ⟨HNO.out, rfl⟩⟩
    repeat (refine Below.setCell ?_ (by simp) _)
    exact hbb
  | true =>
    obtain ⟨hi, hid⟩ := HB'.out.1 rfl
    have hin : i < n := by rw [← HN.out]; exact hi
    obtain ⟨o, HX⟩ : ∃ o, Hid (os.getD i po0 = o) := ⟨_, (rfl : _ = _)⟩
    have hpl : o.ps.length ≤ 100 := by rw [← HX.out]; exact HPS.out i hi
    obtain ⟨g, p, ua, q, uc, rfl, hg, OC, HU, HM⟩ := HR1.out.at hin HX
    have HI := hid_of2 (show i < os.length ∧ o.id = t by rw [← HX.out]; exact ⟨hi, hid⟩)
    obtain ⟨c0, c1, c2, c3, c4, c5, c6, c7, c8, c9, c10⟩ := OC
    obtain ⟨id, x, y, pw, ph, ps, cx, cy, cw, ch, sh⟩ := o
    simp only at c0 c1 c2 c3 c4 c5 c6 c7 c8 c9 c10 HU HM hpl
    have hki0 : (0 : Int) ≤ (i : Int) := by omega
    have hki1 : (i : Int) < (n : Int) := by omega
    clear hi hid
    go_wp2_with fail
    refine (oown_any id x y pw ph _ ps cx cy cw ch sh _ hpl HU).mono ?_
    unfold objV
    rintro e w2 ⟨u', rfl, hu, hb2⟩
    have HO : Hid (w2.ownsRow (w.heap.size + 1) 33 2 u' ps.length (pixCells ps)) := own_mono hu (by omega)
    obtain ⟨a', c', hv'⟩ := own_any HO.out
    rw [HM.out] at hv'
    subst hv'
    have hbb2 := hbb.trans (hb2.mono hbb.size)
    have e0 := (hb2.cell (p := ⟨w.heap.size, 0, none⟩) lt2).trans d0
    have e1 := (hb2.cell (p := ⟨w.heap.size, 1, none⟩) lt2).trans d1
    have e2 := (hb2.cell (p := ⟨w.heap.size, 2, none⟩) lt2).trans d2
    have e3 := (hb2.cell (p := ⟨w.heap.size, 3, none⟩) lt2).trans d3
    have e4 := (hb2.cell (p := ⟨w.heap.size, 4, none⟩) lt2).trans d4
    have e5 := (hb2.cell (p := ⟨w.heap.size, 5, none⟩) lt2).trans d5
    have e6 := (hb2.cell (p := ⟨w.heap.size, 6, none⟩) lt2).trans d6
    have e7 := (hb2.cell (p := ⟨w.heap.size, 7, none⟩) lt2).trans d7
    have e8 := (hb2.cell (p := ⟨w.heap.size, 8, none⟩) lt2).trans d8
    have e9 := (hb2.cell (p := ⟨w.heap.size, 9, none⟩) lt2).trans d9
    have e10 := (hb2.cell (p := ⟨w.heap.size, 10, none⟩) lt2).trans d10
    have f0 := (hb2.frozen (p := ⟨w.heap.size, 0, none⟩) lt2).trans g0
    have f1 := (hb2.frozen (p := ⟨w.heap.size, 1, none⟩) lt2).trans g1
    have f2 := (hb2.frozen (p := ⟨w.heap.size, 2, none⟩) lt2).trans g2
    have f3 := (hb2.frozen (p := ⟨w.heap.size, 3, none⟩) lt2).trans g3
    have f4 := (hb2.frozen (p := ⟨w.heap.size, 4, none⟩) lt2).trans g4
    have f5 := (hb2.frozen (p := ⟨w.heap.size, 5, none⟩) lt2).trans g5
    have f6 := (hb2.frozen (p := ⟨w.heap.size, 6, none⟩) lt2).trans g6
    have f7 := (hb2.frozen (p := ⟨w.heap.size, 7, none⟩) lt2).trans g7
    have f8 := (hb2.frozen (p := ⟨w.heap.size, 8, none⟩) lt2).trans g8
    have f9 := (hb2.frozen (p := ⟨w.heap.size, 9, none⟩) lt2).trans g9
    have f10 := (hb2.frozen (p := ⟨w.heap.size, 10, none⟩) lt2).trans g10
    clear hu hb2 hbb d0 d1 d2 d3 d4 d5 d6 d7 d8 d9 d10 g0 g1 g2 g3 g4 g5 g6 g7 g8 g9 g10 lt2
    go_wp2_with fail
    refine bodyPost_ret (v := .tuple #[.agg #[.int .i64 id, .int .i64 x, .int .i64 y, .int .i64 pw, .int .i64 ph, .slice a' q c', .int .i64 cx, .int .i64 cy, .int .i64 cw, .int .i64 ch, .bool sh], .bool true]) (by simp [results, Tryd.results10, go_sem, e0, e1, e2, e3, e4, e5, e6, e7, e8, e9, e10]) rfl ⟨?_, .inl ⟨i, .slice a' q c', HI.out.1, by rw [HX.out]; exact HI.out.2, by rw [HX.out]; rfl, ?_⟩⟩
    · repeat (refine Below.setCell ?_ (by simp) _)
      exact hbb2
    · rw [HX.out]
      repeat (refine ownsRow_setCell_below ?_ (by simp; try omega) _)
      exact HO.out
end Go.Proofs.YtkmolifgfbaboaaDoor
